/- What the functions return at the constants of the statements' examples. -/
import Derived.Test.YtebaagmbnbbflaaDoorF
import Derived.Test.YtebaagmbnbbflaaDoorI
import Derived.Test.YtebaagmbnbbflaaDoorJ
namespace Go.Proofs.YtebaagmbnbbflaaDoor
open Go.RowKit Go.ChangeShapes

instance (s : ByteArray) : Decidable (okUn s) := by unfold okUn pairOk; infer_instance
theorem bstep {w W W' : World} (hB : Below w.heap.size w W) (h : Below W.heap.size W W') : Below w.heap.size w W' := hB.trans (h.mono hB.size)
theorem bstep2 {w W : World} {o o2 : Obj} (hB : Below w.heap.size w W) : Below w.heap.size w ((W.alloc o).alloc o2) :=
  (hB.alloc hB.size o).alloc (Nat.le_trans hB.size (by simp)) o2
theorem pstep {W W' : World} {x y : Value} {t u : TypeId} (h : Below ((W.alloc (.cells #[x] t)).alloc (.cells #[y] u)).heap.size ((W.alloc (.cells #[x] t)).alloc (.cells #[y] u)) W') :
    W'.cell? ⟨W.heap.size, 0, none⟩ = some x ∧ W'.cell? ⟨W.heap.size + 1, 0, none⟩ = some y ∧ Below W.heap.size W W' := by
  refine ⟨(h.cell (p := ⟨W.heap.size, 0, none⟩) (by simp; omega)).trans ?_, (h.cell (p := ⟨W.heap.size + 1, 0, none⟩) (by simp)).trans ?_, ?_⟩
  · rw [World.cell?_alloc_lt _ _ _ (by simp)]; simp
  · rw [World.cell?_alloc_at _ _ _ _ (by simp)]; rfl
  · exact (bstep2 (Below.refl _ _)).trans (h.mono (by simp; omega))
theorem k1 (w : World) :
    Calls Tryd.prog 38 #[.agg #[.string ⟨#[97, 98, 99, 100]⟩, .int .i64 1], .int .i64 2, .string ⟨#[98, 99]⟩, .int .i64 3, .int .i64 0] w fun e w' => e = .returned (.bool true) ∧ Below w.heap.size w w' :=
  takes_ok ⟨#[97, 98, 99, 100]⟩ 1 2 3 ⟨#[98, 99]⟩ w fun w => (take_ok ⟨#[97, 98, 99, 100]⟩ 1 2 w (by decide +kernel) (by decide +kernel)).mono fun e w' h => ⟨h.1.trans (by kernel_rfl), h.2⟩
theorem k2 (w : World) :
    Calls Tryd.prog 38 #[.agg #[.string ⟨#[97, 98, 99, 100]⟩, .int .i64 3], .int .i64 2, .string ⟨#[]⟩, .int .i64 0, .int .i64 7] w fun e w' => e = .returned (.bool true) ∧ Below w.heap.size w w' :=
  takes_no ⟨#[97, 98, 99, 100]⟩ 3 2 0 ⟨#[]⟩ w 7 (by decide) fun w => (take_short ⟨#[97, 98, 99, 100]⟩ 3 2 w (by decide +kernel) (by decide +kernel) (by decide +kernel) (by decide +kernel) (by decide +kernel)).mono fun e w' h => ⟨h.1.trans (by kernel_rfl), h.2⟩
theorem k3 (w : World) :
    Calls Tryd.prog 38 #[.agg #[.string ⟨#[97, 98, 99, 100]⟩, .int .i64 4], .int .i64 0, .string ⟨#[]⟩, .int .i64 4, .int .i64 0] w fun e w' => e = .returned (.bool true) ∧ Below w.heap.size w w' :=
  takes_ok ⟨#[97, 98, 99, 100]⟩ 4 0 4 ⟨#[]⟩ w fun w => (take_ok ⟨#[97, 98, 99, 100]⟩ 4 0 w (by decide +kernel) (by decide +kernel)).mono fun e w' h => ⟨h.1.trans (by kernel_rfl), h.2⟩
theorem k4 (w : World) :
    Calls Tryd.prog 40 #[.agg #[.string ⟨#[1, 2, 3]⟩, .int .i64 0], .int .i64 2, .int .i64 258, .int .i64 2, .int .i64 0] w fun e w' => e = .returned (.bool true) ∧ Below w.heap.size w w' :=
  counts_ok ⟨#[1, 2, 3]⟩ 0 2 2 258 w fun w => (uint_ok ⟨#[1, 2, 3]⟩ 0 2 w (by decide +kernel) (by decide +kernel) (by decide +kernel) (by decide +kernel)).mono fun e w' h => ⟨h.1.trans (by kernel_rfl), h.2⟩
theorem k5 (w : World) :
    Calls Tryd.prog 40 #[.agg #[.string ⟨#[1, 2, 3]⟩, .int .i64 1], .int .i64 3, .int .i64 0, .int .i64 0, .int .i64 7] w fun e w' => e = .returned (.bool true) ∧ Below w.heap.size w w' :=
  counts_no ⟨#[1, 2, 3]⟩ 1 3 0 0 w 7 (by decide) fun w => (uint_short ⟨#[1, 2, 3]⟩ 1 3 w (by decide +kernel) (by decide +kernel) (by decide +kernel) (by decide +kernel) (by decide +kernel) (by decide +kernel)).mono fun e w' h => ⟨h.1.trans (by kernel_rfl), h.2⟩
theorem k6 (w : World) :
    Calls Tryd.prog 41 #[.agg #[.string ⟨#[97, 98, 99, 100, 101]⟩, .int .i64 1], .int .i64 4, .int .i64 4, .int .i64 0] w fun e w' => e = .returned (.bool true) ∧ Below w.heap.size w w' :=
  skips_ok ⟨#[97, 98, 99, 100, 101]⟩ 1 4 4 w fun w => (skip_ok ⟨#[97, 98, 99, 100, 101]⟩ 1 4 w (by decide +kernel) (by decide +kernel) (by decide +kernel) (by decide +kernel) (by decide +kernel)).mono fun e w' h => ⟨h.1.trans (by kernel_rfl), h.2⟩
theorem k7 (w : World) :
    Calls Tryd.prog 41 #[.agg #[.string ⟨#[97, 98, 99, 100, 101]⟩, .int .i64 5], .int .i64 4, .int .i64 0, .int .i64 7] w fun e w' => e = .returned (.bool true) ∧ Below w.heap.size w w' :=
  skips_no ⟨#[97, 98, 99, 100, 101]⟩ 5 4 0 w 7 (by decide) fun w => (skip_short ⟨#[97, 98, 99, 100, 101]⟩ 5 4 w (by decide +kernel) (by decide +kernel) (by decide +kernel) (by decide +kernel) (by decide +kernel)).mono fun e w' h => ⟨h.1.trans (by kernel_rfl), h.2⟩
theorem k8 (w : World) :
    Calls Tryd.prog 41 #[.agg #[.string ⟨#[97, 98, 99, 100]⟩, .int .i64 4], .int .i64 4, .int .i64 4, .int .i64 0] w fun e w' => e = .returned (.bool true) ∧ Below w.heap.size w w' :=
  skips_ok ⟨#[97, 98, 99, 100]⟩ 4 4 4 w fun w => (skip_ok ⟨#[97, 98, 99, 100]⟩ 4 4 w (by decide +kernel) (by decide +kernel) (by decide +kernel) (by decide +kernel) (by decide +kernel)).mono fun e w' h => ⟨h.1.trans (by kernel_rfl), h.2⟩
theorem k9 (w : World) :
    Calls Tryd.prog 23 #[.int .i64 2, .int .i64 258] w fun e w' => e = .returned (.tuple #[.string ⟨#[1, 2]⟩, .int .i64 0]) ∧ Below w.heap.size w w' :=
  (put_ok 2 258 w (by decide +kernel) (by decide +kernel) (by decide +kernel) (by decide +kernel)).mono fun e w' h => ⟨h.1.trans (by kernel_rfl), h.2⟩
theorem k10 (w : World) :
    Calls Tryd.prog 23 #[.int .i64 1, .int .i64 256] w fun e w' => e = .returned (.tuple #[.string ⟨#[]⟩, .int .i64 6]) ∧ Below w.heap.size w w' :=
  (put_big 1 256 w (by decide +kernel) (by decide +kernel) (by decide +kernel) (by decide +kernel)).mono fun e w' h => ⟨h.1.trans (by kernel_rfl), h.2 ▸ Below.refl _ _⟩
theorem k11 (w : World) :
    Calls Tryd.prog 23 #[.int .i64 8, .int .i64 0] w fun e w' => e = .returned (.tuple #[.string ⟨#[]⟩, .int .i64 2]) ∧ Below w.heap.size w w' :=
  (put_bad 8 0 w (by decide +kernel)).mono fun e w' h => ⟨h.1.trans (by kernel_rfl), h.2 ▸ Below.refl _ _⟩
theorem k12 (w : World) :
    Calls Tryd.prog 26 #[.string ⟨#[97, 98, 99]⟩, .int .i64 4] w fun e w' => e = .returned (.tuple #[.string ⟨#[97, 98, 99, 0]⟩, .int .i64 0]) ∧ Below w.heap.size w w' :=
  (pad_ok ⟨#[97, 98, 99]⟩ 4 1 w (by decide +kernel) (by decide +kernel) (by decide +kernel)).mono fun e w' h => ⟨h.1.trans (by kernel_rfl), h.2⟩
theorem k13 (w : World) (hD : Digits w) :
    Calls Tryd.prog 29 #[.string ⟨#[0, 171]⟩] w fun e w' => e = .returned (.string ⟨#[48, 48, 97, 98]⟩) ∧ Below w.heap.size w w' :=
  (hex_any ⟨#[0, 171]⟩ w hD (by decide +kernel)).mono fun e w' h => ⟨h.1.trans (by kernel_rfl), h.2⟩
theorem k14 (w : World) (hD : Digits w) :
    Calls Tryd.prog 30 #[.string ⟨#[48, 48, 97, 66]⟩] w fun e w' => e = .returned (.tuple #[.string ⟨#[]⟩, .int .i64 5]) ∧ Below w.heap.size w w' :=
  (unhex_any ⟨#[48, 48, 97, 66]⟩ w hD (by decide +kernel)).mono fun e w' h => ⟨h.1.trans ((congrArg Ending.returned (unRes_no (s := ⟨#[48, 48, 97, 66]⟩) (by decide +kernel))).trans (by kernel_rfl)), h.2⟩
theorem k15 (w : World) (hD : Digits w) :
    Calls Tryd.prog 30 #[.string ⟨#[48]⟩] w fun e w' => e = .returned (.tuple #[.string ⟨#[]⟩, .int .i64 5]) ∧ Below w.heap.size w w' :=
  (unhex_any ⟨#[48]⟩ w hD (by decide +kernel)).mono fun e w' h => ⟨h.1.trans ((congrArg Ending.returned (unRes_no (s := ⟨#[48]⟩) (by decide +kernel))).trans (by kernel_rfl)), h.2⟩
theorem k16 (w : World) :
    Calls Tryd.prog 42 #[.int .i64 1, .int .i64 65535, .int .i64 16, .int .i64 2, .int .i64 0] w fun e w' => e = .returned (.bool true) ∧ w = w' :=
  leads_yes 1 65535 16 2 0 w (by decide +kernel) (by decide +kernel)
theorem k17 (w : World) :
    Calls Tryd.prog 42 #[.int .i64 0, .int .i64 32768, .int .i64 16, .int .i64 (-32768), .int .i64 0] w fun e w' => e = .returned (.bool true) ∧ w = w' :=
  leads_yes 0 32768 16 (-32768) 0 w (by decide +kernel) (by decide +kernel)
theorem k18 (w : World) :
    Calls Tryd.prog 42 #[.int .i64 32768, .int .i64 0, .int .i64 16, .int .i64 (-32768), .int .i64 0] w fun e w' => e = .returned (.bool true) ∧ w = w' :=
  leads_yes 32768 0 16 (-32768) 0 w (by decide +kernel) (by decide +kernel)
theorem k19 (w : World) :
    Calls Tryd.prog 38 #[.agg #[.string ⟨#[97, 98]⟩, .int .i64 3], .int .i64 (-1), .string ⟨#[]⟩, .int .i64 0, .int .i64 2] w fun e w' => e = .returned (.bool true) ∧ Below w.heap.size w w' :=
  takes_no ⟨#[97, 98]⟩ 3 (-1) 0 ⟨#[]⟩ w 2 (by decide) fun w => (take_bad ⟨#[97, 98]⟩ 3 (-1) w (by decide +kernel) (by decide +kernel)).mono fun e w' h => ⟨h.1.trans (by kernel_rfl), h.2⟩
theorem k20 (w : World) :
    Calls Tryd.prog 38 #[.agg #[.string ⟨#[97, 98]⟩, .int .i64 (-1)], .int .i64 0, .string ⟨#[]⟩, .int .i64 0, .int .i64 2] w fun e w' => e = .returned (.bool true) ∧ Below w.heap.size w w' :=
  takes_no ⟨#[97, 98]⟩ (-1) 0 0 ⟨#[]⟩ w 2 (by decide) fun w => (take_bad ⟨#[97, 98]⟩ (-1) 0 w (by decide +kernel) (by decide +kernel)).mono fun e w' h => ⟨h.1.trans (by kernel_rfl), h.2⟩
theorem k21 (w : World) :
    Calls Tryd.prog 38 #[.agg #[.string ⟨#[97, 98]⟩, .int .i64 0], .int .i64 (-1), .string ⟨#[]⟩, .int .i64 0, .int .i64 2] w fun e w' => e = .returned (.bool true) ∧ Below w.heap.size w w' :=
  takes_no ⟨#[97, 98]⟩ 0 (-1) 0 ⟨#[]⟩ w 2 (by decide) fun w => (take_neg ⟨#[97, 98]⟩ 0 (-1) w (by decide +kernel) (by decide +kernel) (by decide +kernel) (by decide +kernel)).mono fun e w' h => ⟨h.1.trans (by kernel_rfl), h.2⟩
theorem k22 (w : World) :
    Calls Tryd.prog 38 #[.agg #[.string ⟨#[97, 98]⟩, .int .i64 0], .int .i64 4611686018427387904, .string ⟨#[]⟩, .int .i64 0, .int .i64 7] w fun e w' => e = .returned (.bool true) ∧ Below w.heap.size w w' :=
  takes_no ⟨#[97, 98]⟩ 0 4611686018427387904 0 ⟨#[]⟩ w 7 (by decide) fun w => (take_short ⟨#[97, 98]⟩ 0 4611686018427387904 w (by decide +kernel) (by decide +kernel) (by decide +kernel) (by decide +kernel) (by decide +kernel)).mono fun e w' h => ⟨h.1.trans (by kernel_rfl), h.2⟩
theorem k23 (w : World) :
    Calls Tryd.prog 38 #[.agg #[.string ⟨#[97, 98]⟩, .int .i64 0], .int .i64 2, .string ⟨#[97, 98]⟩, .int .i64 2, .int .i64 0] w fun e w' => e = .returned (.bool true) ∧ Below w.heap.size w w' :=
  takes_ok ⟨#[97, 98]⟩ 0 2 2 ⟨#[97, 98]⟩ w fun w => (take_ok ⟨#[97, 98]⟩ 0 2 w (by decide +kernel) (by decide +kernel)).mono fun e w' h => ⟨h.1.trans (by kernel_rfl), h.2⟩
theorem k24 (w : World) :
    Calls Tryd.prog 38 #[.agg #[.string ⟨#[]⟩, .int .i64 0], .int .i64 0, .string ⟨#[]⟩, .int .i64 0, .int .i64 0] w fun e w' => e = .returned (.bool true) ∧ Below w.heap.size w w' :=
  takes_ok ⟨#[]⟩ 0 0 0 ⟨#[]⟩ w fun w => (take_ok ⟨#[]⟩ 0 0 w (by decide +kernel) (by decide +kernel)).mono fun e w' h => ⟨h.1.trans (by kernel_rfl), h.2⟩
theorem k25 (w : World) :
    Calls Tryd.prog 38 #[.agg #[.string ⟨#[97, 98]⟩, .int .i64 2], .int .i64 1, .string ⟨#[]⟩, .int .i64 0, .int .i64 7] w fun e w' => e = .returned (.bool true) ∧ Below w.heap.size w w' :=
  takes_no ⟨#[97, 98]⟩ 2 1 0 ⟨#[]⟩ w 7 (by decide) fun w => (take_short ⟨#[97, 98]⟩ 2 1 w (by decide +kernel) (by decide +kernel) (by decide +kernel) (by decide +kernel) (by decide +kernel)).mono fun e w' h => ⟨h.1.trans (by kernel_rfl), h.2⟩
theorem k26 (w : World) :
    Calls Tryd.prog 38 #[.agg #[.string ⟨#[97, 98]⟩, .int .i64 1], .int .i64 9223372036854775807, .string ⟨#[]⟩, .int .i64 0, .int .i64 7] w fun e w' => e = .returned (.bool true) ∧ Below w.heap.size w w' :=
  takes_no ⟨#[97, 98]⟩ 1 9223372036854775807 0 ⟨#[]⟩ w 7 (by decide) fun w => (take_short ⟨#[97, 98]⟩ 1 9223372036854775807 w (by decide +kernel) (by decide +kernel) (by decide +kernel) (by decide +kernel) (by decide +kernel)).mono fun e w' h => ⟨h.1.trans (by kernel_rfl), h.2⟩
theorem k27 (w : World) :
    Calls Tryd.prog 40 #[.agg #[.string ⟨#[255, 255, 255, 255, 255, 255, 255, 255]⟩, .int .i64 0], .int .i64 7, .int .i64 72057594037927935, .int .i64 7, .int .i64 0] w fun e w' => e = .returned (.bool true) ∧ Below w.heap.size w w' :=
  counts_ok ⟨#[255, 255, 255, 255, 255, 255, 255, 255]⟩ 0 7 7 72057594037927935 w fun w => (uint_ok ⟨#[255, 255, 255, 255, 255, 255, 255, 255]⟩ 0 7 w (by decide +kernel) (by decide +kernel) (by decide +kernel) (by decide +kernel)).mono fun e w' h => ⟨h.1.trans (by kernel_rfl), h.2⟩
theorem k28 (w : World) :
    Calls Tryd.prog 40 #[.agg #[.string ⟨#[97, 98, 99, 100, 101, 102, 103, 104]⟩, .int .i64 0], .int .i64 8, .int .i64 0, .int .i64 0, .int .i64 2] w fun e w' => e = .returned (.bool true) ∧ Below w.heap.size w w' :=
  counts_no ⟨#[97, 98, 99, 100, 101, 102, 103, 104]⟩ 0 8 0 0 w 2 (by decide) fun w => (uint_neg ⟨#[97, 98, 99, 100, 101, 102, 103, 104]⟩ 0 8 w (by decide +kernel) (by decide +kernel) (by decide +kernel) (by decide +kernel)).mono fun e w' h => ⟨h.1.trans (by kernel_rfl), h.2⟩
theorem k29 (w : World) :
    Calls Tryd.prog 40 #[.agg #[.string ⟨#[]⟩, .int .i64 0], .int .i64 0, .int .i64 0, .int .i64 0, .int .i64 2] w fun e w' => e = .returned (.bool true) ∧ Below w.heap.size w w' :=
  counts_no ⟨#[]⟩ 0 0 0 0 w 2 (by decide) fun w => (uint_neg ⟨#[]⟩ 0 0 w (by decide +kernel) (by decide +kernel) (by decide +kernel) (by decide +kernel)).mono fun e w' h => ⟨h.1.trans (by kernel_rfl), h.2⟩
theorem k30 (w : World) :
    Calls Tryd.prog 40 #[.agg #[.string ⟨#[]⟩, .int .i64 0], .int .i64 1, .int .i64 0, .int .i64 0, .int .i64 7] w fun e w' => e = .returned (.bool true) ∧ Below w.heap.size w w' :=
  counts_no ⟨#[]⟩ 0 1 0 0 w 7 (by decide) fun w => (uint_short ⟨#[]⟩ 0 1 w (by decide +kernel) (by decide +kernel) (by decide +kernel) (by decide +kernel) (by decide +kernel) (by decide +kernel)).mono fun e w' h => ⟨h.1.trans (by kernel_rfl), h.2⟩
theorem k31 (w : World) :
    Calls Tryd.prog 40 #[.agg #[.string ⟨#[]⟩, .int .i64 1], .int .i64 0, .int .i64 0, .int .i64 0, .int .i64 2] w fun e w' => e = .returned (.bool true) ∧ Below w.heap.size w w' :=
  counts_no ⟨#[]⟩ 1 0 0 0 w 2 (by decide) fun w => (uint_bad ⟨#[]⟩ 1 0 w (by decide +kernel) (by decide +kernel)).mono fun e w' h => ⟨h.1.trans (by kernel_rfl), h.2⟩
theorem k32 (w : World) :
    Calls Tryd.prog 41 #[.agg #[.string ⟨#[97, 98, 99, 100, 101, 102, 103, 104]⟩, .int .i64 1], .int .i64 8, .int .i64 8, .int .i64 0] w fun e w' => e = .returned (.bool true) ∧ Below w.heap.size w w' :=
  skips_ok ⟨#[97, 98, 99, 100, 101, 102, 103, 104]⟩ 1 8 8 w fun w => (skip_ok ⟨#[97, 98, 99, 100, 101, 102, 103, 104]⟩ 1 8 w (by decide +kernel) (by decide +kernel) (by decide +kernel) (by decide +kernel) (by decide +kernel)).mono fun e w' h => ⟨h.1.trans (by kernel_rfl), h.2⟩
theorem k33 (w : World) :
    Calls Tryd.prog 41 #[.agg #[.string ⟨#[97, 98, 99]⟩, .int .i64 0], .int .i64 8, .int .i64 0, .int .i64 0] w fun e w' => e = .returned (.bool true) ∧ Below w.heap.size w w' :=
  skips_ok ⟨#[97, 98, 99]⟩ 0 8 0 w fun w => (skip_ok ⟨#[97, 98, 99]⟩ 0 8 w (by decide +kernel) (by decide +kernel) (by decide +kernel) (by decide +kernel) (by decide +kernel)).mono fun e w' h => ⟨h.1.trans (by kernel_rfl), h.2⟩
theorem k34 (w : World) :
    Calls Tryd.prog 41 #[.agg #[.string ⟨#[97, 98, 99]⟩, .int .i64 1], .int .i64 8, .int .i64 0, .int .i64 7] w fun e w' => e = .returned (.bool true) ∧ Below w.heap.size w w' :=
  skips_no ⟨#[97, 98, 99]⟩ 1 8 0 w 7 (by decide) fun w => (skip_short ⟨#[97, 98, 99]⟩ 1 8 w (by decide +kernel) (by decide +kernel) (by decide +kernel) (by decide +kernel) (by decide +kernel)).mono fun e w' h => ⟨h.1.trans (by kernel_rfl), h.2⟩
theorem k35 (w : World) :
    Calls Tryd.prog 41 #[.agg #[.string ⟨#[97, 98, 99]⟩, .int .i64 1], .int .i64 3, .int .i64 0, .int .i64 2] w fun e w' => e = .returned (.bool true) ∧ Below w.heap.size w w' :=
  skips_no ⟨#[97, 98, 99]⟩ 1 3 0 w 2 (by decide) fun w => (skip_unit ⟨#[97, 98, 99]⟩ 1 3 w (by decide +kernel) (by decide +kernel) (by decide +kernel) (by decide +kernel)).mono fun e w' h => ⟨h.1.trans (by kernel_rfl), h.2⟩
theorem k36 (w : World) :
    Calls Tryd.prog 41 #[.agg #[.string ⟨#[97, 98, 99]⟩, .int .i64 1], .int .i64 0, .int .i64 0, .int .i64 2] w fun e w' => e = .returned (.bool true) ∧ Below w.heap.size w w' :=
  skips_no ⟨#[97, 98, 99]⟩ 1 0 0 w 2 (by decide) fun w => (skip_unit ⟨#[97, 98, 99]⟩ 1 0 w (by decide +kernel) (by decide +kernel) (by decide +kernel) (by decide +kernel)).mono fun e w' h => ⟨h.1.trans (by kernel_rfl), h.2⟩
theorem k37 (w : World) :
    Calls Tryd.prog 41 #[.agg #[.string ⟨#[97, 98, 99]⟩, .int .i64 1], .int .i64 16, .int .i64 0, .int .i64 2] w fun e w' => e = .returned (.bool true) ∧ Below w.heap.size w w' :=
  skips_no ⟨#[97, 98, 99]⟩ 1 16 0 w 2 (by decide) fun w => (skip_unit ⟨#[97, 98, 99]⟩ 1 16 w (by decide +kernel) (by decide +kernel) (by decide +kernel) (by decide +kernel)).mono fun e w' h => ⟨h.1.trans (by kernel_rfl), h.2⟩
theorem k38 (w : World) :
    Calls Tryd.prog 41 #[.agg #[.string ⟨#[97, 98, 99]⟩, .int .i64 4], .int .i64 3, .int .i64 0, .int .i64 2] w fun e w' => e = .returned (.bool true) ∧ Below w.heap.size w w' :=
  skips_no ⟨#[97, 98, 99]⟩ 4 3 0 w 2 (by decide) fun w => (skip_bad ⟨#[97, 98, 99]⟩ 4 3 w (by decide +kernel) (by decide +kernel)).mono fun e w' h => ⟨h.1.trans (by kernel_rfl), h.2⟩
theorem k39 (w : World) :
    Calls Tryd.prog 41 #[.agg #[.string ⟨#[97, 98, 99]⟩, .int .i64 3], .int .i64 1, .int .i64 3, .int .i64 0] w fun e w' => e = .returned (.bool true) ∧ Below w.heap.size w w' :=
  skips_ok ⟨#[97, 98, 99]⟩ 3 1 3 w fun w => (skip_ok ⟨#[97, 98, 99]⟩ 3 1 w (by decide +kernel) (by decide +kernel) (by decide +kernel) (by decide +kernel) (by decide +kernel)).mono fun e w' h => ⟨h.1.trans (by kernel_rfl), h.2⟩
theorem k40 (w : World) :
    Calls Tryd.prog 23 #[.int .i64 0, .int .i64 0] w fun e w' => e = .returned (.tuple #[.string ⟨#[]⟩, .int .i64 2]) ∧ Below w.heap.size w w' :=
  (put_bad 0 0 w (by decide +kernel)).mono fun e w' h => ⟨h.1.trans (by kernel_rfl), h.2 ▸ Below.refl _ _⟩
theorem k41 (w : World) :
    Calls Tryd.prog 23 #[.int .i64 7, .int .i64 (-1)] w fun e w' => e = .returned (.tuple #[.string ⟨#[]⟩, .int .i64 2]) ∧ Below w.heap.size w w' :=
  (put_bad 7 (-1) w (by decide +kernel)).mono fun e w' h => ⟨h.1.trans (by kernel_rfl), h.2 ▸ Below.refl _ _⟩
theorem k42 (w : World) :
    Calls Tryd.prog 23 #[.int .i64 7, .int .i64 72057594037927936] w fun e w' => e = .returned (.tuple #[.string ⟨#[]⟩, .int .i64 6]) ∧ Below w.heap.size w w' :=
  (put_big 7 72057594037927936 w (by decide +kernel) (by decide +kernel) (by decide +kernel) (by decide +kernel)).mono fun e w' h => ⟨h.1.trans (by kernel_rfl), h.2 ▸ Below.refl _ _⟩
theorem k43 (w : World) :
    Calls Tryd.prog 23 #[.int .i64 7, .int .i64 72057594037927935] w fun e w' => e = .returned (.tuple #[.string ⟨#[255, 255, 255, 255, 255, 255, 255]⟩, .int .i64 0]) ∧ Below w.heap.size w w' :=
  (put_ok 7 72057594037927935 w (by decide +kernel) (by decide +kernel) (by decide +kernel) (by decide +kernel)).mono fun e w' h => ⟨h.1.trans (by kernel_rfl), h.2⟩
theorem k44 (w : World) :
    Calls Tryd.prog 23 #[.int .i64 1, .int .i64 0] w fun e w' => e = .returned (.tuple #[.string ⟨#[0]⟩, .int .i64 0]) ∧ Below w.heap.size w w' :=
  (put_ok 1 0 w (by decide +kernel) (by decide +kernel) (by decide +kernel) (by decide +kernel)).mono fun e w' h => ⟨h.1.trans (by kernel_rfl), h.2⟩
theorem k45 (w : World) :
    Calls Tryd.prog 26 #[.string ⟨#[]⟩, .int .i64 8] w fun e w' => e = .returned (.tuple #[.string ⟨#[]⟩, .int .i64 0]) ∧ Below w.heap.size w w' :=
  (pad_ok ⟨#[]⟩ 8 0 w (by decide +kernel) (by decide +kernel) (by decide +kernel)).mono fun e w' h => ⟨h.1.trans (by kernel_rfl), h.2⟩
theorem k46 (w : World) :
    Calls Tryd.prog 26 #[.string ⟨#[97, 98]⟩, .int .i64 1] w fun e w' => e = .returned (.tuple #[.string ⟨#[97, 98]⟩, .int .i64 0]) ∧ Below w.heap.size w w' :=
  (pad_ok ⟨#[97, 98]⟩ 1 0 w (by decide +kernel) (by decide +kernel) (by decide +kernel)).mono fun e w' h => ⟨h.1.trans (by kernel_rfl), h.2⟩
theorem k47 (w : World) :
    Calls Tryd.prog 26 #[.string ⟨#[]⟩, .int .i64 0] w fun e w' => e = .returned (.tuple #[.string ⟨#[]⟩, .int .i64 2]) ∧ Below w.heap.size w w' :=
  (pad_bad ⟨#[]⟩ 0 w (by decide +kernel)).mono fun e w' h => ⟨h.1.trans (by kernel_rfl), h.2 ▸ Below.refl _ _⟩
theorem k48 (w : World) :
    Calls Tryd.prog 26 #[.string ⟨#[]⟩, .int .i64 6] w fun e w' => e = .returned (.tuple #[.string ⟨#[]⟩, .int .i64 2]) ∧ Below w.heap.size w w' :=
  (pad_bad ⟨#[]⟩ 6 w (by decide +kernel)).mono fun e w' h => ⟨h.1.trans (by kernel_rfl), h.2 ▸ Below.refl _ _⟩
theorem k49 (w : World) (hD : Digits w) :
    Calls Tryd.prog 30 #[.string ⟨#[]⟩] w fun e w' => e = .returned (.tuple #[.string ⟨#[]⟩, .int .i64 0]) ∧ Below w.heap.size w w' :=
  (unhex_any ⟨#[]⟩ w hD (by decide +kernel)).mono fun e w' h => ⟨h.1.trans ((congrArg Ending.returned (unRes_yes (s := ⟨#[]⟩) (by decide +kernel))).trans (by kernel_rfl)), h.2⟩
theorem k50 (w : World) (hD : Digits w) :
    Calls Tryd.prog 29 #[.string ⟨#[]⟩] w fun e w' => e = .returned (.string ⟨#[]⟩) ∧ Below w.heap.size w w' :=
  (hex_any ⟨#[]⟩ w hD (by decide +kernel)).mono fun e w' h => ⟨h.1.trans (by kernel_rfl), h.2⟩
theorem k51 (w : World) (hD : Digits w) :
    Calls Tryd.prog 30 #[.string ⟨#[48, 48, 48, 102, 102, 48, 102, 102]⟩] w fun e w' => e = .returned (.tuple #[.string ⟨#[0, 15, 240, 255]⟩, .int .i64 0]) ∧ Below w.heap.size w w' :=
  (unhex_any ⟨#[48, 48, 48, 102, 102, 48, 102, 102]⟩ w hD (by decide +kernel)).mono fun e w' h => ⟨h.1.trans ((congrArg Ending.returned (unRes_yes (s := ⟨#[48, 48, 48, 102, 102, 48, 102, 102]⟩) (by decide +kernel))).trans (by kernel_rfl)), h.2⟩
theorem k52 (w : World) (hD : Digits w) :
    Calls Tryd.prog 30 #[.string ⟨#[48, 103]⟩] w fun e w' => e = .returned (.tuple #[.string ⟨#[]⟩, .int .i64 5]) ∧ Below w.heap.size w w' :=
  (unhex_any ⟨#[48, 103]⟩ w hD (by decide +kernel)).mono fun e w' h => ⟨h.1.trans ((congrArg Ending.returned (unRes_no (s := ⟨#[48, 103]⟩) (by decide +kernel))).trans (by kernel_rfl)), h.2⟩
theorem k53 (w : World) (hD : Digits w) :
    Calls Tryd.prog 30 #[.string ⟨#[48, 58]⟩] w fun e w' => e = .returned (.tuple #[.string ⟨#[]⟩, .int .i64 5]) ∧ Below w.heap.size w w' :=
  (unhex_any ⟨#[48, 58]⟩ w hD (by decide +kernel)).mono fun e w' h => ⟨h.1.trans ((congrArg Ending.returned (unRes_no (s := ⟨#[48, 58]⟩) (by decide +kernel))).trans (by kernel_rfl)), h.2⟩
theorem k54 (w : World) (hD : Digits w) :
    Calls Tryd.prog 30 #[.string ⟨#[96, 48]⟩] w fun e w' => e = .returned (.tuple #[.string ⟨#[]⟩, .int .i64 5]) ∧ Below w.heap.size w w' :=
  (unhex_any ⟨#[96, 48]⟩ w hD (by decide +kernel)).mono fun e w' h => ⟨h.1.trans ((congrArg Ending.returned (unRes_no (s := ⟨#[96, 48]⟩) (by decide +kernel))).trans (by kernel_rfl)), h.2⟩
theorem k55 (w : World) :
    Calls Tryd.prog 42 #[.int .i64 0, .int .i64 0, .int .i64 1, .int .i64 0, .int .i64 0] w fun e w' => e = .returned (.bool true) ∧ w = w' :=
  leads_yes 0 0 1 0 0 w (by decide +kernel) (by decide +kernel)
theorem k56 (w : World) :
    Calls Tryd.prog 42 #[.int .i64 1, .int .i64 0, .int .i64 1, .int .i64 (-1), .int .i64 0] w fun e w' => e = .returned (.bool true) ∧ w = w' :=
  leads_yes 1 0 1 (-1) 0 w (by decide +kernel) (by decide +kernel)
theorem k57 (w : World) :
    Calls Tryd.prog 42 #[.int .i64 0, .int .i64 1, .int .i64 1, .int .i64 (-1), .int .i64 0] w fun e w' => e = .returned (.bool true) ∧ w = w' :=
  leads_yes 0 1 1 (-1) 0 w (by decide +kernel) (by decide +kernel)
theorem k58 (w : World) :
    Calls Tryd.prog 42 #[.int .i64 0, .int .i64 4294967295, .int .i64 32, .int .i64 1, .int .i64 0] w fun e w' => e = .returned (.bool true) ∧ w = w' :=
  leads_yes 0 4294967295 32 1 0 w (by decide +kernel) (by decide +kernel)
theorem k59 (w : World) :
    Calls Tryd.prog 42 #[.int .i64 2147483647, .int .i64 0, .int .i64 32, .int .i64 2147483647, .int .i64 0] w fun e w' => e = .returned (.bool true) ∧ w = w' :=
  leads_yes 2147483647 0 32 2147483647 0 w (by decide +kernel) (by decide +kernel)
theorem k60 (w : World) :
    Calls Tryd.prog 42 #[.int .i64 4294967296, .int .i64 0, .int .i64 32, .int .i64 0, .int .i64 2] w fun e w' => e = .returned (.bool true) ∧ w = w' :=
  leads_yes 4294967296 0 32 0 2 w (by decide +kernel) (by decide +kernel)
theorem k61 (w : World) :
    Calls Tryd.prog 42 #[.int .i64 0, .int .i64 0, .int .i64 33, .int .i64 0, .int .i64 2] w fun e w' => e = .returned (.bool true) ∧ w = w' :=
  leads_yes 0 0 33 0 2 w (by decide +kernel) (by decide +kernel)
theorem k62 (w : World) :
    Calls Tryd.prog 42 #[.int .i64 0, .int .i64 0, .int .i64 0, .int .i64 0, .int .i64 2] w fun e w' => e = .returned (.bool true) ∧ w = w' :=
  leads_yes 0 0 0 0 2 w (by decide +kernel) (by decide +kernel)
theorem k63 (w : World) :
    Calls Tryd.prog 42 #[.int .i64 2, .int .i64 0, .int .i64 1, .int .i64 0, .int .i64 2] w fun e w' => e = .returned (.bool true) ∧ w = w' :=
  leads_yes 2 0 1 0 2 w (by decide +kernel) (by decide +kernel)
theorem k64 (w : World) :
    Calls Tryd.prog 42 #[.int .i64 (-1), .int .i64 0, .int .i64 8, .int .i64 0, .int .i64 2] w fun e w' => e = .returned (.bool true) ∧ w = w' :=
  leads_yes (-1) 0 8 0 2 w (by decide +kernel) (by decide +kernel)
theorem k65 (w : World) :
    Calls Tryd.prog 42 #[.int .i64 0, .int .i64 256, .int .i64 8, .int .i64 0, .int .i64 2] w fun e w' => e = .returned (.bool true) ∧ w = w' :=
  leads_yes 0 256 8 0 2 w (by decide +kernel) (by decide +kernel)
end Go.Proofs.YtebaagmbnbbflaaDoor
