/- What the walks of the laws carry; the examples' calls. -/
import Derived.Test.YtfdeegafdaobdaaDoorD
import Derived.Test.YtfdeegafdaobdaaDoorPK
namespace Go.Proofs.YtfdeegafdaobdaaDoor
open Go.RowKit Go.ChangeShapes

/-- What a walk carries from world to world: old memory, the digits, and blocks that stay. -/
structure Wk (w W : World) (ps : List (Nat × Obj)) : Prop where
  b : Below w.heap.size w W
  d : Digits W
  k : ∀ x ∈ ps, W.heap[x.1]? = some x.2
theorem Wk.start {w : World} (hD : Digits w) : Wk w w [] := ⟨Below.refl _ _, hD, fun _ h => absurd h List.not_mem_nil⟩
theorem Wk.step {w W V : World} {ps : List (Nat × Obj)} (h : Wk w W ps) (hb : Below W.heap.size W V) : Wk w V ps :=
  ⟨bstep h.b hb, h.d.below (w := W) (by exact hb), fun x hx => (hb.block x.1 (Array.getElem?_eq_some_iff.1 (h.k x hx)).1).trans (h.k x hx)⟩
theorem Wk.alloc {w W : World} {ps : List (Nat × Obj)} (h : Wk w W ps) (o : Obj) : Wk w (W.alloc o) ps := h.step ((Below.refl _ W).alloc (Nat.le_refl _) o)
theorem Wk.drew {w W : World} {ps : List (Nat × Obj)} (h : Wk w W ps) : Wk w W.drew ps := h.step ((Below.refl _ W).drew)
theorem Wk.add {w W : World} {ps : List (Nat × Obj)} (h : Wk w W ps) (o : Obj) : Wk w (W.alloc o) ((W.heap.size, o) :: ps) :=
  ⟨(h.alloc o).b, (h.alloc o).d, fun x hx => by
    rcases List.mem_cons.1 hx with rfl | hx
    · exact heap_alloc_new W o
    · exact (h.alloc o).k x hx⟩
theorem Wk.heap {w W : World} {ps : List (Nat × Obj)} (h : Wk w W ps) {g : Nat} {o : Obj} (hm : (g, o) ∈ ps) : W.heap[g]? = some o := h.k (g, o) hm
theorem Wk.lt {w W : World} {ps : List (Nat × Obj)} (h : Wk w W ps) {g : Nat} {o : Obj} (hm : (g, o) ∈ ps) : g < W.heap.size := (Array.getElem?_eq_some_iff.1 (h.heap hm)).1
abbrev hsO (s : W8) (t : ByteArray) (n : Int) : Obj := .cells #[wd s.a, wd s.b, wd s.c, wd s.d, wd s.e, wd s.f, wd s.g, wd s.h, .string t, .int .i64 n] 44
/-- The cells of a digest that is being made. -/
def HsC (W : World) (g : Nat) (s : W8) (t : ByteArray) (n : Int) : Prop := ((W.cell? ⟨g, 0, none⟩ = some (wd s.a) ∧ W.cell? ⟨g, 1, none⟩ = some (wd s.b) ∧ W.cell? ⟨g, 2, none⟩ = some (wd s.c) ∧ W.cell? ⟨g, 3, none⟩ = some (wd s.d)) ∧ (W.cell? ⟨g, 4, none⟩ = some (wd s.e) ∧ W.cell? ⟨g, 5, none⟩ = some (wd s.f) ∧ W.cell? ⟨g, 6, none⟩ = some (wd s.g) ∧ W.cell? ⟨g, 7, none⟩ = some (wd s.h))) ∧ (W.cell? ⟨g, 8, none⟩ = some (.string t) ∧ W.cell? ⟨g, 9, none⟩ = some (.int .i64 n))
theorem Wk.hs {w W : World} {ps : List (Nat × Obj)} (h : Wk w W ps) {g : Nat} {s : W8} {t : ByteArray} {n : Int} (hm : (g, hsO s t n) ∈ ps) :
    ((W.cell? ⟨g, 0, none⟩ = some (wd s.a) ∧ W.cell? ⟨g, 1, none⟩ = some (wd s.b) ∧ W.cell? ⟨g, 2, none⟩ = some (wd s.c) ∧ W.cell? ⟨g, 3, none⟩ = some (wd s.d)) ∧ (W.cell? ⟨g, 4, none⟩ = some (wd s.e) ∧ W.cell? ⟨g, 5, none⟩ = some (wd s.f) ∧ W.cell? ⟨g, 6, none⟩ = some (wd s.g) ∧ W.cell? ⟨g, 7, none⟩ = some (wd s.h))) ∧ (W.cell? ⟨g, 8, none⟩ = some (.string t) ∧ W.cell? ⟨g, 9, none⟩ = some (.int .i64 n)) :=
  have hh := h.heap hm
  ⟨⟨⟨cell_of_row W g 0 _ 44 (0, 0) hh, cell_of_row W g 1 _ 44 (0, 0) hh, cell_of_row W g 2 _ 44 (0, 0) hh, cell_of_row W g 3 _ 44 (0, 0) hh⟩, cell_of_row W g 4 _ 44 (0, 0) hh, cell_of_row W g 5 _ 44 (0, 0) hh, cell_of_row W g 6 _ 44 (0, 0) hh, cell_of_row W g 7 _ 44 (0, 0) hh⟩, cell_of_row W g 8 _ 44 (0, 0) hh, cell_of_row W g 9 _ 44 (0, 0) hh⟩
abbrev zW : W8 := ⟨0, 0, 0, 0, 0, 0, 0, 0⟩
theorem rep_cons (c : UInt8) (n : Nat) : Lib.repeatL [c] n = List.replicate n c := by
  induction n with
  | zero => rfl
  | succ n ih => rw [Lib.repeatL, ih]; rfl
/-- One octet, n times. -/
def rp (c : UInt8) (n : Nat) : ByteArray := bs (List.replicate n c)
theorem rp_size (c : UInt8) (n : Nat) : (rp c n).size = n := by unfold rp; rw [bs_size, List.length_replicate]
theorem repeat_any (c : UInt8) (n : Nat) (w : World) (hn : n ≤ 140737488355328) :
    Calls Tryd.prog 20 #[.string ⟨#[c]⟩, .int .i64 n] w fun e w' => e = .returned (.string (rp c n)) ∧ Below w.heap.size w w' := by
  have h := Tryd.strings_Repeat ⟨#[c]⟩ n w (by omega) (by show 1 * n ≤ _; omega)
  rw [show (⟨#[c]⟩ : ByteArray).data.toList = [c] from rfl, rep_cons] at h
  exact h
theorem kSumNil (w : World) : Calls Tryd.prog 15 #[.string ⟨#[]⟩] w fun e w' => e = .returned (.tuple #[.string ⟨#[227, 176, 196, 66, 152, 252, 28, 20, 154, 251, 244, 200, 153, 111, 185, 36, 39, 174, 65, 228, 100, 155, 147, 76, 164, 149, 153, 27, 120, 82, 184, 85]⟩, .int .i64 0]) ∧ Below w.heap.size w w' := by
  have h := sum_ok [] w (by decide)
  rw [sum_none] at h
  exact h
theorem kSumAbc (w : World) : Calls Tryd.prog 15 #[.string ⟨#[97, 98, 99]⟩] w fun e w' => e = .returned (.tuple #[.string ⟨#[186, 120, 22, 191, 143, 1, 207, 234, 65, 65, 64, 222, 93, 174, 34, 35, 176, 3, 97, 163, 150, 23, 122, 156, 180, 16, 255, 97, 242, 0, 21, 173]⟩, .int .i64 0]) ∧ Below w.heap.size w w' := by
  have h := sum_ok [97, 98, 99] w (by decide)
  rw [sum_abc] at h
  exact h
theorem kMac (w : World) : Calls Tryd.prog 18 #[.string (rp 11 20), .string ⟨#[72, 105, 32, 84, 104, 101, 114, 101]⟩] w fun e w' => e = .returned (.tuple #[.string ⟨#[176, 52, 76, 97, 216, 219, 56, 83, 92, 168, 175, 206, 175, 11, 241, 43, 136, 29, 194, 0, 201, 131, 61, 167, 38, 233, 55, 108, 46, 50, 207, 247]⟩, .int .i64 0]) ∧ Below w.heap.size w w' := by
  have h := mac_ok (List.replicate 20 11) [72, 105, 32, 84, 104, 101, 114, 101] w (by decide) (by decide)
  rw [mac_hi] at h
  exact h
theorem kIs0 (p : Addr) (w : World) (hD : Digits w) (hp : w.cell? p = some (.string ⟨#[101, 51, 98, 48, 99, 52, 52, 50, 57, 56, 102, 99, 49, 99, 49, 52, 57, 97, 102, 98, 102, 52, 99, 56, 57, 57, 54, 102, 98, 57, 50, 52, 50, 55, 97, 101, 52, 49, 101, 52, 54, 52, 57, 98, 57, 51, 52, 99, 97, 52, 57, 53, 57, 57, 49, 98, 55, 56, 53, 50, 98, 56, 53, 53]⟩)) (hb : p.block < w.heap.size) :
    Calls Tryd.prog 56 #[.string ⟨#[227, 176, 196, 66, 152, 252, 28, 20, 154, 251, 244, 200, 153, 111, 185, 36, 39, 174, 65, 228, 100, 155, 147, 76, 164, 149, 153, 27, 120, 82, 184, 85]⟩, .int .i64 0, .pointer (some p)] w fun e w' => e = .returned (.bool true) ∧ Below w.heap.size w w' := is1_yes _ _ p w hD (by decide) hp hb (by decide +kernel)
theorem kIs1 (p : Addr) (w : World) (hD : Digits w) (hp : w.cell? p = some (.string ⟨#[98, 97, 55, 56, 49, 54, 98, 102, 56, 102, 48, 49, 99, 102, 101, 97, 52, 49, 52, 49, 52, 48, 100, 101, 53, 100, 97, 101, 50, 50, 50, 51, 98, 48, 48, 51, 54, 49, 97, 51, 57, 54, 49, 55, 55, 97, 57, 99, 98, 52, 49, 48, 102, 102, 54, 49, 102, 50, 48, 48, 49, 53, 97, 100]⟩)) (hb : p.block < w.heap.size) :
    Calls Tryd.prog 56 #[.string ⟨#[186, 120, 22, 191, 143, 1, 207, 234, 65, 65, 64, 222, 93, 174, 34, 35, 176, 3, 97, 163, 150, 23, 122, 156, 180, 16, 255, 97, 242, 0, 21, 173]⟩, .int .i64 0, .pointer (some p)] w fun e w' => e = .returned (.bool true) ∧ Below w.heap.size w w' := is1_yes _ _ p w hD (by decide) hp hb (by decide +kernel)
theorem kIs2 (p : Addr) (w : World) (hD : Digits w) (hp : w.cell? p = some (.string ⟨#[98, 48, 51, 52, 52, 99, 54, 49, 100, 56, 100, 98, 51, 56, 53, 51, 53, 99, 97, 56, 97, 102, 99, 101, 97, 102, 48, 98, 102, 49, 50, 98, 56, 56, 49, 100, 99, 50, 48, 48, 99, 57, 56, 51, 51, 100, 97, 55, 50, 54, 101, 57, 51, 55, 54, 99, 50, 101, 51, 50, 99, 102, 102, 55]⟩)) (hb : p.block < w.heap.size) :
    Calls Tryd.prog 56 #[.string ⟨#[176, 52, 76, 97, 216, 219, 56, 83, 92, 168, 175, 206, 175, 11, 241, 43, 136, 29, 194, 0, 201, 131, 61, 167, 38, 233, 55, 108, 46, 50, 207, 247]⟩, .int .i64 0, .pointer (some p)] w fun e w' => e = .returned (.bool true) ∧ Below w.heap.size w w' := is1_yes _ _ p w hD (by decide) hp hb (by decide +kernel)
/-- More of Start and abc, and End of that. -/
theorem kMore : ∃ p u m, (∀ w : World, Calls Tryd.prog 22 #[hsV IW ByteArray.empty 0, .string ⟨#[97, 98, 99]⟩] w fun e w' => e = .returned (.tuple #[hsV p u m, .int .i64 0]) ∧ Below w.heap.size w w') ∧
    (∀ w : World, Calls Tryd.prog 25 #[hsV p u m] w fun e w' => e = .returned (.tuple #[.string ⟨#[186, 120, 22, 191, 143, 1, 207, 234, 65, 65, 64, 222, 93, 174, 34, 35, 176, 3, 97, 163, 150, 23, 122, 156, 180, 16, 255, 97, 242, 0, 21, 173]⟩, .int .i64 0]) ∧ Below w.heap.size w w') := by
  refine ⟨_, _, _, fun w => moreP_ok startH startH_okHH [97, 98, 99] w (by decide) (by decide), fun w => ?_⟩
  have h := endP_ok (moreH KL startH [97, 98, 99]) (startH_okHH.more _ (by decide)) w
  have e : endH KL (moreH KL startH [97, 98, 99]) = sumB [97, 98, 99] := rfl
  rw [e, sum_abc] at h
  exact h
theorem kBig (w : World) : Calls Tryd.prog 22 #[.agg #[.int .u32 0, .int .u32 0, .int .u32 0, .int .u32 0, .int .u32 0, .int .u32 0, .int .u32 0, .int .u32 0, .string ⟨#[]⟩, .int .i64 1099511627712], .string (rp 120 65)] w fun e w' => e = .returned (.tuple #[hzV, .int .i64 6]) ∧ Below w.heap.size w w' :=
  moreP_big zW ⟨#[]⟩ 1099511627712 _ w (by decide) ⟨by decide, by decide, by decide⟩ (by rw [rp_size]; decide) (by rw [rp_size]; decide)
theorem kLong (w : World) : Calls Tryd.prog 15 #[.string (rp 120 4097)] w fun e w' => e = .returned (.tuple #[.string ByteArray.empty, .int .i64 3]) ∧ Below w.heap.size w w' :=
  sum_long _ w (by rw [rp_size]; decide) (by rw [rp_size]; decide)
theorem kArg (w : World) : Calls Tryd.prog 28 #[.string ⟨#[97]⟩, .string ⟨#[98]⟩, .string ⟨#[99]⟩, .int .i64 256] w fun e w' => e = .returned (.tuple #[.string ByteArray.empty, .int .i64 2]) ∧ Below w.heap.size w w' :=
  derive_arg _ _ _ 256 w (by decide) (by decide) (by decide) (by decide) (.inr (by decide))
theorem kCheck (w : World) : Calls Tryd.prog 27 #[.agg #[.int .u32 0, .int .u32 0, .int .u32 0, .int .u32 0, .int .u32 0, .int .u32 0, .int .u32 0, .int .u32 0, .string ⟨#[]⟩, .int .i64 1]] w fun e w' => e = .returned (.int .i64 2) ∧ Below w.heap.size w w' :=
  check_no zW ⟨#[]⟩ 1 w (by decide) (fun h => absurd h.2.2 (by decide))
end Go.Proofs.YtfdeegafdaobdaaDoor
