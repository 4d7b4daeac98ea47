/- works() returns true: the chapter's examples. -/
import Derived.Test.YtfdeegafdaobdaaDoorE
import Derived.Deep.RegionHeld3
namespace Go.Proofs.YtfdeegafdaobdaaDoor
open Go.RowKit Go.ChangeShapes

theorem kRep (c : UInt8) (n : Nat) (z : Int) (w : World) (hz : z = (n : Int)) (hn : n ≤ 140737488355328) :
    Calls Tryd.prog 20 #[.string ⟨#[c]⟩, .int .i64 z] w fun e w' => e = .returned (.string (rp c n)) ∧ Below w.heap.size w w' := by
  subst hz; exact repeat_any c n w hn
theorem kR65 (w : World) : Calls Tryd.prog 20 #[.string ⟨#[120]⟩, .int .i64 65] w fun e w' => e = .returned (.string (rp 120 65)) ∧ Below w.heap.size w w' := kRep 120 65 65 w rfl (by decide)
theorem kR20 (w : World) : Calls Tryd.prog 20 #[.string ⟨#[11]⟩, .int .i64 20] w fun e w' => e = .returned (.string (rp 11 20)) ∧ Below w.heap.size w w' := kRep 11 20 20 w rfl (by decide)
theorem kR4097 (w : World) : Calls Tryd.prog 20 #[.string ⟨#[120]⟩, .int .i64 4097] w fun e w' => e = .returned (.string (rp 120 4097)) ∧ Below w.heap.size w w' := kRep 120 4097 4097 w rfl (by decide)
/-- A block of one cell beside what stays: its cell, behind a call. -/
theorem Wk.cell1 {w W V : World} {ps : List (Nat × Obj)} {x : Value} {t : TypeId} (h : Wk w W ps) (hb : Below (W.alloc (.cells #[x] t)).heap.size (W.alloc (.cells #[x] t)) V) : Wk w V ps ∧ V.cell? ⟨W.heap.size, 0, none⟩ = some x ∧ W.heap.size < V.heap.size :=
  ⟨h.step (pstep hb).2, (pstep hb).1, Nat.lt_of_lt_of_le (by simp) hb.size⟩
theorem Wk.keep1 {w W V : World} {ps : List (Nat × Obj)} {x : Value} {g : Nat} (h : Wk w W ps) (hp : W.cell? ⟨g, 0, none⟩ = some x) (hz : g < W.heap.size) (hb : Below W.heap.size W V) : Wk w V ps ∧ V.cell? ⟨g, 0, none⟩ = some x ∧ g < V.heap.size :=
  ⟨h.step hb, (hb.cell (p := ⟨g, 0, none⟩) hz).trans hp, Nat.lt_of_lt_of_le hz hb.size⟩
theorem Wk.cell2 {w W V : World} {ps : List (Nat × Obj)} {x : Value} {t : TypeId} (h : Wk w W ps) (hb : Below ((W.alloc (.cells #[x] t)).drew).heap.size ((W.alloc (.cells #[x] t)).drew) V) : Wk w V ps ∧ V.cell? ⟨W.heap.size, 0, none⟩ = some x ∧ W.heap.size < V.heap.size := h.cell1 (bel_of_drew hb)
abbrev hzO : Obj := .cells #[.int .u32 0, .int .u32 0, .int .u32 0, .int .u32 0, .int .u32 0, .int .u32 0, .int .u32 0, .int .u32 0, .string ByteArray.empty, .int .i64 0] 44
theorem Wk.hz {w W : World} {ps : List (Nat × Obj)} (h : Wk w W ps) {g : Nat} (hm : (g, hzO) ∈ ps) :
    (W.cell? ⟨g, 0, none⟩ = some (.int .u32 0) ∧ W.cell? ⟨g, 1, none⟩ = some (.int .u32 0) ∧ W.cell? ⟨g, 2, none⟩ = some (.int .u32 0) ∧ W.cell? ⟨g, 3, none⟩ = some (.int .u32 0) ∧ W.cell? ⟨g, 4, none⟩ = some (.int .u32 0) ∧ W.cell? ⟨g, 5, none⟩ = some (.int .u32 0) ∧ W.cell? ⟨g, 6, none⟩ = some (.int .u32 0) ∧ W.cell? ⟨g, 7, none⟩ = some (.int .u32 0)) ∧ W.cell? ⟨g, 8, none⟩ = some (.string ByteArray.empty) ∧ W.cell? ⟨g, 9, none⟩ = some (.int .i64 0) :=
  have hh := h.heap hm
  ⟨⟨cell_of_row W g 0 _ 44 (0, 0) hh, cell_of_row W g 1 _ 44 (0, 0) hh, cell_of_row W g 2 _ 44 (0, 0) hh, cell_of_row W g 3 _ 44 (0, 0) hh, cell_of_row W g 4 _ 44 (0, 0) hh, cell_of_row W g 5 _ 44 (0, 0) hh, cell_of_row W g 6 _ 44 (0, 0) hh, cell_of_row W g 7 _ 44 (0, 0) hh⟩, cell_of_row W g 8 _ 44 (0, 0) hh, cell_of_row W g 9 _ 44 (0, 0) hh⟩
theorem eq_zero (V : World) : (Op.equalIn 9999 42 (.agg #[.int .u32 0, .int .u32 0, .int .u32 0, .int .u32 0, .int .u32 0, .int .u32 0, .int .u32 0, .int .u32 0]) (.agg #[.int .u32 0, .int .u32 0, .int .u32 0, .int .u32 0, .int .u32 0, .int .u32 0, .int .u32 0, .int .u32 0])).run Tryd.prog V = .ok true V := by kernel_rfl
set_option maxRecDepth 1000000 in
set_option maxHeartbeats 8000000 in
theorem works_true (w : World) (hD : Digits w) :
    Calls Tryd.prog 10 #[] w fun e w' => e = .returned (.bool true) ∧ Below w.heap.size w w' := by
  have K0 := Wk.start hD
  clear hD
  obtain ⟨p, u, m, kM, kE⟩ := kMore
  have KM := Lib.hid kM
  have KE := Lib.hid kE
  clear kM kE
  go_enter Tryd.func10, Tryd.ntmps10
  go_wp2_with fail
  refine (start_any _).mono ?_
  rintro e W1 ⟨rfl, h1⟩
  have K1 := K0.step h1
  clear h1 K0
  go_wp2_with fail
  refine (KM.out _).mono ?_
  rintro e W2 ⟨rfl, h2⟩
  have K2 := K1.step h2
  clear h2 K1
  go_wp2_with fail
  have K3 := K2.add (hsO p u m)
  refine (kR65 _).mono ?_
  rintro e W4 ⟨rfl, h4⟩
  have K4 := K3.step h4
  clear h4 K3
  go_wp2_with fail
  refine (kBig _).mono ?_
  rintro e W5 ⟨rfl, h5⟩
  have K5 := K4.step h5
  clear h5 K4
  go_upto_region 3 with fail
  have K6 := K5.add (.cells #[.int .u32 0, .int .u32 0, .int .u32 0, .int .u32 0, .int .u32 0, .int .u32 0, .int .u32 0, .int .u32 0, .string ByteArray.empty, .int .i64 0] 44)
  clear K5
  go_cut [5] (fun s5 wx => s5 = .bool true ∧ Wk w wx [(W5.heap.size, .cells #[.int .u32 0, .int .u32 0, .int .u32 0, .int .u32 0, .int .u32 0, .int .u32 0, .int .u32 0, .int .u32 0, .string ByteArray.empty, .int .i64 0] 44), (W2.heap.size, hsO p u m)])
  case first =>
    generalize W5.alloc (.cells #[.int .u32 0, .int .u32 0, .int .u32 0, .int .u32 0, .int .u32 0, .int .u32 0, .int .u32 0, .int .u32 0, .string ByteArray.empty, .int .i64 0] 44) = W at K6 ⊢
    go_region_held3 (fun w' => ((w'.cell? ⟨W2.heap.size, 0, none⟩ = some (wd p.a) ∧ w'.cell? ⟨W2.heap.size, 1, none⟩ = some (wd p.b) ∧ w'.cell? ⟨W2.heap.size, 2, none⟩ = some (wd p.c) ∧ w'.cell? ⟨W2.heap.size, 3, none⟩ = some (wd p.d)) ∧ (w'.cell? ⟨W2.heap.size, 4, none⟩ = some (wd p.e) ∧ w'.cell? ⟨W2.heap.size, 5, none⟩ = some (wd p.f) ∧ w'.cell? ⟨W2.heap.size, 6, none⟩ = some (wd p.g) ∧ w'.cell? ⟨W2.heap.size, 7, none⟩ = some (wd p.h))) ∧ (w'.cell? ⟨W2.heap.size, 8, none⟩ = some (.string u) ∧ w'.cell? ⟨W2.heap.size, 9, none⟩ = some (.int .i64 m)))
      (first | (with_reducible exact Wk.hs (by assumption) (.tail _ (.head _))) | exact Wk.hs (Wk.alloc (by assumption) _) (.tail _ (.head _)) | exact Wk.hs (Wk.drew (Wk.alloc (by assumption) _)) (.tail _ (.head _)) | exact Wk.hs (Wk.drew (by assumption)) (.tail _ (.head _)))
      (first
      | (go_at_call 33; (with_reducible refine (is_any _ _).mono ?_); rintro e X ⟨rfl, rfl⟩)
      | (go_at_call 15; (first | (with_reducible refine (kSumNil _).mono ?_) | (with_reducible refine (kSumAbc _).mono ?_)); rintro e V ⟨rfl, hb⟩; (repeat (with_reducible replace hb := bel_of_drew hb)); with_reducible obtain ⟨K, hp, hz⟩ := Wk.cell1 (by assumption) hb; clear hb)
      | (go_at_call 25; (with_reducible refine (KE.out _).mono ?_); rintro e V ⟨rfl, hb⟩; (repeat (with_reducible replace hb := bel_of_drew hb)); with_reducible obtain ⟨K, hp, hz⟩ := Wk.cell1 (by assumption) hb; clear hb)
      | (go_at_call 20; (with_reducible refine (kR20 _).mono ?_); rintro e V ⟨rfl, hb⟩; (repeat (with_reducible replace hb := bel_of_drew hb)); with_reducible obtain ⟨K, hp, hz⟩ := Wk.cell1 (by assumption) hb; clear hb)
      | (go_at_call 18; (with_reducible refine (kMac _).mono ?_); rintro e V ⟨rfl, hb⟩; (repeat (with_reducible replace hb := bel_of_drew hb)); with_reducible obtain ⟨K, hp, hz⟩ := Wk.keep1 (by assumption) (by assumption) (by assumption) hb; clear hb)
      | (go_at_call 56; refine (is1_yes _ ?_ _ _ ?_ ?_ ?_ ?_ ?_).mono ?_; rotate_left; (first | exact Wk.d (by assumption) | exact Wk.d (Wk.drew (by assumption))); decide; assumption; assumption; decide +kernel; rintro e V ⟨rfl, hb⟩; (repeat (with_reducible replace hb := bel_of_drew hb)); with_reducible have K := Wk.step (by assumption) hb; clear hb))
    all_goals go_wp2_with fail
    all_goals go_meet
    all_goals exact ⟨rfl, by assumption⟩
  case rest =>
    obtain ⟨rfl, K7⟩ := hcut
    have heq := eq_zero
    go_wp2_with (first
      | (go_at_call 32; (with_reducible refine (fails_any _ _).mono ?_); rintro e X ⟨rfl, rfl⟩)
      | (go_at_call 20; (with_reducible refine (kR4097 _).mono ?_); rintro e V ⟨rfl, hb⟩; (repeat (with_reducible replace hb := bel_of_drew hb)); with_reducible obtain ⟨K, hp, hz⟩ := Wk.cell1 (by assumption) hb; clear hb)
      | (go_at_call 15; (with_reducible refine (kLong _).mono ?_); rintro e V ⟨rfl, hb⟩; (repeat (with_reducible replace hb := bel_of_drew hb)); with_reducible obtain ⟨K, hp, hz⟩ := Wk.keep1 (by assumption) (by assumption) (by assumption) hb; clear hb)
      | (go_at_call 28; (with_reducible refine (kArg _).mono ?_); rintro e V ⟨rfl, hb⟩; (repeat (with_reducible replace hb := bel_of_drew hb)); with_reducible obtain ⟨K, hp, hz⟩ := Wk.cell1 (by assumption) hb; clear hb)
      | (go_at_call 55; (with_reducible refine (fails1_yes _ _ _ (by assumption)).mono ?_); rintro e V ⟨rfl, rfl⟩)
      | (go_at_call 27; (with_reducible refine (kCheck _).mono ?_); rintro e V ⟨rfl, hb⟩; (repeat (with_reducible replace hb := bel_of_drew hb)); with_reducible have K := Wk.step (by assumption) hb; clear hb; obtain ⟨⟨c0, c1, c2, c3, c4, c5, c6, c7⟩, c8, c9⟩ := Wk.hz K List.mem_cons_self))
    go_ret
    exact ⟨ret_b (by simp), Wk.b (by assumption)⟩
end Go.Proofs.YtfdeegafdaobdaaDoor
