/- works() of layer 3 returns true: the chapter's examples. -/
import Derived.Test.YtnfefkcfifnjnaaDoorE
import Derived.Deep.RegionHeld3
namespace Go.Proofs.YtnfefkcfifnjnaaDoor
open Go.RowKit Go.ChangeShapes

theorem cell_nd (W : World) (x : Value) (t : TypeId) : (W.alloc (.cells #[x] t)).drew.cell? ⟨W.heap.size, 0, none⟩ = some x := cell_of_row _ _ 0 _ t (0, 0) (heap_alloc_new W _)
theorem cell_nd2 (W : World) (o : Obj) (x : Value) (t : TypeId) : ((W.alloc o).alloc (.cells #[x] t)).drew.cell? ⟨W.heap.size + 1, 0, none⟩ = some x := by
  have := heap_alloc_new (W.alloc o) (.cells #[x] t)
  rw [World.size_alloc] at this
  exact cell_of_row ((W.alloc o).alloc (.cells #[x] t)) _ 0 _ t (0, 0) this
theorem rep_cell {W V : World} {a b : Obj} {x : Value} {t : TypeId} (hb : Below ((((W.alloc a).alloc b).alloc (.cells #[x] t)).drew).heap.size (((W.alloc a).alloc b).alloc (.cells #[x] t)).drew V) :
    V.cell? ⟨W.heap.size + 2, 0, none⟩ = some x ∧ Below W.heap.size W V := by
  have hb1 := bel_of_drew hb
  have := heap_alloc_new ((W.alloc a).alloc b) (.cells #[x] t)
  rw [World.size_alloc, World.size_alloc] at this
  exact ⟨(hb1.cell (p := ⟨W.heap.size + 2, 0, none⟩) (by simp)).trans (cell_of_row _ _ 0 _ t (0, 0) this), ((((Below.refl _ W).alloc (Nat.le_refl _) _).alloc (by simp) _).alloc (by simp; omega) _).trans (hb1.mono (by simp; omega))⟩
set_option maxRecDepth 1000000 in
set_option maxHeartbeats 8000000 in
theorem works_true (w : World) (hD : Digits w) :
    Calls Tryd.prog 31 #[] w fun e w' => e = .returned (.bool true) ∧ Below w.heap.size w w' := by
  have K0 := Wk.start hD
  have hsl := slice31
  clear hD
  go_enter Tryd.func31, Tryd.ntmps31
  go_wp2_with (first
    | (go_at_call 61; (with_reducible refine (keys_any _).mono ?_); rintro e V ⟨rfl, hb⟩; with_reducible replace K0 := Wk.step K0 hb; clear hb)
    | (go_at_call 26; (with_reducible refine (kBlock _).mono ?_); rintro e V ⟨rfl, hb⟩; with_reducible replace K0 := Wk.step K0 hb; clear hb)
    | (go_at_call 23; (first | (with_reducible refine (kApp4 _).mono ?_); rintro e V ⟨rfl, hb⟩; with_reducible replace K0 := Wk.step K0 hb; clear hb | (with_reducible refine (kApp2 _).mono ?_); rintro e V ⟨rfl, hb⟩; obtain ⟨K1, hp, hz⟩ := Wk.cell1 K0 hb; clear hb K0))
    | (go_at_call 62; (first | (with_reducible refine (kHexB _ K0.d).mono ?_) | (with_reducible refine (kHex4 _ K0.d).mono ?_)); rintro e V ⟨rfl, hb⟩; with_reducible replace K0 := Wk.step K0 hb; clear hb)
    | (go_at_call 63; (with_reducible refine (same_any _ _).mono ?_); rintro e X ⟨rfl, rfl⟩)
    | (go_at_call 89; (with_reducible refine (same1_yes _ _ _ hp).mono ?_); rintro e V ⟨rfl, rfl⟩))
  go_region_held3 (fun _ => True)
    (first | trivial)
    (first
    | (go_at_call 64; (with_reducible refine (fails_any _ _).mono ?_); rintro e X ⟨rfl, rfl⟩)
    | (go_at_call 26; (first | (with_reducible refine (kShort _).mono ?_) | (with_reducible refine (kOver _).mono ?_)); rintro e V ⟨rfl, rfl⟩)
    | (go_at_call 90; (with_reducible refine (fails1_yes _ _ _ ?_).mono ?_); (first | assumption | exact cell_nd _ _ _ | exact cell_nd2 _ _ _ _); rintro e V ⟨rfl, rfl⟩)
    | (go_at_call 30; (with_reducible refine (kR65 _).mono ?_); rintro e V ⟨rfl, hb⟩; obtain ⟨hp3, hb3⟩ := rep_cell hb; clear hb)
    | (go_at_call 23; (with_reducible refine (kBig _).mono ?_); rintro e V ⟨rfl, rfl⟩))
  all_goals go_wp2
  all_goals go_ret
  all_goals exact ⟨rfl, bstep K1.b hb3⟩
end Go.Proofs.YtnfefkcfifnjnaaDoor
