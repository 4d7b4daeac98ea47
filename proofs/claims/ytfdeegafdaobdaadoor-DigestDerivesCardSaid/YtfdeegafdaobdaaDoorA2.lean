/- Contract of one step of mixing. -/
import Derived.Test.YtfdeegafdaobdaaDoorA
import Derived.WalkSmall
namespace Go.Proofs.YtfdeegafdaobdaaDoor
open Go.RowKit Go.ChangeShapes
set_option maxRecDepth 100000 in
set_option maxHeartbeats 4000000 in
theorem step_any (a b c d ee f g h k : Nat) (w : World) (hs : W8.ok ⟨a, b, c, d, ee, f, g, h⟩) :
    Calls Tryd.prog 78 #[.agg #[wd a, wd b, wd c, wd d, wd ee, wd f, wd g, wd h], wd k] w fun e w' => e = .returned (stepW ⟨a, b, c, d, ee, f, g, h⟩ k).val ∧ Below w.heap.size w w' := by
  have ha : isW a := hs.1.1
  have he : isW ee := hs.2.1
  have hE := bigE_w he
  have hA := bigA_w ha
  have hC := chW_w he hs.2.2.1 hs.2.2.2.1
  have hM := maj_w ha hs.1.2.1 hs.1.2.2.1
  clear hs
  have hsg : IntKind.u32.signed = false := rfl
  go_enter Tryd.func78, Tryd.ntmps78
  go_wp2
  go_quiet (fail)
  go_wp2
  go_quiet (first | (go_at_call 94; with_reducible exact drawn_same (fun W => turn6 _ W he)) | (go_at_call 94; with_reducible exact drawn_same (fun W => turn11 _ W he)) | (go_at_call 94; with_reducible exact drawn_same (fun W => turn25 _ W he)))
  go_wp2_with (first | (go_at_call 94; (with_reducible refine (turn2 _ _ ha).mono ?_); rintro e w' ⟨rfl, rfl⟩) | (go_at_call 94; (with_reducible refine (turn13 _ _ ha).mono ?_); rintro e w' ⟨rfl, rfl⟩) | (go_at_call 94; (with_reducible refine (turn22 _ _ ha).mono ?_); rintro e w' ⟨rfl, rfl⟩))
  clear hE hA hC hM
  refine bodyPost_ret (v := (stepW ⟨a, b, c, d, ee, f, g, h⟩ k).val) (by simp [results, Tryd.results78, go_sem, stepW, stU, stV, ad, Int.add_assoc, Int.natCast_add]) rfl ⟨rfl, by go_grown; exact below_drewN (by go_grown) _⟩
end Go.Proofs.YtfdeegafdaobdaaDoor
