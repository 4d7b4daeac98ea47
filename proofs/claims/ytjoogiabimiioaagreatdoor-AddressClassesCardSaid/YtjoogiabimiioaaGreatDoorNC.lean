/- The two results of read, out of their cells. -/
import Derived.Test.YtjoogiabimiioaaGreatDoorNA
import Derived.Laws.ResultCell
namespace Go.Proofs.YtjoogiabimiioaaGreatDoor
open Go.RowKit Go.ChangeShapes
theorem results_cell2 {fn : Func} {p q : Tmp} {t u : TypeId} (h : fn.results = #[.cell p t, .cell q u]) (tmps : Array Value) (P : Program) (w : World) :
    (results fn tmps).run P w = ((asAddr (tmps.getD p undef)).run P w).andThen fun a w₁ => ((loadVar t a).run P w₁).andThen fun v w₂ =>
      ((asAddr (tmps.getD q undef)).run P w₂).andThen fun b w₃ => ((loadVar u b).run P w₃).andThen fun x w₄ => .ok (.tuple #[v, x]) w₄ := by
  simp only [results, h]
  simp [Sem.run_bind, Result.andThen]
theorem results_read (fn : Func) (h : fn.results = #[.cell 8 3, .cell 9 4]) (tmps : Array Value) (w : World) (b1 b2 : Nat) (n : Int) (r : Bool) (h8 : tmps.getD 8 undef = .pointer (some ⟨b1, 0, none⟩)) (h9 : tmps.getD 9 undef = .pointer (some ⟨b2, 0, none⟩))
    (c8 : w.cell? ⟨b1, 0, none⟩ = some (.int .i64 n)) (c9 : w.cell? ⟨b2, 0, none⟩ = some (.bool r)) : (results fn tmps).run Tryz.prog w = .ok (.tuple #[.int .i64 n, .bool r]) w := by
  rw [results_cell2 h, h8, h9]
  go_simp
end Go.Proofs.YtjoogiabimiioaaGreatDoor
