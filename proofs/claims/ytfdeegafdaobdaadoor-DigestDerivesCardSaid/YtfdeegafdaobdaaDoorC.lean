/- Contracts of the laws' closures: is, same, fails; the hexadecimal texts of the examples. -/
import Derived.Test.YtfdeegafdaobdaaDoorX
namespace Go.Proofs.YtfdeegafdaobdaaDoor
open Go.RowKit Go.ChangeShapes

theorem bstep {w W W' : World} (hB : Below w.heap.size w W) (h : Below W.heap.size W W') : Below w.heap.size w W' := hB.trans (h.mono hB.size)
theorem bstep1 {w W : World} {o : Obj} (hB : Below w.heap.size w W) : Below w.heap.size w (W.alloc o) := hB.alloc hB.size o
/-- A call in a world that has one more block, of one cell. -/
theorem pstep {W W' : World} {x : Value} {t : TypeId} (h : Below (W.alloc (.cells #[x] t)).heap.size (W.alloc (.cells #[x] t)) W') :
    W'.cell? ⟨W.heap.size, 0, none⟩ = some x ∧ Below W.heap.size W W' := by
  refine ⟨(h.cell (p := ⟨W.heap.size, 0, none⟩) (by simp)).trans ?_, ?_⟩
  · simp
  · exact (bstep1 (Below.refl _ _)).trans (h.mono (by simp))
theorem bel_of_drew {W W' : World} (h : Below W.drew.heap.size W.drew W') : Below W.heap.size W W' := (Below.refl _ W).drew.trans h
theorem pstep2 {W W' : World} {x : Value} {t : TypeId} (h : Below ((W.alloc (.cells #[x] t)).drew).heap.size ((W.alloc (.cells #[x] t)).drew) W') :
    W'.cell? ⟨W.heap.size, 0, none⟩ = some x ∧ Below W.heap.size W W' := pstep (bel_of_drew h)
set_option maxHeartbeats 400000 in
theorem is_any (s : ByteArray) (w : World) :
    Calls Tryd.prog 33 #[.string s] w fun e w' => e = .returned (.func (.func 56) #[] #[.pointer (some ⟨w.heap.size, 0, none⟩)]) ∧ w' = w.alloc (.cells #[.string s] 9) := by
  have hmf : ∀ (fn : Fn) (first cap : Array Value) (w : World), (Instr.makeFunc fn first cap).run Tryd.prog w = .ok (.func fn first cap) w := fun _ _ _ _ => rfl
  go_enter Tryd.func33, Tryd.ntmps33
  go_wp2
  go_ret
  exact ⟨rfl, rfl⟩
set_option maxHeartbeats 400000 in
theorem same_any (s : ByteArray) (w : World) :
    Calls Tryd.prog 30 #[.string s] w fun e w' => e = .returned (.func (.func 53) #[] #[.pointer (some ⟨w.heap.size, 0, none⟩)]) ∧ w' = w.alloc (.cells #[.string s] 9) := by
  have hmf : ∀ (fn : Fn) (first cap : Array Value) (w : World), (Instr.makeFunc fn first cap).run Tryd.prog w = .ok (.func fn first cap) w := fun _ _ _ _ => rfl
  go_enter Tryd.func30, Tryd.ntmps30
  go_wp2
  go_ret
  exact ⟨rfl, rfl⟩
set_option maxHeartbeats 400000 in
theorem fails_any (n : Int) (w : World) :
    Calls Tryd.prog 32 #[.int .i64 n] w fun e w' => e = .returned (.func (.func 55) #[] #[.pointer (some ⟨w.heap.size, 0, none⟩)]) ∧ w' = w.alloc (.cells #[.int .i64 n] 32) := by
  have hmf : ∀ (fn : Fn) (first cap : Array Value) (w : World), (Instr.makeFunc fn first cap).run Tryd.prog w = .ok (.func fn first cap) w := fun _ _ _ _ => rfl
  go_enter Tryd.func32, Tryd.ntmps32
  go_wp2
  go_ret
  exact ⟨rfl, rfl⟩
set_option maxHeartbeats 400000 in
theorem same1_yes (s : ByteArray) (p : Addr) (w : World) (hp : w.cell? p = some (.string s)) :
    Calls Tryd.prog 53 #[.string s, .int .i64 0, .pointer (some p)] w fun e w' => e = .returned (.bool true) ∧ w = w' := by
  go_enter Tryd.func53, Tryd.ntmps53
  go_wp2
  go_ret
  exact ⟨ret_b (by simp), rfl⟩
set_option maxHeartbeats 400000 in
theorem fails1_yes (n : Int) (p : Addr) (w : World) (hp : w.cell? p = some (.int .i64 n)) :
    Calls Tryd.prog 55 #[.string ByteArray.empty, .int .i64 n, .pointer (some p)] w fun e w' => e = .returned (.bool true) ∧ w = w' := by
  go_enter Tryd.func55, Tryd.ntmps55
  go_wp2
  go_ret
  exact ⟨ret_b (by simp), rfl⟩
set_option maxRecDepth 100000 in
set_option maxHeartbeats 1000000 in
theorem is1_yes (s t : ByteArray) (p : Addr) (w : World) (hD : Digits w) (hs : s.size ≤ 70368744177664) (hp : w.cell? p = some (.string t)) (hb : p.block < w.heap.size) (ht : (⟨(hexL s.data.toList).toArray⟩ : ByteArray) = t) :
    Calls Tryd.prog 56 #[.string s, .int .i64 0, .pointer (some p)] w fun e w' => e = .returned (.bool true) ∧ Below w.heap.size w w' := by
  have hx := fun w hD => hex_any s w hD hs
  rw [ht] at hx
  have HX := Lib.hid hx
  have HD := Lib.hid hD
  clear hx ht hD hs
  go_enter Tryd.func56, Tryd.ntmps56
  go_wp2
  go_region_held3 (fun w' => w'.cell? p = some (.string t))
    (first | (with_reducible assumption) | exact hp)
    (first | (go_at_call 57; (with_reducible refine (HX.out _ ?_).mono ?_); (first | exact HD.out | exact HD.out.drew); rintro e w1 ⟨rfl, hb0⟩; have hb1 : Below w.heap.size w w1 := (by first | exact hb0 | exact (Below.refl _ w).drew.trans hb0); clear hb0; have hp1 : w1.cell? p = some (.string t) := (hb1.cell hb).trans hp))
  all_goals go_wp2
  all_goals go_ret
  all_goals exact ⟨ret_b (by simp), hb1⟩
end Go.Proofs.YtfdeegafdaobdaaDoor
