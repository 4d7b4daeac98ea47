/- Contracts of Pad and of puts. -/
import Derived.Test.YtebaagmbnbbflaaDoorH
import Derived.Test.YtebaagmbnbbflaaDoorShelf
namespace Go.Proofs.YtebaagmbnbbflaaDoor
open Go.RowKit Go.ChangeShapes

set_option maxHeartbeats 400000 in
theorem pad_bad (s : ByteArray) (u : Int) (w : World) (hu : unitB u = false) :
    Calls Tryd.prog 26 #[.string s, .int .i64 u] w fun e w' => e = .returned (.tuple #[.string ByteArray.empty, .int .i64 2]) ∧ w = w' := by
  go_enter Tryd.func26, Tryd.ntmps26
  go_wp2_with (first | (go_at_call 49; refine (isUnit_any _ _).mono ?_; rintro e w2 ⟨rfl, rfl⟩))
  go_ret2
  exact ⟨rfl, rfl⟩

set_option maxHeartbeats 400000 in
theorem pad_ok (s : ByteArray) (u : Int) (c : Nat) (w : World) (hs : s.size ≤ 70368744177664) (hu : unitB u = true) (hc : (upTo s.size u : Int) = s.size + c) :
    Calls Tryd.prog 26 #[.string s, .int .i64 u] w fun e w' => e = .returned (.tuple #[.string (s ++ ⟨(Lib.repeatL [0] c).toArray⟩), .int .i64 0]) ∧ Below w.heap.size w w' := by
  have hb := upTo_bounds (n := (s.size : Int)) hu
  have h8 : u ≤ 8 := by rcases (unitB_iff u).1 hu with rfl | rfl | rfl | rfl <;> omega
  have hc8 : c ≤ 8 := by omega
  have h0 : (0 : Int) ≤ s.size := by omega
  have he : upTo s.size u - s.size = (c : Int) := by omega
  obtain ⟨hb1, hb2⟩ := hb
  have HE := Lib.hid he
  have hl1 : (Lib.repeatL [0] c).length ≤ 8 := by rw [Lib.repeatL_length]; simpa using hc8
  have hl2 : (⟨(Lib.repeatL [0] c).toArray⟩ : ByteArray).size ≤ 8 := by show (Lib.repeatL [0] c).toArray.size ≤ 8; simpa using hl1
  clear hc he
  go_enter Tryd.func26, Tryd.ntmps26
  go_wp2_with (first | (go_at_call 49; refine (isUnit_any _ _).mono ?_; rintro e w2 ⟨rfl, rfl⟩) | (go_at_call 50; refine (roundUp_any _ _ _ h0 (by omega) hu).mono ?_; rintro e w3 ⟨rfl, rfl⟩) | (go_at_call 51; rw [HE.out]; refine (Tryd.strings_Repeat ⟨#[0]⟩ c _ (by omega) (by show 1 * c ≤ _; omega)).mono ?_; rintro e w4 ⟨rfl, hB4⟩))
  go_ret2
  exact ⟨rfl, hB4⟩

set_option maxHeartbeats 400000 in
theorem puts_any (s : ByteArray) (no : Int) (w : World) :
    Calls Tryd.prog 36 #[.string s, .int .i64 no] w fun e w' => e = .returned (.func (.func 57) #[] #[.pointer (some ⟨w.heap.size, 0, none⟩), .pointer (some ⟨w.heap.size + 1, 0, none⟩)]) ∧ w' = (w.alloc (.cells #[.string s] 9)).alloc (.cells #[.int .i64 no] 28) := by
  have hmf : ∀ (fn : Fn) (first cap : Array Value) (w : World), (Instr.makeFunc fn first cap).run Tryd.prog w = .ok (.func fn first cap) w := fun _ _ _ _ => rfl
  go_enter Tryd.func36, Tryd.ntmps36
  go_wp2
  go_ret
  exact ⟨rfl, rfl⟩

set_option maxHeartbeats 400000 in
theorem puts1_yes (s : ByteArray) (no : Int) (p q : Addr) (w : World) (hp : w.cell? p = some (.string s)) (hq : w.cell? q = some (.int .i64 no)) :
    Calls Tryd.prog 57 #[.string s, .int .i64 no, .pointer (some p), .pointer (some q)] w fun e w' => e = .returned (.bool true) ∧ w = w' := by
  go_enter Tryd.func57, Tryd.ntmps57
  go_wp2
  go_ret
  exact ⟨ret_b (by simp), rfl⟩
end Go.Proofs.YtebaagmbnbbflaaDoor
