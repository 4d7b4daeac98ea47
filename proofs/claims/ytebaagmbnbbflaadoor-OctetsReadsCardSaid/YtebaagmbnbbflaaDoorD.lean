/- Contracts of Check, Left, Take, Uint and Skip. -/
import Derived.Test.YtebaagmbnbbflaaDoorC
namespace Go.Proofs.YtebaagmbnbbflaaDoor
open Go.RowKit Go.ChangeShapes

set_option maxHeartbeats 400000 in
theorem isUnit_any (n : Int) (w : World) : Calls Tryd.prog 49 #[.int .i64 n] w fun e w' => e = .returned (.bool (unitB n)) ∧ w = w' := by
  by_cases h1 : n = 1
  · subst h1; go_enter Tryd.func49, Tryd.ntmps49; go_wp2; go_ret; exact ⟨rfl, rfl⟩
  by_cases h2 : n = 2
  · subst h2; go_enter Tryd.func49, Tryd.ntmps49; go_wp2; go_ret; exact ⟨rfl, rfl⟩
  by_cases h4 : n = 4
  · subst h4; go_enter Tryd.func49, Tryd.ntmps49; go_wp2; go_ret; exact ⟨rfl, rfl⟩
  by_cases h8 : n = 8
  · subst h8; go_enter Tryd.func49, Tryd.ntmps49; go_wp2; go_ret; exact ⟨rfl, rfl⟩
  have hu : unitB n = false := by simp [unitB]; omega
  have b1 : (n == 1) = false := by simp [h1]
  have b2 : (n == 2) = false := by simp [h2]
  have b4 : (n == 4) = false := by simp [h4]
  have b8 : (n == 8) = false := by simp [h8]
  rw [hu]
  clear h1 h2 h4 h8 hu
  go_enter Tryd.func49, Tryd.ntmps49
  go_wp2
  go_ret
  exact ⟨rfl, rfl⟩

set_option maxHeartbeats 400000 in
theorem roundUp_any (n u : Int) (w : World) (h0 : 0 ≤ n) (h1 : n ≤ 4611686018427387904) (hu : unitB u = true) :
    Calls Tryd.prog 50 #[.int .i64 n, .int .i64 u] w fun e w' => e = .returned (.int .i64 (upTo n u)) ∧ w = w' := by
  rcases (unitB_iff u).1 hu with rfl | rfl | rfl | rfl
  all_goals
    clear hu
    go_enter Tryd.func50, Tryd.ntmps50
    go_wp2
    go_ret
    exact ⟨ret_i (by unfold upTo; try omega), rfl⟩

set_option maxHeartbeats 400000 in
theorem check_yes (s : ByteArray) (a : Int) (w : World) (hs : s.size ≤ maxLen) (h0 : 0 ≤ a) (h1 : a ≤ s.size) :
    Calls Tryd.prog 14 #[.agg #[.string s, .int .i64 a]] w fun e w' => e = .returned (.int .i64 0) ∧ Below w.heap.size w w' := by
  go_enter Tryd.func14, Tryd.ntmps14
  go_wp2_with (first | (go_at_call 43; refine (verify_yes _ _ _ hs h0 h1).mono ?_; rintro e w1 ⟨rfl, hbw1⟩; obtain ⟨hcw1, hfw1⟩ := bcell hbw1; have hzw1 := hbw1.size; simp at hzw1; have hBw1 : Below w.heap.size w w1 := Below.trans (by go_grown) (hbw1.mono (by go_size)); clear hbw1))
  go_returns
  exact ⟨rfl, by go_grown⟩

set_option maxHeartbeats 400000 in
theorem check_no (s : ByteArray) (a : Int) (w : World) (hs : s.size ≤ maxLen) (h : a < 0 ∨ (s.size : Int) < a) :
    Calls Tryd.prog 14 #[.agg #[.string s, .int .i64 a]] w fun e w' => e = .returned (.int .i64 2) ∧ Below w.heap.size w w' := by
  have H := Lib.hid h
  clear h
  go_enter Tryd.func14, Tryd.ntmps14
  go_wp2_with (first | (go_at_call 43; refine (verify_no _ _ _ hs H.out).mono ?_; rintro e w1 ⟨rfl, hbw1⟩; obtain ⟨hcw1, hfw1⟩ := bcell hbw1; have hzw1 := hbw1.size; simp at hzw1; have hBw1 : Below w.heap.size w w1 := Below.trans (by go_grown) (hbw1.mono (by go_size)); clear hbw1))
  go_returns
  exact ⟨rfl, by go_grown⟩

set_option maxHeartbeats 400000 in
theorem left_yes (s : ByteArray) (a : Int) (w : World) (hs : s.size ≤ maxLen) (h0 : 0 ≤ a) (h1 : a ≤ s.size) :
    Calls Tryd.prog 13 #[.agg #[.string s, .int .i64 a]] w fun e w' => e = .returned (.tuple #[.int .i64 (s.size - a), .int .i64 0]) ∧ Below w.heap.size w w' := by
  go_enter Tryd.func13, Tryd.ntmps13
  go_wp2_with (first | (go_at_call 43; refine (verify_yes _ _ _ hs h0 h1).mono ?_; rintro e w1 ⟨rfl, hbw1⟩; obtain ⟨hcw1, hfw1⟩ := bcell hbw1; have hzw1 := hbw1.size; simp at hzw1; have hBw1 : Below w.heap.size w w1 := Below.trans (by go_grown) (hbw1.mono (by go_size)); clear hbw1) | (go_at_call 44; refine (left44_any _ _ _ hs h0 h1).mono ?_; rintro e w2 ⟨rfl, hbw2⟩; obtain ⟨hcw2, hfw2⟩ := bcell hbw2; have hzw2 := hbw2.size; simp at hzw2; have hBw2 : Below w.heap.size w w2 := Below.trans (by go_grown) (hbw2.mono (by go_size)); clear hbw2))
  go_returns
  exact ⟨rfl, by go_grown⟩

set_option maxHeartbeats 400000 in
theorem left_no (s : ByteArray) (a : Int) (w : World) (hs : s.size ≤ maxLen) (h : a < 0 ∨ (s.size : Int) < a) :
    Calls Tryd.prog 13 #[.agg #[.string s, .int .i64 a]] w fun e w' => e = .returned (.tuple #[.int .i64 0, .int .i64 2]) ∧ Below w.heap.size w w' := by
  have H := Lib.hid h
  clear h
  go_enter Tryd.func13, Tryd.ntmps13
  go_wp2_with (first | (go_at_call 43; refine (verify_no _ _ _ hs H.out).mono ?_; rintro e w1 ⟨rfl, hbw1⟩; obtain ⟨hcw1, hfw1⟩ := bcell hbw1; have hzw1 := hbw1.size; simp at hzw1; have hBw1 : Below w.heap.size w w1 := Below.trans (by go_grown) (hbw1.mono (by go_size)); clear hbw1))
  go_returns
  exact ⟨rfl, by go_grown⟩
end Go.Proofs.YtebaagmbnbbflaaDoor
