/- Contracts of the serial numbers' functions. -/
import Derived.Test.YtebaagmbnbbflaaDoorRows
import Derived.Test.YtebaagmbnbbflaaDoorP
import Derived.Handy
namespace Go.Proofs.YtebaagmbnbbflaaDoor
open Go.RowKit Go.ChangeShapes

theorem ret_b {a b : Bool} (h : a = b) : Ending.returned (.bool a) = .returned (.bool b) := by rw [h]
theorem ret_i {a b : Int} {k : IntKind} (h : a = b) : Ending.returned (.int k a) = .returned (.int k b) := by rw [h]
theorem ret_ii {a b c d : Int} {k l : IntKind} (h : a = b) (g : c = d) : Ending.returned (.tuple #[.int k a, .int l c]) = .returned (.tuple #[.int k b, .int l d]) := by rw [h, g]
theorem ret_bi {a b : Bool} {c d : Int} {l : IntKind} (h : a = b) (g : c = d) : Ending.returned (.tuple #[.bool a, .int l c]) = .returned (.tuple #[.bool b, .int l d]) := by rw [h, g]

set_option maxHeartbeats 400000 in
theorem isSerial_any (x b : Int) (w : World) (hb : 1 ≤ b) (hb2 : b ≤ 32) :
    Calls Tryd.prog 55 #[.int .i64 x, .int .i64 b] w fun e w' => e = .returned (.bool (okSer x b)) ∧ w = w' := by
  have hp1 := two_pow_32 hb2
  have hp0 := two_pow_pos b.toNat
  go_enter Tryd.func55, Tryd.ntmps55
  go_wp2
  all_goals go_ret
  · exact ⟨ret_b (by simp [okSer]; omega), rfl⟩
  · exact ⟨ret_b (by simp [okSer]; omega), rfl⟩

set_option maxHeartbeats 400000 in
theorem ahead_yes (x y b : Int) (w : World) (h : okAhead x y b = true) :
    Calls Tryd.prog 32 #[.int .i64 x, .int .i64 y, .int .i64 b] w fun e w' => e = .returned (.tuple #[.int .i64 (lead x y b), .int .i64 0]) ∧ w = w' := by
  obtain ⟨⟨hb, hb2⟩, ⟨hx0, hx1⟩, ⟨hy0, hy1⟩⟩ := (okAhead_iff x y b).1 h
  have hx : okSer x b = true := by simp [okSer]; omega
  have hy : okSer y b = true := by simp [okSer]; omega
  have hp1 := two_pow_32 hb2
  have hp0 := two_pow_pos b.toNat
  have hm := i64_mask_to (x - y) b (by omega) hb2
  obtain ⟨hm0, hm1⟩ := emod_pow_bounds (x - y) b.toNat
  have t1 : decide (b < 1) = false := by simp; omega
  have t2 : decide (32 < b) = false := by simp; omega
  clear h
  by_cases hc : 2 ^ b.toNat / 2 ≤ (x - y) % 2 ^ b.toNat
  · go_enter Tryd.func32, Tryd.ntmps32
    go_wp2_with (first | (go_at_call 55; refine (isSerial_any _ _ _ (by omega) (by omega)).mono ?_; rintro e w' ⟨rfl, rfl⟩))
    go_ret2
    exact ⟨ret_ii (by simp [lead, hc]) rfl, rfl⟩
  · go_enter Tryd.func32, Tryd.ntmps32
    go_wp2_with (first | (go_at_call 55; refine (isSerial_any _ _ _ (by omega) (by omega)).mono ?_; rintro e w' ⟨rfl, rfl⟩))
    go_ret2
    exact ⟨ret_ii (by rw [lead, if_neg (by omega)]) rfl, rfl⟩

set_option maxHeartbeats 400000 in
theorem ahead_no (x y b : Int) (w : World) (h : okAhead x y b = false) :
    Calls Tryd.prog 32 #[.int .i64 x, .int .i64 y, .int .i64 b] w fun e w' => e = .returned (.tuple #[.int .i64 0, .int .i64 2]) ∧ w = w' := by
  by_cases h1 : b < 1
  · clear h
    go_enter Tryd.func32, Tryd.ntmps32
    go_wp2
    go_ret2
    exact ⟨rfl, rfl⟩
  · by_cases h2 : 32 < b
    · clear h
      go_enter Tryd.func32, Tryd.ntmps32
      go_wp2
      go_ret2
      exact ⟨rfl, rfl⟩
    · have t1 : decide (b < 1) = false := by simp; omega
      have t2 : decide (32 < b) = false := by simp; omega
      have hr : okSer x b = false ∨ (okSer x b = true ∧ okSer y b = false) := by
        have : decide (1 ≤ b ∧ b ≤ 32) = true := by simp; omega
        simp only [okAhead, this, Bool.true_and] at h
        cases hx : okSer x b <;> simp [hx] at h ⊢
        exact h
      clear h
      rcases hr with hx | ⟨hx, hy⟩
      · go_enter Tryd.func32, Tryd.ntmps32
        go_wp2_with (first | (go_at_call 55; refine (isSerial_any _ _ _ (by omega) (by omega)).mono ?_; rintro e w' ⟨rfl, rfl⟩))
        go_ret2
        exact ⟨rfl, rfl⟩
      · go_enter Tryd.func32, Tryd.ntmps32
        go_wp2_with (first | (go_at_call 55; refine (isSerial_any _ _ _ (by omega) (by omega)).mono ?_; rintro e w' ⟨rfl, rfl⟩))
        go_ret2
        exact ⟨rfl, rfl⟩

theorem ahead_any (x y b : Int) (w : World) :
    Calls Tryd.prog 32 #[.int .i64 x, .int .i64 y, .int .i64 b] w fun e w' => e = .returned (.tuple #[.int .i64 (leadV x y b), .int .i64 (leadE x y b)]) ∧ w = w' := by
  cases h : okAhead x y b
  · rw [leadV_no h, leadE_no h]; exact ahead_no x y b w h
  · rw [leadV_yes h, leadE_yes h]; exact ahead_yes x y b w h

set_option maxHeartbeats 400000 in
theorem newer_any (x y b : Int) (w : World) :
    Calls Tryd.prog 33 #[.int .i64 x, .int .i64 y, .int .i64 b] w fun e w' => e = .returned (.tuple #[.bool (decide (0 < leadV x y b)), .int .i64 (leadE x y b)]) ∧ w = w' := by
  go_enter Tryd.func33, Tryd.ntmps33
  go_wp2_with (first | (go_at_call 32; refine (ahead_any _ _ _ _).mono ?_; rintro e w' ⟨rfl, rfl⟩))
  go_ret2
  exact ⟨ret_bi rfl rfl, rfl⟩

set_option maxHeartbeats 400000 in
theorem leads_yes (x y b want no : Int) (w : World) (h1 : leadV x y b = want) (h2 : leadE x y b = no) :
    Calls Tryd.prog 42 #[.int .i64 x, .int .i64 y, .int .i64 b, .int .i64 want, .int .i64 no] w fun e w' => e = .returned (.bool true) ∧ w = w' := by
  subst h1 h2
  go_enter Tryd.func42, Tryd.ntmps42
  go_wp2_with (first | (go_at_call 32; refine (ahead_any _ _ _ _).mono ?_; rintro e w' ⟨rfl, rfl⟩) | (go_at_call 33; refine (newer_any _ _ _ _).mono ?_; rintro e w' ⟨rfl, rfl⟩))
  all_goals go_ret
  all_goals exact ⟨ret_b (by simp), rfl⟩
end Go.Proofs.YtebaagmbnbbflaaDoor
