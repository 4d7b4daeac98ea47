/- OctetsSerials returns true. -/
import Derived.Test.YtebaagmbnbbflaaDoorL
import Derived.Test.YtebaagmbnbbflaaDoorS
import Derived.BigQuiet
import Derived.Deep.QuietTactic
namespace Go.Proofs.YtebaagmbnbbflaaDoor
open Go.RowKit Go.ChangeShapes

set_option maxHeartbeats 400000 in
theorem power_any (b : Nat) (w : World) (hb : b ≤ 32) :
    Calls Tryd.prog 56 #[.int .i64 b] w fun e w' => e = .returned (.int .i64 (2 ^ b)) ∧ w = w' := by
  go_enter Tryd.func56, Tryd.ntmps56
  go_wp2
  go_loop [3, 4] (fun v i => ∃ k : Nat, k ≤ b ∧ i = .int .i64 k ∧ v = .int .i64 (2 ^ k)) (fun _ i => b - (intOf i).toNat)
  case atStart => exact ⟨0, Nat.zero_le _, rfl, rfl⟩
  case round =>
    obtain ⟨k, hk, rfl, rfl⟩ := hrel
    by_cases hlt : k < b
    · have h1 := two_pow_le (n := k) (m := 31) (by omega)
      have h2 : (2 : Int) ^ 31 = 2147483648 := by rfl
      rw [h2] at h1
      have h0 := two_pow_pos k
      have hs : (2 : Int) * 2 ^ k = 2 ^ (k + 1) := by rw [Int.pow_succ, Int.mul_comm]
      have HS := Lib.hid hs
      clear h2 hs
      go_wp2
      go_round
      case rel => exact ⟨k + 1, by omega, by go_num, by rw [HS.out]⟩
      case measure => simp [intOf]; omega
    · obtain rfl : k = b := by omega
      go_wp2
      go_ret
      exact ⟨rfl, rfl⟩
theorem power_to (b : Int) (w : World) (h0 : 0 ≤ b) (hb : b ≤ 32) :
    Calls Tryd.prog 56 #[.int .i64 b] w fun e w' => e = .returned (.int .i64 (2 ^ b.toNat)) ∧ w = w' := by
  obtain ⟨n, rfl⟩ := Int.eq_ofNat_of_zero_le h0
  rw [Int.toNat_natCast]
  exact power_any n w (by omega)

def serB (x b : Int) : Bool := decide (1 ≤ b ∧ b ≤ 32) && okSer x b
set_option maxHeartbeats 400000 in
theorem serial_any (x b : Int) (w : World) :
    Calls Tryd.prog 34 #[.int .i64 x, .int .i64 b] w fun e w' => e = .returned (.bool (serB x b)) ∧ w = w' := by
  by_cases h1 : 1 ≤ b
  · by_cases h2 : b ≤ 32
    · by_cases h3 : 0 ≤ x
      · have hv : serB x b = decide (x < 2 ^ b.toNat) := by simp [serB, okSer, h1, h2, h3]
        have HV := Lib.hid hv
        have t1 : decide (1 ≤ b) = true := by simp; omega
        have t2 : decide (b ≤ 32) = true := by simp; omega
        have t3 : decide (0 ≤ x) = true := by simp; omega
        clear hv
        go_enter Tryd.func34, Tryd.ntmps34
        go_wp2_with (go_at_call 56; refine (power_to _ _ (by omega) h2).mono ?_; rintro e w2 ⟨rfl, rfl⟩)
        go_ret
        exact ⟨ret_b (by rw [HV.out]), rfl⟩
      · have hv : serB x b = false := by simp [serB, okSer, h3]
        have HV := Lib.hid hv
        have t1 : decide (1 ≤ b) = true := by simp; omega
        have t2 : decide (b ≤ 32) = true := by simp; omega
        have t3 : decide (0 ≤ x) = false := by simp; omega
        clear hv
        go_enter Tryd.func34, Tryd.ntmps34
        go_wp2
        go_ret
        exact ⟨ret_b (by rw [HV.out]), rfl⟩
    · have hv : serB x b = false := by simp [serB, h2]
      have HV := Lib.hid hv
      have t1 : decide (1 ≤ b) = true := by simp; omega
      have t2 : decide (b ≤ 32) = false := by simp; omega
      clear hv
      go_enter Tryd.func34, Tryd.ntmps34
      go_wp2
      go_ret
      exact ⟨ret_b (by rw [HV.out]), rfl⟩
  · have hv : serB x b = false := by simp [serB, h1]
    have HV := Lib.hid hv
    have t1 : decide (1 ≤ b) = false := by simp; omega
    clear hv
    go_enter Tryd.func34, Tryd.ntmps34
    go_wp2
    go_ret
    exact ⟨ret_b (by rw [HV.out]), rfl⟩

set_option maxHeartbeats 400000 in
theorem refAhead_any (x y b : Int) (w : World) (h : okAhead x y b = true) :
    Calls Tryd.prog 35 #[.int .i64 x, .int .i64 y, .int .i64 b] w fun e w' => e = .returned (.int .i64 (lead x y b)) ∧ w = w' := by
  obtain ⟨⟨hb, hb2⟩, ⟨hx0, hx1⟩, ⟨hy0, hy1⟩⟩ := (okAhead_iff x y b).1 h
  obtain ⟨H, hH, hH1⟩ := half_pow hb
  have hH2 : (2 : Int) ^ (b - 1).toNat = H := by have := two_pow_half hb; omega
  have hH3 : (2 : Int) ^ (b.toNat - 1) = H := by rw [← hH2, show (b - 1).toNat = b.toNat - 1 by omega]
  have hp := two_pow_32 hb2
  rw [hH] at hx1 hy1 hp
  have hl := lead_lin hH hx0 hx1 hy0 hy1
  generalize lead x y b = l at hl ⊢
  obtain ⟨⟨l0, l1⟩, hl2⟩ := hl
  have HL := Lib.hid hl2
  clear h hl2
  by_cases c1 : x - y < -H
  · have c2 : ¬ H ≤ x - y + 2 * H := by omega
    go_enter Tryd.func35, Tryd.ntmps35
    go_wp2_with (go_at_call 56; refine (power_to _ _ (by omega) (by omega)).mono ?_; rintro e w2 ⟨rfl, rfl⟩)
    go_ret
    exact ⟨ret_i (by have := HL.out; omega), rfl⟩
  · by_cases c2 : H ≤ x - y
    · go_enter Tryd.func35, Tryd.ntmps35
      go_wp2_with (go_at_call 56; refine (power_to _ _ (by omega) (by omega)).mono ?_; rintro e w2 ⟨rfl, rfl⟩)
      go_ret
      exact ⟨ret_i (by have := HL.out; omega), rfl⟩
    · go_enter Tryd.func35, Tryd.ntmps35
      go_wp2_with (go_at_call 56; refine (power_to _ _ (by omega) (by omega)).mono ?_; rintro e w2 ⟨rfl, rfl⟩)
      go_ret
      exact ⟨ret_i (by have := HL.out; omega), rfl⟩

theorem idx62 (a0 a1 a2 a3 a4 a5 a6 a7 a8 a9 a10 a11 : Int) (j : Nat) (hj : j < 4) : ∃ X Y B : Int, ∀ w : World, (Instr.index 62 (.agg #[.int .i64 a0, .int .i64 a1, .int .i64 a2, .int .i64 a3, .int .i64 a4, .int .i64 a5, .int .i64 a6, .int .i64 a7, .int .i64 a8, .int .i64 a9, .int .i64 a10, .int .i64 a11]) (.int .i64 (j : Int))).run Tryd.prog w = .ok (.agg #[.int .i64 X, .int .i64 Y, .int .i64 B]) w := by
  match j, hj with
  | 0, _ => exact ⟨a0, a1, a2, fun w => by kernel_rfl⟩
  | 1, _ => exact ⟨a3, a4, a5, fun w => by kernel_rfl⟩
  | 2, _ => exact ⟨a6, a7, a8, fun w => by kernel_rfl⟩
  | 3, _ => exact ⟨a9, a10, a11, fun w => by kernel_rfl⟩
  | n + 4, h => exact absurd h (by omega)
theorem newer_is (x y b a : Int) (w : World) (h : okAhead x y b = true) (ha : lead x y b = a) :
    Calls Tryd.prog 33 #[.int .i64 x, .int .i64 y, .int .i64 b] w fun e w' => e = .returned (.tuple #[.bool (decide (0 < a)), .int .i64 0]) ∧ w = w' := by
  have := newer_any x y b w
  rw [leadV_yes h, leadE_yes h, ha] at this
  exact this
theorem lead_is (x y b a : Int) (w : World) (h : okAhead x y b = true) (ha : lead x y b = a) :
    Calls Tryd.prog 32 #[.int .i64 x, .int .i64 y, .int .i64 b] w fun e w' => e = .returned (.tuple #[.int .i64 a, .int .i64 0]) ∧ w = w' := by
  have := ahead_yes x y b w h
  rw [ha] at this
  exact this
theorem refAhead_is (x y b a : Int) (w : World) (h : okAhead x y b = true) (ha : lead x y b = a) :
    Calls Tryd.prog 35 #[.int .i64 x, .int .i64 y, .int .i64 b] w fun e w' => e = .returned (.int .i64 a) ∧ w = w' := by
  have := refAhead_any x y b w h
  rw [ha] at this
  exact this
theorem newer_no (x y b : Int) (w : World) (h : okAhead x y b = false) :
    Calls Tryd.prog 33 #[.int .i64 x, .int .i64 y, .int .i64 b] w fun e w' => e = .returned (.tuple #[.bool false, .int .i64 2]) ∧ w = w' := by
  have := newer_any x y b w
  rw [leadV_no h, leadE_no h] at this
  exact this
theorem serial_is (x b : Int) (r : Bool) (w : World) (h : serB x b = r) :
    Calls Tryd.prog 34 #[.int .i64 x, .int .i64 b] w fun e w' => e = .returned (.bool r) ∧ w = w' := by
  subst h; exact serial_any x b w
theorem ok_ser (x y b : Int) : okAhead x y b = (serB x b && serB y b) := by
  unfold okAhead serB
  cases decide (1 ≤ b ∧ b ≤ 32) <;> simp

set_option maxRecDepth 100000 in
set_option maxHeartbeats 2000000 in
theorem serials_true (x y b k : Int) (w : World) (hD : Digits w) (hk0 : 0 ≤ k) (hk1 : k ≤ 255) :
    Calls Tryd.prog 6 #[.int .i64 x, .int .i64 y, .int .i64 b, .int .u8 k] w fun e w' => e = .returned (.bool true) ∧ Below w.heap.size w w' := by
  have HD := Lib.hid hD
  clear hD
  obtain ⟨n, hn⟩ : ∃ n, 1 + k % 32 = n := ⟨_, rfl⟩
  have hn1 : 1 ≤ n := by omega
  have hn2 : n ≤ 32 := by omega
  have hp32 := two_pow_32 hn2
  have hp0 := two_pow_pos n.toNat
  go_enter Tryd.func6, Tryd.ntmps6
  go_wp2_with (go_at_call 10; refine (works_true _ HD.out).mono ?_; rintro e W1 ⟨rfl, hB1⟩)
  go_quiet (fail)
  go_wp2
  go_loopw [60] (fun i wr => ∃ j : Nat, j ≤ 4 ∧ i = .int .i64 j ∧ Below w.heap.size w wr) (fun i _ => 4 - (intOf i).toNat)
  case atStart => exact ⟨0, by omega, rfl, ⟨hB1.os, hB1.tape, hB1.output, hB1.size, hB1.block⟩⟩
  case round =>
    obtain ⟨j, hj, rfl, hB⟩ := hrel
    have hz := hB.size
    by_cases hlt : j < 4
    · obtain ⟨X, Y, B, hidx⟩ := idx62 x y b x y n (bits .and .i64 x (2 ^ n.toNat - 1)) (bits .and .i64 y (2 ^ n.toNat - 1)) n (bits .and .i64 x (2 ^ n.toNat - 1)) (bits .and .i64 (wrap64 (wrap64 (x + k) - 128)) (2 ^ n.toNat - 1)) n j hlt
      by_cases hok : okAhead X Y B = true
      · have hs := ok_ser X Y B
        rw [hok] at hs
        have hs2 := Bool.and_eq_true_iff.1 hs.symm
        have HSX := Lib.hid hs2.1
        have HSY := Lib.hid hs2.2
        have HOK := Lib.hid hok
        obtain ⟨l, hl⟩ : ∃ l, lead X Y B = l := ⟨_, rfl⟩
        have HL := Lib.hid hl
        clear hs hs2 hok hl
        go_wp2_with (first | (go_at_call 32; refine (lead_is X Y B l _ HOK.out HL.out).mono ?_; rintro e w2 ⟨rfl, rfl⟩) | (go_at_call 33; refine (newer_is X Y B l _ HOK.out HL.out).mono ?_; rintro e w2 ⟨rfl, rfl⟩) | (go_at_call 35; refine (refAhead_is X Y B l _ HOK.out HL.out).mono ?_; rintro e w2 ⟨rfl, rfl⟩) | (go_at_call 34; first | (with_reducible refine (serial_is X B _ _ HSX.out).mono ?_); rintro e w2 ⟨rfl, rfl⟩ | (with_reducible refine (serial_is Y B _ _ HSY.out).mono ?_); rintro e w2 ⟨rfl, rfl⟩))
        go_roundw
        case rel => exact ⟨j + 1, by omega, by go_num, hB.alloc hz _⟩
        case measure => simp [intOf]; omega
      · have hno : okAhead X Y B = false := by simpa using hok
        have hs := ok_ser X Y B
        rw [hno] at hs
        have HOK := Lib.hid hno
        clear hok hno
        cases hx : serB X B
        · have HSX := Lib.hid hx
          clear hx hs
          go_wp2_with (first | (go_at_call 32; refine (ahead_no X Y B _ HOK.out).mono ?_; rintro e w2 ⟨rfl, rfl⟩) | (go_at_call 33; refine (newer_no X Y B _ HOK.out).mono ?_; rintro e w2 ⟨rfl, rfl⟩) | (go_at_call 34; refine (serial_is X B _ _ HSX.out).mono ?_; rintro e w2 ⟨rfl, rfl⟩))
          go_roundw
          case rel => exact ⟨j + 1, by omega, by go_num, hB.alloc hz _⟩
          case measure => simp [intOf]; omega
        · have hy : serB Y B = false := by rw [hx] at hs; simpa using hs.symm
          have HSX := Lib.hid hx
          have HSY := Lib.hid hy
          clear hx hy hs
          go_wp2_with (first | (go_at_call 32; refine (ahead_no X Y B _ HOK.out).mono ?_; rintro e w2 ⟨rfl, rfl⟩) | (go_at_call 33; refine (newer_no X Y B _ HOK.out).mono ?_; rintro e w2 ⟨rfl, rfl⟩) | (go_at_call 34; first | (with_reducible refine (serial_is X B _ _ HSX.out).mono ?_); rintro e w2 ⟨rfl, rfl⟩ | (with_reducible refine (serial_is Y B _ _ HSY.out).mono ?_); rintro e w2 ⟨rfl, rfl⟩))
          go_roundw
          case rel => exact ⟨j + 1, by omega, by go_num, hB.alloc hz _⟩
          case measure => simp [intOf]; omega
    · go_wp2
      go_ret
      exact ⟨rfl, hB⟩
end Go.Proofs.YtebaagmbnbbflaaDoor
