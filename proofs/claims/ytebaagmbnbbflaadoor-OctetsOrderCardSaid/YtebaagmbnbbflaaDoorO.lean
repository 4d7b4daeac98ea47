/- OctetsOrder returns true. -/
import Derived.Test.YtebaagmbnbbflaaDoorL
import Derived.Test.YtebaagmbnbbflaaDoorS
namespace Go.Proofs.YtebaagmbnbbflaaDoor
open Go.RowKit Go.ChangeShapes

theorem newer_yes (x y b a : Int) (w : World) (h : okAhead x y b = true) (ha : lead x y b = a) :
    Calls Tryd.prog 33 #[.int .i64 x, .int .i64 y, .int .i64 b] w fun e w' => e = .returned (.tuple #[.bool (decide (0 < a)), .int .i64 0]) ∧ w = w' := by
  have := newer_any x y b w
  rw [leadV_yes h, leadE_yes h, ha] at this
  exact this
theorem ahead_is (x y b a : Int) (w : World) (h : okAhead x y b = true) (ha : lead x y b = a) :
    Calls Tryd.prog 32 #[.int .i64 x, .int .i64 y, .int .i64 b] w fun e w' => e = .returned (.tuple #[.int .i64 a, .int .i64 0]) ∧ w = w' := by
  have := ahead_yes x y b w h
  rw [ha] at this
  exact this

set_option maxRecDepth 100000 in
set_option maxHeartbeats 1000000 in
theorem order_true (x y z b : Int) (w : World) (hD : Digits w) (hx0 : 0 ≤ x) (hx1 : x ≤ 4294967295) (hy0 : 0 ≤ y) (hy1 : y ≤ 4294967295) (hz0 : 0 ≤ z) (hz1 : z ≤ 4294967295) (hb0 : 0 ≤ b) (hb1 : b ≤ 255) :
    Calls Tryd.prog 7 #[.int .u32 x, .int .u32 y, .int .u32 z, .int .u8 b] w fun e w' => e = .returned (.bool true) ∧ Below w.heap.size w w' := by
  have HD := Lib.hid hD
  clear hD
  obtain ⟨n, hn⟩ : ∃ n, 1 + b % 32 = n := ⟨_, rfl⟩
  have hn1 : 1 ≤ n := by omega
  have hn2 : n ≤ 32 := by omega
  have hp32 := two_pow_32 hn2
  obtain ⟨H, hH, hH1⟩ := half_pow hn1
  have hmx := i64_mask_to x n (by omega) hn2
  have hmy := i64_mask_to y n (by omega) hn2
  obtain ⟨p0, p1⟩ := emod_pow_bounds x n.toNat
  obtain ⟨q0, q1⟩ := emod_pow_bounds y n.toNat
  have okpq := ok_of_mod (x := x) (y := y) hn1 hn2
  have okqp := ok_of_mod (x := y) (y := x) hn1 hn2
  generalize hp : x % 2 ^ n.toNat = p at *
  generalize hq : y % 2 ^ n.toNat = q at *
  have hmp := i64_mask_to (p + z) n (by omega) hn2
  have hmq := i64_mask_to (q + z) n (by omega) hn2
  obtain ⟨r0, r1⟩ := emod_pow_bounds (p + z) n.toNat
  obtain ⟨s0, s1⟩ := emod_pow_bounds (q + z) n.toNat
  have okrs := ok_of_mod (x := p + z) (y := q + z) hn1 hn2
  have hsh := lead_shift p q z n
  have hlin := lead_lin hH p0 (by omega) q0 (by omega)
  have htu := lead_turn hH p0 (by omega) q0 (by omega)
  have hbk := lead_back hH p0 (by omega) q0 (by omega)
  generalize (p + z) % 2 ^ n.toNat = r at *
  generalize (q + z) % 2 ^ n.toNat = s at *
  generalize ha : lead p q n = a at *
  generalize hc : lead q p n = c at *
  have hma := i64_mask_to (q + a) n (by omega) hn2
  rw [hbk] at hma
  rw [hH] at hp32 p1 q1 r1 s1 hmx hmy hmp hmq hma
  obtain ⟨⟨a0, a1⟩, _⟩ := hlin
  obtain ⟨tu1, tu2⟩ := htu
  have HA := Lib.hid ha
  have HC := Lib.hid hc
  have HS := Lib.hid hsh
  clear ha hc hsh hp hq hbk
  by_cases hh : a = -H
  · obtain rfl := tu1 hh
    have HH := Lib.hid hh
    have a2 : a ≤ -1 := by omega
    clear tu1 tu2 hh
    go_enter Tryd.func7, Tryd.ntmps7
    go_wp2_with (first | (go_at_call 10; refine (works_true _ HD.out).mono ?_; rintro e W1 ⟨rfl, hB1⟩) | (go_at_call 32; first | (with_reducible refine (ahead_is p q n a _ okpq HA.out).mono ?_); rintro e w2 ⟨rfl, rfl⟩ | (with_reducible refine (ahead_is q p n _ _ okqp HC.out).mono ?_); rintro e w2 ⟨rfl, rfl⟩ | (with_reducible refine (ahead_is r s n a _ okrs HS.out).mono ?_); rintro e w2 ⟨rfl, rfl⟩) | (go_at_call 33; first | (with_reducible refine (newer_yes p q n a _ okpq HA.out).mono ?_); rintro e w2 ⟨rfl, rfl⟩ | (with_reducible refine (newer_yes q p n _ _ okqp HC.out).mono ?_); rintro e w2 ⟨rfl, rfl⟩))
    go_ret
    exact ⟨rfl, hB1⟩
  · obtain rfl := tu2 hh
    have bh : (a == -H) = false := by simp [hh]
    have a2 : -H + 1 ≤ a := by omega
    clear tu1 tu2 hh
    rcases Int.lt_trichotomy a 0 with h3 | h3 | h3
    · have d1 : decide (0 < a) = false := by simp; omega
      have d2 : decide (0 < -a) = true := by simp; omega
      go_enter Tryd.func7, Tryd.ntmps7
      go_wp2_with (first | (go_at_call 10; refine (works_true _ HD.out).mono ?_; rintro e W1 ⟨rfl, hB1⟩) | (go_at_call 32; first | (with_reducible refine (ahead_is p q n a _ okpq HA.out).mono ?_); rintro e w2 ⟨rfl, rfl⟩ | (with_reducible refine (ahead_is q p n _ _ okqp HC.out).mono ?_); rintro e w2 ⟨rfl, rfl⟩ | (with_reducible refine (ahead_is r s n a _ okrs HS.out).mono ?_); rintro e w2 ⟨rfl, rfl⟩) | (go_at_call 33; first | (with_reducible refine (newer_yes p q n a _ okpq HA.out).mono ?_); rintro e w2 ⟨rfl, rfl⟩ | (with_reducible refine (newer_yes q p n _ _ okqp HC.out).mono ?_); rintro e w2 ⟨rfl, rfl⟩))
      all_goals go_ret
      all_goals exact ⟨ret_b (by simp), hB1⟩
    · subst h3
      rw [Int.add_zero] at hma
      go_enter Tryd.func7, Tryd.ntmps7
      go_wp2_with (first | (go_at_call 10; refine (works_true _ HD.out).mono ?_; rintro e W1 ⟨rfl, hB1⟩) | (go_at_call 32; first | (with_reducible refine (ahead_is p q n _ _ okpq HA.out).mono ?_); rintro e w2 ⟨rfl, rfl⟩ | (with_reducible refine (ahead_is q p n _ _ okqp HC.out).mono ?_); rintro e w2 ⟨rfl, rfl⟩ | (with_reducible refine (ahead_is r s n _ _ okrs HS.out).mono ?_); rintro e w2 ⟨rfl, rfl⟩) | (go_at_call 33; first | (with_reducible refine (newer_yes p q n _ _ okpq HA.out).mono ?_); rintro e w2 ⟨rfl, rfl⟩ | (with_reducible refine (newer_yes q p n _ _ okqp HC.out).mono ?_); rintro e w2 ⟨rfl, rfl⟩))
      all_goals go_ret
      all_goals exact ⟨ret_b (by simp), hB1⟩
    · have d1 : decide (0 < a) = true := by simp; omega
      have d2 : decide (0 < -a) = false := by simp; omega
      go_enter Tryd.func7, Tryd.ntmps7
      go_wp2_with (first | (go_at_call 10; refine (works_true _ HD.out).mono ?_; rintro e W1 ⟨rfl, hB1⟩) | (go_at_call 32; first | (with_reducible refine (ahead_is p q n a _ okpq HA.out).mono ?_); rintro e w2 ⟨rfl, rfl⟩ | (with_reducible refine (ahead_is q p n _ _ okqp HC.out).mono ?_); rintro e w2 ⟨rfl, rfl⟩ | (with_reducible refine (ahead_is r s n a _ okrs HS.out).mono ?_); rintro e w2 ⟨rfl, rfl⟩) | (go_at_call 33; first | (with_reducible refine (newer_yes p q n a _ okpq HA.out).mono ?_); rintro e w2 ⟨rfl, rfl⟩ | (with_reducible refine (newer_yes q p n _ _ okqp HC.out).mono ?_); rintro e w2 ⟨rfl, rfl⟩))
      all_goals go_ret
      all_goals exact ⟨ret_b (by simp), hB1⟩
end Go.Proofs.YtebaagmbnbbflaaDoor
