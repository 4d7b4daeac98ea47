/- Contracts of the reference: xor, number, octets, Right, Fits. -/
import Derived.Test.YtnfefkcfifnjnaaDoorRA
namespace Go.Proofs.YtnfefkcfifnjnaaDoor
open Go.RowKit Go.ChangeShapes

theorem xor_step (x y j : Nat) : (x ^^^ y) % 2 ^ (j + 1) = (x ^^^ y) % 2 ^ j + if x / 2 ^ j % 2 = y / 2 ^ j % 2 then 0 else 2 ^ j := by
  have hb : (x ^^^ y) / 2 ^ j % 2 = (x / 2 ^ j % 2 + y / 2 ^ j % 2) % 2 := by
    have t := Nat.testBit_xor x y j
    rw [Nat.testBit_eq_decide_div_mod_eq, Nat.testBit_eq_decide_div_mod_eq, Nat.testBit_eq_decide_div_mod_eq] at t
    have h0 : (x ^^^ y) / 2 ^ j % 2 < 2 := Nat.mod_lt _ (by decide)
    have h1 : x / 2 ^ j % 2 < 2 := Nat.mod_lt _ (by decide)
    have h2 : y / 2 ^ j % 2 < 2 := Nat.mod_lt _ (by decide)
    rcases (by omega : (x ^^^ y) / 2 ^ j % 2 = 0 ∨ (x ^^^ y) / 2 ^ j % 2 = 1) with e | e <;> rcases (by omega : x / 2 ^ j % 2 = 0 ∨ x / 2 ^ j % 2 = 1) with f | f <;> rcases (by omega : y / 2 ^ j % 2 = 0 ∨ y / 2 ^ j % 2 = 1) with g | g <;> rw [e, f, g] at t <;> first | exact absurd t (by decide) | (rw [e, f, g])
  have hs : (x ^^^ y) % 2 ^ (j + 1) = (x ^^^ y) % 2 ^ j + 2 ^ j * ((x ^^^ y) / 2 ^ j % 2) := by
    rw [Nat.pow_succ, Nat.mod_mul]
  have h1 : x / 2 ^ j % 2 < 2 := Nat.mod_lt _ (by decide)
  have h2 : y / 2 ^ j % 2 < 2 := Nat.mod_lt _ (by decide)
  rw [hs, hb]
  rcases (by omega : x / 2 ^ j % 2 = 0 ∨ x / 2 ^ j % 2 = 1) with f | f <;> rcases (by omega : y / 2 ^ j % 2 = 0 ∨ y / 2 ^ j % 2 = 1) with g | g <;> rw [f, g] <;> simp
structure Xr (x y j : Nat) (X Y o u : Nat) : Prop where
  a : x / 2 ^ j = X
  b : y / 2 ^ j = Y
  c : (x ^^^ y) % 2 ^ j = o
  d : 2 ^ j = u
theorem Xr.step {x y j X Y o u : Nat} (h : Xr x y j X Y o u) : Xr x y (j + 1) (X / 2) (Y / 2) (if X % 2 = Y % 2 then o else o + u) (2 * u) :=
  ⟨by rw [Nat.pow_succ, ← Nat.div_div_eq_div_mul, h.a], by rw [Nat.pow_succ, ← Nat.div_div_eq_div_mul, h.b], by rw [xor_step, h.a, h.b, h.c, h.d]; split <;> rfl, by rw [Nat.pow_succ, h.d, Nat.mul_comm]⟩
set_option maxRecDepth 100000 in
set_option maxHeartbeats 2000000 in
theorem rxor (x y : Nat) (w : World) (hx : isW x) (hy : isW y) :
    Calls Tryd.prog 92 #[.int .i64 (x : Int), .int .i64 (y : Int)] w fun e w' => e = .returned (.int .i64 (x ^^^ y : Nat)) ∧ w = w' := by
  have HX := Lib.hid hx
  have HY := Lib.hid hy
  clear hx hy
  go_enter Tryd.func92, Tryd.ntmps92
  go_wp2
  go_loop [0, 1, 5, 6, 7] (fun a b o u i => ∃ j X Y O U : Nat, j ≤ 32 ∧ i = .int .i64 j ∧ a = .int .i64 X ∧ b = .int .i64 Y ∧ o = .int .i64 O ∧ u = .int .i64 U ∧ Xr x y j X Y O U) (fun _ _ _ _ i => 32 - (intOf i).toNat)
  case atStart => exact ⟨0, x, y, 0, 1, by omega, rfl, rfl, rfl, rfl, rfl, ⟨by rw [Nat.pow_zero, Nat.div_one], by rw [Nat.pow_zero, Nat.div_one], by rw [Nat.pow_zero, Nat.mod_one], rfl⟩⟩
  case round =>
    obtain ⟨j, X, Y, O, U, hj, rfl, rfl, rfl, rfl, rfl, hX⟩ := hrel
    by_cases hlt : j < 32
    · have hX1 : X ≤ x := by rw [← hX.a]; exact Nat.div_le_self _ _
      have hY1 : Y ≤ y := by rw [← hX.b]; exact Nat.div_le_self _ _
      have hU1 : U ≤ 2147483648 := by rw [← hX.d]; exact Nat.pow_le_pow_right (show 0 < 2 by decide) (show j ≤ 31 by omega)
      have hU0 : 0 < U := by rw [← hX.d]; exact Nat.pow_pos (by decide)
      have hO1 : O < U := by rw [← hX.c, ← hX.d]; exact Nat.mod_lt _ (Nat.pow_pos (by decide))
      have hx := HX.out
      have hy := HY.out
      unfold isW at hx hy
      have b1 : (X : Int) ≤ 4294967295 := by omega
      have b2 : (Y : Int) ≤ 4294967295 := by omega
      have b3 : (U : Int) ≤ 2147483648 := by omega
      have b4 : (O : Int) ≤ 2147483648 := by omega
      have hn := hX.step
      have HN := Lib.hid hn
      clear hX hn hX1 hY1 hU1 hU0 hO1 hx hy
      by_cases hb : X % 2 = Y % 2
      · have t : (((X : Int) % 2) != ((Y : Int) % 2)) = false := by
          have : (X : Int) % 2 = (Y : Int) % 2 := by omega
          rw [this]; simp
        have HB := Lib.hid hb
        clear hb
        go_wp2
        go_round
        case rel =>
          have h := HN.out
          rw [if_pos HB.out] at h
          exact ⟨j + 1, X / 2, Y / 2, O, 2 * U, by omega, by go_num, by go_num, by go_num, rfl, by go_num, h⟩
        case measure => simp [intOf]; omega
      · have t : (((X : Int) % 2) != ((Y : Int) % 2)) = true := by
          have : (X : Int) % 2 ≠ (Y : Int) % 2 := by omega
          simpa using this
        have HB := Lib.hid hb
        clear hb
        go_wp2
        go_round
        case rel =>
          have h := HN.out
          rw [if_neg HB.out] at h
          exact ⟨j + 1, X / 2, Y / 2, O + U, 2 * U, by omega, by go_num, by go_num, by go_num, by go_num, by go_num, h⟩
        case measure => simp [intOf]; omega
    · obtain rfl : j = 32 := by omega
      have hO : O = x ^^^ y := by rw [← hX.c, Nat.mod_eq_of_lt (lt_of_isW (isW_xor HX.out HY.out))]
      have HO := Lib.hid hO
      clear hO hX
      go_wp2
      go_ret
      exact ⟨by show Ending.returned (Value.int .i64 (O : Int)) = _; rw [HO.out], rfl⟩
end Go.Proofs.YtnfefkcfifnjnaaDoor
