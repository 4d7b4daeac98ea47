/- Contracts of the reference: turned, xor, number, octets, Right, Fits. -/
import Derived.Test.YtnfefkcfifnjnaaDoorSZ
import Derived.Deep.QuietTactic
import Derived.BigQuiet
namespace Go.Proofs.YtnfefkcfifnjnaaDoor
open Go.RowKit Go.ChangeShapes

/-- A word turned up by one place, k times. -/
def turnN (x : Nat) : Nat → Nat
  | 0 => x
  | k + 1 => if 2 * turnN x k ≥ 4294967296 then 2 * turnN x k - 4294967296 + 1 else 2 * turnN x k
theorem turnN_eq (x k : Nat) (hx : isW x) (hk : k ≤ 32) : turnN x k = x * 2 ^ k % 4294967296 + x / 2 ^ (32 - k) := by
  unfold isW at hx
  induction k with
  | zero =>
    show x = _
    rw [Nat.pow_zero, Nat.mul_one, Nat.mod_eq_of_lt (by omega), Nat.div_eq_of_lt (by omega), Nat.add_zero]
  | succ k ih =>
    have ih := ih (by omega)
    have e1 : 2 ^ (32 - k) = 2 * 2 ^ (32 - (k + 1)) := by rw [← Nat.pow_succ']; congr 1; omega
    have e2 : x * 2 ^ (k + 1) = 2 * (x * 2 ^ k) := by rw [Nat.pow_succ]; simp [Nat.mul_comm, Nat.mul_left_comm]
    have e3 : 2 ^ (32 - k) * 2 ^ k = 4294967296 := by rw [← Nat.pow_add, show 32 - k + k = 32 by omega]
    have hq : x * 2 ^ k / 4294967296 = x / 2 ^ (32 - k) := by rw [← e3, Nat.mul_div_mul_right _ _ (Nat.pow_pos (by decide))]
    obtain ⟨y, hy⟩ : ∃ y, x * 2 ^ k = y := ⟨_, rfl⟩
    obtain ⟨d, hd⟩ : ∃ d, x / 2 ^ (32 - (k + 1)) = d := ⟨_, rfl⟩
    have hd2 : x / 2 ^ (32 - k) = d / 2 := by rw [e1, Nat.mul_comm, ← Nat.div_div_eq_div_mul, hd]
    rw [turnN, ih, e2, hd, hd2, hy]
    rw [hd2, hy] at hq
    have hp : 2 ^ (32 - (k + 1)) * 2 ^ (k + 1) = 4294967296 := by rw [← Nat.pow_add, show 32 - (k + 1) + (k + 1) = 32 by omega]
    have hd3 : 2 * y / 4294967296 = d := by
      rw [← hd, ← hy, ← e2, ← hp, Nat.mul_div_mul_right _ _ (Nat.pow_pos (by decide))]
    have hyb : y < 4294967296 * 4294967296 := by
      rw [← hy]
      exact Nat.mul_lt_mul_of_lt_of_le (show x < 4294967296 by omega) (Nat.pow_le_pow_right (show 0 < 2 by decide) (show k ≤ 32 by omega)) (show 0 < 4294967296 by decide)
    have hr : y % 4294967296 = (x % 2 ^ (32 - k)) * 2 ^ k := by rw [← hy, ← e3, Nat.mul_mod_mul_right]
    have hQ : 2 ^ (31 - k) * 2 ^ k = 2147483648 := by rw [← Nat.pow_add, show 31 - k + k = 31 by omega]
    have hg : d / 2 < 2 ^ k := by
      rw [← hd2, Nat.div_lt_iff_lt_mul (Nat.pow_pos (by decide)), ← Nat.pow_add, show k + (32 - k) = 32 by omega]
      omega
    have hrr : y % 4294967296 < 2147483648 → y % 4294967296 + 2 ^ k ≤ 2147483648 := fun h => by
      rw [hr] at h ⊢
      rw [← hQ] at h ⊢
      have h2 : x % 2 ^ (32 - k) < 2 ^ (31 - k) := Nat.lt_of_mul_lt_mul_right h
      have h3 := Nat.mul_le_mul_right (2 ^ k) (Nat.succ_le_of_lt h2)
      rw [Nat.succ_mul] at h3
      exact h3
    obtain ⟨P, hP⟩ : ∃ P, 2 ^ k = P := ⟨_, rfl⟩
    rw [hP] at hg hrr
    clear hr hQ hp e1 e2 e3 hP hd hd2
    split <;> omega
theorem turnN_rotl (x k : Nat) (hx : isW x) (hk : k ≤ 32) (hk1 : 1 ≤ k) : turnN x k = rotl x k := by
  rw [turnN_eq x k hx hk]
  unfold rotl
  have h1 : x / 2 ^ (32 - k) < 2 ^ k := by
    rw [Nat.div_lt_iff_lt_mul (Nat.pow_pos (by decide)), ← Nat.pow_add, show k + (32 - k) = 32 by omega]
    unfold isW at hx; omega
  have h2 : x * 2 ^ k % 4294967296 = (x % 2 ^ (32 - k)) * 2 ^ k := by
    have e3 : 2 ^ (32 - k) * 2 ^ k = 4294967296 := by rw [← Nat.pow_add, show 32 - k + k = 32 by omega]
    rw [← e3, Nat.mul_mod_mul_right]
  rw [h2, Nat.mul_comm, ← Nat.two_pow_add_eq_or_of_lt h1]
theorem turnN_w (x k : Nat) (hx : isW x) : isW (turnN x k) := by
  unfold isW at *
  induction k with
  | zero => exact hx
  | succ k ih => rw [turnN]; split <;> omega
set_option maxRecDepth 100000 in
set_option maxHeartbeats 1000000 in
theorem rturned_raw (x k : Nat) (w : World) (hx : isW x) (hk : k ≤ 32) :
    Calls Tryd.prog 91 #[.int .i64 (x : Int), .int .i64 (k : Int)] w fun e w' => e = .returned (.int .i64 (turnN x k : Nat)) ∧ w = w' := by
  have HX := Lib.hid hx
  clear hx
  go_enter Tryd.func91, Tryd.ntmps91
  go_wp2
  go_loop [0, 5] (fun v i => ∃ j : Nat, j ≤ k ∧ i = .int .i64 j ∧ v = .int .i64 (turnN x j : Nat)) (fun _ i => k - (intOf i).toNat)
  case atStart => exact ⟨0, by omega, rfl, rfl⟩
  case round =>
    obtain ⟨j, hj, rfl, rfl⟩ := hrel
    by_cases hlt : j < k
    · have hw := turnN_w x j HX.out
      unfold isW at hw
      obtain ⟨y, hy⟩ : ∃ y, turnN x j = y := ⟨_, rfl⟩
      have hy2 : (y : Int) ≤ 4294967295 := by omega
      have hT : turnN x (j + 1) = if 2 * y ≥ 4294967296 then 2 * y - 4294967296 + 1 else 2 * y := by rw [turnN, hy]
      rw [hy]
      have HT := Lib.hid hT
      clear hw hy hT
      by_cases hb : (4294967296 : Int) ≤ 2 * (y : Int)
      · have e : ((turnN x (j + 1) : Nat) : Int) = 2 * (y : Int) - 4294967296 + 1 := by rw [HT.out, if_pos (by omega)]; omega
        have E := Lib.hid e
        clear e
        go_wp2
        go_round
        case rel => exact ⟨j + 1, by omega, by go_num, by rw [E.out]⟩
        case measure => simp [intOf]; omega
      · have e : ((turnN x (j + 1) : Nat) : Int) = 2 * (y : Int) := by rw [HT.out, if_neg (by omega)]; omega
        have E := Lib.hid e
        clear e
        have hb2 : 2 * (y : Int) < 4294967296 := by omega
        go_wp2
        go_round
        case rel => exact ⟨j + 1, by omega, by go_num, by rw [E.out]⟩
        case measure => simp [intOf]; omega
    · obtain rfl : j = k := by omega
      go_wp2
      go_ret
      exact ⟨rfl, rfl⟩
theorem rturned (x k : Nat) (w : World) (hx : isW x) (hk : k ≤ 32) (hk1 : 1 ≤ k) :
    Calls Tryd.prog 91 #[.int .i64 (x : Int), .int .i64 (k : Int)] w fun e w' => e = .returned (.int .i64 (rotl x k : Nat)) ∧ w = w' := by
  rw [← turnN_rotl x k hx hk hk1]; exact rturned_raw x k w hx hk
end Go.Proofs.YtnfefkcfifnjnaaDoor
