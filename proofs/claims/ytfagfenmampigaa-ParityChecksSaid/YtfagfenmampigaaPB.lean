/- Plain facts: matrices of effects; octets with one bit turned around. -/
import Derived.Test.YtfagfenmampigaaPA
namespace Go.Proofs.Ytfagfenmampigaa
/-- What becomes of each bit alone. -/
def mat (f : Nat → Nat) : List Nat := (List.range 32).map fun b => f (2 ^ b)
theorem mat_length (f : Nat → Nat) : (mat f).length = 32 := by simp [mat]
theorem mat_get (f : Nat → Nat) {b : Nat} (h : b < 32) : (mat f).getD b 0 = f (2 ^ b) := by simp [mat, List.getD_eq_getElem?_getD, h]
def Lin (f : Nat → Nat) : Prop := ∀ a b, f (a ^^^ b) = f a ^^^ f b
theorem Lin.zero {f : Nat → Nat} (h : Lin f) : f 0 = 0 := by
  have := h 0 0
  rw [Nat.xor_self, Nat.xor_self] at this
  exact this
theorem mod_succ (n k : Nat) : n % 2 ^ (k + 1) = n % 2 ^ k ^^^ (if n / 2 ^ k % 2 = 1 then 2 ^ k else 0) := by
  apply Nat.eq_of_testBit_eq
  intro i
  rw [Nat.testBit_xor, Nat.testBit_mod_two_pow, Nat.testBit_mod_two_pow]
  have hb : n.testBit k = decide (n / 2 ^ k % 2 = 1) := by
    rw [Nat.testBit_eq_decide_div_mod_eq]
  by_cases h1 : n / 2 ^ k % 2 = 1
  · rw [if_pos h1, Nat.testBit_two_pow]
    have hk : n.testBit k = true := by rw [hb]; simpa using h1
    rcases Nat.lt_trichotomy i k with h | h | h
    · have a : i < k + 1 := by omega
      have b : ¬ k = i := by omega
      simp [h, a, b]
    · subst h; simp [hk]
    · have a : ¬ i < k + 1 := by omega
      have b : ¬ k = i := by omega
      have c : ¬ i < k := by omega
      simp [a, b, c]
  · rw [if_neg h1, Nat.zero_testBit]
    have hk : n.testBit k = false := by rw [hb]; simpa using h1
    rcases Nat.lt_trichotomy i k with h | h | h
    · have a : i < k + 1 := by omega
      simp [h, a]
    · subst h; simp [hk]
    · have a : ¬ i < k + 1 := by omega
      have c : ¬ i < k := by omega
      simp [a, c]
theorem lin_step {f : Nat → Nat} (h : Lin f) (n k : Nat) : f (n % 2 ^ (k + 1)) = if n / 2 ^ k % 2 = 1 then f (n % 2 ^ k) ^^^ f (2 ^ k) else f (n % 2 ^ k) := by
  rw [mod_succ, h]
  split
  · rfl
  · rw [h.zero, Nat.xor_zero]
theorem nst_lin (c k : Nat) : Lin (nst c k) := nst_xor c k
/-- Octets 0, by the powers. -/
theorem pow_odd (c n a k : Nat) (h : n % 2 = 1) : nst c (8 * 2 ^ k * n) a = nst c (8 * 2 ^ (k + 1) * (n / 2)) (nst c (8 * 2 ^ k) a) := by
  rw [← nst_add]
  congr 1
  rw [Nat.pow_succ]
  obtain ⟨m, hm⟩ : ∃ m, n = 2 * m + 1 := ⟨n / 2, by omega⟩
  subst hm
  rw [show (2 * m + 1) / 2 = m by omega]
  generalize 2 ^ k = p
  have : 8 * p * (2 * m + 1) = 8 * p * (2 * m) + 8 * p := by rw [Nat.mul_add, Nat.mul_one]
  have : 8 * p * (2 * m) = 8 * (p * 2) * m := by ac_rfl
  omega
theorem pow_even (c n a k : Nat) (h : n % 2 = 0) : nst c (8 * 2 ^ k * n) a = nst c (8 * 2 ^ (k + 1) * (n / 2)) a := by
  congr 1
  rw [Nat.pow_succ]
  obtain ⟨m, hm⟩ : ∃ m, n = 2 * m := ⟨n / 2, by omega⟩
  subst hm
  rw [show 2 * m / 2 = m by omega]
  ac_rfl
theorem pow_twice (c k a : Nat) : nst c (8 * 2 ^ (k + 1)) a = nst c (8 * 2 ^ k) (nst c (8 * 2 ^ k) a) := by
  rw [← nst_add]; congr 1; rw [Nat.pow_succ]; omega
theorem mul256_xor (x y : Nat) : 256 * (x ^^^ y) = 256 * x ^^^ 256 * y := by
  have := Nat.shiftLeft_xor_distrib (a := x) (b := y) (i := 8)
  simpa [Nat.shiftLeft_eq, Nat.mul_comm] using this
/-- One bit turned around. -/
theorem le_flip : ∀ (s : List UInt8) (j : Nat), j < 8 * s.length → le (s.set (j / 8) (s.getD (j / 8) 0 ^^^ UInt8.ofNat (2 ^ (j % 8)))) = le s ^^^ 2 ^ j
  | [], j, h => absurd h (by simp)
  | b :: s, j, h => by
    by_cases hj : j < 8
    · rw [show j / 8 = 0 by omega, show j % 8 = j by omega]
      simp only [List.set_cons_zero, List.getD_cons_zero, le, UInt8.toNat_xor]
      rw [UInt8.toNat_ofNat_of_lt' (by
        have : 2 ^ j < 2 ^ 8 := Nat.pow_lt_pow_right (by decide) hj
        simpa [UInt8.size] using this)]
      ac_rfl
    · obtain ⟨i, rfl⟩ : ∃ i, j = i + 8 := ⟨j - 8, by omega⟩
      have ih := le_flip s i (by simp at h; omega)
      rw [show (i + 8) / 8 = i / 8 + 1 by omega, show (i + 8) % 8 = i % 8 by omega]
      simp only [List.set_cons_succ, List.getD_cons_succ, le]
      rw [ih, mul256_xor, ← Nat.xor_assoc]
      congr 1
      rw [Nat.pow_add]; omega
/-- The first k bits of a change. -/
theorem bent_succ (x change bit k : Nat) : x ^^^ 2 ^ bit * (change % 2 ^ (k + 1)) = if change / 2 ^ k % 2 = 1 then (x ^^^ 2 ^ bit * (change % 2 ^ k)) ^^^ 2 ^ (bit + k) else x ^^^ 2 ^ bit * (change % 2 ^ k) := by
  rw [mod_succ]
  have hm : ∀ p q : Nat, 2 ^ bit * (p ^^^ q) = 2 ^ bit * p ^^^ 2 ^ bit * q := by
    intro p q
    have := Nat.shiftLeft_xor_distrib (a := p) (b := q) (i := bit)
    simpa [Nat.shiftLeft_eq, Nat.mul_comm] using this
  rw [hm]
  split
  · rw [← Nat.pow_add, Nat.xor_assoc]
  · simp
end Go.Proofs.Ytfagfenmampigaa
