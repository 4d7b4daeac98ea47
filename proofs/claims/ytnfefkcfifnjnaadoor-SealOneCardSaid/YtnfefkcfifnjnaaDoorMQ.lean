/- Plain facts: octets of numbers, tags, boxes. -/
import Derived.Test.YtnfefkcfifnjnaaDoorMP
namespace Go.Proofs.YtnfefkcfifnjnaaDoor
open Go.RowKit

/-- The number of octets, the first one counting least. -/
def num : List UInt8 → Nat
  | [] => 0
  | b :: s => b.toNat + 256 * num s
theorem num_append (l m : List UInt8) : num (l ++ m) = num l + 256 ^ l.length * num m := by
  induction l with
  | nil => simp [num]
  | cons x l ih => rw [List.cons_append, num, num, ih, List.length_cons, Nat.pow_succ', Nat.mul_add, Nat.mul_assoc, Nat.add_assoc]
theorem num_lt (l : List UInt8) : num l < 256 ^ l.length := by
  induction l with
  | nil => simp [num]
  | cons a l ih =>
    have h2 := a.toNat_lt
    rw [num, List.length_cons, Nat.pow_succ']
    omega
theorem take_snocB (l : List UInt8) (k : Nat) (h : k < l.length) : l.take (k + 1) = l.take k ++ [l.getD k 0] := by
  rw [List.take_succ_eq_append_getElem h, List.getD_eq_getElem?_getD, List.getElem?_eq_getElem h]; rfl
theorem num_take (l : List UInt8) (k : Nat) (h : k < l.length) : num (l.take (k + 1)) = num (l.take k) + 256 ^ k * (l.getD k 0).toNat := by
  rw [take_snocB l k h, num_append, List.length_take, Nat.min_eq_left (by omega)]; simp [num]
/-- The limbs while octets go in: k of them. -/
def nbK (s : List UInt8) : Nat → List Nat
  | 0 => [0, 0, 0, 0, 0]
  | k + 1 => (nbK s k).set (8 * k / 26) ((nbK s k).getD (8 * k / 26) 0 ||| (s.getD k 0).toNat * 2 ^ (8 * k % 26))
theorem nbK_length (s : List UInt8) (k : Nat) : (nbK s k).length = 5 := by
  induction k with
  | zero => rfl
  | succ k ih => simp [nbK, ih]
theorem getD_setM (l : List Nat) (i j x : Nat) : (l.set i x).getD j 0 = if i = j ∧ j < l.length then x else l.getD j 0 := by
  simp only [List.getD_eq_getElem?_getD, List.getElem?_set]
  by_cases h : i = j
  · subst h
    by_cases h2 : i < l.length
    · simp [h2]
    · simp [h2]
  · simp [h]
theorem oct_sh (c : UInt8) (m : Nat) (h : m ≤ 25) : c.toNat * 2 ^ m < 2 ^ 33 := by
  have h1 := c.toNat_lt
  have h2 : 2 ^ m ≤ 2 ^ 25 := Nat.pow_le_pow_right (by decide) h
  have := Nat.mul_le_mul (show c.toNat ≤ 255 by omega) h2
  omega
theorem nbK_le (s : List UInt8) (k : Nat) : ∀ x ∈ nbK s k, x < 2 ^ 33 := by
  induction k with
  | zero => intro x hx; simp [nbK] at hx; omega
  | succ k ih =>
    intro x hx
    rcases List.mem_or_eq_of_mem_set hx with h | rfl
    · exact ih x h
    · refine Nat.or_lt_two_pow ?_ (oct_sh _ _ (by omega))
      rw [List.getD_eq_getElem?_getD]
      by_cases hi : 8 * k / 26 < (nbK s k).length
      · rw [List.getElem?_eq_getElem hi]; exact ih _ (List.getElem_mem hi)
      · rw [List.getElem?_eq_none (by omega)]; exact (by decide)
theorem nbK_inv (s : List UInt8) (k : Nat) (hk : k ≤ s.length) (h17 : k ≤ 17) :
    val (nbK s k) = num (s.take k) ∧ (∀ q, 8 * k ≤ 26 * q + 7 → (nbK s k).getD q 0 = 0) ∧ (nbK s k).getD (8 * k / 26) 0 < 2 ^ (8 * k % 26) := by
  induction k with
  | zero =>
    have h0 : ∀ q, (nbK s 0).getD q 0 = 0 := fun q => by
      simp only [nbK, List.getD_eq_getElem?_getD]
      match q with
      | 0 | 1 | 2 | 3 | 4 => rfl
      | q + 5 => rfl
    exact ⟨rfl, fun q _ => h0 q, by rw [h0]; exact Nat.pow_pos (by decide)⟩
  | succ k ih =>
    obtain ⟨h3, h2, h1⟩ := ih (by omega) (by omega)
    have hk5 : 8 * k / 26 < 5 := by omega
    have hor : (nbK s k).getD (8 * k / 26) 0 ||| (s.getD k 0).toNat * 2 ^ (8 * k % 26) = (nbK s k).getD (8 * k / 26) 0 + (s.getD k 0).toNat * 2 ^ (8 * k % 26) := by
      rw [Nat.or_comm, Nat.mul_comm (s.getD k 0).toNat, ← Nat.two_pow_add_eq_or_of_lt h1, Nat.add_comm]
    have hc := (s.getD k 0).toNat_lt
    rw [nbK, hor]
    refine ⟨?_, ?_, ?_⟩
    · rw [val_set _ _ _ _ (by rw [nbK_length]; exact hk5) rfl, h3, num_take s k (by omega)]
      congr 1
      rw [show (256 : Nat) = 2 ^ 8 from rfl, show (67108864 : Nat) = 2 ^ 26 from rfl, ← Nat.pow_mul, ← Nat.pow_mul, Nat.mul_left_comm, ← Nat.pow_add, Nat.mul_comm]
      congr 2
      omega
    · intro q hq
      rw [getD_setM, if_neg (by omega)]
      exact h2 q (by omega)
    · rw [getD_setM]
      by_cases e : 8 * k / 26 = 8 * (k + 1) / 26
      · rw [if_pos ⟨e, by rw [nbK_length]; omega⟩, show 8 * (k + 1) % 26 = 8 * k % 26 + 8 by omega, Nat.pow_add]
        have := Nat.mul_le_mul_right (2 ^ (8 * k % 26)) (show (s.getD k 0).toNat ≤ 255 by omega)
        omega
      · rw [if_neg (fun h => e h.1), h2 _ (by omega)]
        exact Nat.pow_pos (by decide)
theorem nbK_val (s : List UInt8) (h : s.length ≤ 17) : val (nbK s s.length) = num s := by
  rw [(nbK_inv s s.length (Nat.le_refl _) h).1, List.take_length]
/-- Octets of a number. -/
def octV (v n : Nat) : List UInt8 := (List.range n).map fun i => UInt8.ofNat (v / 256 ^ i % 256)
theorem octV_length (v n : Nat) : (octV v n).length = n := by simp [octV]
theorem octV_succ (v n : Nat) : octV v (n + 1) = octV v n ++ [UInt8.ofNat (v / 256 ^ n % 256)] := by simp [octV, List.range_succ]
theorem octV_num (l : List UInt8) (n : Nat) (h : n ≤ l.length) : octV (num l) n = l.take n := by
  induction n with
  | zero => simp [octV]
  | succ n ih =>
    rw [octV_succ, ih (by omega), take_snocB l n (by omega)]
    congr 2
    have e : num l = num (l.take n) + 256 ^ n * num (l.drop n) := by
      have := num_append (l.take n) (l.drop n)
      rwa [List.take_append_drop, List.length_take, Nat.min_eq_left (by omega)] at this
    have hl := num_lt (l.take n)
    rw [List.length_take, Nat.min_eq_left (by omega)] at hl
    have hd : l.drop n = l.getD n 0 :: l.drop (n + 1) := by
      rw [List.drop_eq_getElem_cons (by omega), List.getD_eq_getElem?_getD, List.getElem?_eq_getElem (by omega)]; rfl
    have hc := (l.getD n 0).toNat_lt
    rw [e, Nat.add_mul_div_left _ _ (Nat.pow_pos (by decide)), Nat.div_eq_of_lt hl, Nat.zero_add, hd, num, Nat.add_mul_mod_self_left, Nat.mod_eq_of_lt (by omega)]
    simp
/-- What is held behind k limbs and j octets. -/
def hld (v k j : Nat) : Nat := v % 67108864 ^ k / 256 ^ j
theorem pow_26 (k j : Nat) (h : 8 * j ≤ 26 * k) : 67108864 ^ k = 256 ^ j * 2 ^ (26 * k - 8 * j) := by
  rw [show (256 : Nat) = 2 ^ 8 from rfl, show (67108864 : Nat) = 2 ^ 26 from rfl, ← Nat.pow_mul, ← Nat.pow_mul, ← Nat.pow_add]
  congr 1; omega
theorem hld_lt (v k j : Nat) (h : 8 * j ≤ 26 * k) : hld v k j < 2 ^ (26 * k - 8 * j) := by
  unfold hld
  rw [Nat.div_lt_iff_lt_mul (Nat.pow_pos (by decide)), Nat.mul_comm, ← pow_26 k j h]
  exact Nat.mod_lt _ (Nat.pow_pos (by decide))
theorem hld_limb (v k j : Nat) (h : 8 * j ≤ 26 * k) : hld v k j ||| (v / 67108864 ^ k % 67108864) * 2 ^ (26 * k - 8 * j) = hld v (k + 1) j := by
  rw [Nat.or_comm, Nat.mul_comm, ← Nat.two_pow_add_eq_or_of_lt (hld_lt v k j h)]
  unfold hld
  rw [Nat.pow_succ, Nat.mod_mul]
  conv => rhs; rw [pow_26 k j h, Nat.mul_assoc, Nat.add_mul_div_left _ _ (Nat.pow_pos (by decide))]
  rw [← pow_26 k j h, Nat.add_comm]
theorem hld_oct (v k j : Nat) (h : 8 * (j + 1) ≤ 26 * k) : hld v k j % 256 = v / 256 ^ j % 256 ∧ hld v k j / 256 = hld v k (j + 1) := by
  unfold hld
  constructor
  · rw [pow_26 k (j + 1) h, Nat.pow_succ, Nat.mul_assoc, Nat.mod_mul_right_div_self, Nat.mod_mul_right_mod]
  · rw [Nat.div_div_eq_div_mul, ← Nat.pow_succ]
/-- A key's first half, changed: k octets each. -/
def clA (l : List UInt8) : Nat → List UInt8
  | 0 => l
  | k + 1 => (clA l k).set (3 + 4 * k) ((clA l k).getD (3 + 4 * k) 0 &&& 15)
def clB (l : List UInt8) : Nat → List UInt8
  | 0 => l
  | k + 1 => (clB l k).set (4 + 4 * k) ((clB l k).getD (4 + 4 * k) 0 &&& 252)
theorem clA_length (l : List UInt8) (k : Nat) : (clA l k).length = l.length := by
  induction k with
  | zero => rfl
  | succ k ih => simp [clA, ih]
theorem clB_length (l : List UInt8) (k : Nat) : (clB l k).length = l.length := by
  induction k with
  | zero => rfl
  | succ k ih => simp [clB, ih]
/-- The factor of a key. -/
def facN (k : List UInt8) : Nat := num (clB (clA (k.take 16) 4) 3)
/-- The sum behind k pieces. -/
def accN (r : Nat) (s : List UInt8) : Nat → Nat
  | 0 => 0
  | k + 1 => (accN r s k + num ((s.drop (16 * k)).take 16 ++ [1])) * r % pP
/-- The tag. -/
def tagO (k s : List UInt8) : List UInt8 := octV (accN (facN k) s ((s.length + 15) / 16) + num (k.drop 16)) 16
theorem tagO_length (k s : List UInt8) : (tagO k s).length = 16 := octV_length _ _
theorem accN_lt (r : Nat) (s : List UInt8) (k : Nat) : accN r s k < pP := by
  cases k with
  | zero => exact (show 0 < pP by decide)
  | succ k => exact Nat.mod_lt _ (by decide)
theorem num_17 (l : List UInt8) (h : l.length ≤ 16) : num (l ++ [1]) < 680564733841876926926749214863536422912 := by
  have h1 := num_lt l
  have h2 : 256 ^ l.length ≤ 256 ^ 16 := Nat.pow_le_pow_right (by decide) h
  rw [num_append]
  simp [num]
  omega
theorem num_16 (l : List UInt8) (h : l.length ≤ 16) : num l < 340282366920938463463374607431768211456 := by
  have h1 := num_lt l
  have h2 : 256 ^ l.length ≤ 256 ^ 16 := Nat.pow_le_pow_right (by decide) h
  omega
/-- Octets 0 up to a multiple of 16. -/
def padO (s : List UInt8) : List UInt8 := s ++ List.replicate ((16 - s.length % 16) % 16) 0
/-- What the tag of a box is made of. -/
def covO (extra hidden : List UInt8) : List UInt8 := padO extra ++ padO hidden ++ (octV extra.length 8 ++ octV hidden.length 8)
end Go.Proofs.YtnfefkcfifnjnaaDoor
