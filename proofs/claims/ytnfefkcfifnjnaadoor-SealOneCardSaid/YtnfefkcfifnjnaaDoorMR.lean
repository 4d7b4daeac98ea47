/- Plain facts of the reference: numbers as octets, the least one first. -/
import Derived.Test.YtnfefkcfifnjnaaDoorMQ
namespace Go.Proofs.YtnfefkcfifnjnaaDoor
open Go.RowKit

/-- The number of a list of octets. -/
def vo : List Nat → Nat
  | [] => 0
  | x :: l => x + 256 * vo l
def Dg (l : List Nat) : Prop := ∀ x ∈ l, x < 256
theorem Dg.nil : Dg [] := fun _ h => absurd h List.not_mem_nil
theorem Dg.snoc {l : List Nat} (h : Dg l) {x : Nat} (hx : x < 256) : Dg (l ++ [x]) := fun y hy => (List.mem_append.1 hy).elim (h y) (fun e => by rw [List.mem_singleton.1 e]; exact hx)
theorem Dg.set {l : List Nat} (h : Dg l) (i : Nat) {x : Nat} (hx : x < 256) : Dg (l.set i x) := fun y hy => by
  rcases List.mem_or_eq_of_mem_set hy with h1 | rfl
  · exact h y h1
  · exact hx
theorem Dg.get {l : List Nat} (h : Dg l) (i : Nat) : l.getD i 0 < 256 := by
  rw [List.getD_eq_getElem?_getD]
  by_cases hi : i < l.length
  · rw [List.getElem?_eq_getElem hi]; exact h _ (List.getElem_mem hi)
  · rw [List.getElem?_eq_none (by omega)]; exact (by decide)
theorem vo_append (l m : List Nat) : vo (l ++ m) = vo l + 256 ^ l.length * vo m := by
  induction l with
  | nil => simp [vo]
  | cons x l ih => rw [List.cons_append, vo, vo, ih, List.length_cons, Nat.pow_succ', Nat.mul_add, Nat.mul_assoc, Nat.add_assoc]
theorem vo_snoc (l : List Nat) (x : Nat) : vo (l ++ [x]) = vo l + 256 ^ l.length * x := by rw [vo_append]; simp [vo]
theorem vo_set (l : List Nat) (i x : Nat) (h : i < l.length) : vo (l.set i x) + 256 ^ i * l.getD i 0 = vo l + 256 ^ i * x := by
  induction l generalizing i with
  | nil => exact absurd h (by simp)
  | cons a l ih =>
    cases i with
    | zero => rw [List.set_cons_zero, vo, vo, Nat.pow_zero, Nat.one_mul, Nat.one_mul]; show x + 256 * vo l + a = _; omega
    | succ i =>
      have := ih i (by simpa using h)
      rw [List.set_cons_succ, vo, vo, List.getD_cons_succ, Nat.pow_succ', Nat.mul_assoc, Nat.mul_assoc]
      omega
theorem vo_lt (l : List Nat) (h : Dg l) : vo l < 256 ^ l.length := by
  induction l with
  | nil => simp [vo]
  | cons a l ih =>
    have h1 := ih (fun x hx => h x (List.mem_cons_of_mem _ hx))
    have h2 := h a List.mem_cons_self
    rw [vo, List.length_cons, Nat.pow_succ']
    omega
theorem vo_take (l : List Nat) (k : Nat) : vo (l.take (k + 1)) = vo (l.take k) + 256 ^ k * l.getD k 0 := by
  by_cases h : k < l.length
  · rw [List.take_succ_eq_append_getElem h, vo_snoc, List.length_take, Nat.min_eq_left (by omega), List.getD_eq_getElem?_getD, List.getElem?_eq_getElem h]; rfl
  · rw [List.take_of_length_le (by omega), List.take_of_length_le (by omega), List.getD_eq_getElem?_getD, List.getElem?_eq_none (by omega)]
    simp
theorem vo_take_all (l : List Nat) (k : Nat) (h : l.length ≤ k) : vo (l.take k) = vo l := by rw [List.take_of_length_le h]
/-- A step of a sum. -/
theorem sum_step (P Q x y c o : Nat) (h : o + P * c = Q) : o + P * ((c + x + y) % 256) + P * 256 * ((c + x + y) / 256) = Q + P * x + P * y := by
  have e : P * ((c + x + y) % 256) + P * 256 * ((c + x + y) / 256) = P * (c + x + y) := by
    rw [Nat.mul_assoc, ← Nat.mul_add]; congr 1; omega
  rw [Nat.add_assoc, e, Nat.mul_add, Nat.mul_add]
  omega
/-- A step of a long division by 2^130 - 5, bit by bit. -/
theorem bit_step (a i : Nat) : a / 2 ^ i = 2 * (a / 2 ^ (i + 1)) + a / 2 ^ i % 2 := by
  rw [Nat.pow_succ, ← Nat.div_div_eq_div_mul]; omega
theorem rest_step (v b r : Nat) (hr : r = v % pP) (hb : b ≤ 1) : (if 2 * r + b < pP then 2 * r + b else 2 * r + b - pP) = (2 * v + b) % pP := by
  unfold pP at *
  split <;> omega
theorem vo_bit (l : List Nat) (hd : Dg l) (i : Nat) : vo l / 2 ^ i % 2 = l.getD (i / 8) 0 / 2 ^ (i % 8) % 2 := by
  induction l generalizing i with
  | nil => simp [vo]
  | cons a l ih =>
    have h2 := hd a List.mem_cons_self
    by_cases h : i < 8
    · rw [show i / 8 = 0 by omega, show i % 8 = i by omega, List.getD_cons_zero, vo]
      have : i = 0 ∨ i = 1 ∨ i = 2 ∨ i = 3 ∨ i = 4 ∨ i = 5 ∨ i = 6 ∨ i = 7 := by omega
      rcases this with rfl | rfl | rfl | rfl | rfl | rfl | rfl | rfl <;> omega
    · obtain ⟨j, rfl⟩ : ∃ j, i = j + 8 := ⟨i - 8, by omega⟩
      rw [show (j + 8) / 8 = j / 8 + 1 by omega, show (j + 8) % 8 = j % 8 by omega, List.getD_cons_succ, ← ih (fun x hx => hd x (List.mem_cons_of_mem _ hx)), vo, Nat.pow_add, Nat.mul_comm (2 ^ j), ← Nat.div_div_eq_div_mul, show (a + 256 * vo l) / 2 ^ 8 = vo l by omega]
/-- Numbers by their greatest digits. -/
theorem vo_top (l : List Nat) (k : Nat) : vo l = vo (l.take k) + 256 ^ k * vo (l.drop k) := by
  by_cases h : k ≤ l.length
  · have := vo_append (l.take k) (l.drop k)
    rwa [List.take_append_drop, List.length_take, Nat.min_eq_left h] at this
  · rw [List.take_of_length_le (by omega), List.drop_of_length_le (by omega)]; simp [vo]
theorem vo_drop (l : List Nat) (k : Nat) : vo (l.drop k) = l.getD k 0 + 256 * vo (l.drop (k + 1)) := by
  by_cases h : k < l.length
  · rw [List.drop_eq_getElem_cons h, vo, List.getD_eq_getElem?_getD, List.getElem?_eq_getElem h]; rfl
  · rw [List.drop_of_length_le (by omega), List.drop_of_length_le (by omega), List.getD_eq_getElem?_getD, List.getElem?_eq_none (by omega)]; simp [vo]
theorem less_at (a b : List Nat) (ha : Dg a) (hb : Dg b) (k : Nat) (h : vo (a.drop (k + 1)) = vo (b.drop (k + 1))) (hne : a.getD k 0 ≠ b.getD k 0) : vo a < vo b ↔ a.getD k 0 < b.getD k 0 := by
  have hta : vo (a.take k) < 256 ^ k := Nat.lt_of_lt_of_le (vo_lt _ (fun x hx => ha x (List.mem_of_mem_take hx))) (Nat.pow_le_pow_right (by decide) (by rw [List.length_take]; omega))
  have htb : vo (b.take k) < 256 ^ k := Nat.lt_of_lt_of_le (vo_lt _ (fun x hx => hb x (List.mem_of_mem_take hx))) (Nat.pow_le_pow_right (by decide) (by rw [List.length_take]; omega))
  rw [vo_top a k, vo_top b k, vo_drop a k, vo_drop b k, h]
  generalize a.getD k 0 = x at *
  generalize b.getD k 0 = y at *
  generalize vo (a.take k) = p at *
  generalize vo (b.take k) = q at *
  generalize vo (b.drop (k + 1)) = z
  generalize 256 ^ k = P at *
  rw [Nat.mul_add, Nat.mul_add]
  constructor
  · intro h1
    rcases Nat.lt_or_ge x y with h2 | h2
    · exact h2
    · exfalso
      have : P * (y + 1) ≤ P * x := Nat.mul_le_mul_left _ (by omega)
      rw [Nat.mul_add] at this
      omega
  · intro h1
    have : P * (x + 1) ≤ P * y := Nat.mul_le_mul_left _ (by omega)
    rw [Nat.mul_add] at this
    omega
theorem vo_num (s : List UInt8) : vo (s.map (·.toNat)) = num s := by
  induction s with
  | nil => rfl
  | cons a s ih => rw [List.map_cons, vo, num, ih]
theorem vo_oct (l : List Nat) (hd : Dg l) (i : Nat) : l.getD i 0 = vo l / 256 ^ i % 256 := by
  induction l generalizing i with
  | nil => simp [vo]
  | cons a l ih =>
    have h2 := hd a List.mem_cons_self
    cases i with
    | zero => rw [List.getD_cons_zero, vo, Nat.pow_zero, Nat.div_one]; omega
    | succ i => rw [List.getD_cons_succ, ih (fun x hx => hd x (List.mem_cons_of_mem _ hx)), vo, Nat.pow_succ', ← Nat.div_div_eq_div_mul, show (a + 256 * vo l) / 256 = vo l by omega]
end Go.Proofs.YtnfefkcfifnjnaaDoor
