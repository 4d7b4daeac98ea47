/- Bits of hosts: plain facts. -/
import Derived.Test.YtjoogiabimiioaaGreatDoorA
namespace Go.Proofs.YtjoogiabimiioaaGreatDoor
open Go.RowKit Go.ChangeShapes
/-- Bit i of octets, the greatest bit of the first one first. -/
def bitL (l : List UInt8) (i : Nat) : Bool := (l.getD (i / 8) 0).toNat.testBit (7 - i % 8)
theorem testBit_big (x : UInt8) (j : Nat) (h : 8 ≤ j) : x.toNat.testBit j = false :=
  Nat.testBit_lt_two_pow (Nat.lt_of_lt_of_le x.toNat_lt (Nat.pow_le_pow_right (by decide) h))
theorem u8_bits (x y : UInt8) (h : ∀ j, j < 8 → x.toNat.testBit j = y.toNat.testBit j) : x = y := by
  apply UInt8.toNat_inj.1
  apply Nat.eq_of_testBit_eq
  intro j
  rcases Nat.lt_or_ge j 8 with hj | hj
  · exact h j hj
  · rw [testBit_big x j hj, testBit_big y j hj]
theorem xor_div (x y : UInt8) (k : Nat) : (((x ^^^ y).toNat / 2 ^ k == 0) = true) ↔ ∀ j, k ≤ j → j < 8 → x.toNat.testBit j = y.toNat.testBit j := by
  rw [beq_iff_eq, ← Nat.shiftRight_eq_div_pow]
  constructor
  · intro h j hk hj
    have h2 := congrArg (fun n => n.testBit (j - k)) h
    simp only [Nat.testBit_shiftRight, Nat.zero_testBit, UInt8.toNat_xor, Nat.testBit_xor] at h2
    rw [show k + (j - k) = j by omega] at h2
    cases h3 : x.toNat.testBit j <;> cases h4 : y.toNat.testBit j <;> simp_all
  · intro h
    apply Nat.eq_of_testBit_eq
    intro j
    rw [Nat.testBit_shiftRight, Nat.zero_testBit, UInt8.toNat_xor, Nat.testBit_xor]
    rcases Nat.lt_or_ge (k + j) 8 with hj | hj
    · rw [h (k + j) (by omega) hj]; simp
    · rw [testBit_big x _ hj, testBit_big y _ hj]; rfl
theorem take_bits (l m : List UInt8) (q : Nat) (hl : q ≤ l.length) (hm : q ≤ m.length) : l.take q = m.take q ↔ ∀ i, i < 8 * q → bitL l i = bitL m i := by
  constructor
  · intro h i hi
    have hq : i / 8 < q := by omega
    have e : l.getD (i / 8) 0 = m.getD (i / 8) 0 := by
      have h1 : (l.take q).getD (i / 8) 0 = (m.take q).getD (i / 8) 0 := by rw [h]
      simp only [List.getD_eq_getElem?_getD, List.getElem?_take, hq, if_true] at h1
      simpa only [List.getD_eq_getElem?_getD] using h1
    unfold bitL
    rw [e]
  · intro h
    apply list_ext_getD
    · simp only [List.length_take]; omega
    · intro i hi
      have hi2 : i < q := by simp only [List.length_take] at hi; omega
      simp only [List.getD_eq_getElem?_getD, List.getElem?_take, hi2, if_true]
      rw [← List.getD_eq_getElem?_getD, ← List.getD_eq_getElem?_getD]
      apply u8_bits
      intro j hj
      have := h (8 * i + (7 - j)) (by omega)
      unfold bitL at this
      rw [show (8 * i + (7 - j)) / 8 = i by omega, show 7 - (8 * i + (7 - j)) % 8 = j by omega] at this
      exact this
theorem wiB_iff (S P : ByteArray) (n : Nat) (hn : n ≤ 8 * P.size) : wiB S P n = true ↔ S.size = P.size ∧ ∀ i, i < n → bitL S.data.toList i = bitL P.data.toList i := by
  unfold wiB
  rw [Bool.and_eq_true, Bool.and_eq_true, beq_iff_eq, beq_iff_eq]
  constructor
  · rintro ⟨⟨hs, ht⟩, hr⟩
    have hlS : S.data.toList.length = S.size := rfl
    have hlP : P.data.toList.length = P.size := rfl
    refine ⟨hs, fun i hi => ?_⟩
    rw [Lib.toList_data, Lib.toList_data, ext_list, ext_list, List.drop_zero, List.drop_zero, Nat.sub_zero] at ht
    have h1 := (take_bits S.data.toList P.data.toList (n / 8) (by omega) (by omega)).1 ht
    rcases Nat.lt_or_ge i (8 * (n / 8)) with h | h
    · exact h1 i h
    · rw [Bool.or_eq_true] at hr
      rcases hr with h0 | h0
      · rw [beq_iff_eq] at h0; omega
      · have h2 := (xor_div _ _ _).1 h0 (7 - i % 8) (by omega) (by omega)
        unfold bitL
        rw [show i / 8 = n / 8 by omega]
        exact h2
  · rintro ⟨hs, hb⟩
    have hlS : S.data.toList.length = S.size := rfl
    have hlP : P.data.toList.length = P.size := rfl
    refine ⟨⟨hs, ?_⟩, ?_⟩
    · rw [Lib.toList_data, Lib.toList_data, ext_list, ext_list, List.drop_zero, List.drop_zero, Nat.sub_zero]
      exact (take_bits S.data.toList P.data.toList (n / 8) (by omega) (by omega)).2 fun i hi => hb i (by omega)
    · rw [Bool.or_eq_true]
      by_cases h0 : n % 8 = 0
      · exact .inl (beq_iff_eq.2 h0)
      · refine .inr ((xor_div _ _ _).2 fun j hk hj => ?_)
        have := hb (8 * (n / 8) + (7 - j)) (by omega)
        unfold bitL at this
        rw [show (8 * (n / 8) + (7 - j)) / 8 = n / 8 by omega, show 7 - (8 * (n / 8) + (7 - j)) % 8 = j by omega] at this
        exact this
theorem wiB_less (S P : ByteArray) (k n : Nat) (hk : k ≤ n) (hn : n ≤ 8 * P.size) (h : wiB S P n = true) : wiB S P k = true := by
  rw [wiB_iff _ _ _ (by omega)] at *
  exact ⟨h.1, fun i hi => h.2 i (by omega)⟩
theorem wiB_self (S : ByteArray) (n : Nat) (hn : n ≤ 8 * S.size) : wiB S S n = true := (wiB_iff _ _ _ hn).2 ⟨rfl, fun _ _ => rfl⟩
theorem wiB_zero (S P : ByteArray) : wiB S P 0 = (S.size == P.size) := by
  rw [Bool.eq_iff_iff, wiB_iff _ _ _ (Nat.zero_le _), beq_iff_eq]
  exact ⟨fun h => h.1, fun h => ⟨h, fun i hi => absurd hi (Nat.not_lt_zero i)⟩⟩
/-- Octets with one bit changed. -/
def flL (l : List UInt8) (i : Nat) : List UInt8 := l.set (i / 8) (l.getD (i / 8) 0 ^^^ UInt8.ofNat (2 ^ (7 - i % 8)))
theorem flL_length (l : List UInt8) (i : Nat) : (flL l i).length = l.length := List.length_set
theorem pow_small (t : Nat) (h : t < 8) : 2 ^ t < 256 := Nat.pow_lt_pow_right (a := 2) (n := 8) (by decide) h
theorem bit_flip (x : UInt8) (t j : Nat) (ht : t < 8) : (x ^^^ UInt8.ofNat (2 ^ t)).toNat.testBit j = (x.toNat.testBit j ^^ decide (t = j)) := by
  rw [UInt8.toNat_xor, Nat.testBit_xor, UInt8.toNat_ofNat_of_lt' (pow_small t ht), Nat.testBit_two_pow]
theorem bitL_flL (l : List UInt8) (i j : Nat) (hi : i < 8 * l.length) : bitL (flL l i) j = (bitL l j ^^ decide (i = j)) := by
  unfold bitL flL
  by_cases h : i / 8 = j / 8
  · rw [h, List.getD_eq_getElem?_getD, List.getElem?_set_self (by omega)]
    simp only [Option.getD_some]
    rw [bit_flip _ _ _ (by omega)]
    congr 1
    by_cases h2 : i = j
    · subst h2; simp
    · rw [decide_eq_false h2, decide_eq_false (by omega)]
  · rw [List.getD_eq_getElem?_getD, List.getElem?_set_ne h, ← List.getD_eq_getElem?_getD, decide_eq_false (by omega), Bool.xor_false]
theorem wiB_bent (l : List UInt8) (i : Nat) (hi : i < 8 * l.length) : wiB (bs l) (bs (flL l i)) i = true ∧ wiB (bs l) (bs (flL l i)) (i + 1) = false := by
  have hs : (bs (flL l i)).size = l.length := by rw [bs_size, flL_length]
  constructor
  · rw [wiB_iff _ _ _ (by omega)]
    refine ⟨by rw [hs]; rfl, fun j hj => ?_⟩
    rw [bs_data, bs_data, bitL_flL l i j hi, decide_eq_false (by omega), Bool.xor_false]
  · rw [← Bool.not_eq_true, wiB_iff _ _ _ (by omega)]
    rintro ⟨_, h⟩
    have := h i (by omega)
    rw [bs_data, bs_data, bitL_flL l i i hi, decide_eq_true rfl] at this
    revert this
    cases bitL l i <;> decide
end Go.Proofs.YtjoogiabimiioaaGreatDoor
