/- Plain facts on hexadecimal texts: there and back, cut short, in great letters. -/
import Derived.Test.YtebaagmbnbbflaaDoorQ
import Derived.Lib.Case
namespace Go.Proofs.YtebaagmbnbbflaaDoor
open Go.RowKit

theorem hexL_even (l : List UInt8) : ∀ k (h : k < l.length), (hexL l).getD (2 * k) 0 = dgB ((l[k]).toNat / 16) ∧ (hexL l).getD (2 * k + 1) 0 = dgB ((l[k]).toNat % 16) := by
  induction l with
  | nil => intro k h; simp at h
  | cons b l ih =>
    intro k h
    have e : hexL (b :: l) = dgB (b.toNat / 16) :: dgB (b.toNat % 16) :: hexL l := rfl
    rw [e]
    cases k with
    | zero => exact ⟨rfl, rfl⟩
    | succ k =>
      have := ih k (by simpa using h)
      rw [show 2 * (k + 1) = 2 * k + 1 + 1 by omega, show 2 * k + 1 + 1 + 1 = (2 * k + 1) + 1 + 1 by omega]
      simpa using this
def hexB (z : ByteArray) : ByteArray := ⟨(hexL z.data.toList).toArray⟩
theorem hexB_size (z : ByteArray) : (hexB z).size = 2 * z.size := by
  show (hexL z.data.toList).toArray.size = _
  rw [List.size_toArray, hexL_length]
  simp
theorem hexB_list (z : ByteArray) : (hexB z).data.toList = hexL z.data.toList := by simp [hexB]
theorem hexB_at (z : ByteArray) (k : Nat) (h : k < z.size) : tAt (hexB z) (2 * k) = (dgB (tAt z k / 16)).toNat ∧ tAt (hexB z) (2 * k + 1) = (dgB (tAt z k % 16)).toNat := by
  have h' : k < z.data.toList.length := by simpa using h
  obtain ⟨a, b⟩ := hexL_even z.data.toList k h'
  have e : (z.data.toList[k]).toNat = tAt z k := by
    unfold tAt
    rw [List.getD_eq_getElem?_getD, List.getElem?_eq_getElem h']
    rfl
  unfold tAt at e ⊢
  rw [hexB_list, a, b, e]
  exact ⟨rfl, rfl⟩
theorem dg_ok {i : Nat} (h : i < 16) : isDg (((dgB i).toNat : Nat) : Int) = true ∧ vlDg (((dgB i).toNat : Nat) : Int) = i := by
  rw [dgB_toNat h]; exact dg_eq h _ rfl
theorem hexB_pair (z : ByteArray) (k : Nat) (h : k < z.size) : pairOk (hexB z) k ∧ unB (hexB z) k = z[k] := by
  obtain ⟨a, b⟩ := hexB_at z k h
  have ht := tAt_lt z k
  obtain ⟨i1, v1⟩ := dg_ok (i := tAt z k / 16) (by omega)
  obtain ⟨i2, v2⟩ := dg_ok (i := tAt z k % 16) (by omega)
  refine ⟨⟨by rw [a]; exact i1, by rw [b]; exact i2⟩, ?_⟩
  unfold unB
  rw [a, b, v1, v2, Int.toNat_natCast, Int.toNat_natCast]
  apply UInt8.toNat_inj.1
  rw [UInt8.toNat_ofNat_of_lt' (by simp [UInt8.size]; omega), tAt_eq z k h]
  omega
theorem hexB_ok (z : ByteArray) : okUn (hexB z) := by
  refine ⟨by rw [hexB_size]; omega, fun k hk => (hexB_pair z k ?_).1⟩
  rw [hexB_size] at hk; omega
theorem hexB_back (z : ByteArray) : (⟨(unL (hexB z) ((hexB z).size / 2)).toArray⟩ : ByteArray) = z := by
  have hs : (hexB z).size / 2 = z.size := by rw [hexB_size]; omega
  rw [hs]
  apply ByteArray.ext
  apply Array.ext
  · show (unL (hexB z) z.size).toArray.size = _
    rw [List.size_toArray, unL_length]; rfl
  · intro i h1 h2
    have hi : i < z.size := h2
    have := (hexB_pair z i hi).2
    show (unL (hexB z) z.size).toArray[i] = _
    simp only [List.getElem_toArray, unL, List.getElem_map, List.getElem_range]
    exact this
/-- A text that is cut short by one is none. -/
theorem cut_bad (z : ByteArray) (h : 0 < z.size) : ¬ okUn ((hexB z).extract 0 ((hexB z).size - 1)) := fun hk => by
  have := hk.1
  rw [ByteArray.size_extract, hexB_size] at this
  omega
def upB (z : ByteArray) : ByteArray := ⟨(Lib.toUpperA (hexB z).data.toList).toArray⟩
theorem upB_size (z : ByteArray) : (upB z).size = 2 * z.size := by
  show (Lib.toUpperA (hexB z).data.toList).toArray.size = _
  rw [List.size_toArray, Lib.toUpperA, List.length_map, hexB_list, hexL_length]
  simp
theorem upB_at (z : ByteArray) (j : Nat) (h : j < 2 * z.size) : ∃ i, i < 16 ∧ tAt (hexB z) j = (dgB i).toNat ∧ tAt (upB z) j = (Lib.upperB (dgB i)).toNat := by
  have hl : (hexB z).data.toList.length = 2 * z.size := by rw [hexB_list, hexL_length]; simp
  have hu : tAt (upB z) j = (Lib.upperB ((hexB z).data.toList[j]'(by omega))).toNat := by
    have e : (upB z).data.toList = (hexB z).data.toList.map Lib.upperB := by simp [upB, Lib.toUpperA]
    unfold tAt
    rw [e, List.getD_eq_getElem?_getD, List.getElem?_map, List.getElem?_eq_getElem (by omega)]
    rfl
  have hh : tAt (hexB z) j = ((hexB z).data.toList[j]'(by omega)).toNat := by
    unfold tAt
    rw [List.getD_eq_getElem?_getD, List.getElem?_eq_getElem (by omega)]
    rfl
  have ht := tAt_lt z (j / 2)
  obtain ⟨a, b⟩ := hexB_at z (j / 2) (by omega)
  rcases Nat.mod_two_eq_zero_or_one j with hm | hm
  · rw [show 2 * (j / 2) = j by omega] at a
    refine ⟨tAt z (j / 2) / 16, by omega, a, ?_⟩
    rw [hu, ← UInt8.toNat_inj.1 (hh.symm.trans a)]
  · rw [show 2 * (j / 2) + 1 = j by omega] at b
    refine ⟨tAt z (j / 2) % 16, by omega, b, ?_⟩
    rw [hu, ← UInt8.toNat_inj.1 (hh.symm.trans b)]
theorem upper_cases (i : Nat) (h : i < 16) : Lib.upperB (dgB i) = dgB i ∨ isDg (((Lib.upperB (dgB i)).toNat : Nat) : Int) = false := by
  have : ∀ i : Fin 16, Lib.upperB (dgB i.1) = dgB i.1 ∨ isDg (((Lib.upperB (dgB i.1)).toNat : Nat) : Int) = false := by decide +kernel
  exact this ⟨i, h⟩
/-- A text in great letters is none, unless it has no letter. -/
theorem up_bad (z : ByteArray) (h : ¬ upB z = hexB z) : ¬ okUn (upB z) := fun hk => by
  apply h
  have hs : (upB z).size = (hexB z).size := by rw [upB_size, hexB_size]
  apply ByteArray.ext
  apply Array.ext
  · exact hs
  · intro j h1 h2
    have hj : j < 2 * z.size := by rw [← hexB_size]; exact h2
    obtain ⟨i, hi, e1, e2⟩ := upB_at z j hj
    have q1 := tAt_eq (upB z) j (by rw [hs]; exact h2)
    have q2 := tAt_eq (hexB z) j h2
    apply UInt8.toNat_inj.1
    show (upB z)[j].toNat = (hexB z)[j].toNat
    rw [q1, q2, e1, e2]
    rcases upper_cases i hi with hc | hc
    · rw [hc]
    · exfalso
      have hp := hk.2 (j / 2) (by rw [upB_size]; omega)
      rcases Nat.mod_two_eq_zero_or_one j with hm | hm
      · have := hp.1
        rw [show 2 * (j / 2) = j by omega, e2, hc] at this
        cases this
      · have := hp.2
        rw [show 2 * (j / 2) + 1 = j by omega, e2, hc] at this
        cases this
theorem hexB_ascii (z : ByteArray) : ∀ (j : Nat) (b : UInt8), (hexB z).data.toList[j]? = some b → b.toNat < 128 := fun j b hb => by
  have hl : (hexB z).data.toList.length = 2 * z.size := by rw [hexB_list, hexL_length]; simp
  have hj : j < 2 * z.size := by
    have := (List.getElem?_eq_some_iff.1 hb).1
    omega
  obtain ⟨i, hi, e1, _⟩ := upB_at z j hj
  have : tAt (hexB z) j = b.toNat := by unfold tAt; rw [List.getD_eq_getElem?_getD, hb]; rfl
  have hd := dgB_toNat hi
  have hr := dg_range hi
  omega
theorem hexB_snoc (z : ByteArray) (c : UInt8) : hexB (z ++ ⟨#[c]⟩) = hexB z ++ hexB ⟨#[c]⟩ := by
  apply ByteArray.ext
  show (hexL (z ++ ⟨#[c]⟩).data.toList).toArray = _
  rw [ByteArray.data_append, ByteArray.data_append, Array.toList_append, hexL_append]
  simp [hexB]
end Go.Proofs.YtebaagmbnbbflaaDoor
