/- Plain facts: half a quarter round, word by word; the words of a string. -/
import Derived.Test.YtnfefkcfifnjnaaDoorRD
namespace Go.Proofs.YtnfefkcfifnjnaaDoor
open Go.RowKit Go.ChangeShapes

theorem getD_setN (l : List Nat) (i j x : Nat) : (l.set i x).getD j 0 = if i = j ∧ j < l.length then x else l.getD j 0 := by
  by_cases h : i = j
  · subst h
    by_cases h2 : i < l.length
    · rw [if_pos ⟨rfl, h2⟩, List.getD_eq_getElem?_getD, List.getElem?_set_self h2]; rfl
    · rw [if_neg (fun e => h2 e.2), List.set_eq_of_length_le (by omega)]
  · rw [if_neg (fun e => h e.1), List.getD_eq_getElem?_getD, List.getElem?_set_ne h, ← List.getD_eq_getElem?_getD]
theorem ext_getN {a b : List Nat} (hl : a.length = b.length) (h : ∀ i, i < a.length → a.getD i 0 = b.getD i 0) : a = b := by
  apply List.ext_getElem hl
  intro i h1 h2
  have := h i h1
  rw [List.getD_eq_getElem?_getD, List.getD_eq_getElem?_getD, List.getElem?_eq_getElem h1, List.getElem?_eq_getElem h2] at this
  exact this
structure Apart (a b c d n : Nat) : Prop where
  ab : a ≠ b
  ac : a ≠ c
  ad : a ≠ d
  bc : b ≠ c
  bd : b ≠ d
  cd : c ≠ d
  a : a < n
  b : b < n
  c : c < n
  d : d < n
theorem hq_length (l : List Nat) (a b c d k m : Nat) : (hq l a b c d k m).length = l.length := by simp [hq]
theorem hq_put (l : List Nat) (a b c d k m : Nat) (h : Apart a b c d l.length) : hq l a b c d k m = put4 l a b c d (qrA (at4 l a b c d) k m) := by
  obtain ⟨ab, ac, ad', bc, bd, cd, ha, hb, hc, hd⟩ := h
  have ba := ab.symm
  have ca := ac.symm
  have da := ad'.symm
  have cb := bc.symm
  have db := bd.symm
  have dc := cd.symm
  apply ext_getN
  · rw [hq_length, put4_length]
  · intro i hi
    simp only [hq, put4, at4, qrA, getD_setN, List.length_set, *, and_true, if_true, if_false]
    by_cases e1 : a = i
    · subst e1; simp [*]
    · by_cases e2 : b = i
      · subst e2; simp [*]
      · by_cases e3 : c = i
        · subst e3; simp [*]
        · by_cases e4 : d = i
          · subst e4; simp [*]
          · simp [*]
theorem put_put (l : List Nat) (a b c d : Nat) (p q : Q4) (h : Apart a b c d l.length) : put4 (put4 l a b c d p) a b c d q = put4 l a b c d q := by
  apply ext_getN
  · simp only [put4_length]
  · intro i hi
    simp only [put4, getD_setN, List.length_set]
    by_cases e1 : a = i
    · subst e1; simp [h.a]
    · by_cases e2 : b = i
      · subst e2; simp [h.b]
      · by_cases e3 : c = i
        · subst e3; simp [h.c]
        · by_cases e4 : d = i
          · subst e4; simp [h.d]
          · simp [e1, e2, e3, e4]
theorem at_put (l : List Nat) (a b c d : Nat) (p : Q4) (h : Apart a b c d l.length) : at4 (put4 l a b c d p) a b c d = p := by
  obtain ⟨ab, ac, ad', bc, bd, cd, ha, hb, hc, hd⟩ := h
  have ba := ab.symm
  have ca := ac.symm
  have da := ad'.symm
  have cb := bc.symm
  have db := bd.symm
  have dc := cd.symm
  simp only [put4, at4, getD_setN, List.length_set, *, and_true, if_true, if_false]
/-- The reference's quarter round is the program's. -/
theorem hq_hq (l : List Nat) (a b c d : Nat) (h : Apart a b c d l.length) : hq (hq l a b c d 16 12) a b c d 8 7 = qrL l a b c d := by
  rw [hq_put _ _ _ _ _ _ _ (by rw [hq_length]; exact h), hq_put _ _ _ _ _ _ _ h, at_put _ _ _ _ _ _ h, put_put _ _ _ _ _ _ _ h]
  rfl
end Go.Proofs.YtnfefkcfifnjnaaDoor
