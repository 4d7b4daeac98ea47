/- Plain facts of SealOne: sums of octets at their places, carried and folded by 2^130 - 5. -/
import Derived.Test.YtnfefkcfifnjnaaDoorMR
namespace Go.Proofs.YtnfefkcfifnjnaaDoor
open Go.RowKit
/-- The row of sums behind m octets. -/
def svL (s : List UInt8) : Nat → List Nat
  | 0 => List.replicate 18 0
  | m + 1 => (svL s m).set (m % 16) ((svL s m).getD (m % 16) 0 + (s.getD m 0).toNat)
/-- Its number. -/
def svN (s : List UInt8) : Nat → Nat
  | 0 => 0
  | m + 1 => svN s m + 256 ^ (m % 16) * (s.getD m 0).toNat
theorem svL_length (s : List UInt8) (m : Nat) : (svL s m).length = 18 := by
  induction m with
  | zero => rfl
  | succ m ih => simp [svL, ih]
theorem set_getN (l : List Nat) (i j x : Nat) : (l.set i x).getD j 0 = if i = j ∧ j < l.length then x else l.getD j 0 := getD_setM l i j x
theorem svL_vo (s : List UInt8) (m : Nat) : vo (svL s m) = svN s m := by
  induction m with
  | zero => rfl
  | succ m ih =>
    have h := vo_set (svL s m) (m % 16) ((svL s m).getD (m % 16) 0 + (s.getD m 0).toNat) (by rw [svL_length]; omega)
    rw [Nat.mul_add] at h
    rw [svL, svN, ← ih]
    omega
theorem svL_le (s : List UInt8) (m j : Nat) : (svL s m).getD j 0 ≤ 255 * m := by
  induction m generalizing j with
  | zero =>
    have : (List.replicate 18 0 : List Nat).getD j 0 = 0 := by
      rw [List.getD_eq_getElem?_getD, List.getElem?_replicate]; split <;> rfl
    rw [svL, this]; omega
  | succ m ih =>
    rw [svL, set_getN]
    have h1 := ih (m % 16)
    have h2 := ih j
    have h3 := (s.getD m 0).toNat_lt
    split <;> omega
theorem svL_top (s : List UInt8) (m j : Nat) (hj : 16 ≤ j) : (svL s m).getD j 0 = 0 := by
  induction m with
  | zero =>
    rw [svL, List.getD_eq_getElem?_getD, List.getElem?_replicate]; split <;> rfl
  | succ m ih => rw [svL, set_getN, if_neg (by omega)]; exact ih
theorem svN_part (s : List UInt8) (i r : Nat) (hr : r ≤ 16) (h : 16 * i + r ≤ s.length) : svN s (16 * i + r) = svN s (16 * i) + num ((s.drop (16 * i)).take r) := by
  induction r with
  | zero => simp [num]
  | succ r ih =>
    have ih := ih (by omega) (by omega)
    rw [← Nat.add_assoc, svN, ih, num_take _ r (by rw [List.length_drop]; omega), show (16 * i + r) % 16 = r by omega]
    have : (s.drop (16 * i)).getD r 0 = s.getD (16 * i + r) 0 := by
      rw [List.getD_eq_getElem?_getD, List.getD_eq_getElem?_getD, List.getElem?_drop]
    rw [this, Nat.add_assoc]
theorem acc_one (s : List UInt8) (i : Nat) (h : 16 * i ≤ s.length) : accN 1 s i = (svN s (16 * i) + 340282366920938463463374607431768211456 * i) % pP := by
  induction i with
  | zero => rfl
  | succ i ih =>
    have ih := ih (by omega)
    have hp := svN_part s i 16 (Nat.le_refl _) (by omega)
    have hl : ((s.drop (16 * i)).take 16).length = 16 := by rw [List.length_take, List.length_drop]; omega
    have hn : num ((s.drop (16 * i)).take 16 ++ [1]) = num ((s.drop (16 * i)).take 16) + 340282366920938463463374607431768211456 := by
      rw [num_append, hl]; simp [num]
    rw [accN, ih, hn, show 16 * (i + 1) = 16 * i + 16 by omega, hp, Nat.mul_one, Nat.mod_add_mod]
    generalize num ((s.drop (16 * i)).take 16) = y
    generalize svN s (16 * i) = x
    generalize (340282366920938463463374607431768211456 : Nat) = C
    rw [show x + C * i + (y + C) = x + y + C * (i + 1) by rw [Nat.mul_add, Nat.mul_one]; omega]
/-- A carry. -/
def nrm (l : List Nat) (i : Nat) : List Nat := (l.set (i + 1) (l.getD (i + 1) 0 + l.getD i 0 / 256)).set i (l.getD i 0 % 256)
theorem nrm_length (l : List Nat) (i : Nat) : (nrm l i).length = l.length := by simp [nrm]
theorem nrm_get (l : List Nat) (i j : Nat) (h : i + 1 < l.length) : (nrm l i).getD j 0 = if j = i then l.getD i 0 % 256 else if j = i + 1 then l.getD (i + 1) 0 + l.getD i 0 / 256 else l.getD j 0 := by
  unfold nrm
  rw [set_getN, set_getN, List.length_set]
  by_cases h1 : j = i
  · subst h1
    rw [if_pos ⟨rfl, by omega⟩, if_pos rfl]
  · rw [if_neg (by omega), if_neg h1]
    by_cases h2 : j = i + 1
    · subst h2
      rw [if_pos ⟨rfl, h⟩, if_pos rfl]
    · rw [if_neg (by omega), if_neg h2]
theorem nrm_vo (l : List Nat) (i : Nat) (h : i + 1 < l.length) : vo (nrm l i) = vo l := by
  have h1 := vo_set l (i + 1) (l.getD (i + 1) 0 + l.getD i 0 / 256) h
  have h2 := vo_set (l.set (i + 1) (l.getD (i + 1) 0 + l.getD i 0 / 256)) i (l.getD i 0 % 256) (by rw [List.length_set]; omega)
  rw [set_getN, if_neg (by omega)] at h2
  unfold nrm
  have e : 256 ^ i * l.getD i 0 = 256 ^ i * (l.getD i 0 % 256) + 256 ^ (i + 1) * (l.getD i 0 / 256) := by
    rw [Nat.pow_succ, Nat.mul_assoc, ← Nat.mul_add]; congr 1; omega
  rw [Nat.mul_add] at h1
  omega
/-- What is beyond 2^130 counts five times at the bottom. -/
def fld (l : List Nat) : List Nat := ((l.set 16 (l.getD 16 0 % 4)).set 17 0).set 0 (l.getD 0 0 + 5 * (l.getD 16 0 / 4 + 64 * l.getD 17 0))
theorem fld_length (l : List Nat) : (fld l).length = l.length := by simp [fld]
theorem fld_get (l : List Nat) (h : l.length = 18) (j : Nat) : (fld l).getD j 0 = if j = 0 then l.getD 0 0 + 5 * (l.getD 16 0 / 4 + 64 * l.getD 17 0) else if j = 17 then 0 else if j = 16 then l.getD 16 0 % 4 else l.getD j 0 := by
  unfold fld
  rw [set_getN, set_getN, set_getN, List.length_set, List.length_set, h]
  by_cases h0 : j = 0
  · subst h0; rw [if_pos ⟨rfl, by omega⟩, if_pos rfl]
  · rw [if_neg (by omega), if_neg h0]
    by_cases h1 : j = 17
    · subst h1; rw [if_pos ⟨rfl, by omega⟩, if_pos rfl]
    · rw [if_neg (by omega), if_neg h1]
      by_cases h2 : j = 16
      · subst h2; rw [if_pos ⟨rfl, by omega⟩, if_pos rfl]
      · rw [if_neg (by omega), if_neg h2]
theorem fld_vo (l : List Nat) (h : l.length = 18) : vo (fld l) + pP * (l.getD 16 0 / 4 + 64 * l.getD 17 0) = vo l := by
  have h1 := vo_set l 16 (l.getD 16 0 % 4) (by omega)
  have h2 := vo_set (l.set 16 (l.getD 16 0 % 4)) 17 0 (by rw [List.length_set]; omega)
  have h3 := vo_set ((l.set 16 (l.getD 16 0 % 4)).set 17 0) 0 (l.getD 0 0 + 5 * (l.getD 16 0 / 4 + 64 * l.getD 17 0)) (by rw [List.length_set, List.length_set]; omega)
  rw [set_getN, if_neg (by omega)] at h2
  rw [set_getN, set_getN, if_neg (by omega), if_neg (by omega)] at h3
  unfold fld pP
  generalize vo (((l.set 16 (l.getD 16 0 % 4)).set 17 0).set 0 (l.getD 0 0 + 5 * (l.getD 16 0 / 4 + 64 * l.getD 17 0))) = v3 at *
  generalize vo ((l.set 16 (l.getD 16 0 % 4)).set 17 0) = v2 at *
  generalize vo (l.set 16 (l.getD 16 0 % 4)) = v1 at *
  generalize vo l = v0 at *
  generalize l.getD 0 0 = a0 at *
  generalize l.getD 16 0 = a16 at *
  generalize l.getD 17 0 = a17 at *
  omega
/-- The numbers of a row of eighteen. -/
theorem vo18 (l : List Nat) (h : l.length = 18) : ∃ X : Nat → Nat, vo l = X 0 ∧ X 18 = 0 ∧ ∀ k, X k = l.getD k 0 + 256 * X (k + 1) :=
  ⟨fun k => vo (l.drop k), by show vo l = vo (l.drop 0); rw [List.drop_zero], by show vo (l.drop 18) = 0; rw [List.drop_of_length_le (by omega)]; rfl, fun k => vo_drop l k⟩
theorem low16 (l : List Nat) (h : ∀ j, j < 16 → l.getD j 0 < 256) : vo l < 340282366920938463463374607431768211456 + 340282366920938463463374607431768211456 * vo (l.drop 16) := by
  have h1 := vo_top l 16
  have h2 : vo (l.take 16) < 256 ^ 16 := by
    have hd : Dg (l.take 16) := fun x hx => by
      obtain ⟨i, hi, rfl⟩ := List.mem_iff_getElem.1 hx
      rw [List.length_take] at hi
      have := h i (by omega)
      rw [List.getD_eq_getElem?_getD, List.getElem?_eq_getElem (by omega)] at this
      rw [List.getElem_take]; exact this
    exact Nat.lt_of_lt_of_le (vo_lt _ hd) (Nat.pow_le_pow_right (by decide) (by rw [List.length_take]; omega))
  have e : (256 : Nat) ^ 16 = 340282366920938463463374607431768211456 := by decide
  rw [e] at h1 h2
  omega
theorem drop16 (l : List Nat) (h : l.length = 18) : vo (l.drop 16) = l.getD 16 0 + 256 * l.getD 17 0 := by
  rw [vo_drop, vo_drop, List.drop_of_length_le (by omega)]; simp [vo]
/-- A fold of a row that was carried. -/
theorem fold_lt (l : List Nat) (h : l.length = 18) (hd : ∀ j, j < 17 → l.getD j 0 < 256) (B o : Nat) (hB : vo l < 1361129467683753853853498429727072845824 * B) (ho : l.getD 16 0 / 4 + 64 * l.getD 17 0 = o) : o < B ∧ vo (fld l) < 1361129467683753853853498429727072845824 + 5 * o ∧ (vo l < 1361129467683753853853498429727072845824 + 100 → B = 2 → vo (fld l) < 1361129467683753853853498429727072845824) := by
  have h1 := low16 l (fun j hj => hd j (by omega))
  have h2 := drop16 l h
  have h3 := fld_vo l h
  have h4 := vo_top l 16
  have e : (256 : Nat) ^ 16 = 340282366920938463463374607431768211456 := by decide
  rw [e] at h4
  rw [ho] at h3
  unfold pP at h3
  have h16 := hd 16 (by omega)
  generalize vo (fld l) = v at *
  generalize vo (l.drop 16) = d at *
  generalize vo (l.take 16) = t at *
  generalize vo l = u at *
  generalize l.getD 16 0 = a at *
  generalize l.getD 17 0 = b at *
  refine ⟨by omega, by omega, fun _ _ => by omega⟩
/-- All digits so far are the greatest. -/
def fb (l : List Nat) : Nat → Bool
  | 0 => decide (l.getD 16 0 = 3) && decide (251 ≤ l.getD 0 0)
  | n + 1 => fb l n && decide (l.getD (n + 1) 0 = 255)
theorem fb_iff (l : List Nat) (n : Nat) : fb l n = true ↔ l.getD 16 0 = 3 ∧ 251 ≤ l.getD 0 0 ∧ ∀ j, j < n → l.getD (j + 1) 0 = 255 := by
  induction n with
  | zero => simp [fb]
  | succ n ih =>
    rw [fb, Bool.and_eq_true, ih, decide_eq_true_eq]
    constructor
    · rintro ⟨⟨h1, h2, h3⟩, h4⟩
      exact ⟨h1, h2, fun j hj => by
        rcases Nat.lt_or_ge j n with h | h
        · exact h3 j h
        · rw [show j = n by omega]; exact h4⟩
    · rintro ⟨h1, h2, h3⟩
      exact ⟨⟨h1, h2, fun j hj => h3 j (by omega)⟩, h3 n (by omega)⟩
theorem cut0 {x y a : Nat} (h : 1361129467683753853853498429727072845819 ≤ x) (h2 : x < 1361129467683753853853498429727072845824) (ha : a < 256) (e : x = a + 256 * y) : y = 5316911983139663491615228241121378303 := by omega
theorem fb_full (l : List Nat) (h : l.length = 18) (hd : ∀ j, l.getD j 0 < 256) (h17 : l.getD 17 0 = 0) (hv : vo l < 1361129467683753853853498429727072845824) :
    (fb l 15 = true → vo l = pP + (l.getD 0 0 - 251) ∧ 251 ≤ l.getD 0 0) ∧ (fb l 15 = false → vo l < pP) := by
  obtain ⟨X, e0, e18, es⟩ := vo18 l h
  have d : ∀ j, X j = l.getD j 0 + 256 * X (j + 1) := es
  have d0 := d 0
  have d1 := d 1
  have d2 := d 2
  have d3 := d 3
  have d4 := d 4
  have d5 := d 5
  have d6 := d 6
  have d7 := d 7
  have d8 := d 8
  have d9 := d 9
  have d10 := d 10
  have d11 := d 11
  have d12 := d 12
  have d13 := d 13
  have d14 := d 14
  have d15 := d 15
  have d16 := d 16
  have d17 := d 17
  rw [h17] at d17
  simp only [Nat.reduceAdd] at *
  rw [e18] at d17
  constructor
  · intro hf
    obtain ⟨a, b, c⟩ := (fb_iff l 15).1 hf
    have c0 := c 0 (by omega)
    have c1 := c 1 (by omega)
    have c2 := c 2 (by omega)
    have c3 := c 3 (by omega)
    have c4 := c 4 (by omega)
    have c5 := c 5 (by omega)
    have c6 := c 6 (by omega)
    have c7 := c 7 (by omega)
    have c8 := c 8 (by omega)
    have c9 := c 9 (by omega)
    have c10 := c 10 (by omega)
    have c11 := c 11 (by omega)
    have c12 := c 12 (by omega)
    have c13 := c 13 (by omega)
    have c14 := c 14 (by omega)
    simp only [Nat.reduceAdd] at c0 c1 c2 c3 c4 c5 c6 c7 c8 c9 c10 c11 c12 c13 c14
    unfold pP
    refine ⟨?_, b⟩
    rw [e0]
    omega
  · intro hf
    rcases Nat.lt_or_ge (vo l) pP with hlt | hge
    · exact hlt
    · exfalso
      unfold pP at hge
      have b0 := hd 0
      have b1 := hd 1
      have b2 := hd 2
      have b3 := hd 3
      have b4 := hd 4
      have b5 := hd 5
      have b6 := hd 6
      have b7 := hd 7
      have b8 := hd 8
      have b9 := hd 9
      have b10 := hd 10
      have b11 := hd 11
      have b12 := hd 12
      have b13 := hd 13
      have b14 := hd 14
      have b15 := hd 15
      have b16 := hd 16
      rw [e0] at hge hv
      have x1 : X 1 = 5316911983139663491615228241121378303 := cut0 hge hv b0 d0
      have x2 : X 2 = 20769187434139310514121985316880383 := by rw [x1] at d1; omega
      have x3 : X 3 = 81129638414606681695789005144063 := by rw [x2] at d2; omega
      have x4 : X 4 = 316912650057057350374175801343 := by rw [x3] at d3; omega
      have x5 : X 5 = 1237940039285380274899124223 := by rw [x4] at d4; omega
      have x6 : X 6 = 4835703278458516698824703 := by rw [x5] at d5; omega
      have x7 : X 7 = 18889465931478580854783 := by rw [x6] at d6; omega
      have x8 : X 8 = 73786976294838206463 := by rw [x7] at d7; omega
      have x9 : X 9 = 288230376151711743 := by rw [x8] at d8; omega
      have x10 : X 10 = 1125899906842623 := by rw [x9] at d9; omega
      have x11 : X 11 = 4398046511103 := by rw [x10] at d10; omega
      have x12 : X 12 = 17179869183 := by rw [x11] at d11; omega
      have x13 : X 13 = 67108863 := by rw [x12] at d12; omega
      have x14 : X 14 = 262143 := by rw [x13] at d13; omega
      have x15 : X 15 = 1023 := by rw [x14] at d14; omega
      have x16 : X 16 = 3 := by rw [x15] at d15; omega
      have := (fb_iff l 15).2 ⟨by omega, by omega, fun j hj => by
        match j, hj with
        | 0, _ | 1, _ | 2, _ | 3, _ | 4, _ | 5, _ | 6, _ | 7, _ | 8, _ | 9, _ | 10, _ | 11, _ | 12, _ | 13, _ | 14, _ => simp only [Nat.reduceAdd]; omega
        | n + 15, h => exact absurd h (by omega)⟩
      rw [hf] at this
      cases this
end Go.Proofs.YtnfefkcfifnjnaaDoor
