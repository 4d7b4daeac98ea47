/- The reference: sum, difference, digit. -/
import Derived.Test.YtbadiljligcenaaDoorGB
namespace Go.Proofs.YtbadiljligcenaaDoor
open Go.RowKit Go.ChangeShapes
/-- The first k of 16 digits. -/
def mkL (f : Nat → Nat) (k : Nat) : List Nat := (List.range 16).map fun i => if i < k then f i else 0
theorem mkL_length (f : Nat → Nat) (k : Nat) : (mkL f k).length = 16 := by simp [mkL]
theorem mkL_set (f : Nat → Nat) (k : Nat) (_h : k < 16) : (mkL f k).set k (f k) = mkL f (k + 1) := by
  apply List.ext_getElem (by simp [mkL])
  intro i h1 h2
  simp only [mkL, List.getElem_set, List.getElem_map, List.getElem_range]
  by_cases e : k = i
  · subst e; rw [if_pos rfl, if_pos (by omega)]
  · rw [if_neg e]
    by_cases h3 : i < k
    · rw [if_pos h3, if_pos (by omega)]
    · rw [if_neg h3, if_neg (by omega)]
theorem mkL_zero (f : Nat → Nat) : mkL f 0 = Z16 := by
  apply List.ext_getElem (by rw [mkL_length]; rfl)
  intro i h1 h2
  simp only [mkL, List.getElem_map, List.getElem_range, Nat.not_lt_zero, if_false, Z16, List.getElem_replicate]
theorem mkL_self (l : List Nat) (h : l.length = 16) : mkL (fun i => l.getD i 0) 16 = l := by
  apply List.ext_getElem (by rw [mkL_length, h])
  intro i h1 h2
  rw [mkL_length] at h1
  simp only [mkL, List.getElem_map, List.getElem_range]
  rw [if_pos h1, List.getD_eq_getElem?_getD, List.getElem?_eq_getElem h2]; rfl
theorem mkL_le (f : Nat → Nat) (k B : Nat) (h : ∀ i, i < 16 → f i ≤ B) : ∀ x ∈ mkL f k, x ≤ B := by
  intro x hx
  obtain ⟨i, hi, rfl⟩ := List.mem_map.1 hx
  split
  · exact h i (List.mem_range.1 hi)
  · exact Nat.zero_le _
/-- Digit i of a number. -/
def dgt (v i : Nat) : Nat := (dN v).getD i 0
theorem dgt_lt (v i : Nat) : dgt v i ≤ 65535 := getD_le (B := 65535) (fun y hy => by have := dN_lt _ y hy; omega) i
theorem vah_dg (v : Nat) (h : v < two256) : vah (mkL (dgt v) 16) = v := by
  show vah (mkL (fun i => (dN v).getD i 0) 16) = v
  rw [mkL_self _ (dN_length v), vah_dN v h]
theorem vah_zip : ∀ (l : List Nat) (f g : Nat → Nat), vah (l.map fun i => f i + g i) = vah (l.map f) + vah (l.map g)
  | [], _, _ => rfl
  | x :: l, f, g => by
    have h := vah_zip l f g
    simp only [List.map_cons, vah, h]
    omega
theorem mkL_map (f : Nat → Nat) : mkL f 16 = (List.range 16).map f := by
  unfold mkL
  apply List.map_congr_left
  intro i hi
  rw [if_pos (List.mem_range.1 hi)]
theorem vah_add (f g : Nat → Nat) : vah (mkL (fun i => f i + g i) 16) = vah (mkL f 16) + vah (mkL g 16) := by
  rw [mkL_map, mkL_map, mkL_map]; exact vah_zip _ f g
theorem vah_sum (a b : Nat) (ha : a < two256) (hb : b < two256) : vah (mkL (fun i => dgt a i + dgt b i) 16) = a + b := by
  rw [vah_add (dgt a) (dgt b), vah_dg a ha, vah_dg b hb]
/-- The digits of a difference. -/
def dfF (a b i : Nat) : Nat := dgt a i + 131070 - dgt b i
set_option maxRecDepth 100000 in
set_option maxHeartbeats 4000000 in
theorem vah_dif (a b : Nat) (ha : a < two256) (hb : b < two256) : vah ((mkL (dfF a b) 16).set 0 (dfF a b 0 - 74)) = a + 4 * pC - b := by
  have h1 := vah_dg a ha
  have h2 := vah_dg b hb
  have hz : dfF a b 0 = (dfF a b 0 - 74) + 74 := by have := dgt_lt b 0; unfold dfF; omega
  have e : vah ((mkL (dfF a b) 16).set 0 (dfF a b 0 - 74)) + 74 = vah (mkL (dfF a b) 16) := by
    have e0 : (mkL (dfF a b) 16).getD 0 0 = dfF a b 0 := by simp [mkL]
    have hl : 0 < (mkL (dfF a b) 16).length := by rw [mkL_length]; decide
    generalize mkL (dfF a b) 16 = m at e0 hl
    cases m with
    | nil => exact absurd hl (by simp)
    | cons x m =>
      have e1 : x = dfF a b 0 := e0
      subst e1
      rw [List.set_cons_zero, vah, vah]
      omega
  have hc : vah (mkL (fun _ => 131070) 16) = 231584178474632390847141970017375815706539969331281128078915168015826259279870 := by decide
  have h5 : vah (mkL (dfF a b) 16) + b = a + vah (mkL (fun _ => 131070) 16) := by
    have e1 := vah_add (dfF a b) (dgt b)
    have e2 := vah_add (dgt a) (fun _ => 131070)
    have e3 : (fun i => dfF a b i + dgt b i) = fun i => dgt a i + 131070 := by
      funext i
      have := dgt_lt b i
      unfold dfF
      omega
    rw [e3, e2, h1, h2] at e1
    exact e1.symm
  rw [hc] at h5
  unfold pC
  unfold two256 at hb
  omega
end Go.Proofs.YtbadiljligcenaaDoor
