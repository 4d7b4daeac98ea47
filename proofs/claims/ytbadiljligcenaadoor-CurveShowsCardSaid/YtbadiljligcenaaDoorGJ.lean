/- Plain facts for the reference's octets: taking the prime away; octets of digits. -/
import Derived.Test.YtbadiljligcenaaDoorGI
import Derived.Test.YtbadiljligcenaaDoorFW
namespace Go.Proofs.YtbadiljligcenaaDoor
open Go.RowKit Go.ChangeShapes
/-- The number in a block of memory: a measure. -/
def rdW (W : World) (g : Nat) : Nat := match W.heap[g]? with
  | some (.cells cs _ _) => vah (cs.toList.map fun v => match v with | .int _ n => n.toNat | _ => 0)
  | _ => 0
theorem Iar.rd {W : World} {g : Nat} {t : TypeId} {l : List Nat} (h : Iar W g t l) : rdW W g = vah l := by
  unfold Iar at h
  unfold rdW
  rw [h]
  simp [niC, List.map_map, Function.comp_def]
/-- 19 is added to the first digit. -/
def l19 (r : Nat) : List Nat := (dN r).set 0 (dgt r 0 + 19)
theorem l19_length (r : Nat) : (l19 r).length = 16 := by rw [l19, List.length_set, dN_length]
theorem l19_val (r : Nat) (h : r < two256) : vah (l19 r) = r + 19 := by
  show vah ((dN r).set 0 ((dN r).getD 0 0 + 19)) = r + 19
  rw [vah_set _ 0 _ _ (by rw [dN_length]; decide) rfl, vah_dN r h, Nat.pow_zero, Nat.one_mul]
theorem l19_le (r : Nat) : ∀ x ∈ l19 r, x ≤ 65554 := by
  intro x hx
  rcases List.mem_or_eq_of_mem_set hx with hx | rfl
  · have := dN_lt _ x hx; omega
  · have := dgt_lt r 0; omega
/-- The digits, and what is carried, after q steps. -/
def qL (r q : Nat) : List Nat := if q = 0 then dN r else sth (l19 r) q
def qC (r q : Nat) : Nat := if q = 0 then 19 else ovh (l19 r) q
theorem qL_length (r q : Nat) (h : q ≤ 16) : (qL r q).length = 16 := by
  unfold qL
  split
  · exact dN_length r
  · rw [sth_length _ _ (by rw [l19_length]; exact h), l19_length]
theorem qL_get (r q : Nat) : (qL r q).getD q 0 ≤ 65554 := by
  unfold qL
  split
  · rename_i h; subst h; exact Nat.le_trans (dgt_lt r 0) (by decide)
  · rw [sth_get]; exact getD_le (l19_le r) q
theorem qC_le (r q : Nat) : qC r q ≤ 65554 := by
  unfold qC
  split
  · decide
  · exact ovh_lt _ _ _ (l19_le r)
theorem q_step (r q : Nat) (h : q < 16) : (qL r q).set q ((qC r q + (qL r q).getD q 0) % 65536) = qL r (q + 1) ∧ (qC r q + (qL r q).getD q 0) / 65536 = qC r (q + 1) := by
  have hs := sth_step (l19 r) q (by rw [l19_length]; exact h)
  have e1 : qL r (q + 1) = sth (l19 r) (q + 1) := if_neg (by omega)
  have e2 : qC r (q + 1) = ovh (l19 r) (q + 1) := if_neg (by omega)
  rw [e1, e2]
  by_cases hq : q = 0
  · subst hq
    have e3 : qL r 0 = dN r := rfl
    have e4 : qC r 0 = 19 := rfl
    have e5 : (l19 r).getD 0 0 = dgt r 0 + 19 := by
      unfold l19
      rw [List.getD_eq_getElem?_getD, List.getElem?_set_self (by rw [dN_length]; decide)]; rfl
    rw [ovh_zero, Nat.add_zero, e5, sth_zero] at hs
    rw [e3, e4, show (19 + (dN r).getD 0 0) = dgt r 0 + 19 by rw [Nat.add_comm]; rfl]
    refine ⟨?_, hs.2⟩
    rw [← hs.1, l19, List.set_set]
  · have e3 : qL r q = sth (l19 r) q := if_neg hq
    have e4 : qC r q = ovh (l19 r) q := if_neg hq
    rw [e3, e4, sth_get, Nat.add_comm]
    exact hs
theorem q_end (r : Nat) (h : r < two256) : qL r 16 = dN (r + 19) ∧ qC r 16 = (r + 19) / two256 := by
  have hs := settledH (l19 r) (l19_length r)
  rw [l19_val r h] at hs
  exact hs
/-- The last place changes. -/
theorem top_set (v y : Nat) (_hv : v < two256) (hy : y < 65536) : (dN v).set 15 y = dN (vah ((dN v).take 15) + 65536 ^ 15 * y) := by
  have hl : ∀ x ∈ (dN v).set 15 y, x < 65536 := by
    intro x hx
    rcases List.mem_or_eq_of_mem_set hx with hx | rfl
    · exact dN_lt v x hx
    · exact hy
  have e2 := take_vah ((dN v).set 15 y) 15 (by rw [List.length_set, dN_length]; decide)
  rw [List.take_of_length_le (by rw [List.length_set, dN_length]; decide), List.take_set_of_le (by decide)] at e2
  have e3 : ((dN v).set 15 y).getD 15 0 = y := by
    rw [List.getD_eq_getElem?_getD, List.getElem?_set_self (by rw [dN_length]; decide)]; rfl
  rw [e3] at e2
  rw [← e2, dN_vah _ (by rw [List.length_set, dN_length]) hl]
theorem top_val (v : Nat) (h : v < two256) : vah ((dN v).take 15) + 65536 ^ 15 * dgt v 15 = v ∧ vah ((dN v).take 15) < 65536 ^ 15 := by
  have e1 := take_vah (dN v) 15 (by rw [dN_length]; decide)
  rw [List.take_of_length_le (Nat.le_of_eq (dN_length v)), vah_dN v h] at e1
  have hlt := vah_lt ((dN v).take 15) (fun x hx => dN_lt v x (List.mem_of_mem_take hx))
  rw [List.length_take, dN_length] at hlt
  exact ⟨e1.symm, hlt⟩
theorem two255_pow : two255 = 65536 ^ 15 * 32768 := by decide
theorem two256_pow : two256 = 65536 ^ 15 * 65536 := by decide
/-- Without a carry: 32768 is taken from the last place. -/
theorem take_lo (v : Nat) (h : v < two256) (h2 : two255 ≤ v) : 32768 ≤ dgt v 15 ∧ (dN v).set 15 (dgt v 15 - 32768) = dN (v - two255) := by
  obtain ⟨e1, e2⟩ := top_val v h
  have hd := dgt_lt v 15
  have h3 : 32768 ≤ dgt v 15 := by
    rw [two255_pow] at h2
    generalize 65536 ^ 15 = P at *
    generalize vah ((dN v).take 15) = L at *
    generalize dgt v 15 = x at *
    false_or_by_contra
    have h4 : x + 1 ≤ 32768 := by omega
    have h5 := Nat.mul_le_mul_left P h4
    rw [Nat.mul_add, Nat.mul_one] at h5
    omega
  refine ⟨h3, ?_⟩
  rw [top_set v _ h (by omega)]
  refine congrArg dN ?_
  rw [two255_pow]
  generalize 65536 ^ 15 = P at *
  generalize vah ((dN v).take 15) = L at *
  obtain ⟨y, hy⟩ : ∃ y, dgt v 15 = y + 32768 := ⟨dgt v 15 - 32768, by omega⟩
  rw [hy, Nat.mul_add] at e1
  rw [hy, Nat.add_sub_cancel]
  omega
/-- With a carry: the last place becomes 32768. -/
theorem lt_16 : 65536 < two256 := by decide
theorem lt_15 : 65536 < 65536 ^ 15 := by decide +kernel
theorem take_hi (v : Nat) (h : v < 65536) : dgt v 15 = 0 ∧ (dN v).set 15 32768 = dN (v + two255) := by
  have hv : v < two256 := Nat.lt_trans h lt_16
  obtain ⟨e1, e2⟩ := top_val v hv
  have h3 : dgt v 15 = 0 := by
    rw [dgt_get v 15 (by decide), Nat.div_eq_of_lt (Nat.lt_trans h lt_15)]
  refine ⟨h3, ?_⟩
  rw [top_set v _ hv (by decide)]
  refine congrArg dN ?_
  rw [h3, Nat.mul_zero, Nat.add_zero] at e1
  rw [e1, two255_pow]
/-- One more round of octets takes the prime away. -/
theorem prime_away (r : Nat) (h : r < two256) (h2 : pC ≤ r) : r - pC < two256 ∧ (r - pC) % pC = r % pC ∧ r - pC < r := by
  have hp := pC_pos
  refine ⟨by omega, ?_, by omega⟩
  exact (Nat.mod_eq_sub_mod h2).symm
theorem p_two255 : two255 = pC + 19 := by decide
end Go.Proofs.YtbadiljligcenaaDoor
