/- The reference: less. -/
import Derived.Test.YtbadiljligcenaaDoorGH
namespace Go.Proofs.YtbadiljligcenaaDoor
open Go.RowKit Go.ChangeShapes
theorem dgt_get (a i : Nat) (h : i < 16) : dgt a i = a / 65536 ^ i % 65536 := dih_get 16 a i h
/-- Digit i of the prime. -/
def wtN (i : Nat) : Nat := if i = 15 then 32767 else if i = 0 then 65517 else 65535
theorem wt_pC : ∀ i, i < 16 → pC / 65536 ^ i % 65536 = wtN i := by decide +kernel
theorem div_split (a i : Nat) : a / 65536 ^ i = 65536 * (a / 65536 ^ (i + 1)) + a / 65536 ^ i % 65536 := by
  have h := Nat.div_add_mod (a / 65536 ^ i) 65536
  rw [Nat.div_div_eq_div_mul, ← Nat.pow_succ] at h
  exact h.symm
theorem less_eq (a i : Nat) (hi : i < 16) (h : a / 65536 ^ (i + 1) = pC / 65536 ^ (i + 1)) (hx : dgt a i = wtN i) : a / 65536 ^ i = pC / 65536 ^ i := by
  rw [dgt_get a i hi, ← wt_pC i hi] at hx
  rw [div_split a i, div_split pC i, h, hx]
theorem less_ne (a i : Nat) (hi : i < 16) (h : a / 65536 ^ (i + 1) = pC / 65536 ^ (i + 1)) (hx : dgt a i ≠ wtN i) : decide (a < pC) = decide (dgt a i < wtN i) := by
  have e1 := div_split a i
  have e2 := div_split pC i
  rw [← dgt_get a i hi] at e1
  rw [wt_pC i hi] at e2
  rw [h] at e1
  by_cases hlt : dgt a i < wtN i
  · have h1 : a / 65536 ^ i < pC / 65536 ^ i := by omega
    rw [decide_eq_true hlt, decide_eq_true (Nat.lt_of_div_lt_div h1)]
  · have h1 : pC / 65536 ^ i < a / 65536 ^ i := by omega
    have h2 := Nat.lt_of_div_lt_div h1
    rw [decide_eq_false hlt, decide_eq_false (by omega)]
theorem less_zero (a : Nat) (h : a / 65536 ^ 1 = pC / 65536 ^ 1) : decide (a < pC) = decide (dgt a 0 < 65517) := by
  by_cases hx : dgt a 0 = wtN 0
  · have h1 := less_eq a 0 (by decide) h hx
    rw [Nat.pow_zero, Nat.div_one, Nat.div_one] at h1
    rw [hx, h1]
    decide
  · exact less_ne a 0 (by decide) h hx
theorem top_zero (a : Nat) (h : a < two256) : a / 65536 ^ 16 = pC / 65536 ^ 16 := by
  rw [pow16, Nat.div_eq_of_lt h]
  decide
set_option maxRecDepth 100000 in
set_option maxHeartbeats 8000000 in
theorem less_any (a : Nat) (w : World) (ha : a < two256) : Calls Tryd.prog 51 #[.agg (niC (dN a))] w fun e w' => e = .returned (.bool (decide (a < pC))) ∧ Below w.heap.size w w' := by
  have h0 := Iar.new w 48 (dN a)
  have hB : Below w.heap.size w (w.alloc (.cells (niC (dN a)) 48)) := bstep1 (Below.refl _ _)
  have H0 := Lib.hid (And.intro h0 hB)
  have HT := Lib.hid (top_zero a ha)
  clear h0 hB ha
  obtain ⟨bb, hbb⟩ : ∃ bb, decide (a < pC) = bb := ⟨_, rfl⟩
  rw [hbb]
  have HBB := Lib.hid hbb
  clear hbb
  go_enter Tryd.func51, Tryd.ntmps51
  go_wp2
  generalize World.alloc w _ = V at H0 ⊢
  go_loopw [3] (fun i wr => ∃ k : Nat, k ≤ 15 ∧ i = .int .i64 (k : Int) ∧ Hid (a / 65536 ^ (k + 1) = pC / 65536 ^ (k + 1)) ∧ V = wr) (fun i _ => (intOf i).toNat)
  case atStart => exact ⟨15, by omega, rfl, HT, rfl⟩
  case round =>
    clear HT
    obtain ⟨k, hk, rfl, HT, rfl⟩ := hrel
    have cx := H0.out.1.getD (i := k) (by rw [dN_length]; omega)
    change V.cell? _ = some (li (dgt a k)) at cx
    by_cases hk0 : k = 0
    · subst hk0
      have hz := less_zero a HT.out
      obtain ⟨x, hx⟩ : ∃ x, dgt a 0 = x := ⟨_, rfl⟩
      rw [hx] at cx hz
      rw [HBB.out] at hz
      clear HBB
      have hxi : (((x : Int) < 65517) ↔ bb = true) := by rw [hz, decide_eq_true_iff]; omega
      have HZ := Lib.hid hz
      by_cases hlt : x < 65517
      · have h1 : (x : Int) < 65517 := by omega
        have h2 : bb = true := hxi.1 h1
        subst h2
        clear hz hxi HZ
        go_wp2
        go_ret
        exact ⟨rfl, H0.out.2⟩
      · have h1 : ¬ (x : Int) < 65517 := by omega
        have h2 : bb = false := by rw [hz]; exact decide_eq_false hlt
        subst h2
        clear hz hxi HZ
        go_wp2
        go_ret
        exact ⟨rfl, H0.out.2⟩
    · have hk1 : (1 : Int) ≤ (k : Int) := by omega
      have HEQ := Lib.hid (less_eq a k (by omega) HT.out)
      have HNE := Lib.hid (less_ne a k (by omega) HT.out)
      obtain ⟨x, hx⟩ : ∃ x, dgt a k = x := ⟨_, rfl⟩
      rw [hx] at cx HEQ HNE
      rw [HBB.out] at HNE
      clear HBB
      have hsub : (k : Int) - 1 = ((k - 1 : Nat) : Int) := by omega
      obtain ⟨j, hj⟩ : ∃ j, k - 1 = j := ⟨_, rfl⟩
      have hjk : j + 1 = k := by omega
      have HJ : Hid (x = wtN k → a / 65536 ^ (j + 1) = pC / 65536 ^ (j + 1)) := Lib.hid (by rw [hjk]; exact HEQ.out)
      clear HEQ hsub hj
      have hloop : ∀ t : Nat, wtN k = t → Hid (x ≠ t → bb = decide (x < t)) := fun t ht => Lib.hid (fun hne => by rw [← ht] at hne ⊢; exact HNE.out hne)
      by_cases hk15 : k = 15
      · subst hk15
        have hw : wtN 15 = 32767 := rfl
        have HN := hloop 32767 hw
        rw [hw] at HJ
        clear hloop HNE hw
        by_cases hxw : x = 32767
        · have h1 : (x : Int) = 32767 := by omega
          have hb1 : ((x : Int) == 32767) = true := by rw [h1]; rfl
          have HX := Lib.hid (HJ.out hxw)
          go_wp2
          go_roundw
          case rel => exact ⟨j, by omega, by go_num, HX, by first | rfl | trivial⟩
          case measure => simp [intOf]
        · have h1 : ¬ (x : Int) = 32767 := by omega
          have hb1 : ((x : Int) == 32767) = false := beq_false_of_ne h1
          have hb2 : ((x : Int) != 32767) = true := bne_iff_ne.2 h1
          have hres := HN.out hxw
          by_cases hl : x < 32767
          · have h2 : (x : Int) < 32767 := by omega
            rw [decide_eq_true hl] at hres
            subst hres
            go_wp2
            go_ret
            exact ⟨rfl, H0.out.2⟩
          · have h2 : ¬ (x : Int) < 32767 := by omega
            rw [decide_eq_false hl] at hres
            subst hres
            go_wp2
            go_ret
            exact ⟨rfl, H0.out.2⟩
      · have hw : wtN k = 65535 := by unfold wtN; rw [if_neg hk15, if_neg hk0]
        have HN := hloop 65535 hw
        rw [hw] at HJ
        have hq : ((k : Int) == 15) = false := beq_false_of_ne (by omega)
        have hq2 : ¬ (k : Int) = 15 := by omega
        clear hloop HNE hw
        by_cases hxw : x = 65535
        · have h1 : (x : Int) = 65535 := by omega
          have hb1 : ((x : Int) == 65535) = true := by rw [h1]; rfl
          have HX := Lib.hid (HJ.out hxw)
          go_wp2
          go_roundw
          case rel => exact ⟨j, by omega, by go_num, HX, by first | rfl | trivial⟩
          case measure => simp [intOf]; omega
        · have h1 : ¬ (x : Int) = 65535 := by omega
          have hb1 : ((x : Int) == 65535) = false := beq_false_of_ne h1
          have hb2 : ((x : Int) != 65535) = true := bne_iff_ne.2 h1
          have hres := HN.out hxw
          by_cases hl : x < 65535
          · have h2 : (x : Int) < 65535 := by omega
            rw [decide_eq_true hl] at hres
            subst hres
            go_wp2
            go_ret
            exact ⟨rfl, H0.out.2⟩
          · have h2 : ¬ (x : Int) < 65535 := by omega
            rw [decide_eq_false hl] at hres
            subst hres
            go_wp2
            go_ret
            exact ⟨rfl, H0.out.2⟩
end Go.Proofs.YtbadiljligcenaaDoor
