/- The reference: power. -/
import Derived.Test.YtbadiljligcenaaDoorGF
namespace Go.Proofs.YtbadiljligcenaaDoor
open Go.RowKit Go.ChangeShapes
theorem bit_P2 : ∀ t, t < 255 → bitN P2 t = (decide (t ≠ 2) && decide (t ≠ 4)) := by decide +kernel
/-- A number, a result, and the power so far, in new memory. -/
structure Pw (w : World) (g a r : Nat) (W : World) : Prop where
  ha : Iar W w.heap.size 48 (dN a)
  hz : Iar W (w.heap.size + 1) 48 Z16
  hr : Iar W g 48 (dN r)
  hg : w.heap.size + 1 < g
  hB : Below w.heap.size w W
theorem Pw.below {w : World} {g a r : Nat} {W V : World} (h : Pw w g a r W) (hb : Below W.heap.size W V) : Pw w g a r V :=
  ⟨h.ha.below hb h.ha.lt, h.hz.below hb h.hz.lt, h.hr.below hb h.hr.lt, h.hg, bstep h.hB hb⟩
theorem Pw.row {w : World} {g a r : Nat} {W : World} (h : Pw w g a r W) (s : Nat) : Pw w g a s (W.setRow g (niC (dN s))) :=
  ⟨(setRow_other _ _ _ _ (by have := h.hg; omega)).trans h.ha, (setRow_other _ _ _ _ (by have := h.hg; omega)).trans h.hz, h.hr.row _, h.hg, below_setRow h.hB (by have := h.hg; omega) _⟩
set_option maxRecDepth 100000 in
set_option maxHeartbeats 8000000 in
theorem power_any (a : Nat) (w : World) (ha : a < two256) : Calls Tryd.prog 36 #[.agg (niC (dN a))] w fun e w' => (∃ r, e = .returned (.agg (niC (dN r))) ∧ r < two256 ∧ r % pC = powN (a % pC) P2 255) ∧ Below w.heap.size w w' := by
  have hz := zero48
  have hA1 : Iar ((w.alloc (.cells (niC (dN a)) 48)).alloc (.cells (niC Z16) 48)) w.heap.size 48 (dN a) := (Iar.new w 48 _).alloc _
  have hA2 : Iar ((w.alloc (.cells (niC (dN a)) 48)).alloc (.cells (niC Z16) 48)) (w.heap.size + 1) 48 Z16 := by
    have h := Iar.new (w.alloc (.cells (niC (dN a)) 48)) 48 Z16
    rwa [World.size_alloc] at h
  have hB : Below w.heap.size w ((w.alloc (.cells (niC (dN a)) 48)).alloc (.cells (niC Z16) 48)) := bstep1 (bstep1 (Below.refl _ _))
  have H0 := Lib.hid (And.intro hA1 (And.intro hA2 hB))
  have HDG : Hid (∀ W : World, Calls Tryd.prog 31 #[.int .i64 1] W fun e w' => e = .returned (.agg (niC (dN 1))) ∧ Below W.heap.size W w') := Lib.hid (fun W => digit_any 1 W (by decide))
  have HA := Lib.hid ha
  clear hA1 hA2 hB ha
  go_enter Tryd.func36, Tryd.ntmps36
  go_upto_region 1 with fail
  generalize World.alloc (World.alloc w _) _ = V at H0 ⊢
  go_wp2_with fail
  (with_reducible refine (HDG.out _).mono ?_)
  rintro e W1 ⟨rfl, hb1⟩
  have hrow : (W1.alloc (.cells (niC Z16) 48)).heap[W1.heap.size]? = some (.cells (niC Z16) 48 (0, 0)) := heap_alloc_new W1 _
  have hbz := Nat.lt_of_lt_of_le H0.out.2.1.lt hb1.size
  have hP0 : Pw w W1.heap.size a 1 ((W1.alloc (.cells (niC Z16) 48)).setRow W1.heap.size (niC (dN 1))) :=
    ⟨(setRow_other _ _ _ _ (by omega)).trans ((H0.out.1.below hb1 H0.out.1.lt).alloc _), (setRow_other _ _ _ _ (by omega)).trans ((H0.out.2.1.below hb1 H0.out.2.1.lt).alloc _), setRow_heap _ _ _ _ _ _ hrow, hbz, below_setRow (bstep1 (bstep H0.out.2.2 hb1)) (by omega) _⟩
  have HP0 := Lib.hid hP0
  have HROW := Lib.hid hrow
  clear hrow hbz hP0 hb1 HDG H0
  go_upto_region 2 with (refine wpList_store_row rfl 48 _ _ rfl W1.heap.size (niC (dN 1)) rfl rfl 48 _ HROW.out (by rw [size48, niC_size, dN_length]) (by rw [niC_size, niC_size, dN_length]; rfl) (niC_one _) ?_)
  clear hz HROW
  generalize (W1.alloc (.cells (niC Z16) 48)).setRow W1.heap.size (niC (dN 1)) = V2 at HP0 ⊢
  generalize W1.heap.size = g at HP0 ⊢
  go_wp2
  go_loopw [4] (fun i wr => ∃ k : Nat, k ≤ 255 ∧ i = .int .i64 (254 - (k : Int)) ∧ ∃ r : Nat, Hid (r < two256 ∧ r % pC = powN (a % pC) P2 k) ∧ Hid (Pw w g a r wr)) (fun i _ => (intOf i + 1).toNat)
  case atStart => exact ⟨0, by omega, rfl, 1, Lib.hid ⟨by decide, by show 1 % pC = 1; decide⟩, HP0⟩
  case round =>
    clear HP0
    obtain ⟨k, hk, rfl, r, HR, H1⟩ := hrel
    by_cases hlt : k < 255
    · obtain ⟨t, ht⟩ : ∃ t, 254 - k = t := ⟨_, rfl⟩
      have hti : (254 : Int) - (k : Int) = (t : Int) := by omega
      have htn : t < 255 := by omega
      have hbit := bit_P2 t htn
      have hpw : powN (a % pC) P2 (k + 1) = if bitN P2 t then muN (muN (powN (a % pC) P2 k) (powN (a % pC) P2 k)) (a % pC) else muN (powN (a % pC) P2 k) (powN (a % pC) P2 k) := by rw [← ht]; rfl
      rw [hbit] at hpw
      have HPW := Lib.hid hpw
      have HKT := Lib.hid ht
      rw [hti]
      clear hbit hpw ht
      have HPR := Lib.hid (fun W => prod_any r r W HR.out.1 HR.out.1)
      have h0t : (0 : Int) ≤ (t : Int) := by omega
      go_wp2_with (refine wpList_load_row rfl 48 _ rfl g rfl 48 (niC (dN r)) (0, 0) _ H1.out.hr Tryd.underlying48 rfl (by rw [size48, niC_size, dN_length]) ?_)
      (with_reducible refine (HPR.out _).mono ?_)
      rintro e V3 ⟨⟨r2, rfl, h1, h2⟩, hb⟩
      have H2 := Lib.hid (H1.out.below hb)
      have H3 := Lib.hid (H2.out.row r2)
      have HR2 : Hid (r2 < two256 ∧ r2 % pC = muN (powN (a % pC) P2 k) (powN (a % pC) P2 k)) := Lib.hid ⟨h1, by rw [h2, Nat.mul_mod, HR.out.2]; rfl⟩
      clear hb h1 h2 H1 HPR HR
      go_upto_region 6 with (refine wpList_store_row rfl 48 _ _ rfl g (niC (dN r2)) rfl rfl 48 _ H2.out.hr (by rw [size48, niC_size, dN_length]) (by rw [niC_size, niC_size, dN_length, dN_length]) (niC_one _) ?_)
      generalize V3.setRow g (niC (dN r2)) = V4 at H3 ⊢
      clear H2
      by_cases ht2 : t = 2
      · have HRN : Hid (r2 < two256 ∧ r2 % pC = powN (a % pC) P2 (k + 1)) := Lib.hid ⟨HR2.out.1, by rw [HPW.out, ht2]; exact HR2.out.2⟩
        have hq : ((t : Int) == 2) = true := by rw [ht2]; rfl
        have hq2 : (t : Int) = 2 := by omega
        clear HPW HR2
        go_wp2
        go_roundw
        case rel => exact ⟨k + 1, by omega, by have := HKT.out; go_num, r2, HRN, H3⟩
        case measure => simp [intOf]; omega
      · by_cases ht4 : t = 4
        · have HRN : Hid (r2 < two256 ∧ r2 % pC = powN (a % pC) P2 (k + 1)) := Lib.hid ⟨HR2.out.1, by rw [HPW.out, ht4]; exact HR2.out.2⟩
          have hq : ((t : Int) == 4) = true := by rw [ht4]; rfl
          have hq2 : (t : Int) = 4 := by omega
          clear HPW HR2
          go_wp2
          go_roundw
          case rel => exact ⟨k + 1, by omega, by have := HKT.out; go_num, r2, HRN, H3⟩
          case measure => simp [intOf]; omega
        · have hq : ((t : Int) == 2) = false := beq_false_of_ne (by omega)
          have hq2 : ((t : Int) == 4) = false := beq_false_of_ne (by omega)
          have hq3 : ¬ (t : Int) = 2 := by omega
          have hq4 : ¬ (t : Int) = 4 := by omega
          have hq5 : ((t : Int) != 2) = true := bne_iff_ne.2 hq3
          have hq6 : ((t : Int) != 4) = true := bne_iff_ne.2 hq4
          have HPR := Lib.hid (fun W => prod_any r2 a W HR2.out.1 HA.out)
          go_wp2_with (first | (refine wpList_load_row rfl 48 _ rfl g rfl 48 (niC (dN r2)) (0, 0) _ H3.out.hr Tryd.underlying48 rfl (by rw [size48, niC_size, dN_length]) ?_) | (refine wpList_load_row rfl 48 _ rfl w.heap.size rfl 48 (niC (dN a)) (0, 0) _ H3.out.ha Tryd.underlying48 rfl (by rw [size48, niC_size, dN_length]) ?_))
          (with_reducible refine (HPR.out _).mono ?_)
          rintro e V5 ⟨⟨r3, rfl, h1, h2⟩, hb⟩
          have H4 := Lib.hid (H3.out.below hb)
          have H5 := Lib.hid (H4.out.row r3)
          have HRN : Hid (r3 < two256 ∧ r3 % pC = powN (a % pC) P2 (k + 1)) := Lib.hid ⟨h1, by
            rw [HPW.out, show (decide (t ≠ 2) && decide (t ≠ 4)) = true by simp [ht2, ht4], if_pos rfl, h2, Nat.mul_mod, HR2.out.2]; rfl⟩
          clear hb h1 h2 H3 HPR HR2 HPW
          go_wp2_with (refine wpList_store_row rfl 48 _ _ rfl g (niC (dN r3)) rfl rfl 48 _ H4.out.hr (by rw [size48, niC_size, dN_length]) (by rw [niC_size, niC_size, dN_length, dN_length]) (niC_one _) ?_)
          go_roundw
          case rel => exact ⟨k + 1, by omega, by have := HKT.out; go_num, r3, HRN, H5⟩
          case measure => simp [intOf]
    · obtain rfl : k = 255 := by omega
      have hcond : ¬ (0 : Int) ≤ 254 - ((255 : Nat) : Int) := by omega
      have RB := Lib.hid (below_setRow H1.out.hB (show w.heap.size ≤ w.heap.size + 1 by omega) (niC (dN r)))
      have R1 := Lib.hid (H1.out.hz.row (dN r))
      go_wp2_with (first | (refine wpList_load_row rfl 48 _ rfl g rfl 48 (niC (dN r)) (0, 0) _ H1.out.hr Tryd.underlying48 rfl (by rw [size48, niC_size, dN_length]) ?_) | (refine wpList_store_row rfl 48 _ _ rfl (w.heap.size + 1) (niC (dN r)) rfl rfl 48 _ H1.out.hz (by rw [size48, niC_size, dN_length]) (by rw [niC_size, niC_size, dN_length]; rfl) (niC_one _) ?_))
      exact bodyPost_ret (v := .agg (niC (dN r))) (results_cell_row (p := 2) (ty := 48) Tryd.results36 _ _ (w.heap.size + 1) 48 _ (0, 0) _ rfl R1.out Tryd.underlying48 rfl (by rw [size48, niC_size, dN_length])) rfl ⟨⟨r, rfl, HR.out.1, HR.out.2⟩, RB.out⟩
end Go.Proofs.YtbadiljligcenaaDoor
