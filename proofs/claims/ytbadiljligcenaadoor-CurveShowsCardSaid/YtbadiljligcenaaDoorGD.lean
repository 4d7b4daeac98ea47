/- The reference: sum, difference. -/
import Derived.Test.YtbadiljligcenaaDoorGC
namespace Go.Proofs.YtbadiljligcenaaDoor
open Go.RowKit Go.ChangeShapes
theorem make16 (w : World) : (Instr.makeSlice 78 (.int .i64 16) (.int .i64 16)).run Tryd.prog w = .ok (.slice (some ⟨w.heap.size, 0, none⟩) 16 16) (w.alloc (.cells (niC Z16) 3)) := by kernel_rfl
/-- Two numbers, a result and a list of digits in new memory. -/
structure Fr (w : World) (a b : Nat) (l : List Nat) (W : World) : Prop where
  ha : Iar W w.heap.size 48 (dN a)
  hb : Iar W (w.heap.size + 1) 48 (dN b)
  hz : Iar W (w.heap.size + 2) 48 Z16
  hl : Iar W (w.heap.size + 3) 3 l
  hB : Below w.heap.size w W
theorem Fr.start (w : World) (a b : Nat) (l : List Nat) : Fr w a b l ((((w.alloc (.cells (niC (dN a)) 48)).alloc (.cells (niC (dN b)) 48)).alloc (.cells (niC Z16) 48)).alloc (.cells (niC l) 3)) := by
  have e1 : (w.alloc (.cells (niC (dN a)) 48)).heap.size = w.heap.size + 1 := World.size_alloc _ _
  have e2 : ((w.alloc (.cells (niC (dN a)) 48)).alloc (.cells (niC (dN b)) 48)).heap.size = w.heap.size + 2 := by rw [World.size_alloc, e1]
  have e3 : (((w.alloc (.cells (niC (dN a)) 48)).alloc (.cells (niC (dN b)) 48)).alloc (.cells (niC Z16) 48)).heap.size = w.heap.size + 3 := by rw [World.size_alloc, e2]
  have h1 := Iar.new w 48 (dN a)
  have h2 := Iar.new (w.alloc (.cells (niC (dN a)) 48)) 48 (dN b)
  have h3 := Iar.new ((w.alloc (.cells (niC (dN a)) 48)).alloc (.cells (niC (dN b)) 48)) 48 Z16
  have h4 := Iar.new (((w.alloc (.cells (niC (dN a)) 48)).alloc (.cells (niC (dN b)) 48)).alloc (.cells (niC Z16) 48)) 3 l
  rw [e1] at h2
  rw [e2] at h3
  rw [e3] at h4
  exact ⟨((h1.alloc _).alloc _).alloc _, (h2.alloc _).alloc _, h3.alloc _, h4, bstep1 (bstep1 (bstep1 (bstep1 (Below.refl _ _))))⟩
theorem Fr.set {w : World} {a b : Nat} {l : List Nat} {W : World} (h : Fr w a b l W) (i x : Nat) : Fr w a b (l.set i x) (W.setCell ⟨w.heap.size + 3, i, none⟩ (li x)) :=
  ⟨h.ha.other (by show w.heap.size ≠ w.heap.size + 3; omega) _, h.hb.other (by show w.heap.size + 1 ≠ w.heap.size + 3; omega) _, h.hz.other (by show w.heap.size + 2 ≠ w.heap.size + 3; omega) _, h.hl.set i x, h.hB.setCell (p := ⟨w.heap.size + 3, i, none⟩) (by show w.heap.size ≤ w.heap.size + 3; omega) _⟩
theorem Fr.drew {w : World} {a b : Nat} {l : List Nat} {W : World} (h : Fr w a b l W) : Fr w a b l W.drew := ⟨h.ha, h.hb, h.hz, h.hl, h.hB.drew⟩
set_option maxRecDepth 100000 in
set_option maxHeartbeats 8000000 in
theorem sum_any (a b : Nat) (w : World) (ha : a < two256) (hb : b < two256) : Calls Tryd.prog 32 #[.agg (niC (dN a)), .agg (niC (dN b))] w fun e w' => (∃ r, e = .returned (.agg (niC (dN r))) ∧ r < two256 ∧ r % pC = (a + b) % pC) ∧ Below w.heap.size w w' := by
  have hz := zero48
  have hmk := make16
  have H0 := Lib.hid (Fr.start w a b Z16)
  have HAB := Lib.hid (And.intro ha hb)
  clear ha hb
  go_enter Tryd.func32, Tryd.ntmps32
  go_upto_region 2 with fail
  clear hz hmk
  generalize World.alloc (World.alloc (World.alloc (World.alloc w _) _) _) _ = V at H0 ⊢
  have H1 : Hid (Fr w a b (mkL (fun i => dgt a i + dgt b i) 0) V) := Lib.hid (by rw [mkL_zero]; exact H0.out)
  clear H0
  go_wp2
  go_loopw [6] (fun i wr => ∃ k : Nat, k ≤ 16 ∧ i = .int .i64 (k : Int) ∧ Hid (Fr w a b (mkL (fun i => dgt a i + dgt b i) k) wr)) (fun i _ => 16 - (intOf i).toNat)
  case atStart => exact ⟨0, by omega, rfl, H1⟩
  case round =>
    clear H1
    obtain ⟨k, hk, rfl, H1⟩ := hrel
    by_cases hlt : k < 16
    · have hki : (k : Int) < 16 := by omega
      have cx := H1.out.ha.getD (i := k) (by rw [dN_length]; exact hlt)
      have cy := H1.out.hb.getD (i := k) (by rw [dN_length]; exact hlt)
      have co := H1.out.hl.getD (i := k) (by rw [mkL_length]; exact hlt)
      have cf := H1.out.hl.free k
      have hxb := dgt_lt a k
      have hyb := dgt_lt b k
      obtain ⟨x, hx⟩ : ∃ x, dgt a k = x := ⟨_, rfl⟩
      obtain ⟨y, hy⟩ : ∃ x, dgt b k = x := ⟨_, rfl⟩
      obtain ⟨z, hz⟩ : ∃ z, x + y = z := ⟨_, rfl⟩
      have hzz : (mkL (fun i => dgt a i + dgt b i) k).set k z = mkL (fun i => dgt a i + dgt b i) (k + 1) := by rw [← mkL_set _ k hlt]; congr 1; rw [← hz, ← hx, ← hy]
      have hzB : z < 9223372036854775808 := by omega
      have a1 : (x : Int) + (y : Int) = (z : Int) := by omega
      have a3 : wrap64 (z : Int) = (z : Int) := w64_nat hzB
      have HS := H1.out.set k z
      rw [hzz] at HS
      have HR := Lib.hid HS.drew
      change wr.cell? _ = some (li (dgt a k)) at cx
      change wr.cell? _ = some (li (dgt b k)) at cy
      rw [hx] at cx
      rw [hy] at cy
      generalize (mkL (fun i => dgt a i + dgt b i) k).getD k 0 = old at co
      clear hxb hyb hx hy hz hzz HS H1 hzB
      go_upto_region 5 with fail
      refine wp_region_still_tail 10 (by kernel_rfl) (by kernel_rfl) ?_
      change wpStill _ _ (World.drew wr) (fun a' => wpList _ _ _ _ a' (World.drew wr)) _ _
      simp only [List.take_succ_cons, List.take_zero, List.drop_succ_cons, List.drop_zero]
      repeat still_step
      refine wpStill_nil ?_
      go_wp2
      go_roundw
      case rel => exact ⟨k + 1, by omega, by go_num, HR⟩
      case measure => simp [intOf]; omega
    · obtain rfl : k = 16 := by omega
      have HF := Lib.hid (folded_any (mkL (fun i => dgt a i + dgt b i) 16) (w.heap.size + 3) 16 16 wr (mkL_length _ _) (by decide) (by decide) (mkL_le _ _ _ fun i _ => by have := dgt_lt a i; have := dgt_lt b i; omega) H1.out.hl)
      have HZ0 := Lib.hid H1.out.hz
      have HB0 := Lib.hid H1.out.hB
      have HVAL := Lib.hid (vah_sum a b HAB.out.1 HAB.out.2)
      have hzlt : w.heap.size + 2 < (wr).heap.size := H1.out.hz.lt
      clear H1
      go_upto_region 6 with fail
      go_wp2_with fail
      (with_reducible refine HF.out.mono ?_)
      rintro e W1 ⟨⟨r, rfl, hr1, hr2⟩, hb1⟩
      have HZ1 := Lib.hid (HZ0.out.below hb1 hzlt)
      have RB := Lib.hid (below_setRow (bstep HB0.out hb1) (show w.heap.size ≤ w.heap.size + 2 by omega) (niC (dN r)))
      have R1 := Lib.hid (HZ1.out.row (dN r))
      have HR := Lib.hid (And.intro hr1 hr2)
      have HLN := Lib.hid (show (niC (dN r)).size = 16 ∧ (niC Z16).size = 16 by rw [niC_size, niC_size, dN_length]; exact ⟨rfl, rfl⟩)
      clear hb1 HF HZ0 HB0 hr1 hr2 hzlt
      go_wp2_with (refine wpList_store_row rfl 48 _ _ rfl (w.heap.size + 2) (niC (dN r)) rfl rfl 48 _ HZ1.out (by rw [size48, HLN.out.1]) (by rw [HLN.out.1, HLN.out.2]) (niC_one _) ?_)
      exact bodyPost_ret (v := .agg (niC (dN r))) (results_cell_row (p := 4) (ty := 48) Tryd.results32 _ _ (w.heap.size + 2) 48 _ (0, 0) _ rfl R1.out Tryd.underlying48 rfl (by rw [size48, HLN.out.1])) rfl ⟨⟨r, rfl, HR.out.1, HR.out.2.trans (congrArg (· % pC) HVAL.out)⟩, RB.out⟩
set_option maxRecDepth 100000 in
set_option maxHeartbeats 8000000 in
theorem diff_any (a b : Nat) (w : World) (ha : a < two256) (hb : b < two256) : Calls Tryd.prog 33 #[.agg (niC (dN a)), .agg (niC (dN b))] w fun e w' => (∃ r, e = .returned (.agg (niC (dN r))) ∧ r < two256 ∧ r % pC = (a + 4 * pC - b) % pC) ∧ Below w.heap.size w w' := by
  have hz := zero48
  have hmk := make16
  have H0 := Lib.hid (Fr.start w a b Z16)
  have HAB := Lib.hid (And.intro ha hb)
  clear ha hb
  go_enter Tryd.func33, Tryd.ntmps33
  go_upto_region 2 with fail
  clear hz hmk
  generalize World.alloc (World.alloc (World.alloc (World.alloc w _) _) _) _ = V at H0 ⊢
  have H1 : Hid (Fr w a b (mkL (dfF a b) 0) V) := Lib.hid (by rw [mkL_zero]; exact H0.out)
  clear H0
  go_wp2
  go_loopw [6] (fun i wr => ∃ k : Nat, k ≤ 16 ∧ i = .int .i64 (k : Int) ∧ Hid (Fr w a b (mkL (dfF a b) k) wr)) (fun i _ => 16 - (intOf i).toNat)
  case atStart => exact ⟨0, by omega, rfl, H1⟩
  case round =>
    clear H1
    obtain ⟨k, hk, rfl, H1⟩ := hrel
    by_cases hlt : k < 16
    · have hki : (k : Int) < 16 := by omega
      have cx := H1.out.ha.getD (i := k) (by rw [dN_length]; exact hlt)
      have cy := H1.out.hb.getD (i := k) (by rw [dN_length]; exact hlt)
      have co := H1.out.hl.getD (i := k) (by rw [mkL_length]; exact hlt)
      have cf := H1.out.hl.free k
      have hxb := dgt_lt a k
      have hyb := dgt_lt b k
      obtain ⟨x, hx⟩ : ∃ x, dgt a k = x := ⟨_, rfl⟩
      obtain ⟨y, hy⟩ : ∃ x, dgt b k = x := ⟨_, rfl⟩
      obtain ⟨z, hz⟩ : ∃ z, x + 131070 - y = z := ⟨_, rfl⟩
      have hzz : (mkL (dfF a b) k).set k z = mkL (dfF a b) (k + 1) := by rw [← mkL_set _ k hlt]; congr 1; rw [← hz, ← hx, ← hy]; rfl
      have hzB : z < 9223372036854775808 := by omega
      have a1 : (x : Int) - (y : Int) + 131070 = (z : Int) := by omega
      have a2 : IntKind.i64.wrap ((x : Int) - (y : Int)) = (x : Int) - (y : Int) := IntWalk.i64_in _ (by omega)
      have a3 : wrap64 (z : Int) = (z : Int) := w64_nat hzB
      have HS := H1.out.set k z
      rw [hzz] at HS
      have HR := Lib.hid HS.drew
      change wr.cell? _ = some (li (dgt a k)) at cx
      change wr.cell? _ = some (li (dgt b k)) at cy
      rw [hx] at cx
      rw [hy] at cy
      generalize (mkL (dfF a b) k).getD k 0 = old at co
      clear hxb hyb hx hy hz hzz HS H1 hzB
      go_upto_region 5 with fail
      refine wp_region_still_tail 11 (by kernel_rfl) (by kernel_rfl) ?_
      change wpStill _ _ (World.drew wr) (fun a' => wpList _ _ _ _ a' (World.drew wr)) _ _
      simp only [List.take_succ_cons, List.take_zero, List.drop_succ_cons, List.drop_zero]
      repeat still_step
      refine wpStill_nil ?_
      go_wp2
      go_roundw
      case rel => exact ⟨k + 1, by omega, by go_num, HR⟩
      case measure => simp [intOf]; omega
    · obtain rfl : k = 16 := by omega
      have cx := H1.out.hl.getD (i := 0) (by rw [mkL_length]; decide)
      have cf := H1.out.hl.free 0
      have e0 : (mkL (dfF a b) 16).getD 0 0 = dfF a b 0 := by simp [mkL]
      rw [e0] at cx
      have hlo : 65535 ≤ dfF a b 0 := by have := dgt_lt b 0; unfold dfF; omega
      have hhi : dfF a b 0 ≤ 196605 := by have := dgt_lt a 0; unfold dfF; omega
      have HS := Lib.hid (H1.out.set 0 (dfF a b 0 - 74))
      have HVAL0 := Lib.hid (vah_dif a b HAB.out.1 HAB.out.2)
      have HLE : Hid (∀ x ∈ (mkL (dfF a b) 16).set 0 (dfF a b 0 - 74), x ≤ 1099511627776) := Lib.hid (set_le (mkL_le _ _ 1099511627776 fun i _ => by have := dgt_lt a i; unfold dfF; omega) (Nat.le_refl _) (by omega))
      have hln : ((mkL (dfF a b) 16).set 0 (dfF a b 0 - 74)).length = 16 := by rw [List.length_set, mkL_length]
      generalize (mkL (dfF a b) 16).set 0 (dfF a b 0 - 74) = LS at HS HVAL0 HLE hln
      obtain ⟨x, hx⟩ : ∃ x, dfF a b 0 = x := ⟨_, rfl⟩
      rw [hx] at cx hlo hhi HS
      obtain ⟨z, hz⟩ : ∃ z, x - 74 = z := ⟨_, rfl⟩
      rw [hz] at HS
      have a1 : (x : Int) - 74 = (z : Int) := by omega
      have HLN0 := Lib.hid hln
      have a3 : wrap64 (z : Int) = (z : Int) := w64_nat (by omega)
      clear hlo hhi hx hz H1 hln e0
      go_upto_region 7 with fail
      have H1 := HS
      clear HS cx cf a1
      have HF := Lib.hid (folded_any LS (w.heap.size + 3) 16 16 (wr.setCell ⟨w.heap.size + 3, 0, none⟩ (.int .i64 (z : Int))) HLN0.out (by decide) (by decide) HLE.out H1.out.hl)
      have HZ0 := Lib.hid H1.out.hz
      have HB0 := Lib.hid H1.out.hB
      have HVAL := Lib.hid HVAL0.out
      have hzlt : w.heap.size + 2 < ((wr.setCell ⟨w.heap.size + 3, 0, none⟩ (.int .i64 (z : Int)))).heap.size := H1.out.hz.lt
      clear H1
      go_wp2_with fail
      (with_reducible refine HF.out.mono ?_)
      rintro e W1 ⟨⟨r, rfl, hr1, hr2⟩, hb1⟩
      have HZ1 := Lib.hid (HZ0.out.below hb1 hzlt)
      have RB := Lib.hid (below_setRow (bstep HB0.out hb1) (show w.heap.size ≤ w.heap.size + 2 by omega) (niC (dN r)))
      have R1 := Lib.hid (HZ1.out.row (dN r))
      have HR := Lib.hid (And.intro hr1 hr2)
      have HLN := Lib.hid (show (niC (dN r)).size = 16 ∧ (niC Z16).size = 16 by rw [niC_size, niC_size, dN_length]; exact ⟨rfl, rfl⟩)
      clear hb1 HF HZ0 HB0 hr1 hr2 hzlt
      go_wp2_with (refine wpList_store_row rfl 48 _ _ rfl (w.heap.size + 2) (niC (dN r)) rfl rfl 48 _ HZ1.out (by rw [size48, HLN.out.1]) (by rw [HLN.out.1, HLN.out.2]) (niC_one _) ?_)
      exact bodyPost_ret (v := .agg (niC (dN r))) (results_cell_row (p := 4) (ty := 48) Tryd.results33 _ _ (w.heap.size + 2) 48 _ (0, 0) _ rfl R1.out Tryd.underlying48 rfl (by rw [size48, HLN.out.1])) rfl ⟨⟨r, rfl, HR.out.1, HR.out.2.trans (congrArg (· % pC) HVAL.out)⟩, RB.out⟩
end Go.Proofs.YtbadiljligcenaaDoor
