/- The reference: product. -/
import Derived.Test.YtbadiljligcenaaDoorGD
namespace Go.Proofs.YtbadiljligcenaaDoor
open Go.RowKit Go.ChangeShapes
def Z31 : List Nat := List.replicate 31 0
theorem make31 (w : World) : (Instr.makeSlice 78 (.int .i64 31) (.int .i64 31)).run Tryd.prog w = .ok (.slice (some ⟨w.heap.size, 0, none⟩) 31 31) (w.alloc (.cells (niC Z31) 3)) := by kernel_rfl
theorem pr_step (b i k x A : Nat) (l : List Nat) (hl : i + k < l.length) (hk : k < 16) (h : vah l = A * b + 65536 ^ i * (x * vah ((dN b).take k))) :
    vah (l.set (i + k) (l.getD (i + k) 0 + x * dgt b k)) = A * b + 65536 ^ i * (x * vah ((dN b).take (k + 1))) := by
  rw [vah_set _ _ _ _ hl rfl, h, take_vah _ k (by rw [dN_length]; exact hk), Nat.mul_add x, Nat.mul_add, Nat.pow_add, Nat.add_assoc]
  congr 2
  show 65536 ^ i * 65536 ^ k * (x * (dN b).getD k 0) = 65536 ^ i * (x * (65536 ^ k * (dN b).getD k 0))
  rw [Nat.mul_assoc, Nat.mul_left_comm (65536 ^ k) x]
theorem pr_row (a b i : Nat) (l : List Nat) (hi : i < 16) (hb : b < two256) (h : vah l = vah ((dN a).take i) * b + 65536 ^ i * (dgt a i * vah ((dN b).take 16))) :
    vah l = vah ((dN a).take (i + 1)) * b + 65536 ^ (i + 1) * (dgt a (i + 1) * vah ((dN b).take 0)) := by
  rw [List.take_of_length_le (Nat.le_of_eq (dN_length b)), vah_dN b hb] at h
  rw [h, take_vah _ i (by rw [dN_length]; exact hi), Nat.add_mul, List.take_zero]
  show _ = _ + _ * (_ * 0)
  rw [Nat.mul_zero, Nat.mul_zero, Nat.add_zero, Nat.mul_assoc]
  rfl
theorem pr_end (a b : Nat) (l : List Nat) (ha : a < two256) (h : vah l = vah ((dN a).take 16) * b + 65536 ^ 16 * (dgt a 16 * vah ((dN b).take 0))) : vah l = a * b := by
  rw [List.take_of_length_le (Nat.le_of_eq (dN_length a)), vah_dN a ha, List.take_zero] at h
  rw [h]
  show _ + _ * (_ * 0) = _
  rw [Nat.mul_zero, Nat.mul_zero, Nat.add_zero]
theorem bM_ex : ∃ b : Nat → Nat, (∀ k, b (k + 1) = b k + 4294836225) ∧ (∀ k, k ≤ 256 → b k ≤ 1099511627776) ∧ b 0 = 0 := ⟨fun k => k * 4294836225, fun k => Nat.succ_mul _ _, fun k h => by show k * 4294836225 ≤ _; omega, Nat.zero_mul _⟩
set_option maxRecDepth 100000 in
set_option maxHeartbeats 8000000 in
theorem prod_any (a b : Nat) (w : World) (ha : a < two256) (hb : b < two256) : Calls Tryd.prog 34 #[.agg (niC (dN a)), .agg (niC (dN b))] w fun e w' => (∃ r, e = .returned (.agg (niC (dN r))) ∧ r < two256 ∧ r % pC = (a * b) % pC) ∧ Below w.heap.size w w' := by
  obtain ⟨bM, hM1, hM2, hM3⟩ := bM_ex
  have HBM := Lib.hid (And.intro hM1 (And.intro hM2 hM3))
  have hz := zero48
  have hmk := make31
  have H0 := Lib.hid (Fr.start w a b Z31)
  have HAB := Lib.hid (And.intro ha hb)
  clear ha hb hM1 hM2 hM3
  go_enter Tryd.func34, Tryd.ntmps34
  go_upto_region 2 with fail
  clear hz hmk
  generalize World.alloc (World.alloc (World.alloc (World.alloc w _) _) _) _ = V at H0 ⊢
  go_wp2
  go_loopw [6] (fun i wr => ∃ p : Nat, p ≤ 16 ∧ i = .int .i64 (p : Int) ∧ ∃ l : List Nat, l.length = 31 ∧ Hid (Fr w a b l wr) ∧ Hid ((∀ x ∈ l, x ≤ bM (16 * p)) ∧ vah l = vah ((dN a).take p) * b + 65536 ^ p * (dgt a p * vah ((dN b).take 0)))) (fun i _ => 16 - (intOf i).toNat)
  case atStart => exact ⟨0, by omega, rfl, Z31, rfl, H0, Lib.hid ⟨fun x hx => by rw [List.eq_of_mem_replicate hx]; exact Nat.zero_le _, by rw [List.take_zero, List.take_zero]; show vah Z31 = 0 * b + 65536 ^ 0 * (_ * 0); rw [Nat.zero_mul, Nat.mul_zero, Nat.mul_zero]; decide⟩⟩
  case round =>
    clear H0
    obtain ⟨p, hp, rfl, l0, hl0, H1, H2⟩ := hrel
    by_cases hpt : p < 16
    · have hpi : (p : Int) < 16 := by omega
      have H3 : Hid ((∀ x ∈ l0, x ≤ bM (16 * p + 0)) ∧ vah l0 = vah ((dN a).take p) * b + 65536 ^ p * (dgt a p * vah ((dN b).take 0))) := H2
      clear H2
      go_wp2
      go_loopw [7] (fun i wx => ∃ k : Nat, k ≤ 16 ∧ i = .int .i64 (k : Int) ∧ ∃ l : List Nat, l.length = 31 ∧ Hid (Fr w a b l wx) ∧ Hid ((∀ x ∈ l, x ≤ bM (16 * p + k)) ∧ vah l = vah ((dN a).take p) * b + 65536 ^ p * (dgt a p * vah ((dN b).take k)))) (fun i _ => 16 - (intOf i).toNat)
      case atStart => exact ⟨0, by omega, rfl, l0, hl0, H1, H3⟩
      case round =>
        clear H1 H3
        obtain ⟨k, hk, rfl, l, hl, H1, H3⟩ := hrel
        by_cases hlt : k < 16
        · have hki : (k : Int) < 16 := by omega
          have cx := H1.out.ha.getD (i := p) (by rw [dN_length]; exact hpt)
          have cy := H1.out.hb.getD (i := k) (by rw [dN_length]; exact hlt)
          have co := H1.out.hl.getD (i := p + k) (by omega)
          have cf := H1.out.hl.free (p + k)
          have hxb := dgt_lt a p
          have hyb := dgt_lt b k
          have hob := getD_le H3.out.1 (p + k)
          have hM2 := HBM.out.2.1 (16 * p + k) (by omega)
          have hM1 := HBM.out.1 (16 * p + k)
          have hst := pr_step b p k (dgt a p) _ l (by omega) hlt H3.out.2
          change wr.cell? _ = some (li (dgt a p)) at cx
          change wr.cell? _ = some (li (dgt b k)) at cy
          obtain ⟨x, hx⟩ : ∃ x, dgt a p = x := ⟨_, rfl⟩
          obtain ⟨y, hy⟩ : ∃ x, dgt b k = x := ⟨_, rfl⟩
          obtain ⟨s, hs⟩ : ∃ s, p + k = s := ⟨_, rfl⟩
          rw [hs] at co cf hob
          obtain ⟨u, hu⟩ : ∃ u, l.getD s 0 = u := ⟨_, rfl⟩
          rw [hu] at co hob
          obtain ⟨m, hm⟩ : ∃ m, x * y = m := ⟨_, rfl⟩
          obtain ⟨z, hz⟩ : ∃ z, u + m = z := ⟨_, rfl⟩
          rw [hy, hs, hu, hx, hm, hz] at hst
          have hmb : m ≤ 65535 * 65535 := by rw [← hm, ← hx, ← hy]; exact Nat.mul_le_mul hxb hyb
          have hle : ∀ x ∈ l.set s z, x ≤ bM (16 * p + (k + 1)) := by
            show ∀ x ∈ l.set s z, x ≤ bM (16 * p + k + 1)
            exact set_le H3.out.1 (by omega) (by omega)
          rw [hx] at cx
          rw [hy] at cy
          have HS := H1.out.set s z
          have HR := Lib.hid HS.drew
          have hln : (l.set s z).length = 31 := by rw [List.length_set]; exact hl
          have HPR : Hid ((∀ x ∈ l.set s z, x ≤ bM (16 * p + (k + 1))) ∧ vah (l.set s z) = vah ((dN a).take p) * b + 65536 ^ p * (dgt a p * vah ((dN b).take (k + 1)))) := Lib.hid ⟨hle, by rw [hx]; exact hst⟩
          generalize l.set s z = l2 at HR hln HPR
          have hsi : (s : Int) < 31 := by omega
          have a1 : (p : Int) + (k : Int) = (s : Int) := by omega
          have a2 : (x : Int) * (y : Int) = (m : Int) := by rw [← hm]; exact (Int.natCast_mul x y).symm
          have a3 : (u : Int) + (m : Int) = (z : Int) := by omega
          have hzB : z < 9223372036854775808 := by omega
          have hmB : m < 9223372036854775808 := by omega
          have hsB : s < 9223372036854775808 := by omega
          clear hxb hyb hob hM2 hM1 hst hx hy hs hu hm hz hmb hle HS H1 H3 hl
          have b1 : IntKind.i64.wrap (s : Int) = (s : Int) := i64_nat hsB
          have b2 : IntKind.i64.wrap (m : Int) = (m : Int) := i64_nat hmB
          have b3 : wrap64 (z : Int) = (z : Int) := w64_nat hzB
          clear hzB hmB hsB
          go_upto_region 8 with fail
          refine wp_region_still_tail 19 (by kernel_rfl) (by kernel_rfl) ?_
          change wpStill _ _ (World.drew wr) (fun a' => wpList _ _ _ _ a' (World.drew wr)) _ _
          simp only [List.take_succ_cons, List.take_zero, List.drop_succ_cons, List.drop_zero]
          repeat still_step
          refine wpStill_nil ?_
          go_wp2
          go_roundw
          case rel => exact ⟨k + 1, by omega, by go_num, l2, hln, HR, HPR⟩
          case measure => simp [intOf]; omega
        · obtain rfl : k = 16 := by omega
          have HP : Hid ((∀ x ∈ l, x ≤ bM (16 * (p + 1))) ∧ vah l = vah ((dN a).take (p + 1)) * b + 65536 ^ (p + 1) * (dgt a (p + 1) * vah ((dN b).take 0))) := Lib.hid ⟨fun x hx => H3.out.1 x hx, pr_row a b p l hpt HAB.out.2 H3.out.2⟩
          clear H3
          go_wp2
          go_roundw
          case rel => exact ⟨p + 1, by omega, by go_num, l, hl, H1, HP⟩
          case measure => simp [intOf]; omega
    · obtain rfl : p = 16 := by omega
      have hbl : ∀ x ∈ l0, x ≤ 1099511627776 := fun x hx => Nat.le_trans (H2.out.1 x hx) (HBM.out.2.1 _ (by decide))
      have hvl := pr_end a b l0 HAB.out.1 H2.out.2
      have HBL := Lib.hid hbl
      have HVL := Lib.hid hvl
      clear hbl hvl H2
      have HF := Lib.hid (folded_any l0 (w.heap.size + 3) 31 31 wr hl0 (by decide) (by decide) HBL.out H1.out.hl)
      have HZ0 := Lib.hid H1.out.hz
      have HB0 := Lib.hid H1.out.hB
      have HVAL := Lib.hid HVL.out
      have hzlt : w.heap.size + 2 < (wr).heap.size := H1.out.hz.lt
      clear H1
      go_upto_region 9 with fail
      go_wp2_with fail
      (with_reducible refine HF.out.mono ?_)
      rintro e W1 ⟨⟨r, rfl, hr1, hr2⟩, hb1⟩
      have HZ1 := Lib.hid (HZ0.out.below hb1 hzlt)
      have RB := Lib.hid (below_setRow (bstep HB0.out hb1) (show w.heap.size ≤ w.heap.size + 2 by omega) (niC (dN r)))
      have R1 := Lib.hid (HZ1.out.row (dN r))
      have HR := Lib.hid (And.intro hr1 hr2)
      have HLN := Lib.hid (show (niC (dN r)).size = 16 ∧ (niC Z16).size = 16 by rw [niC_size, niC_size, dN_length]; exact ⟨rfl, rfl⟩)
      clear hb1 HF HZ0 HB0 hr1 hr2 hzlt
      go_wp2_with (refine wpList_store_row rfl 48 _ _ rfl (w.heap.size + 2) (niC (dN r)) rfl rfl 48 _ HZ1.out (by rw [size48, HLN.out.1]) (by rw [HLN.out.1, HLN.out.2]) (niC_one _) ?_)
      exact bodyPost_ret (v := .agg (niC (dN r))) (results_cell_row (p := 4) (ty := 48) Tryd.results34 _ _ (w.heap.size + 2) 48 _ (0, 0) _ rfl R1.out Tryd.underlying48 rfl (by rw [size48, HLN.out.1])) rfl ⟨⟨r, rfl, HR.out.1, HR.out.2.trans (congrArg (· % pC) HVAL.out)⟩, RB.out⟩
end Go.Proofs.YtbadiljligcenaaDoor
