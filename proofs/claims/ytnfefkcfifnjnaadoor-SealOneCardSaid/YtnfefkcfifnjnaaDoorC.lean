/- Contracts of filling words with octets, of writing words as octets. -/
import Derived.Test.YtnfefkcfifnjnaaDoorB
namespace Go.Proofs.YtnfefkcfifnjnaaDoor
open Go.RowKit Go.ChangeShapes

theorem oct_mod (c : UInt8) (m : Nat) (hm : m ≤ 3) : (c.toNat : Int) * 2 ^ (8 * m) % 4294967296 = ((c.toNat * 2 ^ (8 * m) : Nat) : Int) := by
  have hc := c.toNat_lt
  have h2 : c.toNat * 2 ^ (8 * m) ≤ 255 * 2 ^ 24 := Nat.mul_le_mul (by omega) (Nat.pow_le_pow_right (by decide) (by omega))
  have e2 : (c.toNat : Int) * 2 ^ (8 * m) = ((c.toNat * 2 ^ (8 * m) : Nat) : Int) := by simp
  rw [e2]
  omega
set_option maxRecDepth 100000 in
set_option maxHeartbeats 2000000 in
theorem fill_any (g p : Nat) (l : List Nat) (s : List UInt8) (n : Nat) (w : World) (hn : s.length = n) (hl : l.length = 16) (hp : p + (n + 3) / 4 ≤ 16) (hW : AllW l) (hA : Arr w g 84 l) :
    Calls Tryd.prog 80 #[.pointer (some ⟨g, 0, none⟩), .int .i64 (p : Int), .string (bs s)] w fun e w' => (∃ v, e = .returned v) ∧ Arr w' g 84 (fillK l p s n) ∧ Only g w w' := by
  have hsz : (bs s).size = n := by rw [bs_size, hn]
  have hget : ∀ k (h : k < (bs s).size), (bs s)[k] = s.getD k 0 := fun k h => by
    rw [List.getD_eq_getElem?_getD, List.getElem?_eq_getElem (by rw [bs_size] at h; exact h)]; rfl
  obtain ⟨S, hS⟩ : ∃ S, bs s = S := ⟨_, rfl⟩
  rw [hS] at hsz hget ⊢
  have HG := Lib.hid hget
  have HA := Lib.hid hA
  have HL := Lib.hid hl
  have HW := Lib.hid hW
  have hn64 : n ≤ 64 := by omega
  clear hget hA hl hW hS hn
  subst hsz
  go_enter Tryd.func80, Tryd.ntmps80
  go_wp2
  go_loopw [9] (fun i wr => ∃ k : Nat, k ≤ S.size ∧ i = .int .i64 k ∧ Hid (Arr wr g 84 (fillK l p s k)) ∧ Hid (Only g w wr)) (fun i _ => S.size - (intOf i).toNat)
  case atStart => exact ⟨0, by omega, rfl, HA, Lib.hid (Only.refl _ _)⟩
  case round =>
    clear HA
    obtain ⟨k, hk, rfl, HA, HO⟩ := hrel
    by_cases hlt : k < S.size
    · obtain ⟨q, hq⟩ : ∃ q, k / 4 = q := ⟨_, rfl⟩
      obtain ⟨m, hm⟩ : ∃ m, k % 4 = m := ⟨_, rfl⟩
      have hpq : p + q < 16 := by omega
      have hlen : (fillK l p s k).length = 16 := by rw [fillK_length, HL.out]
      have cx := HA.out.getD (i := p + q) (by omega)
      have cf := HA.out.free (p + q)
      have hww := (fillK_all HW.out p s k).get (p + q)
      have hcb : S[k] = s.getD k 0 := HG.out k hlt
      have hsv := oct_mod (s.getD k 0) m (by omega)
      have hor := u32_or hww (oct_w (s.getD k 0) k)
      rw [hm] at hor
      have HS := Lib.hid (HA.out.drew.set (p + q) ((fillK l p s k).getD (p + q) 0 ||| (s.getD k 0).toNat * 2 ^ (8 * m)))
      have HE : Hid (fillK l p s (k + 1) = (fillK l p s k).set (p + q) ((fillK l p s k).getD (p + q) 0 ||| (s.getD k 0).toNat * 2 ^ (8 * m))) := Lib.hid (by rw [fillK, hq, hm])
      rw [← hcb] at hsv hor HS HE
      obtain ⟨x, hx⟩ : ∃ x, (fillK l p s k).getD (p + q) 0 = x := ⟨_, rfl⟩
      obtain ⟨y, hy⟩ : ∃ x, S[k].toNat * 2 ^ (8 * m) = x := ⟨_, rfl⟩
      rw [hx] at cx hor HS HE
      rw [hy] at hsv hor HS HE
      have q1 : (k : Int) / 4 = (q : Int) := by omega
      have m1 : (k : Int) % 4 = (m : Int) := by omega
      have hm3 : m ≤ 3 := by omega
      have r0 : (0 : Int) ≤ (p : Int) + (q : Int) := by omega
      have r1 : (p : Int) + (q : Int) < 16 := by omega
      have r2 : ((p : Int) + (q : Int)).toNat = p + q := by omega
      have m2 : (k : Int).tmod 4 = (m : Int) := by rw [Int.tmod_eq_emod_of_nonneg (by omega)]; omega
      have e5 : IntKind.u32.wrap (S[k].toNat : Int) = (S[k].toNat : Int) := IntWalk.u32_in _ (by have := S[k].toNat_lt; omega)
      have e1 : IntKind.i64.wrap (q : Int) = (q : Int) := IntWalk.i64_in _ (by omega)
      have e2 : IntKind.i64.wrap ((p : Int) + (q : Int)) = (p : Int) + (q : Int) := IntWalk.i64_in _ (by omega)
      have e3 : IntKind.i64.wrap (m : Int) = (m : Int) := IntWalk.i64_in _ (by omega)
      have e4 : IntKind.i64.wrap (8 * (m : Int)) = 8 * (m : Int) := IntWalk.i64_in _ (by omega)
      clear hx hy hq hm hcb hlen hww
      go_wp2
      refine wp_region_still_tail 18 (by kernel_rfl) (by kernel_rfl) ?_
      change wpStill _ _ (World.drew wr) (fun a' => wpList _ _ _ _ a' (World.drew wr)) _ _
      simp only [List.take_succ_cons, List.take_zero, List.drop_succ_cons, List.drop_zero]
      repeat still_step
      refine wpStill_nil ?_
      go_wp2
      go_roundw
      case rel =>
        exact ⟨k + 1, by omega, by go_num, Lib.hid (by rw [HE.out]; exact HS.out), Lib.hid (HO.out.drew.set _ _)⟩
      case measure => simp [intOf]; omega
    · obtain rfl : k = S.size := by omega
      go_wp2
      go_end0
      exact ⟨⟨_, rfl⟩, HA.out, HO.out⟩
set_option maxRecDepth 100000 in
set_option maxHeartbeats 2000000 in
theorem octets_any (g : Nat) (l f : List Nat) (w : World) (hl : l.length = 16) (hW : AllW l) (hA : Arr w g 119 (l ++ f)) :
    Calls Tryd.prog 83 #[.pointer (some ⟨g, 0, none⟩)] w fun e w' => e = .returned (.string (bs (octN l 64))) ∧ Below w.heap.size w w' := by
  have hgl := hA.lt
  have HA := Lib.hid hA
  have HL := Lib.hid hl
  have HW := Lib.hid hW
  clear hA hl hW
  go_enter Tryd.func83, Tryd.ntmps83
  go_wp2
  go_loopw [5] (fun i wr => ∃ k : Nat, k ≤ 64 ∧ i = .int .i64 k ∧ Hid (wr.heap[w.heap.size]? = some (.cells ((byC (octN l k)) ++ List.replicate (64 - k) (Value.int .u8 0)).toArray 137 (0, 0))) ∧ Hid (Below w.heap.size w wr)) (fun i _ => 64 - (intOf i).toNat)
  case atStart => exact ⟨0, by omega, rfl, Lib.hid (heap_alloc_new _ _), Lib.hid ((Below.refl _ _).alloc (Nat.le_refl _) _)⟩
  case round =>
    obtain ⟨k, hk, rfl, HC, HB⟩ := hrel
    by_cases hlt : k < 64
    · obtain ⟨q, hq⟩ : ∃ q, k / 4 = q := ⟨_, rfl⟩
      obtain ⟨m, hm⟩ : ∃ m, k % 4 = m := ⟨_, rfl⟩
      have hA2 : Arr wr g 119 (l ++ f) := HA.out.below HB.out hgl
      have cx := hA2.getD (i := q) (by rw [List.length_append, HL.out]; omega)
      rw [getD_app_l (by rw [HL.out]; omega)] at cx
      have cf := frozen_of_row wr w.heap.size k _ 137 HC.out
      have cc : wr.cell? ⟨w.heap.size, k, none⟩ = some (.int .u8 0) := by
        rw [cell_of_row wr w.heap.size k _ 137 (0, 0) HC.out, List.getElem?_toArray, List.getElem?_append_right (by rw [byC_length, octN_length]; omega), byC_length, octN_length, Nat.sub_self, List.getElem?_replicate, if_pos (by omega)]
      have hst := heap_setCell_same wr w.heap.size k _ 137 (.int .u8 ((octB l k).toNat : Int)) HC.out
      have hst2 : ((byC (octN l k)) ++ List.replicate (64 - k) (Value.int .u8 0)).toArray.setIfInBounds k (Value.int .u8 ((octB l k).toNat : Int)) = ((byC (octN l (k + 1))) ++ List.replicate (64 - (k + 1)) (Value.int .u8 0)).toArray := by
        rw [List.setIfInBounds_toArray, List.set_append_right _ _ (by rw [byC_length, octN_length]; exact Nat.le_refl _), byC_length, octN_length, Nat.sub_self, show 64 - k = (64 - (k + 1)) + 1 by omega, List.replicate_succ, List.set_cons_zero, octN_succ, ← byC_append, List.append_assoc]
        rfl
      rw [hst2] at hst
      have hov : ((octB l k).toNat : Int) = (l.getD q 0 : Int) / 2 ^ (8 * m) % 256 := by
        have e2 : (l.getD q 0 : Int) / 2 ^ (8 * m) = ((l.getD q 0 / 2 ^ (8 * m) : Nat) : Int) := by simp
        unfold octB
        rw [UInt8.toNat_ofNat', hq, hm, e2]
        omega
      rw [hov] at hst
      have HST := Lib.hid hst
      obtain ⟨x, hx⟩ : ∃ x, l.getD q 0 = x := ⟨_, rfl⟩
      rw [hx] at cx hov HST
      have q1 : (k : Int) / 4 = (q : Int) := by omega
      have m1 : (k : Int) % 4 = (m : Int) := by omega
      have hq16 : q < 16 := by omega
      have hm3 : m ≤ 3 := by omega
      clear hx hq hm hst hst2 hov hA2
      go_wp2
      go_roundw
      case rel => exact ⟨k + 1, by omega, by go_num, HST, Lib.hid (HB.out.setCell (Nat.le_refl _) _)⟩
      case measure => simp [intOf]; omega
    · obtain rfl : k = 64 := by omega
      have hcv := run_convert_bytes_back (P := Tryd.prog) wr 25 9 5 ⟨w.heap.size, 0, none⟩ 64 (octN l 64) Tryd.underlying25 Tryd.underlying5 Tryd.underlying9 fun j hj => by
        have hadd : (⟨w.heap.size, 0, none⟩ : Addr).add j = ⟨w.heap.size, j, none⟩ := by unfold Addr.add; split <;> simp_all
        rw [hadd, cell_of_row wr w.heap.size j _ 137 (0, 0) HC.out, List.getElem?_toArray, List.getElem?_append_left (by rw [byC_length]; exact hj), byC_get hj]
      rw [octN_length] at hcv
      go_wp2
      go_ret
      exact ⟨rfl, HB.out⟩
end Go.Proofs.YtnfefkcfifnjnaaDoor
