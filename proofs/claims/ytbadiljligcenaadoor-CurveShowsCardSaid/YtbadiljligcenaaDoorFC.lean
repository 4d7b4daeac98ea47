/- Contract of carry. -/
import Derived.Test.YtbadiljligcenaaDoorFB
import Derived.StillTailTactics
namespace Go.Proofs.YtbadiljligcenaaDoor
open Go.RowKit Go.ChangeShapes
theorem getD_le {l : List Nat} {B : Nat} (h : ∀ x ∈ l, x ≤ B) (i : Nat) : l.getD i 0 ≤ B := by
  rw [List.getD_eq_getElem?_getD]
  by_cases hi : i < l.length
  · rw [List.getElem?_eq_getElem hi]; exact h _ (List.getElem_mem hi)
  · rw [List.getElem?_eq_none (by omega)]; exact Nat.zero_le _
theorem ovr_le (l : List Nat) (hB : ∀ x ∈ l, x ≤ 9223372036854775808) (k : Nat) : ovr l k ≤ 8192 := by
  induction k with
  | zero => rw [ovr_zero]; exact Nat.zero_le _
  | succ k ih =>
    by_cases h : k < l.length
    · rw [← (stl_step l k h).2]
      have := getD_le hB k
      omega
    · have e : l.take (k + 1) = l.take k := by rw [List.take_of_length_le (by omega), List.take_of_length_le (by omega)]
      unfold ovr at ih ⊢
      rw [e, Nat.pow_succ, ← Nat.div_div_eq_div_mul]
      exact Nat.le_trans (Nat.div_le_self _ _) ih
set_option maxRecDepth 100000 in
set_option maxHeartbeats 2000000 in
theorem carry_any (g : Nat) (t : TypeId) (l f : List Nat) (w : World) (hl : l.length = 5) (hb : ∀ x ∈ l, x ≤ 9223372036854775808) (hA : Lar w g t (l ++ f)) :
    Calls Tryd.prog 48 #[.pointer (some ⟨g, 0, none⟩)] w fun e w' => e = .returned (.int .u64 ((val l / two255 : Nat) : Int)) ∧ Lar w' g t (lm (val l) ++ f) ∧ Only g w w' := by
  have HA := Lib.hid hA
  have HL := Lib.hid hl
  have HB := Lib.hid hb
  clear hA hl hb
  go_enter Tryd.func48, Tryd.ntmps48
  go_wp2
  go_loopw [3, 5] (fun o i wr => ∃ k : Nat, k ≤ 5 ∧ o = .int .u64 ((ovr l k : Nat) : Int) ∧ i = .int .i64 k ∧ Hid (Lar wr g t (stl l k ++ f)) ∧ Hid (Only g w wr)) (fun _ i _ => 5 - (intOf i).toNat)
  case atStart => exact ⟨0, by omega, by rw [ovr_zero]; rfl, rfl, by rw [stl_zero]; exact HA, Lib.hid (Only.refl _ _)⟩
  case round =>
    clear HA
    obtain ⟨k, hk, rfl, rfl, HA, HO⟩ := hrel
    by_cases hlt : k < 5
    · have hlen : (stl l k).length = 5 := by rw [stl_length _ _ (by rw [HL.out]; omega), HL.out]
      have cx := HA.out.getD (i := k) (by simp [hlen]; omega)
      rw [getD_app_l (by omega), stl_get] at cx
      have cf := HA.out.free k
      have hx4 := getD_le HB.out k
      have ho4 := ovr_le l HB.out k
      obtain ⟨hs1, hs2⟩ := stl_step l k (by rw [HL.out]; exact hlt)
      obtain ⟨x, hx⟩ : ∃ x, l.getD k 0 = x := ⟨_, rfl⟩
      obtain ⟨o, ho⟩ : ∃ o, ovr l k = o := ⟨_, rfl⟩
      obtain ⟨z, hz⟩ : ∃ z, x + o = z := ⟨_, rfl⟩
      rw [hx] at cx hx4 hs1 hs2
      rw [ho] at ho4 hs1 hs2 ⊢
      rw [hz] at hs1 hs2
      have a1 : IntKind.u64.wrap ((x : Int) + (o : Int)) = (z : Int) := by rw [← Int.natCast_add, hz]; exact u64_back (by omega)
      have m1 : bits .and .u64 (z : Int) 2251799813685247 = ((z % 2251799813685248 : Nat) : Int) := u64_mask (by omega)
      have HS1 := Lib.hid ((HA.out.set k z).drew)
      have HE : Hid (((stl l k ++ f).set k z).set k (z % 2251799813685248) = stl l (k + 1) ++ f) := Lib.hid (by rw [List.set_set, set_app_l (by omega), hs1])
      have HO1 := Lib.hid ((HO.out.set k (ld z)).drew)
      have HN : Hid (k < ((stl l k ++ f).set k z).length) := Lib.hid (by simp [hlen]; omega)
      have HG : Hid (((stl l k ++ f).set k z).getD k 0 = z) := Lib.hid (by rw [getD_setM, if_pos ⟨rfl, by simp [hlen]; omega⟩])
      have hv : (z : Int) / 2251799813685248 = ((ovr l (k + 1) : Nat) : Int) := by rw [← hs2]; simp
      clear hx ho hs1 hs2 hz hlen hx4 ho4
      go_wp2
      refine wp_region_still_tail 9 (by kernel_rfl) (by kernel_rfl) ?_
      change wpStill _ _ (World.drew wr) (fun a' => wpList _ _ _ _ a' (World.drew wr)) _ _
      simp only [List.take_succ_cons, List.take_zero, List.drop_succ_cons, List.drop_zero]
      repeat still_step
      refine wpStill_nil ?_
      go_wp2
      generalize (wr.setCell { block := g, off := k } (Value.int IntKind.u64 ↑z)).drew = V at HS1 HO1 ⊢
      have cx2 := HS1.out.getD HN.out
      rw [HG.out] at cx2
      have cf2 := HS1.out.free k
      have HS2 := Lib.hid ((HS1.out.set k (z % 2251799813685248)).drew)
      rw [HE.out] at HS2
      have HO2 := Lib.hid ((HO1.out.set k (ld (z % 2251799813685248))).drew)
      clear HS1 HO1 cx cf HG HN HE
      refine wp_region_still_tail 8 (by kernel_rfl) (by kernel_rfl) ?_
      change wpStill _ _ (World.drew V) (fun a' => wpList _ _ _ _ a' (World.drew V)) _ _
      simp only [List.take_succ_cons, List.take_zero, List.drop_succ_cons, List.drop_zero]
      repeat still_step
      refine wpStill_nil ?_
      go_wp2
      go_roundw
      case rel => exact ⟨k + 1, by omega, rfl, by go_num, HS2, HO2⟩
      case measure => simp [intOf]; omega
    · obtain rfl : k = 5 := by omega
      have h5 := settled l HL.out
      rw [h5.1] at HA
      rw [h5.2]
      have e : lm (val l % two255) = lm (val l) := by unfold lm; rw [← pow5, dig_lo]
      rw [e] at HA
      clear h5 e
      go_wp2
      go_ret
      exact ⟨rfl, HA.out, HO.out⟩
end Go.Proofs.YtbadiljligcenaaDoor
