/- Contract of the constants of the steps. -/
import Derived.Test.YtfdeegafdaobdaaDoorG
namespace Go.Proofs.YtfdeegafdaobdaaDoor
open Go.RowKit Go.ChangeShapes
set_option maxRecDepth 100000 in
set_option maxHeartbeats 4000000 in
theorem fr_cu (w : World) :
    Calls Tryd.prog 74 #[.func (.func 75) #[] #[]] w fun e w' => e = .returned (.agg (wsC KL)) ∧ Below w.heap.size w w' := by
  have hm : ∀ i : Nat, i < 64 → ∀ w, Calls Tryd.prog 91 #[.int .u64 (pr i : Int)] w fun e w' => e = .returned (.int .u64 (pr (i + 1) : Int)) ∧ w = w' := fun i hi w => by
    obtain ⟨h1, h2, h3, h4⟩ := pr_next i (by omega)
    exact primeAfter_any (pr i) (pr (i + 1)) w h1 h2 h3 h4
  have hl : ∀ i : Nat, i < 64 → ∀ w, Calls Tryd.prog 92 #[.int .u64 (pr (i + 1) : Int), .func (.func 75) #[] #[]] w fun e w' => e = .returned (.int .u64 (lastB cuB (pr (i + 1)) 35 : Nat)) ∧ w = w' := fun i hi w => last_cu _ (pr_next i (by omega)).2.1 w
  have HM := Lib.hid hm
  have HL := Lib.hid hl
  clear hm hl
  go_enter Tryd.func74, Tryd.ntmps74
  have hz0 := Arr.new w 103 (List.replicate 64 0)
  have hz1 := Arr.new (w.alloc (.cells (wsC (List.replicate 64 0)) 103)) 103 (List.replicate 64 0)
  simp only [World.size_alloc] at hz1
  have HZ0 := Lib.hid (hz0.alloc (.cells (wsC (List.replicate 64 0)) 103))
  have HZ1 := Lib.hid hz1
  clear hz0
  go_wp2_with (refine wpList_load_row rfl 103 _ rfl (w.heap.size + 1) rfl 103 (wsC (List.replicate 64 0)) (0, 0) _ hz1 Tryd.underlying103 rfl (by rw [size103, wsC_size]; rfl) ?_)
  clear hz1
  go_loopw [4, 8] (fun p i wr => ∃ k q : Nat, k ≤ 64 ∧ i = .int .i64 k ∧ p = .int .u64 q ∧ Hid (pr k = q) ∧ Hid (Arr wr w.heap.size 103 (List.replicate 64 0)) ∧ Hid (Arr wr (w.heap.size + 1) 103 (KL.take k ++ List.replicate (64 - k) 0)) ∧ Below w.heap.size w wr) (fun _ i _ => 64 - (intOf i).toNat)
  case atStart => exact ⟨0, 1, by decide, rfl, rfl, rfl, HZ0, HZ1, by go_grown⟩
  case round =>
    obtain ⟨k, q, hk, rfl, rfl, HQ, HA, HB, hB⟩ := hrel
    clear HZ0 HZ1
    by_cases hlt : k < 64
    · have hc := HM.out k hlt
      have hd := HL.out k hlt
      have hr := KL_root k hlt
      rw [HQ.out] at hc
      obtain ⟨q2, hq2⟩ : ∃ q, pr (k + 1) = q := ⟨_, rfl⟩
      rw [hq2] at hc hd hr
      obtain ⟨v, hv⟩ : ∃ v, lastB cuB q2 35 = v := ⟨_, rfl⟩
      rw [hv] at hd hr
      have hll : (KL.take k ++ List.replicate (64 - k) 0).length = 64 := by rw [List.length_append, List.length_take, List.length_replicate, KL_length]; omega
      have cx := HB.out.getD (i := k) (by rw [hll]; exact hlt)
      have cf := HB.out.free k
      have z := HB.out.lt
      obtain ⟨old, hold⟩ : ∃ o, (KL.take k ++ List.replicate (64 - k) 0).getD k 0 = o := ⟨_, rfl⟩
      rw [hold] at cx
      have hw : IntKind.u32.wrap (v : Int) = ((KL.getD k 0 : Nat) : Int) := by rw [IntKind.wrap_u32]; omega
      obtain ⟨x, hx⟩ : ∃ x, KL.getD k 0 = x := ⟨_, rfl⟩
      rw [hx] at hw
      have HX := Lib.hid hx
      have HQ2 := Lib.hid hq2
      clear hx hq2 hv hr hold hll
      go_wp2_with (first | (go_at_call 91; (with_reducible refine (hc _).mono ?_); rintro e w' ⟨rfl, rfl⟩) | (go_at_call 92; (with_reducible refine (hd _).mono ?_); rintro e w' ⟨rfl, rfl⟩))
      go_roundw
      case rel =>
        refine ⟨k + 1, q2, by omega, by go_num, rfl, HQ2, ?_, ?_, ?_⟩
        · exact HA.out.other (by simp) _
        · have := HB.out.set k x
          rw [← HX.out, roots_step KL 64 k KL_length hlt] at this
          rw [← HX.out]
          exact this
        · exact hB.setCell (by simp) _
      case measure => simp [intOf]; omega
    · obtain rfl : k = 64 := by omega
      have hA := HA.out
      have hb := HB.out
      rw [List.take_of_length_le (by rw [KL_length]; exact Nat.le_refl _), Nat.sub_self, List.replicate_zero, List.append_nil] at hb
      have hB2 : Below w.heap.size w (wr.setRow w.heap.size (wsC KL)) := below_setRow hB (Nat.le_refl _) _
      clear HA HB HM HL
      go_wp2_with (first | (refine wpList_load_row rfl 103 _ rfl (w.heap.size + 1) rfl 103 (wsC KL) (0, 0) _ hb Tryd.underlying103 rfl (by rw [size103, wsC_size, KL_length]) ?_) | (refine wpList_store_row rfl 103 _ _ rfl w.heap.size (wsC KL) rfl rfl 103 _ hA (by rw [size103, wsC_size, KL_length]) (by rw [wsC_size, wsC_size, KL_length]; rfl) (wsC_one _) ?_))
      have hr2 := hA.row KL
      exact bodyPost_ret (v := .agg (wsC KL)) (results_cell_row (p := 2) (ty := 103) Tryd.results74 _ _ w.heap.size 103 _ (0, 0) _ rfl hr2 Tryd.underlying103 rfl (by rw [size103, wsC_size, KL_length])) rfl ⟨rfl, hB2⟩
end Go.Proofs.YtfdeegafdaobdaaDoor
