/- Contracts of the constants: the fractional parts of the roots of the first primes. -/
import Derived.Test.YtfdeegafdaobdaaDoorF
import Derived.Test.YtfdeegafdaobdaaDoorM
namespace Go.Proofs.YtfdeegafdaobdaaDoor
open Go.RowKit Go.ChangeShapes

/-- One, and the first primes. -/
def prL : List Nat := [1, 2, 3, 5, 7, 11, 13, 17, 19, 23, 29, 31, 37, 41, 43, 47, 53, 59, 61, 67, 71, 73, 79, 83, 89, 97, 101, 103, 107, 109, 113, 127, 131, 137, 139, 149, 151, 157, 163, 167, 173, 179, 181, 191, 193, 197, 199, 211, 223, 227, 229, 233, 239, 241, 251, 257, 263, 269, 271, 277, 281, 283, 293, 307, 311]
def pr (i : Nat) : Nat := prL.getD i 0
theorem pr_next0 : ∀ i, i < 64 → pr i < pr (i + 1) ∧ pr (i + 1) ≤ 400 ∧ prm (pr (i + 1)) = true ∧ ∀ m, m < 320 → pr i < m → m < pr (i + 1) → prm m = false := by decide +kernel
theorem pr_next (i : Nat) (hi : i < 64) : pr i < pr (i + 1) ∧ pr (i + 1) ≤ 400 ∧ prm (pr (i + 1)) = true ∧ ∀ m, pr i < m → m < pr (i + 1) → prm m = false := by
  obtain ⟨h1, h2, h3, h4⟩ := pr_next0 i hi
  have h5 : ∀ i, i < 64 → pr (i + 1) ≤ 311 := by decide +kernel
  exact ⟨h1, h2, h3, fun m a b => h4 m (by have := h5 i hi; omega) a b⟩
def IL : List Nat := IW.list
theorem IL_length : IL.length = 8 := rfl
theorem KL_root : ∀ k, k < 64 → lastB cuB (pr (k + 1)) 35 % 4294967296 = KL.getD k 0 := by decide +kernel
theorem IL_root : ∀ k, k < 8 → lastB sqB (pr (k + 1)) 35 % 4294967296 = IL.getD k 0 := by decide +kernel
theorem roots_step (l : List Nat) (n k : Nat) (hl : l.length = n) (hk : k < n) : (l.take k ++ List.replicate (n - k) 0).set k (l.getD k 0) = l.take (k + 1) ++ List.replicate (n - (k + 1)) 0 := by
  have h1 : (l.take k).length = k := by rw [List.length_take]; omega
  have h2 := set_snoc (l.take k) (n - (k + 1)) (l.getD k 0)
  rw [h1, show n - (k + 1) + 1 = n - k by omega] at h2
  rw [h2, List.take_succ_eq_append_getElem (by omega)]
  congr 3
  rw [List.getD_eq_getElem?_getD, List.getElem?_eq_getElem (by omega)]; rfl
set_option maxRecDepth 100000 in
set_option maxHeartbeats 4000000 in
theorem fr_sq (w : World) :
    Calls Tryd.prog 71 #[.func (.func 72) #[] #[]] w fun e w' => e = .returned (.agg (wsC IL)) ∧ Below w.heap.size w w' := by
  have hm : ∀ i : Nat, i < 8 → ∀ w, Calls Tryd.prog 91 #[.int .u64 (pr i : Int)] w fun e w' => e = .returned (.int .u64 (pr (i + 1) : Int)) ∧ w = w' := fun i hi w => by
    obtain ⟨h1, h2, h3, h4⟩ := pr_next i (by omega)
    exact primeAfter_any (pr i) (pr (i + 1)) w h1 h2 h3 h4
  have hl : ∀ i : Nat, i < 8 → ∀ w, Calls Tryd.prog 92 #[.int .u64 (pr (i + 1) : Int), .func (.func 72) #[] #[]] w fun e w' => e = .returned (.int .u64 (lastB sqB (pr (i + 1)) 35 : Nat)) ∧ w = w' := fun i hi w => last_sq _ (pr_next i (by omega)).2.1 w
  have HM := Lib.hid hm
  have HL := Lib.hid hl
  clear hm hl
  go_enter Tryd.func71, Tryd.ntmps71
  have hz0 := Arr.new w 95 (List.replicate 8 0)
  have hz1 := Arr.new (w.alloc (.cells (wsC (List.replicate 8 0)) 95)) 95 (List.replicate 8 0)
  simp only [World.size_alloc] at hz1
  have HZ0 := Lib.hid (hz0.alloc (.cells (wsC (List.replicate 8 0)) 95))
  have HZ1 := Lib.hid hz1
  clear hz0
  go_wp2_with (refine wpList_load_row rfl 95 _ rfl (w.heap.size + 1) rfl 95 (wsC (List.replicate 8 0)) (0, 0) _ hz1 Tryd.underlying95 rfl (by rw [size95, wsC_size]; rfl) ?_)
  clear hz1
  go_loopw [4, 8] (fun p i wr => ∃ k q : Nat, k ≤ 8 ∧ i = .int .i64 k ∧ p = .int .u64 q ∧ Hid (pr k = q) ∧ Hid (Arr wr w.heap.size 95 (List.replicate 8 0)) ∧ Hid (Arr wr (w.heap.size + 1) 95 (IL.take k ++ List.replicate (8 - k) 0)) ∧ Below w.heap.size w wr) (fun _ i _ => 8 - (intOf i).toNat)
  case atStart => exact ⟨0, 1, by decide, rfl, rfl, rfl, HZ0, HZ1, by go_grown⟩
  case round =>
    obtain ⟨k, q, hk, rfl, rfl, HQ, HA, HB, hB⟩ := hrel
    clear HZ0 HZ1
    by_cases hlt : k < 8
    · have hc := HM.out k hlt
      have hd := HL.out k hlt
      have hr := IL_root k hlt
      rw [HQ.out] at hc
      obtain ⟨q2, hq2⟩ : ∃ q, pr (k + 1) = q := ⟨_, rfl⟩
      rw [hq2] at hc hd hr
      obtain ⟨v, hv⟩ : ∃ v, lastB sqB q2 35 = v := ⟨_, rfl⟩
      rw [hv] at hd hr
      have hll : (IL.take k ++ List.replicate (8 - k) 0).length = 8 := by rw [List.length_append, List.length_take, List.length_replicate, IL_length]; omega
      have cx := HB.out.getD (i := k) (by rw [hll]; exact hlt)
      have cf := HB.out.free k
      have z := HB.out.lt
      obtain ⟨old, hold⟩ : ∃ o, (IL.take k ++ List.replicate (8 - k) 0).getD k 0 = o := ⟨_, rfl⟩
      rw [hold] at cx
      have hw : IntKind.u32.wrap (v : Int) = ((IL.getD k 0 : Nat) : Int) := by rw [IntKind.wrap_u32]; omega
      obtain ⟨x, hx⟩ : ∃ x, IL.getD k 0 = x := ⟨_, rfl⟩
      rw [hx] at hw
      have HX := Lib.hid hx
      have HQ2 := Lib.hid hq2
      clear hx hq2 hv hr hold hll
      go_wp2_with (first | (go_at_call 91; (with_reducible refine (hc _).mono ?_); rintro e w' ⟨rfl, rfl⟩) | (go_at_call 92; (with_reducible refine (hd _).mono ?_); rintro e w' ⟨rfl, rfl⟩))

      go_roundw
      case rel =>
        refine ⟨k + 1, q2, by omega, by go_num, rfl, HQ2, ?_, ?_, ?_⟩
        · exact HA.out.other (by simp) _
        · have := HB.out.set k x
          rw [← HX.out, roots_step IL 8 k IL_length hlt] at this
          rw [← HX.out]
          exact this
        · exact hB.setCell (by simp) _
      case measure => simp [intOf]; omega
    · obtain rfl : k = 8 := by omega
      have hA := HA.out
      have hb := HB.out
      rw [List.take_of_length_le (by rw [IL_length]; exact Nat.le_refl _), Nat.sub_self, List.replicate_zero, List.append_nil] at hb
      have hB2 : Below w.heap.size w (wr.setRow w.heap.size (wsC IL)) := below_setRow hB (Nat.le_refl _) _
      clear HA HB HM HL
      go_wp2_with (first | (refine wpList_load_row rfl 95 _ rfl (w.heap.size + 1) rfl 95 (wsC IL) (0, 0) _ hb Tryd.underlying95 rfl (by rw [size95, wsC_size, IL_length]) ?_) | (refine wpList_store_row rfl 95 _ _ rfl w.heap.size (wsC IL) rfl rfl 95 _ hA (by rw [size95, wsC_size, IL_length]) (by rw [wsC_size, wsC_size, IL_length]; rfl) (wsC_one _) ?_))
      have hr2 := hA.row IL
      exact bodyPost_ret (v := .agg (wsC IL)) (results_cell_row (p := 2) (ty := 95) Tryd.results71 _ _ w.heap.size 95 _ (0, 0) _ rfl hr2 Tryd.underlying95 rfl (by rw [size95, wsC_size, IL_length])) rfl ⟨rfl, hB2⟩
end Go.Proofs.YtfdeegafdaobdaaDoor
