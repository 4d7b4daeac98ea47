/- Contract of three. -/
import Derived.Test.YtfdeegafdaobdaaDoorW1
import Derived.Test.YtfdeegafdaobdaaDoorC
import Derived.Deep.MidRow
namespace Go.Proofs.YtfdeegafdaobdaaDoor
open Go.RowKit Go.ChangeShapes
/-- A word's cells. -/
def wC (n : Nat) : List Value := (fL (fW n)).map Value.bool
theorem wC_length (n : Nat) : (wC n).length = 32 := by simp [wC, fL_length]
theorem wC_one (n : Nat) : ∀ v ∈ wC n, v.oneCell' = true := by
  intro v hv
  obtain ⟨x, _, rfl⟩ := List.mem_map.1 hv
  rfl
theorem WB_eq (n : Nat) : WB n = .agg (wC n).toArray := rfl
/-- What three carries: three words, and a block that is there. -/
structure Th (w W : World) (g : Nat) (ca cb cc : List Value) : Prop where
  b : Below w.heap.size w W
  l : g ≤ g + 3 ∧ g + 1 + 1 + 1 < W.heap.size
  o : Bo W (g + 1 + 1 + 1) (fL fun _ => false)
  r : W.rangeAt g 0 ca ∧ W.rangeAt (g + 1) 0 cb ∧ W.rangeAt (g + 1 + 1) 0 cc ∧ W.there (g + 1 + 1 + 1) 0 32
theorem rangeAt_below {W V : World} {b : Nat} {cs : List Value} (h : W.rangeAt b 0 cs) (hb : Below W.heap.size W V) (hl : b < W.heap.size) : V.rangeAt b 0 cs := fun j v hj => (hb.cell (p := ⟨b, 0 + j, none⟩) hl).trans (h j v hj)
theorem there_below {W V : World} {b n : Nat} (h : W.there b 0 n) (hb : Below W.heap.size W V) (hl : b < W.heap.size) : V.there b 0 n := fun j hj =>
  ⟨by rw [hb.cell (p := ⟨b, 0 + j, none⟩) hl]; exact (h j hj).1, by rw [hb.frozen (p := ⟨b, 0 + j, none⟩) hl]; exact (h j hj).2⟩
theorem Th.step {w W V : World} {g : Nat} {ca cb cc : List Value} (h : Th w W g ca cb cc) (hb : Below W.heap.size W V) : Th w V g ca cb cc :=
  ⟨bstep h.b hb, ⟨h.l.1, Nat.lt_of_lt_of_le h.l.2 hb.size⟩, (hb.block _ h.l.2).trans h.o, rangeAt_below h.r.1 hb (by have := h.l; omega), rangeAt_below h.r.2.1 hb (by have := h.l; omega), rangeAt_below h.r.2.2.1 hb (by have := h.l; omega), there_below h.r.2.2.2 hb h.l.2⟩
theorem Th.drew {w W : World} {g : Nat} {ca cb cc : List Value} (h : Th w W g ca cb cc) : Th w W.drew g ca cb cc := h.step ((Below.refl _ W).drew)
theorem rangeAt_bits {W : World} {g : Nat} {n : Nat} (h : Bo W g (fL (fW n))) : W.rangeAt g 0 (wC n) := fun j v hj => by
  rw [Nat.zero_add, cell_of_row W g j _ 128 (0, 0) h]
  simpa [bC, wC] using hj
set_option maxRecDepth 100000 in
set_option maxHeartbeats 4000000 in
theorem rthree (a b c : Nat) (w : World) :
    Calls Tryd.prog 83 #[WB a, WB b, WB c] w fun e w' => e = .returned (WB (a ^^^ b ^^^ c)) ∧ Below w.heap.size w w' := by
  have hA := ((((Bo.new w (fL (fW a))).alloc (.cells (bC (fL (fW b))) 128)).alloc (.cells (bC (fL (fW c))) 128)).alloc (.cells (bC (fL fun _ => false)) 128))
  have hB := (((Bo.new (w.alloc (.cells (bC (fL (fW a))) 128)) (fL (fW b))).alloc (.cells (bC (fL (fW c))) 128)).alloc (.cells (bC (fL fun _ => false)) 128))
  have hC := ((Bo.new ((w.alloc (.cells (bC (fL (fW a))) 128)).alloc (.cells (bC (fL (fW b))) 128)) (fL (fW c))).alloc (.cells (bC (fL fun _ => false)) 128))
  have hR := Bo.new (((w.alloc (.cells (bC (fL (fW a))) 128)).alloc (.cells (bC (fL (fW b))) 128)).alloc (.cells (bC (fL (fW c))) 128)) (fL fun _ => false)
  simp only [World.size_alloc] at hB hC hR
  have c1 : ∀ w, Calls Tryd.prog 86 #[.agg (wC a).toArray, .agg (wC b).toArray] w fun e w' => e = .returned (.agg (wC (a ^^^ b)).toArray) ∧ Below w.heap.size w w' := fun w => rxor a b w
  have c2 : ∀ w, Calls Tryd.prog 86 #[.agg (wC (a ^^^ b)).toArray, .agg (wC c).toArray] w fun e w' => e = .returned (.agg (wC (a ^^^ b ^^^ c)).toArray) ∧ Below w.heap.size w w' := fun w => rxor (a ^^^ b) c w
  have hT : Th w (((((w.alloc (.cells (bC (fL (fW a))) 128)).alloc (.cells (bC (fL (fW b))) 128)).alloc (.cells (bC (fL (fW c))) 128))).alloc (.cells (bC (fL fun _ => false)) 128)) w.heap.size (wC a) (wC b) (wC c) :=
    ⟨by go_grown, ⟨by omega, hR.lt⟩, hR, rangeAt_bits hA, rangeAt_bits hB, rangeAt_bits hC, fun j hj => ⟨by rw [Nat.zero_add, hR.getD (by rw [fL_length]; exact hj)]; rfl, by rw [Nat.zero_add]; exact hR.free j⟩⟩
  have HT := Lib.hid hT
  have HR := Lib.hid hR
  clear hA hB hC hR hT
  go_enter Tryd.func83, Tryd.ntmps83
  go_upto_region 1 with fail
  obtain ⟨W, hW⟩ : ∃ W, (((((w.alloc (.cells (bC (fL (fW a))) 128)).alloc (.cells (bC (fL (fW b))) 128)).alloc (.cells (bC (fL (fW c))) 128))).alloc (.cells (bC (fL fun _ => false)) 128)) = W := ⟨_, rfl⟩
  rw [hW] at HT HR
  change Code.wp _ _ _ _ ((((w.alloc (.cells (bC (fL (fW a))) 128)).alloc (.cells (bC (fL (fW b))) 128)).alloc (.cells (bC (fL (fW c))) 128)).alloc (.cells (bC (fL fun _ => false)) 128))
  rw [hW]
  clear hW
  change Code.wp _ _ _ { tmps := #[.agg (wC a).toArray, .agg (wC b).toArray, .agg (wC c).toArray, _, _, _, _, _, _, _, _, _], defers := _ } _
  obtain ⟨ca, hca⟩ : ∃ l, wC a = l := ⟨_, rfl⟩
  obtain ⟨cb, hcb⟩ : ∃ l, wC b = l := ⟨_, rfl⟩
  obtain ⟨cc, hcc⟩ : ∃ l, wC c = l := ⟨_, rfl⟩
  obtain ⟨cx, hcx⟩ : ∃ l, wC (a ^^^ b) = l := ⟨_, rfl⟩
  obtain ⟨cy, hcy⟩ : ∃ l, wC (a ^^^ b ^^^ c) = l := ⟨_, rfl⟩
  have i1 : (Tryd.prog.info? 128).map (·.size) = some ca.length := by rw [size128, ← hca, wC_length]
  have i2 : (Tryd.prog.info? 128).map (·.size) = some cb.length := by rw [size128, ← hcb, wC_length]
  have i3 : (Tryd.prog.info? 128).map (·.size) = some cc.length := by rw [size128, ← hcc, wC_length]
  have i4 : (Tryd.prog.info? 128).map (·.size) = some cy.length := by rw [size128, ← hcy, wC_length]
  have n4 : cy.length = 32 := by rw [← hcy, wC_length]
  have o4 : ∀ v ∈ cy, v.oneCell' = true := by rw [← hcy]; exact wC_one _
  have hu := Tryd.underlying128
  rw [hca, hcb, hcc] at HT
  rw [hca, hcb, hcx] at c1
  rw [hcx, hcc, hcy] at c2
  rw [hca, hcb, hcc]
  have C1 := Lib.hid c1
  have C2 := Lib.hid c2
  have HCY := Lib.hid hcy
  clear c1 c2 hca hcb hcc hcx hcy
  have T0 := HT.out
  clear HT
  obtain ⟨r1, r2, r3, r4⟩ := T0.r
  have hS0 := T0.drew.r
  refine wp_region_held_drew (S := fun w' => w'.rangeAt w.heap.size 0 ca ∧ w'.rangeAt (w.heap.size + 1) 0 cb ∧ w'.rangeAt (w.heap.size + 1 + 1) 0 cc ∧ w'.there (w.heap.size + 1 + 1 + 1) 0 32) (by kernel_rfl) hS0 (fun hHeld => ?_)
  refine wpAnyH_take (i := 0) (oi := _) (v := _) rfl (by kernel_rfl) (by kernel_rfl) (by kernel_rfl) (fun _ _ _ h => h) (yieldsIf_load_mid (by rfl) _ _ rfl _ _ rfl ca _ (fun _ h => h.1) hu rfl i1) (by assumption) ?_
  try simp only [Act.put, List.setIfInBounds_toArray]
  refine wpAnyH_take (i := 1) (oi := _) (v := _) rfl (by kernel_rfl) (by kernel_rfl) (by kernel_rfl) (fun _ _ _ h => h) (yieldsIf_load_mid (by rfl) _ _ rfl _ _ rfl cb _ (fun _ h => h.2.1) hu rfl i2) (by assumption) ?_
  try simp only [Act.put]
  refine wpAnyH_take (i := 3) (oi := _) (v := _) rfl (by kernel_rfl) (by kernel_rfl) (by kernel_rfl) (fun _ _ _ h => h) (yieldsIf_load_mid (by rfl) _ _ rfl _ _ rfl cc _ (fun _ h => h.2.2.1) hu rfl i3) (by assumption) ?_
  try simp only [Act.put]
  refine wpAnyH_ready (rs := [2]) (by kernel_rfl) (by simp) ?_
  refine AllReadyH.cons rfl (fun K hK => ?_) AllReadyH.nil
  rw [if_pos (by rfl)]
  go_wp2_with (go_at_call 86; (with_reducible refine (C1.out _).mono ?_); rintro e V1 ⟨rfl, hb⟩; (repeat (with_reducible replace hb := bel_of_drew hb)); have T1 := T0.step hb; clear hb)
  refine hK.out _ _ T1.r (fun hH1 => ?_)
  clear hK K
  try simp only [Act.put, List.setIfInBounds_toArray, List.set_cons_zero, List.set_cons_succ]
  refine wpAnyH_ready (rs := [4]) (by kernel_rfl) (by simp) ?_
  refine AllReadyH.cons rfl (fun K hK => ?_) AllReadyH.nil
  rw [if_pos (by rfl)]
  go_wp2_with (go_at_call 86; (with_reducible refine (C2.out _).mono ?_); rintro e V2 ⟨rfl, hb⟩; (repeat (with_reducible replace hb := bel_of_drew hb)); have T2 := T1.step hb; clear hb)
  refine hK.out _ _ T2.r (fun hH2 => ?_)
  clear hK K
  try simp only [Act.put, List.setIfInBounds_toArray, List.set_cons_zero, List.set_cons_succ]
  refine wpAnyH_ready (rs := [5]) (by kernel_rfl) (by simp) ?_
  refine AllReadyH.cons rfl (fun K hK => ?_) AllReadyH.nil
  rw [if_pos (by rfl)]
  rw [show cy.toArray = bC (fL (fW (a ^^^ b ^^^ c))) from by rw [← HCY.out]; rfl]
  refine wp_store_row 128 _ _ rfl (w.heap.size + 1 + 1 + 1) (bC (fL (fW (a ^^^ b ^^^ c)))) rfl rfl 128 _ T2.o (by rw [size128, bC_size, fL_length]) (by rw [bC_size, bC_size, fL_length, fL_length]) (bC_one _) ?_
  have hr2 : Bo (V2.setRow (w.heap.size + 1 + 1 + 1) (bC (fL (fW (a ^^^ b ^^^ c))))) (w.heap.size + 1 + 1 + 1) (fL (fW (a ^^^ b ^^^ c))) := T2.o.row _
  have hb3 : Below (w.heap.size + 1 + 1 + 1) V2 (V2.setRow (w.heap.size + 1 + 1 + 1) (bC (fL (fW (a ^^^ b ^^^ c))))) := below_setRow (Below.refl _ V2) (Nat.le_refl _) _
  refine hK.out _ _ ⟨fun j v hj => (hb3.cell (p := ⟨_, 0 + j, none⟩) (by show w.heap.size < _; omega)).trans (T2.r.1 j v hj), fun j v hj => (hb3.cell (p := ⟨_, 0 + j, none⟩) (by show w.heap.size + 1 < _; omega)).trans (T2.r.2.1 j v hj), fun j v hj => (hb3.cell (p := ⟨_, 0 + j, none⟩) (by show w.heap.size + 1 + 1 < _; omega)).trans (T2.r.2.2.1 j v hj), fun j hj => ⟨by rw [Nat.zero_add, hr2.getD (by rw [fL_length]; exact hj)]; rfl, by rw [Nat.zero_add]; exact hr2.free j⟩⟩ (fun hH3 => ?_)
  clear hK K
  try simp only [Act.put, List.setIfInBounds_toArray]
  refine wpAnyH_done (by kernel_rfl) ?_ _
  have hB2 : Below w.heap.size w (V2.setRow (w.heap.size + 1 + 1 + 1) (bC (fL (fW (a ^^^ b ^^^ c))))) := below_setRow T2.b (by omega) _
  clear T0 T1 T2 hHeld hH1 hH2 hH3 r1 r2 r3 r4
  go_wp2
  exact bodyPost_ret (v := WB (a ^^^ b ^^^ c)) (results_cell_row (p := 6) (ty := 128) Tryd.results83 _ _ (w.heap.size + 1 + 1 + 1) 128 _ (0, 0) _ rfl hr2 Tryd.underlying128 rfl (by rw [size128, bC_size, fL_length])) rfl ⟨rfl, hB2⟩
end Go.Proofs.YtfdeegafdaobdaaDoor
