/- Contracts of the constants, of Start and of begin. -/
import Derived.Test.YtfdeegafdaobdaaDoorG2
namespace Go.Proofs.YtfdeegafdaobdaaDoor
open Go.RowKit Go.ChangeShapes

set_option maxRecDepth 100000 in
set_option maxHeartbeats 1000000 in
theorem cubes_any (w : World) : Calls Tryd.prog 59 #[] w fun e w' => e = .returned (.agg (wsC KL)) ∧ Below w.heap.size w w' := by
  go_enter Tryd.func59, Tryd.ntmps59
  have hz0 := Lib.hid (Arr.new w 103 (List.replicate 64 0))
  go_wp2_with (first | (go_at_call 74; (with_reducible refine (fr_cu _).mono ?_); rintro e w1 ⟨rfl, hb1⟩; have hr := hz0.out.below hb1 (by simp)) | (refine wpList_store_row rfl 103 _ _ rfl w.heap.size (wsC KL) rfl rfl 103 _ hr (by rw [size103, wsC_size]; rfl) (by rw [wsC_size, wsC_size]; rfl) (wsC_one _) ?_))
  have hr2 := hr.row KL
  exact bodyPost_ret (v := .agg (wsC KL)) (results_cell_row (p := 0) (ty := 103) Tryd.results59 _ _ w.heap.size 103 _ (0, 0) _ rfl hr2 Tryd.underlying103 rfl (by rw [size103, wsC_size]; rfl)) rfl ⟨rfl, below_setRow (Below.trans (by go_grown) (hb1.mono (by simp))) (Nat.le_refl _) _⟩

set_option maxRecDepth 100000 in
set_option maxHeartbeats 1000000 in
theorem squares_any (w : World) : Calls Tryd.prog 50 #[] w fun e w' => e = .returned (.agg (wsC IL)) ∧ Below w.heap.size w w' := by
  go_enter Tryd.func50, Tryd.ntmps50
  have hz0 := Lib.hid (Arr.new w 95 (List.replicate 8 0))
  go_wp2_with (first | (go_at_call 71; (with_reducible refine (fr_sq _).mono ?_); rintro e w1 ⟨rfl, hb1⟩; have hr := hz0.out.below hb1 (by simp)) | (refine wpList_store_row rfl 95 _ _ rfl w.heap.size (wsC IL) rfl rfl 95 _ hr (by rw [size95, wsC_size]; rfl) (by rw [wsC_size, wsC_size]; rfl) (wsC_one _) ?_))
  have hr2 := hr.row IL
  exact bodyPost_ret (v := .agg (wsC IL)) (results_cell_row (p := 0) (ty := 95) Tryd.results50 _ _ w.heap.size 95 _ (0, 0) _ rfl hr2 Tryd.underlying95 rfl (by rw [size95, wsC_size]; rfl)) rfl ⟨rfl, below_setRow (Below.trans (by go_grown) (hb1.mono (by simp))) (Nat.le_refl _) _⟩

/-- A row of words goes into a block that was just made. -/
theorem store_new {P : Program} {ops : Array Oper} {rest : List Oper} {o : Oper} {a : Act} {w1 : World} {Q : Exit → Act → World → Prop} (hgd : o.guard = none) (ty : TypeId) (x y : Operand) (ho : o.op = .store ty x y)
    (l : List Nat) (hx : a.eval x = .pointer (some ⟨w1.heap.size, 0, none⟩)) (hy : a.eval y = .agg (wsC l)) (t : TypeId) (c : Array Value) (hi : (P.info? ty).map (·.size) = some l.length) (hold : c.size = l.length)
    (h : ∀ W2, Arr W2 w1.heap.size t l → Below w1.heap.size w1 W2 → W2.heap.size = w1.heap.size + 1 → wpList P ops Q rest (a.put o.dst undef) W2) : wpList P ops Q (o :: rest) a (w1.alloc (.cells c t)) :=
  have hg : (w1.alloc (.cells c t)).heap[w1.heap.size]? = some (.cells c t (0, 0)) := heap_alloc_new w1 _
  wpList_store_row hgd ty x y ho w1.heap.size (wsC l) hx hy t c hg (by rw [wsC_size]; exact hi) (by rw [wsC_size]; exact hold) (wsC_one l)
    (h _ (setRow_heap _ _ _ _ _ _ hg) (below_setRow ((Below.refl _ _).alloc (Nat.le_refl _) _) (Nat.le_refl _) _) (by simp))
/-- A digest that is being made, as a value. -/
abbrev hsV (s : W8) (t : ByteArray) (n : Int) : Value := .agg #[wd s.a, wd s.b, wd s.c, wd s.d, wd s.e, wd s.f, wd s.g, wd s.h, .string t, .int .i64 n]
abbrev mkV (s : W8) (t : ByteArray) (n : Int) (kb : Nat) : Value := .agg #[wd s.a, wd s.b, wd s.c, wd s.d, wd s.e, wd s.f, wd s.g, wd s.h, .string t, .int .i64 n, .pointer (some ⟨kb, 0, none⟩)]
set_option maxRecDepth 100000 in
set_option maxHeartbeats 1000000 in
theorem start_any (w : World) : Calls Tryd.prog 21 #[] w fun e w' => e = .returned (hsV IW ByteArray.empty 0) ∧ Below w.heap.size w w' := by
  have hc : ∀ w, Calls Tryd.prog 50 #[] w fun e w' => e = .returned (.agg #[wd IW.a, wd IW.b, wd IW.c, wd IW.d, wd IW.e, wd IW.f, wd IW.g, wd IW.h]) ∧ Below w.heap.size w w' := squares_any
  obtain ⟨s, hs⟩ : ∃ s, IW = s := ⟨_, rfl⟩
  rw [hs] at hc ⊢
  clear hs
  go_enter Tryd.func21, Tryd.ntmps21
  go_wp2_with (first | (go_at_call 50; (with_reducible refine (hc _).mono ?_); rintro e w1 ⟨rfl, hb1⟩; obtain ⟨hc1, hf1⟩ := bcell hb1; have hz1 := hb1.size; (try simp at hz1)))
  have hB : Below w.heap.size w w1 := Below.trans (by go_grown) (hb1.mono (by simp))
  refine bodyPost_ret (v := hsV s ByteArray.empty 0) (by simp [results, Tryd.results21, go_sem, *]; try rfl) rfl ⟨rfl, by go_grown⟩
/-- What begin leaves: the constants lie in a new block. -/
def Begun (w : World) (e : Ending) (w' : World) : Prop := ∃ kb, e = .returned (mkV IW ByteArray.empty 0 kb) ∧ Arr w' kb 103 KL ∧ w.heap.size ≤ kb ∧ Below w.heap.size w w'
set_option maxRecDepth 100000 in
set_option maxHeartbeats 1000000 in
theorem begin_any (w : World) : Calls Tryd.prog 37 #[] w (Begun w) := by
  have hc := start_any
  obtain ⟨s, hs⟩ : ∃ s, IW = s := ⟨_, rfl⟩
  rw [hs] at hc
  have HS := Lib.hid hs
  clear hs
  go_enter Tryd.func37, Tryd.ntmps37
  go_wp2_with (first | (go_at_call 59; (with_reducible refine (cubes_any _).mono ?_); rintro e w1 ⟨rfl, hb1⟩; obtain ⟨hc1, hf1⟩ := bcell hb1; have hz1 := hb1.size; (try simp at hz1)) | (refine store_new rfl 103 _ _ rfl KL rfl rfl 103 _ (by rw [size103]; rfl) rfl ?_; intro w2 hA hb2 hz2; obtain ⟨hc2, hf2⟩ := bcell hb2) | (go_at_call 21; (with_reducible refine (hc _).mono ?_); rintro e w3 ⟨rfl, hb3⟩; obtain ⟨hc3, hf3⟩ := bcell hb3; have hz3 := hb3.size; (try simp at hz3); have y1 : w.heap.size < w1.heap.size := (by omega); have y2 : w.heap.size < w2.heap.size := (by omega); have y3 : w.heap.size < w3.heap.size := (by omega)))
  have hA3 := hA.below hb3 (by omega)
  have hB1 : Below w.heap.size w w1 := Below.trans (by go_grown) (hb1.mono (by simp))
  have hB2 := hB1.trans (hb2.mono (by omega))
  have hB3 := hB2.trans (hb3.mono (by omega))
  have hA4 : Arr (((((((((((w3.setCell ⟨w.heap.size, 0, none⟩ (wd s.a)).setCell ⟨w.heap.size, 1, none⟩ (wd s.b)).setCell ⟨w.heap.size, 2, none⟩ (wd s.c)).setCell ⟨w.heap.size, 3, none⟩ (wd s.d)).setCell ⟨w.heap.size, 4, none⟩ (wd s.e)).setCell ⟨w.heap.size, 5, none⟩ (wd s.f)).setCell ⟨w.heap.size, 6, none⟩ (wd s.g)).setCell ⟨w.heap.size, 7, none⟩ (wd s.h)).setCell ⟨w.heap.size, 8, none⟩ (.string ByteArray.empty)).setCell ⟨w.heap.size, 9, none⟩ (.int .i64 0)).setCell ⟨w.heap.size, 10, none⟩ (.pointer (some ⟨w1.heap.size, 0, none⟩))) w1.heap.size 103 KL := by
    have y : w1.heap.size ≠ w.heap.size := by omega
    repeat (refine Arr.other ?_ y _)
    exact hA3
  have y4 : w.heap.size ≤ w1.heap.size := by omega
  clear hz1 hz2 hz3 hA hA3
  have HA4 := Lib.hid hA4
  clear hA4
  refine bodyPost_ret (v := mkV s ByteArray.empty 0 w1.heap.size) (by simp [results, Tryd.results37, go_sem, *]; try rfl) rfl ⟨w1.heap.size, by rw [HS.out], HA4.out, y4, by go_grown⟩
end Go.Proofs.YtfdeegafdaobdaaDoor
