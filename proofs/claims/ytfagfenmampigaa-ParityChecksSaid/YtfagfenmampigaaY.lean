/- The reference: rest. -/
import Derived.Test.YtfagfenmampigaaV
import Derived.Laws.MakeOwn
import Derived.Laws.CopyRow
import Derived.Deep.DeepCutAuto
namespace Go.Proofs.Ytfagfenmampigaa
open Go.RowKit Go.ChangeShapes
/-- The division goes on. -/
theorem restL_succ (p : List Bool) : ∀ (i : Nat) (l : List Bool) (b : Bool) (t : List Bool), restL p i l = b :: t → restL p (i + 1) l = divS p b t
  | 0, l, b, t, h => by
    rw [restL] at h
    subst h
    rfl
  | i + 1, [], b, t, h => by rw [restL] at h; cases h
  | i + 1, c :: l, b, t, h => by
    rw [restL] at h ⊢
    exact restL_succ p i (divS p c l) b t h
theorem restL_length (p : List Bool) : ∀ (i : Nat) (l : List Bool), p.length + i ≤ l.length → (restL p i l).length = l.length - i
  | 0, l, _ => by rw [restL]; omega
  | i + 1, [], h => by simp at h
  | i + 1, c :: l, h => by
    have hl : p.length + i ≤ l.length := by simp at h; omega
    rw [restL, restL_length p i _ (by rw [divS_length _ _ _ (by omega)]; exact hl), divS_length _ _ _ (by omega), List.length_cons]
    omega
/-- The first k places are joined. -/
def xkL (t p : List Bool) (k : Nat) : List Bool := List.zipWith (· != ·) (t.take k) (p.take k) ++ t.drop k
theorem xkL_zero (t p : List Bool) : xkL t p 0 = t := by simp [xkL]
theorem xkL_length (t p : List Bool) (k : Nat) (h : k ≤ p.length) (h2 : p.length ≤ t.length) : (xkL t p k).length = t.length := by simp [xkL]; omega
theorem xkL_full (t p : List Bool) : xkL t p p.length = divS p true t := by simp [xkL, divS]
theorem xkL_get (t p : List Bool) (k : Nat) (h : k < p.length) (h2 : p.length ≤ t.length) : (xkL t p k).getD k false = t.getD k false := by
  have e : (List.zipWith (· != ·) (t.take k) (p.take k)).length = k := by simp; omega
  rw [xkL, List.getD_eq_getElem?_getD, List.getElem?_append_right (by omega), e, Nat.sub_self, List.getElem?_drop, Nat.add_zero, List.getD_eq_getElem?_getD]
theorem xkL_set (t p : List Bool) (k : Nat) (h : k < p.length) (h2 : p.length ≤ t.length) : (xkL t p k).set k (t.getD k false != p.getD k false) = xkL t p (k + 1) := by
  have e : (List.zipWith (· != ·) (t.take k) (p.take k)).length = k := by simp; omega
  have ht : k < t.length := by omega
  rw [xkL, List.set_append_right _ _ (by omega), e, Nat.sub_self, List.drop_eq_getElem_cons ht, List.set_cons_zero, xkL, List.take_succ_eq_append_getElem ht, List.take_succ_eq_append_getElem h, List.zipWith_append (by simp; omega), List.append_assoc]
  simp [List.getD_eq_getElem?_getD, List.getElem?_eq_getElem ht, List.getElem?_eq_getElem h]
theorem Bar.rowOther {w : World} {g g2 : Nat} {t : TypeId} {l : List Bool} (h : Bar w g t l) (hne : g ≠ g2) (cs : Array Value) : Bar (w.setRow g2 cs) g t l := (setRow_other w g2 g cs hne).trans h
/-- What is copied at the end. -/
def okL (l : List Bool) (k : Nat) : List Bool := l.take k ++ List.replicate (32 - k) false
theorem okL_zero (l : List Bool) : okL l 0 = List.replicate 32 false := by simp [okL]
theorem okL_length (l : List Bool) (k : Nat) (h : l.length = 32) (hk : k ≤ 32) : (okL l k).length = 32 := by simp [okL]; omega
theorem okL_full (l : List Bool) (h : l.length = 32) : okL l 32 = l := by simp [okL, ← h]
theorem okL_set (l : List Bool) (k : Nat) (h : l.length = 32) (hk : k < 32) : (okL l k).set k (l.getD k false) = okL l (k + 1) := by
  have e : (l.take k).length = k := by simp; omega
  have hl : k < l.length := by omega
  rw [okL, List.set_append_right _ _ (by omega), e, Nat.sub_self, show 32 - k = (32 - (k + 1)) + 1 by omega, List.replicate_succ, List.set_cons_zero, okL, List.take_succ_eq_append_getElem hl, List.append_assoc]
  simp [List.getD_eq_getElem?_getD, List.getElem?_eq_getElem hl]
theorem make_bools (w : World) (n : Nat) (hn : n ≤ 100000) : ∃ MC : Array Value, MC.size = n ∧ (Instr.makeSlice 78 (.int .i64 (n : Int)) (.int .i64 (n : Int))).run Try.prog w = .ok (.slice (some ⟨w.heap.size, 0, none⟩) n n) (w.alloc (.cells MC 4)) := by
  obtain ⟨i0, hi, hz0, hz1, hz2⟩ := info_parts info4
  have h := run_makeSlice (P := Try.prog) (w := w) 78 4 i0 _ Try.underlying78 hi hz0 .i64 .i64 (n : Int) (n : Int) (by omega) (by omega) (by rw [hz1, Int.toNat_natCast]; omega) (by rw [hz2]; omega) (by omega)
  rw [Int.toNat_natCast, hz1, Nat.mul_one] at h
  exact ⟨_, size_madeCells _ _, h⟩
theorem copy_bools (w : World) (g gs os n c : Nat) (MC : Array Value) (l : List Bool) (hg : w.heap[g]? = some (.cells MC 4 (0, 0))) (hm : MC.size = n) (hl : l.length = n)
    (hsrc : ∀ i, i < n → w.cell? ⟨gs, os + i, none⟩ = some (.bool (l.getD i false))) : (Builtin.copy_ #[78, 78] 3 #[.slice (some ⟨g, 0, none⟩) n n, .slice (some ⟨gs, os, none⟩) n c]).run Try.prog w = .ok (goInt n) (w.setRow g (bC l)) := by
  have h := run_copy_row (P := Try.prog) w 78 78 3 4 g 0 n n ⟨gs, os, none⟩ n c MC 4 (boC l) Try.underlying78 (by kernel_rfl) hg (by rw [boC_length, hl]; show n = min n n; omega) (fun j v hv => by
    have hj : j < l.length := by have := (List.getElem?_eq_some_iff.1 hv).1; rwa [boC_length] at this
    have e : (⟨gs, os, none⟩ : Addr).add j = ⟨gs, os + j, none⟩ := by unfold Addr.add; split <;> simp_all
    rw [e, hsrc j (by omega), ← hv]
    simp [boC, List.getElem?_eq_getElem hj, List.getD_eq_getElem?_getD]) (by rw [boC_length, hl, hm]; omega) (fun v hv => by
    obtain ⟨x, _, rfl⟩ := List.mem_map.1 hv; rfl)
  rw [h, boC_length, hl, List.take_zero, List.nil_append, Nat.zero_add, List.drop_of_length_le (by rw [Array.length_toList]; omega), List.append_nil]
  rfl
set_option maxRecDepth 100000 in
set_option maxHeartbeats 8000000 in
theorem rest_any (b : Bool) (gs os n c : Nat) (l : List Bool) (w : World) (hl : l.length = n) (h32 : 32 ≤ n) (hn : n ≤ 40000) (hgs : gs < w.heap.size)
    (hsrc : ∀ i, i < n → w.cell? ⟨gs, os + i, none⟩ = some (.bool (l.getD i false))) :
    Calls Try.prog 39 #[kV b, .slice (some ⟨gs, os, none⟩) n c] w fun e w' => e = .returned (.agg (bC (restL (bitsL (kC b) 32) (n - 32) l))) ∧ Below w.heap.size w w' := by
  have hz := zero82
  obtain ⟨m, hm⟩ : ∃ m, n - 32 = m := ⟨_, rfl⟩
  have HPW := Lib.hid (fun W => bpow_any b W)
  have hpl := bitsL_length (kC b) 32
  generalize bitsL (kC b) 32 = p at HPW hpl ⊢
  rw [hm]
  have HSRC := Lib.hid hsrc
  have h0 : Bar (w.alloc (.cells ZB 82)) w.heap.size 82 (List.replicate 32 false) := Bar.new w 82 _
  have hB0 : Below w.heap.size w (w.alloc (.cells ZB 82)) := (Below.refl _ w).alloc (Nat.le_refl _) _
  generalize (if b then (2 : Int) else 1) = kind at HPW ⊢
  clear hsrc
  go_enter Try.func39, Try.ntmps39
  go_upto_region 1 with fail
  go_wp2_with fail
  (with_reducible refine (HPW.out _).mono ?_)
  rintro e V1 ⟨rfl, hb1⟩
  have hV0 := bstep hB0 hb1
  have k0 : Bar V1 w.heap.size 82 (List.replicate 32 false) := h0.below hb1 h0.lt
  have hV1 : w.heap.size < V1.heap.size := by have := hb1.size; rw [World.size_alloc] at this; omega
  have hrow : (V1.alloc (.cells ZB 82)).heap[V1.heap.size]? = some (.cells ZB 82 (0, 0)) := heap_alloc_new V1 _
  have HZ : Hid ((bC p).size = 32 ∧ ZB.size = 32) := Lib.hid ⟨by rw [bC_size]; exact hpl, rfl⟩
  go_upto_region 2 with (refine wpList_store_row rfl 82 _ _ rfl V1.heap.size (bC p) rfl rfl 82 _ hrow (by rw [size82, HZ.out.1]) (by rw [HZ.out.1, HZ.out.2]) (bC_one _) ?_)
  have a0 : Bar ((V1.alloc (.cells ZB 82)).setRow V1.heap.size (bC p)) w.heap.size 82 (List.replicate 32 false) := (k0.alloc _).rowOther (by omega) _
  have a1 : Bar ((V1.alloc (.cells ZB 82)).setRow V1.heap.size (bC p)) V1.heap.size 82 p := setRow_heap _ _ _ _ _ _ hrow
  have aB : Below w.heap.size w ((V1.alloc (.cells ZB 82)).setRow V1.heap.size (bC p)) := below_setRow (bstep1 hV0) (by omega) _
  generalize (V1.alloc (.cells ZB 82)).setRow V1.heap.size (bC p) = V2 at a0 a1 aB ⊢
  generalize V1.heap.size = g1 at a1 hV1 ⊢
  clear hrow k0 hV0 hb1 h0 hB0 HPW
  have hg1 : g1 < V2.heap.size := a1.lt
  obtain ⟨MC, hMC, hmk⟩ := make_bools V2 n (by omega)
  have hrow2 : (V2.alloc (.cells MC 4)).heap[V2.heap.size]? = some (.cells MC 4 (0, 0)) := heap_alloc_new V2 _
  have hcp := copy_bools (V2.alloc (.cells MC 4)) V2.heap.size gs os n c MC l hrow2 hMC hl (fun i hi => ((bstep1 aB).cell (p := ⟨gs, os + i, none⟩) hgs).trans (HSRC.out i hi))
  have b0 : Bar ((V2.alloc (.cells MC 4)).setRow V2.heap.size (bC l)) w.heap.size 82 (List.replicate 32 false) := (a0.alloc _).rowOther (by omega) _
  have b1 : Bar ((V2.alloc (.cells MC 4)).setRow V2.heap.size (bC l)) g1 82 p := (a1.alloc _).rowOther (by omega) _
  have b2 : Bar ((V2.alloc (.cells MC 4)).setRow V2.heap.size (bC l)) V2.heap.size 4 l := setRow_heap _ _ _ _ _ _ hrow2
  have bB : Below w.heap.size w ((V2.alloc (.cells MC 4)).setRow V2.heap.size (bC l)) := below_setRow (bstep1 aB) (by omega) _
  have hg0 : w.heap.size < g1 := hV1
  clear hrow2 a0 a1 aB hMC HSRC hV1
  go_upto_region 4 with fail
  clear hmk hcp
  generalize (V2.alloc (.cells MC 4)).setRow V2.heap.size (bC l) = V4 at b0 b1 b2 bB ⊢
  generalize V2.heap.size = g2 at b2 hg1 ⊢
  have H0 := Lib.hid (And.intro b0 (And.intro b1 (And.intro b2 bB)))
  have HPL := Lib.hid hpl
  have HLN := Lib.hid (fun i (h : i ≤ m) => restL_length p i l (by omega))
  have HN4 := Lib.hid hn
  have HSC := Lib.hid (fun i b t h => restL_succ p i l b t h)
  have hnm : n = m + 32 := by omega
  have HNM := Lib.hid hnm
  clear hnm hm h32 hn
  have HLL := Lib.hid hl
  clear b0 b1 b2 bB hpl hl
  clear hz
  go_wp2
  go_loopw [7] (fun i wr => ∃ j : Nat, j ≤ m ∧ i = .int .i64 (j : Int) ∧ ∃ pre : List Bool, pre.length = j ∧ Hid (Bar wr w.heap.size 82 (List.replicate 32 false) ∧ Bar wr g1 82 p ∧ Bar wr g2 4 (pre ++ restL p j l) ∧ Below w.heap.size w wr)) (fun i _ => m - (intOf i).toNat)
  case atStart => exact ⟨0, by omega, rfl, [], rfl, H0⟩
  case round =>
    clear H0
    obtain ⟨j, hj, rfl, pre, hpre, H0⟩ := hrel
    by_cases hjm : j < m
    · have hln := HLN.out j hj
      have hsc := HSC.out j
      obtain ⟨bt, t, hbt⟩ : ∃ bt t, restL p j l = bt :: t := by
        cases hq : restL p j l with
        | nil => rw [hq] at hln; simp at hln; have := HNM.out; have := HLL.out; omega
        | cons bt t => exact ⟨bt, t, rfl⟩
      have hsc2 := hsc bt t hbt
      rw [hbt] at H0 hln
      have htl : 32 ≤ t.length := by have := HNM.out; have := HLL.out; simp at hln; omega
      have hxl : (pre ++ bt :: t).length = n := by have := HLL.out; have := HNM.out; rw [List.length_append, hln]; omega
      have cj := H0.out.2.2.1.getD (i := j) (by have := HNM.out; omega)
      have ej : (pre ++ bt :: t).getD j false = bt := by
        rw [List.getD_eq_getElem?_getD, List.getElem?_append_right (by omega), hpre, Nat.sub_self]; rfl
      rw [ej] at cj
      have HSC2 := Lib.hid hsc2
      have hji : (j : Int) + 32 < (n : Int) := by have := HNM.out; omega
      have hn4 := HN4.out
      clear hbt hsc hsc2 ej hln
      cases bt
      · have HR : Hid (Bar wr w.heap.size 82 (List.replicate 32 false) ∧ Bar wr g1 82 p ∧ Bar wr g2 4 ((pre ++ [false]) ++ restL p (j + 1) l) ∧ Below w.heap.size w wr) := Lib.hid (by
          rw [HSC2.out, List.append_assoc]; exact H0.out)
        clear H0
        go_wp2
        go_roundw
        case rel => exact ⟨j + 1, by omega, by go_num, pre ++ [false], by rw [List.length_append, hpre]; rfl, HR⟩
        case measure => simp [intOf]; omega
      · have H1 : Hid (Bar wr w.heap.size 82 (List.replicate 32 false) ∧ Bar wr g1 82 p ∧ Bar wr g2 4 ((pre ++ [true]) ++ xkL t p 0) ∧ Below w.heap.size w wr) := Lib.hid (by
          rw [xkL_zero, List.append_assoc]; exact H0.out)
        clear H0
        have hp1 : (pre ++ [true]).length = j + 1 := by rw [List.length_append, hpre]; rfl
        generalize pre ++ [true] = pr at H1 hp1
        go_wp2
        go_loopw [8] (fun i wx => ∃ k : Nat, k ≤ 32 ∧ i = .int .i64 (k : Int) ∧ Hid (Bar wx w.heap.size 82 (List.replicate 32 false) ∧ Bar wx g1 82 p ∧ Bar wx g2 4 (pr ++ xkL t p k) ∧ Below w.heap.size w wx)) (fun i _ => 32 - (intOf i).toNat)
        case atStart => exact ⟨0, by omega, rfl, H1⟩
        case round =>
          clear H1
          obtain ⟨k, hk, rfl, H1⟩ := hrel
          by_cases hlt : k < 32
          · obtain ⟨q, hq⟩ : ∃ q, j + 1 + k = q := ⟨_, rfl⟩
            have hw1 : IntKind.i64.wrap ((j : Int) + 1) = (j : Int) + 1 := IntWalk.i64_in _ (by omega)
            have hw2 : IntKind.i64.wrap ((j : Int) + 1 + (k : Int)) = (q : Int) := by rw [← hq]; exact IntWalk.i64_in _ (by omega)
            have hqn : (q : Int) < (n : Int) := by have := HNM.out; omega
            have hki : (k : Int) < 32 := by omega
            have hxl2 : (xkL t p k).length = t.length := xkL_length t p k (by have := HPL.out; omega) (by have := HPL.out; omega)
            have ck := H1.out.2.2.1.getD (i := q) (by rw [List.length_append, hxl2]; omega)
            have eq1 : (pr ++ xkL t p k).getD q false = t.getD k false := by
              rw [List.getD_eq_getElem?_getD, List.getElem?_append_right (by omega), show q - pr.length = k by omega, ← List.getD_eq_getElem?_getD, xkL_get t p k (by have := HPL.out; omega) (by have := HPL.out; omega)]
            rw [eq1] at ck
            have fk := H1.out.2.2.1.free q
            have dk := H1.out.2.1.getD (i := k) (by have := HPL.out; omega)
            have hset := xkL_set t p k (by have := HPL.out; omega) (by have := HPL.out; omega)
            have eset : (pr ++ xkL t p k).set q (t.getD k false != p.getD k false) = pr ++ xkL t p (k + 1) := by
              rw [List.set_append_right _ _ (by omega), show q - pr.length = k by omega, hset]
            have R2 := H1.out.2.2.1.drew.set q (t.getD k false != p.getD k false)
            rw [eset] at R2
            have R0 := H1.out.1.drew.other (a := ⟨g2, q, none⟩) (show w.heap.size ≠ g2 by omega) (Value.bool (t.getD k false != p.getD k false))
            have R1 := H1.out.2.1.drew.other (a := ⟨g2, q, none⟩) (show g1 ≠ g2 by omega) (Value.bool (t.getD k false != p.getD k false))
            have RB := H1.out.2.2.2.drew.setCell (p := ⟨g2, q, none⟩) (show w.heap.size ≤ g2 by omega) (Value.bool (t.getD k false != p.getD k false))
            have HRR := Lib.hid (And.intro R0 (And.intro R1 (And.intro R2 RB)))
            generalize t.getD k false = x at ck HRR
            generalize p.getD k false = y at dk HRR
            have HU0 := Lib.hid (show wr.drew.cell? ⟨g2, q, none⟩ = some (.bool x) ∧ wr.drew.cell? ⟨g1, k, none⟩ = some (.bool y) from ⟨ck, dk⟩)
            have HF := Lib.hid (And.intro ck fk)
            clear ck fk dk hset eset R0 R1 R2 RB eq1 hxl2 H1
            go_upto_region 11 with fail
            refine region_anyC (fun _ => True) (fun w' => w'.cell? ⟨g2, q, none⟩ = some (.bool x) ∧ w'.cell? ⟨g1, k, none⟩ = some (.bool y)) [17] (by kernel_rfl) ?_
            refine anyC_takeS (i := 0) (oi := ⟨some 34, _, _, _, _, _⟩) (v := _) rfl (by kernel_rfl) (by kernel_rfl) (by kernel_rfl) (by kernel_rfl) (fun _ _ _ h => h) (Or.inl ⟨by rfl, fun w' hw' => (by clear hw'; go_simp; try with_reducible rfl)⟩) trivial (fun _ => HU0.out) ?_
            try simp only [Act.put, List.setIfInBounds_toArray, List.set_cons_zero, List.set_cons_succ]
            refine anyC_takeS (i := 1) (oi := ⟨some 35, _, _, _, _, _⟩) (v := _) rfl (by kernel_rfl) (by kernel_rfl) (by kernel_rfl) (by kernel_rfl) (fun _ _ _ h => h) (Or.inl ⟨by rfl, fun w' hw' => (by clear hw'; go_simp; try with_reducible rfl)⟩) trivial (fun _ => HU0.out) ?_
            try simp only [Act.put, List.setIfInBounds_toArray, List.set_cons_zero, List.set_cons_succ]
            refine anyC_takeS (i := 2) (oi := ⟨some 36, _, _, _, _, _⟩) (v := _) rfl (by kernel_rfl) (by kernel_rfl) (by kernel_rfl) (by kernel_rfl) (fun _ _ _ h => h) (Or.inl ⟨by rfl, fun w' hw' => (by clear hw'; go_simp; try with_reducible rfl)⟩) trivial (fun _ => HU0.out) ?_
            try simp only [Act.put, List.setIfInBounds_toArray, List.set_cons_zero, List.set_cons_succ]
            refine anyC_takeS (i := 3) (oi := ⟨some 37, _, _, _, _, _⟩) (v := _) rfl (by kernel_rfl) (by kernel_rfl) (by kernel_rfl) (by kernel_rfl) (fun _ _ _ h => h) (Or.inl ⟨by rfl, fun w' hw' => (by clear hw'; go_simp; try with_reducible rfl)⟩) trivial (fun _ => HU0.out) ?_
            try simp only [Act.put, List.setIfInBounds_toArray, List.set_cons_zero, List.set_cons_succ]
            refine anyC_takeS (i := 4) (oi := ⟨some 38, _, _, _, _, _⟩) (v := _) rfl (by kernel_rfl) (by kernel_rfl) (by kernel_rfl) (by kernel_rfl) (fun _ _ _ h => h) (Or.inl ⟨by rfl, fun w' hw' => (by clear hw'; go_simp; try with_reducible rfl)⟩) trivial (fun _ => HU0.out) ?_
            try simp only [Act.put, List.setIfInBounds_toArray, List.set_cons_zero, List.set_cons_succ]
            refine anyC_takeS (i := 5) (oi := ⟨some 39, _, _, _, _, _⟩) (v := _) rfl (by kernel_rfl) (by kernel_rfl) (by kernel_rfl) (by kernel_rfl) (fun _ _ _ h => h) (Or.inl ⟨by rfl, fun w' hw' => (by clear hw'; go_simp; try with_reducible rfl)⟩) trivial (fun _ => HU0.out) ?_
            try simp only [Act.put, List.setIfInBounds_toArray, List.set_cons_zero, List.set_cons_succ]
            refine anyC_takeS (i := 6) (oi := ⟨some 40, _, _, _, _, _⟩) (v := _) rfl (by kernel_rfl) (by kernel_rfl) (by kernel_rfl) (by kernel_rfl) (fun _ _ _ h => h) (Or.inl ⟨by rfl, fun w' hw' => (by clear hw'; go_simp; try with_reducible rfl)⟩) trivial (fun _ => HU0.out) ?_
            try simp only [Act.put, List.setIfInBounds_toArray, List.set_cons_zero, List.set_cons_succ]
            refine anyC_takeS (i := 7) (oi := ⟨some 41, _, _, _, _, _⟩) (v := _) rfl (by kernel_rfl) (by kernel_rfl) (by kernel_rfl) (by kernel_rfl) (fun _ _ _ h => h) (Or.inl ⟨by rfl, fun w' hw' => (by clear hw'; go_simp; try with_reducible rfl)⟩) trivial (fun _ => HU0.out) ?_
            try simp only [Act.put, List.setIfInBounds_toArray, List.set_cons_zero, List.set_cons_succ]
            refine anyC_takeS (i := 8) (oi := ⟨some 42, _, _, _, _, _⟩) (v := _) rfl (by kernel_rfl) (by kernel_rfl) (by kernel_rfl) (by kernel_rfl) (fun _ _ _ h => h) (Or.inl ⟨by rfl, fun w' hw' => (by clear hw'; go_simp; try with_reducible rfl)⟩) trivial (fun _ => HU0.out) ?_
            try simp only [Act.put, List.setIfInBounds_toArray, List.set_cons_zero, List.set_cons_succ]
            refine anyC_takeS (i := 9) (oi := ⟨some 43, _, _, _, _, _⟩) (v := _) rfl (by kernel_rfl) (by kernel_rfl) (by kernel_rfl) (by kernel_rfl) (fun _ _ _ h => h) (Or.inl ⟨by rfl, fun w' hw' => (by clear hw'; go_simp; try with_reducible rfl)⟩) trivial (fun _ => HU0.out) ?_
            try simp only [Act.put, List.setIfInBounds_toArray, List.set_cons_zero, List.set_cons_succ]
            refine anyC_takeS (i := 10) (oi := ⟨some 44, _, _, _, _, _⟩) (v := _) rfl (by kernel_rfl) (by kernel_rfl) (by kernel_rfl) (by kernel_rfl) (fun _ _ _ h => h) (Or.inl ⟨by rfl, fun w' hw' => (by clear hw'; go_simp; try with_reducible rfl)⟩) trivial (fun _ => HU0.out) ?_
            try simp only [Act.put, List.setIfInBounds_toArray, List.set_cons_zero, List.set_cons_succ]
            refine anyC_takeU (i := 11) (oi := ⟨some 45, _, _, _, _, _⟩) (v := _) rfl (by kernel_rfl) (by kernel_rfl) (by kernel_rfl) (by kernel_rfl) (fun _ _ _ h => h) (Or.inl ⟨by rfl, fun w' hw' => (by obtain ⟨u1, u2⟩ := hw'; go_simp; try with_reducible rfl)⟩) trivial HU0.out ?_
            try simp only [Act.put, List.setIfInBounds_toArray, List.set_cons_zero, List.set_cons_succ]
            refine anyC_takeS (i := 12) (oi := ⟨some 46, _, _, _, _, _⟩) (v := _) rfl (by kernel_rfl) (by kernel_rfl) (by kernel_rfl) (by kernel_rfl) (fun _ _ _ h => h) (Or.inl ⟨by rfl, fun w' hw' => (by clear hw'; go_simp; try with_reducible rfl)⟩) trivial (fun _ => HU0.out) ?_
            try simp only [Act.put, List.setIfInBounds_toArray, List.set_cons_zero, List.set_cons_succ]
            refine anyC_takeS (i := 13) (oi := ⟨some 47, _, _, _, _, _⟩) (v := _) rfl (by kernel_rfl) (by kernel_rfl) (by kernel_rfl) (by kernel_rfl) (fun _ _ _ h => h) (Or.inl ⟨by rfl, fun w' hw' => (by clear hw'; go_simp; try with_reducible rfl)⟩) trivial (fun _ => HU0.out) ?_
            try simp only [Act.put, List.setIfInBounds_toArray, List.set_cons_zero, List.set_cons_succ]
            refine anyC_takeU (i := 14) (oi := ⟨some 48, _, _, _, _, _⟩) (v := _) rfl (by kernel_rfl) (by kernel_rfl) (by kernel_rfl) (by kernel_rfl) (fun _ _ _ h => h) (Or.inl ⟨by rfl, fun w' hw' => (by obtain ⟨u1, u2⟩ := hw'; go_simp; try with_reducible rfl)⟩) trivial HU0.out ?_
            try simp only [Act.put, List.setIfInBounds_toArray, List.set_cons_zero, List.set_cons_succ]
            refine anyC_takeS (i := 15) (oi := ⟨some 49, _, _, _, _, _⟩) (v := _) rfl (by kernel_rfl) (by kernel_rfl) (by kernel_rfl) (by kernel_rfl) (fun _ _ _ h => h) (Or.inl ⟨by rfl, fun w' hw' => (by clear hw'; go_simp; try with_reducible rfl)⟩) trivial (fun _ => HU0.out) ?_
            try simp only [Act.put, List.setIfInBounds_toArray, List.set_cons_zero, List.set_cons_succ]
            refine anyC_takeS (i := 16) (oi := ⟨some 50, _, _, _, _, _⟩) (v := _) rfl (by kernel_rfl) (by kernel_rfl) (by kernel_rfl) (by kernel_rfl) (fun _ _ _ h => h) (Or.inl ⟨by rfl, fun w' hw' => (by clear hw'; go_simp; try with_reducible rfl)⟩) trivial (fun _ => HU0.out) ?_
            try simp only [Act.put, List.setIfInBounds_toArray, List.set_cons_zero, List.set_cons_succ]
            refine anyC_keep (i := 17) (o := ⟨none, _, _, _, _, _⟩) (by kernel_rfl) rfl (fun K hK => ?_)
            rw [if_pos (by rfl)]
            obtain ⟨c3, f3⟩ := HF.out
            go_simp
            refine hK.out _ _ ⟨trivial, (fun h => absurd h (by decide))⟩ ?_
            clear hK K
            try simp only [Act.put, List.setIfInBounds_toArray, List.set_cons_zero, List.set_cons_succ]
            refine anyC_done (by kernel_rfl) ?_ _
            go_wp2
            go_roundw
            case rel => exact ⟨k + 1, by omega, by go_num, HRR⟩
            case measure => simp [intOf]; omega
          · obtain rfl : k = 32 := by omega
            have HR : Hid (Bar wr w.heap.size 82 (List.replicate 32 false) ∧ Bar wr g1 82 p ∧ Bar wr g2 4 (pr ++ restL p (j + 1) l) ∧ Below w.heap.size w wr) := Lib.hid (by
              rw [HSC2.out, ← xkL_full, HPL.out]; exact H1.out)
            clear H1
            go_wp2
            go_roundw
            case rel => exact ⟨j + 1, by omega, by go_num, pr, hp1, HR⟩
            case measure => simp [intOf]; omega
    · obtain rfl : j = m := by omega
      have hln := HLN.out j (Nat.le_refl _)
      have hll := HLL.out
      have hnm := HNM.out
      have hfl : (restL p j l).length = 32 := by rw [hln]; omega
      generalize hfin : restL p j l = fin at hfl H0
      have HFIN := Lib.hid hfin
      clear hfin
      have hjn : (n : Int) - 32 = (j : Int) := by omega
      have hz := zero82
      have hcond : ¬ ((j : Int) + 32 < (n : Int)) := by omega
      have HJ := Lib.hid hnm
      have hn4 := HN4.out
      clear hln hll HLN HSC hjm hnm
      go_upto_region 13 with fail
      clear hz hcond
      have hgg : g2 < wr.heap.size := H0.out.2.2.1.lt
      have d0 : Bar (wr.alloc (.cells ZB 82)) w.heap.size 82 (okL fin 0) := by rw [okL_zero]; exact H0.out.1.alloc _
      have d2 := H0.out.2.2.1.alloc (.cells ZB 82)
      have d3 : Bar (wr.alloc (.cells ZB 82)) wr.heap.size 82 (okL fin 0) := by rw [okL_zero]; exact Bar.new wr 82 _
      have dB : Below w.heap.size w (wr.alloc (.cells ZB 82)) := bstep1 H0.out.2.2.2
      have hgw : w.heap.size < wr.heap.size := by omega
      have hxl : (pre ++ fin).length = n := by rw [List.length_append, hfl, hpre]; exact HJ.out.symm
      have HD := Lib.hid (And.intro d0 (And.intro d2 (And.intro d3 dB)))
      clear d0 d2 d3 dB H0
      generalize wr.alloc (.cells ZB 82) = V5 at HD ⊢
      generalize wr.heap.size = g3 at HD hgg hgw ⊢
      go_wp2
      go_loopw [10] (fun i wx => ∃ k : Nat, k ≤ 32 ∧ i = .int .i64 (k : Int) ∧ Hid (Bar wx w.heap.size 82 (okL fin 0) ∧ Bar wx g2 4 (pre ++ fin) ∧ Bar wx g3 82 (okL fin k) ∧ Below w.heap.size w wx)) (fun i _ => 32 - (intOf i).toNat)
      case atStart => exact ⟨0, by omega, rfl, HD⟩
      case round =>
        clear HD
        obtain ⟨k, hk, rfl, HD⟩ := hrel
        by_cases hlt : k < 32
        · have hki : (k : Int) < 32 := by omega
          have hq1 : (n : Int) - 32 + (k : Int) = ((j + k : Nat) : Int) := by omega
          have ck := HD.out.2.1.getD (i := j + k) (by have := HJ.out; omega)
          have ek : (pre ++ fin).getD (j + k) false = fin.getD k false := by
            rw [List.getD_eq_getElem?_getD, List.getElem?_append_right (by omega), hpre, Nat.add_sub_cancel_left, ← List.getD_eq_getElem?_getD]
          rw [ek] at ck
          have ok := HD.out.2.2.1.getD (i := k) (by rw [okL_length fin k hfl (by omega)]; exact hlt)
          have fk := HD.out.2.2.1.free k
          have R3 := HD.out.2.2.1.set k (fin.getD k false)
          rw [okL_set fin k hfl hlt] at R3
          have R0 := HD.out.1.other (a := ⟨g3, k, none⟩) (show w.heap.size ≠ g3 by omega) (Value.bool (fin.getD k false))
          have R2 := HD.out.2.1.other (a := ⟨g3, k, none⟩) (show g2 ≠ g3 by omega) (Value.bool (fin.getD k false))
          have RB := HD.out.2.2.2.setCell (p := ⟨g3, k, none⟩) (show w.heap.size ≤ g3 by omega) (Value.bool (fin.getD k false))
          have HRR := Lib.hid (And.intro R0 (And.intro R2 (And.intro R3 RB)))
          generalize fin.getD k false = x at ck HRR
          generalize (okL fin k).getD k false = old at ok
          obtain ⟨q, hq⟩ : ∃ q, j + k = q := ⟨_, rfl⟩
          rw [hq] at ck hq1
          have hqn : (q : Int) < (n : Int) := by have := HJ.out; omega
          have hq2 : (j : Int) + (k : Int) = (q : Int) := by omega
          clear R0 R2 R3 RB ek HD hq
          go_wp2
          go_roundw
          case rel => exact ⟨k + 1, by omega, by go_num, HRR⟩
          case measure => simp [intOf]; omega
        · obtain rfl : k = 32 := by omega
          have hful := okL_full fin hfl
          obtain ⟨e0, e2, e3, eB⟩ := HD.out
          rw [hful] at e3
          have RB := Lib.hid (below_setRow eB (Nat.le_refl _) (bC fin))
          have R1 := Lib.hid (e0.row fin)
          have H3 := Lib.hid e3
          have HE0 := Lib.hid e0
          have HL := Lib.hid (show (bC fin).size = 32 ∧ (bC (okL fin 0)).size = 32 by rw [bC_size, bC_size, okL_length fin 0 hfl (by omega)]; exact ⟨hfl, rfl⟩)
          clear e0 e2 e3 eB HD hful
          go_wp2_with (first | (refine wpList_load_row rfl 82 _ rfl g3 rfl 82 (bC fin) (0, 0) _ H3.out Try.underlying82 rfl (by rw [size82, HL.out.1]) ?_) | (refine wpList_store_row rfl 82 _ _ rfl w.heap.size (bC fin) rfl rfl 82 _ HE0.out (by rw [size82, HL.out.1]) (by rw [HL.out.1, HL.out.2]) (bC_one _) ?_))
          exact bodyPost_ret (v := .agg (bC fin)) (results_cell_row (p := 4) (ty := 82) Try.results39 _ _ w.heap.size 82 _ (0, 0) _ rfl R1.out Try.underlying82 rfl (by rw [size82, HL.out.1])) rfl ⟨by rw [HFIN.out], RB.out⟩
end Go.Proofs.Ytfagfenmampigaa
