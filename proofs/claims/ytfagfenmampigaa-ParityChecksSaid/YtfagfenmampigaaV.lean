/- The reference: powers, number. -/
import Derived.Test.YtfagfenmampigaaU
namespace Go.Proofs.Ytfagfenmampigaa
open Go.RowKit Go.ChangeShapes
def bC (l : List Bool) : Array Value := (l.map Value.bool).toArray
theorem bC_size (l : List Bool) : (bC l).size = l.length := by simp [bC]
theorem bC_get {l : List Bool} {i : Nat} (h : i < l.length) : (bC l)[i]? = some (Value.bool l[i]) := by simp [bC, h]
theorem bC_one (l : List Bool) : (bC l).all (·.oneCell') = true := by simp [bC, Value.oneCell']
/-- Block g holds a row of bits, and may be written. -/
def Bar (w : World) (g : Nat) (t : TypeId) (l : List Bool) : Prop := w.heap[g]? = some (.cells (bC l) t (0, 0))
theorem Bar.get {w : World} {g : Nat} {t : TypeId} {l : List Bool} (h : Bar w g t l) {i : Nat} (hi : i < l.length) : w.cell? ⟨g, i, none⟩ = some (Value.bool l[i]) :=
  (cell_of_row w g i _ t (0, 0) h).trans (bC_get hi)
theorem Bar.getD {w : World} {g : Nat} {t : TypeId} {l : List Bool} (h : Bar w g t l) {i : Nat} (hi : i < l.length) : w.cell? ⟨g, i, none⟩ = some (Value.bool (l.getD i false)) := by
  rw [h.get hi, List.getD_eq_getElem?_getD, List.getElem?_eq_getElem hi]; rfl
theorem Bar.free {w : World} {g : Nat} {t : TypeId} {l : List Bool} (h : Bar w g t l) (i : Nat) : w.frozen? ⟨g, i, none⟩ = false := frozen_of_row w g i _ t h
theorem Bar.lt {w : World} {g : Nat} {t : TypeId} {l : List Bool} (h : Bar w g t l) : g < w.heap.size := (Array.getElem?_eq_some_iff.1 h).1
theorem Bar.below {w w' : World} {B g : Nat} {t : TypeId} {l : List Bool} (h : Bar w g t l) (hb : Below B w w') (hg : g < B) : Bar w' g t l := (hb.block g hg).trans h
theorem Bar.heap {w w' : World} {g : Nat} {t : TypeId} {l : List Bool} (h : Bar w g t l) (hb : w'.heap = w.heap) : Bar w' g t l := by unfold Bar; rw [hb]; exact h
theorem Bar.drewN {w : World} {g : Nat} {t : TypeId} {l : List Bool} (h : Bar w g t l) (n : Nat) : Bar (w.drewN n) g t l := h
theorem Bar.drew {w : World} {g : Nat} {t : TypeId} {l : List Bool} (h : Bar w g t l) : Bar w.drew g t l := h
theorem Bar.alloc {w : World} {g : Nat} {t : TypeId} {l : List Bool} (h : Bar w g t l) (o : Obj) : Bar (w.alloc o) g t l := (Below.heap_alloc w o g h.lt).trans h
theorem Bar.new (w : World) (t : TypeId) (l : List Bool) : Bar (w.alloc (.cells (bC l) t)) w.heap.size t l := heap_alloc_new w _
theorem Bar.set {w : World} {g : Nat} {t : TypeId} {l : List Bool} (h : Bar w g t l) (i : Nat) (x : Bool) : Bar (w.setCell ⟨g, i, none⟩ (Value.bool x)) g t (l.set i x) := by
  have := heap_setCell_same w g i (bC l) t (Value.bool x) h
  unfold Bar
  rw [this]
  congr 2
  simp [bC, List.map_set]
theorem Bar.other {w : World} {g : Nat} {t : TypeId} {l : List Bool} (h : Bar w g t l) {a : Addr} (ha : g ≠ a.block) (v : Value) : Bar (w.setCell a v) g t l := (heap_setCell_other w a g v ha).trans h
theorem Bar.row {w : World} {g : Nat} {t : TypeId} {l : List Bool} (h : Bar w g t l) (l' : List Bool) : Bar (w.setRow g (bC l')) g t l' := setRow_heap w g _ _ t _ h
/-- 'a[i]' of a row by value. -/
theorem run_index_bs {P : Program} (w : World) (t e : TypeId) (n : Nat) (l : List Bool) (k : IntKind) (i : Nat) (h : P.underlying t = some (.array n e)) (hn : l.length = n) (hi : i < n) (hsz : (sizeOf e).run P w = .ok 1 w) (hag : (isAgg e).run P w = .ok false w) :
    (Instr.index t (.agg (bC l)) (.int k (i : Int))).run P w = .ok (Value.bool (l.getD i false)) w := by
  have e1 : (0 : Int) ≤ (i : Int) ∧ (i : Int) < (n : Int) := by omega
  have hl : i < l.length := by omega
  have hg : l.getD i false = l[i] := by rw [List.getD_eq_getElem?_getD, List.getElem?_eq_getElem hl]; rfl
  rw [hg]
  simp [Instr.index, run_underlying h, asIntOf, e1, go_sem, bC, hsz, hag, hi, hl]
theorem size82 : (Try.prog.info? 82).map (·.size) = some 32 := by kernel_rfl
def ZB : Array Value := bC (List.replicate 32 false)
theorem zero82 (w : World) : (zeroValue 82).run Try.prog w = .ok (.agg ZB) w := by kernel_rfl
/-- The bits of a constant, the first k of them. -/
def bpK (c k : Nat) : List Bool := (List.range 32).map fun i => if i < k then (c / 2 ^ i % 2 == 1) else false
theorem bpK_length (c k : Nat) : (bpK c k).length = 32 := by simp [bpK]
theorem bpK_set (c k : Nat) (_h : k < 32) : (bpK c k).set k (c / 2 ^ k % 2 == 1) = bpK c (k + 1) := by
  apply List.ext_getElem (by simp [bpK])
  intro i h1 h2
  simp only [bpK, List.getElem_set, List.getElem_map, List.getElem_range]
  by_cases e : k = i
  · subst e; rw [if_pos rfl, if_pos (by omega)]
  · rw [if_neg e]
    by_cases h3 : i < k
    · rw [if_pos h3, if_pos (by omega)]
    · rw [if_neg h3, if_neg (by omega)]
theorem bpK_zero (c : Nat) : bpK c 0 = List.replicate 32 false := by
  apply List.ext_getElem (by rw [bpK_length, List.length_replicate])
  intro i h1 h2
  simp only [bpK, List.getElem_map, List.getElem_range, List.getElem_replicate]
  rw [if_neg (by omega)]
theorem bpK_full (c : Nat) : bpK c 32 = bitsL c 32 := by
  unfold bpK bitsL
  apply List.map_congr_left
  intro i hi
  rw [if_pos (List.mem_range.1 hi)]
theorem ZB_bp (c : Nat) : ZB = bC (bpK c 0) := by rw [bpK_zero]; rfl
theorem and64_one {y : Nat} (h : y ≤ 4294967295) {k : Nat} : bits .and .i64 ((y : Int) / 2 ^ k) 1 = ((y / 2 ^ k % 2 : Nat) : Int) := by
  have h2 : y / 2 ^ k ≤ 4294967295 := Nat.le_trans (Nat.div_le_self _ _) h
  have e : ((y : Int) / 2 ^ k) = ((y / 2 ^ k : Nat) : Int) := by simp
  rw [e]
  generalize y / 2 ^ k = q at h2
  show IntKind.i64.wrap ((BitVec.ofInt 64 (q : Int) &&& BitVec.ofInt 64 1).toNat : Int) = _
  rw [BitVec.toNat_and, ofInt_64 h2, show (BitVec.ofInt 64 1).toNat = 1 by decide, Nat.and_one_is_mod]
  exact IntWalk.i64_in _ (by omega)
theorem below_setRowB {w W : World} {B g : Nat} (h : Below B w W) (hg : B ≤ g) (cs : Array Value) : Below B w (W.setRow g cs) := below_setRow h hg cs
set_option maxRecDepth 100000 in
set_option maxHeartbeats 4000000 in
theorem bpow_any (b : Bool) (w : World) : Calls Try.prog 53 #[kV b] w fun e w' => e = .returned (.agg (bC (bitsL (kC b) 32))) ∧ Below w.heap.size w w' := by
  have hz := zero82
  have h1 : Bar ((w.alloc (.cells ZB 82)).alloc (.cells ZB 82)) w.heap.size 82 (bpK (kC b) 0) := by
    have h := (Bar.new w 82 (bpK (kC b) 0)).alloc (.cells ZB 82)
    rwa [← ZB_bp] at h
  have h2 : Bar ((w.alloc (.cells ZB 82)).alloc (.cells ZB 82)) (w.heap.size + 1) 82 (bpK (kC b) 0) := by
    have h := Bar.new (w.alloc (.cells ZB 82)) 82 (bpK (kC b) 0)
    rwa [← ZB_bp, World.size_alloc] at h
  have hB : Below w.heap.size w ((w.alloc (.cells ZB 82)).alloc (.cells ZB 82)) := by go_grown
  have H0 := Lib.hid (And.intro h1 (And.intro h2 hB))
  have hcW : kC b ≤ 4294967295 := kC_W b
  have HBK := Lib.hid (show (b = false → (3988292384 : Int) = (kC b : Int)) ∧ (b = true → (2197175160 : Int) = (kC b : Int)) by cases b <;> exact ⟨fun h => by cases h <;> rfl, fun h => by cases h <;> rfl⟩)
  generalize kC b = c at H0 hcW HBK ⊢
  clear h1 h2 hB
  go_enter Try.func53, Try.ntmps53
  go_upto_region 1 with fail
  go_upto_if 7 with fail
  go_cut [3] (fun s3 wx => s3 = .int .i64 (c : Int) ∧ w.alloc (.cells ZB 82) = wx)
  case first =>
    cases b
    · have hk : (3988292384 : Int) = (c : Int) := HBK.out.1 rfl
      clear hz
      go_wp2
      go_meet
      exact ⟨by rw [← hk], rfl⟩
    · have hk : (2197175160 : Int) = (c : Int) := HBK.out.2 rfl
      clear hz
      go_wp2
      go_meet
      exact ⟨by rw [← hk], rfl⟩
  case rest =>
    obtain ⟨rfl, rfl⟩ := hcut
    clear HBK
    go_upto_region 5 with fail
    clear hz
    generalize World.alloc (World.alloc w _) _ = V at H0 ⊢
    go_wp2
    go_loopw [5] (fun i wr => ∃ k : Nat, k ≤ 32 ∧ i = .int .i64 (k : Int) ∧ Hid (Bar wr w.heap.size 82 (bpK c 0)) ∧ Hid (Bar wr (w.heap.size + 1) 82 (bpK c k)) ∧ Hid (Below w.heap.size w wr)) (fun i _ => 32 - (intOf i).toNat)
    case atStart => exact ⟨0, by omega, rfl, Lib.hid H0.out.1, Lib.hid H0.out.2.1, Lib.hid H0.out.2.2⟩
    case round =>
      clear H0
      obtain ⟨k, hk, rfl, H1, H2, HB⟩ := hrel
      by_cases hlt : k < 32
      · have hki : (k : Int) < 32 := by omega
        have ck := H2.out.getD (i := k) (by rw [bpK_length]; exact hlt)
        have fk := H2.out.free k
        generalize (bpK c k).getD k false = old at ck
        by_cases hr : c / 2 ^ k % 2 = 1
        · have hb : (c / 2 ^ k % 2 == 1) = true := by rw [hr]; rfl
          have hand : bits .and .i64 ((c : Int) / 2 ^ k) 1 = 1 := by rw [and64_one hcW]; rw [hr]; rfl
          have R2 : Hid (Bar (wr.setCell ⟨w.heap.size + 1, k, none⟩ (.bool true)) (w.heap.size + 1) 82 (bpK c (k + 1))) := Lib.hid (by
            have h := H2.out.set k true
            rw [← hb, bpK_set c k hlt] at h
            rw [hb] at h
            exact h)
          have R1 : Hid (Bar (wr.setCell ⟨w.heap.size + 1, k, none⟩ (.bool true)) w.heap.size 82 (bpK c 0)) := Lib.hid (H1.out.other (a := ⟨w.heap.size + 1, k, none⟩) (by simp) _)
          have RB : Hid (Below w.heap.size w (wr.setCell ⟨w.heap.size + 1, k, none⟩ (.bool true))) := Lib.hid (HB.out.setCell (p := ⟨w.heap.size + 1, k, none⟩) (by show w.heap.size ≤ w.heap.size + 1; omega) _)
          clear H1 H2 HB hb
          go_wp2
          go_roundw
          case rel => exact ⟨k + 1, by omega, by go_num, R1, R2, RB⟩
          case measure => simp [intOf]; omega
        · have hb : (c / 2 ^ k % 2 == 1) = false := beq_false_of_ne hr
          have hand : bits .and .i64 ((c : Int) / 2 ^ k) 1 = 0 := by rw [and64_one hcW]; omega
          have R2 : Hid (Bar (wr.setCell ⟨w.heap.size + 1, k, none⟩ (.bool false)) (w.heap.size + 1) 82 (bpK c (k + 1))) := Lib.hid (by
            have h := H2.out.set k false
            rw [← hb, bpK_set c k hlt] at h
            rw [hb] at h
            exact h)
          have R1 : Hid (Bar (wr.setCell ⟨w.heap.size + 1, k, none⟩ (.bool false)) w.heap.size 82 (bpK c 0)) := Lib.hid (H1.out.other (a := ⟨w.heap.size + 1, k, none⟩) (by simp) _)
          have RB : Hid (Below w.heap.size w (wr.setCell ⟨w.heap.size + 1, k, none⟩ (.bool false))) := Lib.hid (HB.out.setCell (p := ⟨w.heap.size + 1, k, none⟩) (by show w.heap.size ≤ w.heap.size + 1; omega) _)
          clear H1 H2 HB hb
          go_wp2
          go_roundw
          case rel => exact ⟨k + 1, by omega, by go_num, R1, R2, RB⟩
          case measure => simp [intOf]; omega
      · obtain rfl : k = 32 := by omega
        have RB := Lib.hid (below_setRow HB.out (Nat.le_refl _) (bC (bpK c 32)))
        have R1 := Lib.hid (H1.out.row (bpK c 32))
        have HF := Lib.hid (bpK_full c)
        have HL := Lib.hid (show (bC (bpK c 32)).size = 32 ∧ (bC (bpK c 0)).size = 32 by rw [bC_size, bC_size, bpK_length, bpK_length]; exact ⟨rfl, rfl⟩)
        go_wp2_with (first | (refine wpList_load_row rfl 82 _ rfl (w.heap.size + 1) rfl 82 (bC (bpK c 32)) (0, 0) _ H2.out Try.underlying82 rfl (by rw [size82, HL.out.1]) ?_) | (refine wpList_store_row rfl 82 _ _ rfl w.heap.size (bC (bpK c 32)) rfl rfl 82 _ H1.out (by rw [size82, HL.out.1]) (by rw [HL.out.1, HL.out.2]) (bC_one _) ?_))
        exact bodyPost_ret (v := .agg (bC (bpK c 32))) (results_cell_row (p := 2) (ty := 82) Try.results53 _ _ w.heap.size 82 _ (0, 0) _ rfl R1.out Try.underlying82 rfl (by rw [size82, HL.out.1])) rfl ⟨by rw [HF.out], RB.out⟩
theorem nb_cons_add (b : Bool) (l : List Bool) : nb (b :: l) = 2 * nb l + b.toNat := by
  have := nb_cons_div b l
  omega
theorem nb_lt (l : List Bool) : nb l < 2 ^ l.length := by
  induction l with
  | nil => decide
  | cons b l ih =>
    rw [nb_cons_add, List.length_cons, Nat.pow_succ]
    have : b.toNat ≤ 1 := by cases b <;> decide
    omega
set_option maxRecDepth 100000 in
set_option maxHeartbeats 4000000 in
theorem number_any (l : List Bool) (w : World) (hl : l.length = 32) : Calls Try.prog 38 #[.agg (bC l)] w fun e w' => e = .returned (.int .i64 ((nb l : Nat) : Int)) ∧ Below w.heap.size w w' := by
  have h0 := Bar.new w 82 l
  have hB : Below w.heap.size w (w.alloc (.cells (bC l) 82)) := by go_grown
  have H0 := Lib.hid h0
  have HB := Lib.hid hB
  have HLT := Lib.hid (fun j => show nb (l.drop j) < 4294967296 from Nat.lt_of_lt_of_le (nb_lt _) (by rw [List.length_drop]; exact Nat.pow_le_pow_right (by decide) (show l.length - j ≤ 32 by omega)))
  have HST := Lib.hid (fun j (h : j < l.length) => show nb (l.drop j) = 2 * nb (l.drop (j + 1)) + (l.getD j false).toNat by
    rw [List.drop_eq_getElem_cons h, nb_cons_add, List.getD_eq_getElem?_getD, List.getElem?_eq_getElem h]; rfl)
  have hnil : nb (l.drop 32) = 0 := by rw [List.drop_of_length_le (by omega)]; rfl
  have HN := Lib.hid (And.intro hnil hl)
  clear h0 hB hnil hl
  go_enter Try.func38, Try.ntmps38
  go_wp2
  generalize World.alloc w _ = V at H0 HB ⊢
  go_loopw [3, 4] (fun s3 i wr => ∃ j : Nat, j ≤ 32 ∧ i = .int .i64 ((j : Int) - 1) ∧ s3 = .int .i64 ((nb (l.drop j) : Nat) : Int) ∧ V = wr) (fun _ i _ => (intOf i + 1).toNat)
  case atStart => exact ⟨32, by omega, rfl, by rw [HN.out.1]; rfl, rfl⟩
  case round =>
    obtain ⟨j, hj, rfl, rfl, rfl⟩ := hrel
    by_cases hj0 : j = 0
    · subst hj0
      rw [List.drop_zero]
      go_wp2
      go_ret
      exact ⟨rfl, HB.out⟩
    · obtain ⟨i, rfl⟩ : ∃ i, j = i + 1 := ⟨j - 1, by omega⟩
      have hi32 : i < 32 := by omega
      have ck := H0.out.getD (i := i) (by rw [HN.out.2]; exact hi32)
      have hst := HST.out i (by rw [HN.out.2]; exact hi32)
      have hlt := HLT.out i
      have hlt1 := HLT.out (i + 1)
      have hij : ((i + 1 : Nat) : Int) - 1 = (i : Int) := by omega
      rw [hij]
      have hki : (i : Int) < 32 := by omega
      generalize nb (l.drop (i + 1)) = m at hst hlt1 ⊢
      generalize hm2 : nb (l.drop i) = m2 at hst hlt
      have HM2 := Lib.hid hm2
      generalize l.getD i false = bb at ck hst
      clear hm2
      cases bb
      · have hst2 : m2 = 2 * m := by simpa using hst
        have HS := Lib.hid hst2
        go_wp2
        go_roundw
        case rel => exact ⟨i, by omega, by go_num, by rw [HM2.out, HS.out]; rfl, by first | rfl | trivial⟩
        case measure => simp [intOf]
      · have hst2 : m2 = 2 * m + 1 := by simpa using hst
        have HS := Lib.hid hst2
        go_wp2
        go_roundw
        case rel => exact ⟨i, by omega, by go_num, by rw [HM2.out, HS.out]; rfl, by first | rfl | trivial⟩
        case measure => simp [intOf]
end Go.Proofs.Ytfagfenmampigaa
