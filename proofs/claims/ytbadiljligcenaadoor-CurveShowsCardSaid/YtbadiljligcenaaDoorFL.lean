/- Contract of what raiser returns. -/
import Derived.Test.YtbadiljligcenaaDoorFK
import Derived.Test.YtbadiljligcenaaDoorFI
import Derived.Test.YtbadiljligcenaaDoorZW
namespace Go.Proofs.YtbadiljligcenaaDoor
open Go.RowKit Go.Shelf
attribute [local go_sem] Oper.semAt_some
theorem wpListIn_load_row {F : Fence} {n : Nat} {P : Program} {ops : Array Oper} {rest : List Oper} {o : Oper} {a : Act} {w : World} {Q : Exit → Act → World → Prop} (hgd : o.guard = none) (ty : TypeId) (x : Operand) (ho : o.op = .load ty x)
    (g : Nat) (hx : a.eval x = .pointer (some ⟨g, 0, none⟩)) (t : TypeId) (cs : Array Value) (fr : Nat × Nat) (d : TypeDesc) (hg : w.heap[g]? = some (.cells cs t fr))
    (hu : P.underlying ty = some d) (hd : (match d with | .struct _ | .array _ _ => true | _ => false) = true) (hi : (P.info? ty).map (·.size) = some cs.size)
    (h : wpListIn F n P ops Q rest (a.put o.dst (.agg cs)) w) : wpListIn F n P ops Q (o :: rest) a w := by
  refine wpListIn_plain hgd fun K hK => ?_
  unfold Oper.wpIn
  refine ⟨?_, ?_⟩
  · simp [Oper.about, ho]
  · rw [Oper.semAt_plain F _ _ (by rw [ho]; intro c hc; cases hc)]
    simp only [execOp, ho, hx, Instr.loadAt, Instr.sureAddr, Sem.run_bind, Sem.run_pure, Result.andThen_ok, run_loadVar_row w g t ty cs fr d hg hu hd hi]
    exact hK _ _ h
theorem wpListIn_store_row {F : Fence} {n : Nat} {P : Program} {ops : Array Oper} {rest : List Oper} {o : Oper} {a : Act} {w : World} {Q : Exit → Act → World → Prop} (hgd : o.guard = none) (ty : TypeId) (x y : Operand) (ho : o.op = .store ty x y)
    (g : Nat) (cells : Array Value) (hx : a.eval x = .pointer (some ⟨g, 0, none⟩)) (hy : a.eval y = .agg cells)
    (t : TypeId) (old : Array Value) (hg : w.heap[g]? = some (.cells old t (0, 0))) (hi : (P.info? ty).map (·.size) = some cells.size)
    (hold : old.size = cells.size) (h1 : cells.all (·.oneCell') = true)
    (h : wpListIn F n P ops Q rest (a.put o.dst undef) (w.setRow g cells)) : wpListIn F n P ops Q (o :: rest) a w := by
  refine wpListIn_plain hgd fun K hK => ?_
  unfold Oper.wpIn
  refine ⟨?_, ?_⟩
  · simp [Oper.about, ho]
  · rw [Oper.semAt_plain F _ _ (by rw [ho]; intro c hc; cases hc)]
    simp only [execOp, ho, hx, hy, Instr.storeAt, Instr.sureAddr, Sem.run_bind, Sem.run_pure, Result.andThen_ok, run_storeVar_row w g t ty old cells hg hi hold h1]
    exact hK _ _ h
theorem keeps_below {W V : World} (h : Below W.heap.size W V) : KeepsOthers W V := ⟨h.size, fun k _ hk _ => (h.block k (Array.getElem?_eq_some_iff.1 hk).1).trans hk⟩
theorem keeps_row {W : World} {g : Nat} {cs : Array Value} {t : TypeId} {fr : Nat × Nat} (h : W.heap[g]? = some (.cells cs t fr)) (ds : Array Value) : KeepsOthers W (W.setRow g ds) :=
  ⟨by simp [World.setRow], fun k o hk ho => (setRow_other W g k ds (by rintro rfl; rw [h] at hk; cases hk; cases ho)).trans hk⟩
theorem KpX.below {b1 b2 : Nat} {A W V : World} (h : KpX b1 b2 A W) (hb : Below W.heap.size W V) : KpX b1 b2 A V := fun k cs t fr hk h1 h2 =>
  (hb.block k (Array.getElem?_eq_some_iff.1 (h k cs t fr hk h1 h2)).1).trans (h k cs t fr hk h1 h2)
theorem KpX.row {b1 b2 : Nat} {A W : World} (h : KpX b1 b2 A W) {g : Nat} (hg : g = b1 ∨ g = b2) (ds : Array Value) : KpX b1 b2 A (W.setRow g ds) := fun k cs t fr hk h1 h2 =>
  (setRow_other W g k ds (by rcases hg with rfl | rfl <;> assumption)).trans (h k cs t fr hk h1 h2)
/-- A power, bit by bit. -/
def powL (n : Nat) (xs : List Bool) : Nat := xs.foldl (fun r b => if b then muN (muN r r) n else muN r r) 1
theorem powL_snoc (n : Nat) (xs : List Bool) (b : Bool) : powL n (xs ++ [b]) = if b then muN (muN (powL n xs) (powL n xs)) n else muN (powL n xs) (powL n xs) := by simp [powL]
theorem powL_bits (n : Nat) (s : List UInt8) (k : Nat) : powL n (bitsK s k) = powN n s k := by
  induction k with
  | zero => rfl
  | succ k ih => rw [bitsK_succ, powL_snoc, ih]; rfl
theorem powL_lt (n : Nat) (xs : List Bool) : powL n xs < pC := by
  rcases List.eq_nil_or_concat xs with rfl | ⟨l, b, rfl⟩
  · show 1 < pC; decide
  · rw [List.concat_eq_append, powL_snoc]; split <;> exact muN_lt _ _
theorem lm_one : lsC (lm 1) = #[.int .u64 1, .int .u64 0, .int .u64 0, .int .u64 0, .int .u64 0] := by simp [lsC, lm, dig]
theorem times_lm (a b : Nat) (ha : a < pC) (hb : b < pC) (W : World) : Calls Tryd.prog 60 #[.agg (lsC (lm a)), .agg (lsC (lm b))] W fun e w' => e = .returned (.agg (lsC (lm (muN a b)))) ∧ Below W.heap.size W w' := by
  have h := times_any (lm a) (lm b) W (lm_length _) (lm_length _) (fun x hx => by have := lm_lt _ x hx; omega) (fun x hx => by have := lm_lt _ x hx; omega)
  rw [val_lm a (by unfold two255 pC at *; omega), val_lm b (by unfold two255 pC at *; omega)] at h
  exact h
/-- What the loop keeps. -/
structure Ir (w : World) (n : Nat) (r : Nat) (W : World) : Prop where
  hn : Lar W w.heap.size 44 (lm n)
  hz : Lar W (w.heap.size + 1) 44 [0, 0, 0, 0, 0]
  hr : Lar W (w.heap.size + 1 + 1) 44 (lm r)
  hb : Below w.heap.size w W
theorem Ir.below {w : World} {n r : Nat} {W V : World} (h : Ir w n r W) (hb : Below W.heap.size W V) : Ir w n r V := ⟨h.hn.below hb h.hn.lt, h.hz.below hb h.hz.lt, h.hr.below hb h.hr.lt, bstep h.hb hb⟩
theorem Ir.grown {w : World} {n r : Nat} {W V : World} (h : Ir w n r W) {row : Option Nat} (hg : W.grownBy V row) (hr : ∀ k, row = some k → w.heap.size + 1 + 1 < k) : Ir w n r V := by
  have h2 := h.hr.lt
  exact ⟨(hg.block _ h.hn.lt (fun e => by have := hr _ e.symm; omega)).trans h.hn, (hg.block _ h.hz.lt (fun e => by have := hr _ e.symm; omega)).trans h.hz, (hg.block _ h.hr.lt (fun e => by have := hr _ e.symm; omega)).trans h.hr,
    h.hb.grown hg (by omega) (fun k e => by have := hr k e; omega)⟩
theorem Ir.row {w : World} {n r : Nat} {W : World} (h : Ir w n r W) (r' : Nat) : Ir w n r' (W.setRow (w.heap.size + 1 + 1) (lsC (lm r'))) :=
  ⟨(setRow_other _ _ _ _ (by omega)).trans h.hn, (setRow_other _ _ _ _ (by omega)).trans h.hz, h.hr.row _, below_setRow h.hb (by omega) _⟩
set_option maxRecDepth 100000 in
set_option maxHeartbeats 8000000 in
theorem raise_any (n B : Nat) (s : List UInt8) (w : World) (hs : s.length = 32) (hn : n < pC) (hC : w.heap[B]? = some (.cells #[.string (bs s)] 9 (0, 0))) :
    Calls Tryd.prog 66 #[nv n, .pointer (some ⟨B, 0, none⟩)] w fun e w' => e = .returned (nv (powN n s 255)) ∧ Below w.heap.size w w' := by
  refine (callsIn_wide (n := 5)).1 ?_
  have hBl : B < w.heap.size := (Array.getElem?_eq_some_iff.1 hC).1
  have h4 : Ir w n 1 (((w.alloc (.cells (lsC (lm n)) 44)).alloc (.cells #[.int .u64 0, .int .u64 0, .int .u64 0, .int .u64 0, .int .u64 0] 44)).alloc (.cells #[.int .u64 1, .int .u64 0, .int .u64 0, .int .u64 0, .int .u64 0] 44)) := ⟨((Lar.new w 44 (lm n)).alloc _).alloc _, by
      have h := (Lar.new (w.alloc (.cells (lsC (lm n)) 44)) 44 [0, 0, 0, 0, 0]).alloc (.cells #[.int .u64 1, .int .u64 0, .int .u64 0, .int .u64 0, .int .u64 0] 44)
      rw [World.size_alloc] at h
      exact h, by
      have h := Lar.new ((w.alloc (.cells (lsC (lm n)) 44)).alloc (.cells #[.int .u64 0, .int .u64 0, .int .u64 0, .int .u64 0, .int .u64 0] 44)) 44 (lm 1)
      rw [World.size_alloc, World.size_alloc, lm_one] at h
      exact h, by go_grown⟩
  have hw3 : (((w.alloc (.cells (lsC (lm n)) 44)).alloc (.cells #[.int .u64 0, .int .u64 0, .int .u64 0, .int .u64 0, .int .u64 0] 44)).alloc (.cells #[.int .u64 1, .int .u64 0, .int .u64 0, .int .u64 0, .int .u64 0] 44)).heap.size = w.heap.size + 1 + 1 + 1 := by simp
  have hC3 : (((w.alloc (.cells (lsC (lm n)) 44)).alloc (.cells #[.int .u64 0, .int .u64 0, .int .u64 0, .int .u64 0, .int .u64 0] 44)).alloc (.cells #[.int .u64 1, .int .u64 0, .int .u64 0, .int .u64 0, .int .u64 0] 44)).heap[B]? = some (.cells #[.string (bs s)] 9 (0, 0)) := ((h4.hb).block B hBl).trans hC
  have c0 : (((w.alloc (.cells (lsC (lm n)) 44)).alloc (.cells #[.int .u64 0, .int .u64 0, .int .u64 0, .int .u64 0, .int .u64 0] 44)).alloc (.cells #[.int .u64 1, .int .u64 0, .int .u64 0, .int .u64 0, .int .u64 0] 44)).cell? ⟨B, 0, none⟩ = some (.string (bs s)) := cell_of_row _ _ 0 _ 9 (0, 0) hC3
  obtain ⟨S, hS⟩ : ∃ S, bs s = S := ⟨_, rfl⟩
  rw [hS] at c0 hC3
  have H4 := Lib.hid h4
  have HBO := Lib.hid (fun W => bitsOf_any S W)
  have HS := Lib.hid hS
  clear hC3 h4 hC hBl hS
  refine callsIn_of_wp_marks Tryd.func66 rfl trivial ?_ rfl
  simp only [Tryd.ntmps66, List.size_toArray, List.length_cons, List.length_nil, Nat.reduceAdd, Nat.reduceSub, Array.replicate_succ, Array.replicate_zero, List.push_toArray, List.append_toArray, List.nil_append, List.cons_append]
  refine wpIn_wide.2 ?_
  unfold nv
  go_wp2_with (go_at_call 44; (with_reducible refine (HBO.out _).mono ?_); rintro e V ⟨rfl, rfl⟩)
  refine (wpIn_wide (n := 5)).1 ?_
  have hV : (((((w.alloc (.cells (lsC (lm n)) 44)).alloc (.cells #[.int .u64 0, .int .u64 0, .int .u64 0, .int .u64 0, .int .u64 0] 44)).alloc (.cells #[.int .u64 1, .int .u64 0, .int .u64 0, .int .u64 0, .int .u64 0] 44))).alloc (.cells #[.string S] 9)).heap[w.heap.size + 1 + 1 + 1]? = some (.cells #[.string (bs s)] 9 (0, 0)) := by
    have h := heap_alloc_new ((((w.alloc (.cells (lsC (lm n)) 44)).alloc (.cells #[.int .u64 0, .int .u64 0, .int .u64 0, .int .u64 0, .int .u64 0] 44)).alloc (.cells #[.int .u64 1, .int .u64 0, .int .u64 0, .int .u64 0, .int .u64 0] 44))) (.cells #[.string S] 9)
    rw [hw3] at h
    rw [HS.out]; exact h
  have hVz : (((((w.alloc (.cells (lsC (lm n)) 44)).alloc (.cells #[.int .u64 0, .int .u64 0, .int .u64 0, .int .u64 0, .int .u64 0] 44)).alloc (.cells #[.int .u64 1, .int .u64 0, .int .u64 0, .int .u64 0, .int .u64 0] 44))).alloc (.cells #[.string S] 9)).heap.size = w.heap.size + 1 + 1 + 1 + 1 := by simp
  have HSQ := Lib.hid (bits_seq 4 (w.heap.size + 1 + 1) (w.heap.size + 1 + 1) (w.heap.size + 1 + 1 + 1) s (((((w.alloc (.cells (lsC (lm n)) 44)).alloc (.cells #[.int .u64 0, .int .u64 0, .int .u64 0, .int .u64 0, .int .u64 0] 44)).alloc (.cells #[.int .u64 1, .int .u64 0, .int .u64 0, .int .u64 0, .int .u64 0] 44))).alloc (.cells #[.string S] 9)) (by decide) hs (by omega) (by omega) hV)
  have HI1 := Lib.hid (H4.out.below ((Below.refl _ ((((w.alloc (.cells (lsC (lm n)) 44)).alloc (.cells #[.int .u64 0, .int .u64 0, .int .u64 0, .int .u64 0, .int .u64 0] 44)).alloc (.cells #[.int .u64 1, .int .u64 0, .int .u64 0, .int .u64 0, .int .u64 0] 44)))).alloc (Nat.le_refl _) (.cells #[.string S] 9)))
  clear hV hw3 c0 H4 HBO
  generalize (((((w.alloc (.cells (lsC (lm n)) 44)).alloc (.cells #[.int .u64 0, .int .u64 0, .int .u64 0, .int .u64 0, .int .u64 0] 44)).alloc (.cells #[.int .u64 1, .int .u64 0, .int .u64 0, .int .u64 0, .int .u64 0] 44))).alloc (.cells #[.string S] 9)) = V at HSQ HI1 hVz ⊢
  refine rangeC rfl (by decide) (gf := 57) (lb := #[.pointer (some ⟨w.heap.size + 1 + 1 + 1, 0, none⟩)]) rfl trivial (enters_of Tryd.func57 (by kernel_rfl) rfl) HSQ.out (fun h k => h.trans k)
    (fun W A A' hA k cs t fr hk _ _ => (World.putObj_heap_other (by intro e; rw [e, hA] at hk; cases hk)).trans hk) (fun _ => rfl)
    (fun pre W => Ir w n (powL n pre) W)
    (fun pre A B row h hg hr => h.grown hg (fun r e => by have := hr r e; omega))
    HI1.out
    (fun b : Bool => { tmps := #[.agg (lsC (lm n)), .pointer (some ⟨B, 0, none⟩), .pointer (some ⟨w.heap.size, 0, none⟩), .pointer (some ⟨w.heap.size + 1, 0, none⟩), .pointer (some ⟨w.heap.size + 1 + 1, 0, none⟩), .bool b, .agg #[.int .u64 1, .int .u64 0, .int .u64 0, .int .u64 0, .int .u64 0], .string S, .func (.func 57) #[] #[.pointer (some ⟨w.heap.size + 1 + 1 + 1, 0, none⟩)], .bool b, undef, undef, undef, undef, undef, undef, undef, undef], defers := [] }) ?assign ?body ?done
  case assign =>
    intro l x W K' hK
    clear hVz HSQ HI1
    gi_wp2
    exact hK
  case body =>
    rintro l pre b W hI hlen
    have hr := powL_lt n pre
    have hsn := powL_snoc n pre b
    obtain ⟨r, hrr⟩ : ∃ r, powL n pre = r := ⟨_, rfl⟩
    change Ir w n (powL n pre) W at hI
    rw [hrr] at hI hr hsn
    have HI := Lib.hid hI
    have HT := Lib.hid (fun W => times_lm r r hr hr W)
    have HT2 := Lib.hid (fun W => times_lm (muN r r) n (muN_lt _ _) hn W)
    have hG : goneOn (KpX (w.heap.size + 1 + 1) (w.heap.size + 1 + 1)) (fun pre W => Ir w n (powL n pre) W) (pre ++ [b]) W = goneOn (KpX (w.heap.size + 1 + 1) (w.heap.size + 1 + 1)) (fun pre W => Ir w n (powL n pre) W) (pre ++ [b]) W := rfl
    clear hI hr hrr hlen hVz HSQ HI1 hG
    have HSN := Lib.hid hsn
    clear hsn
    gi_wp2_with (refine wpListIn_load_row rfl 44 _ rfl (w.heap.size + 1 + 1) rfl 44 (lsC (lm r)) (0, 0) _ HI.out.hr Tryd.underlying44 rfl (by rw [size44, lsC_size, lm_length]) ?_)
    refine ⟨trivial, ((callsIn_wide.2 (HT.out _)).inRound _).mono ?_⟩
    rintro e w1 ⟨rfl, hb1⟩
    have HI1 := Lib.hid (HI.out.below hb1)
    have HK1 := Lib.hid (And.intro (keeps_below hb1) ((KpX.refl (w.heap.size + 1 + 1) (w.heap.size + 1 + 1) W).below hb1))
    clear hb1 HT
    obtain ⟨q, hq⟩ : ∃ q, muN r r = q := ⟨_, rfl⟩
    rw [hq] at HSN HT2 ⊢
    have HI2 := Lib.hid (HI1.out.row q)
    have HK2 := Lib.hid (And.intro (HK1.out.1.trans (keeps_row HI1.out.hr (lsC (lm q)))) (HK1.out.2.row (.inl rfl) (lsC (lm q))))
    clear hq HK1 HI
    cases b with
    | false =>
      gi_wp2_with (refine wpListIn_store_row rfl 44 _ _ rfl (w.heap.size + 1 + 1) (lsC (lm q)) rfl rfl 44 _ HI1.out.hr (by rw [size44, lsC_size, lm_length]) (by rw [lsC_size, lsC_size, lm_length, lm_length]) (lsC_one _) ?_)
      exact ⟨HK2.out.1, HK2.out.2, by
        have h := HSN.out
        rw [if_neg (by decide)] at h
        show Ir w n (powL n (pre ++ [false])) _
        rw [h]; exact HI2.out⟩
    | true =>
      have h := HSN.out
      rw [if_pos rfl] at h
      gi_wp2_with (first | (refine wpListIn_store_row rfl 44 _ _ rfl (w.heap.size + 1 + 1) (lsC (lm q)) rfl rfl 44 _ HI1.out.hr (by rw [size44, lsC_size, lm_length]) (by rw [lsC_size, lsC_size, lm_length, lm_length]) (lsC_one _) ?_) | (refine wpListIn_load_row rfl 44 _ rfl (w.heap.size + 1 + 1) rfl 44 (lsC (lm q)) (0, 0) _ HI2.out.hr Tryd.underlying44 rfl (by rw [size44, lsC_size, lm_length]) ?_) | (refine wpListIn_load_row rfl 44 _ rfl w.heap.size rfl 44 (lsC (lm n)) (0, 0) _ HI2.out.hn Tryd.underlying44 rfl (by rw [size44, lsC_size, lm_length]) ?_))
      refine ⟨trivial, ((callsIn_wide.2 (HT2.out _)).inRound _).mono ?_⟩
      rintro e w2 ⟨rfl, hb2⟩
      have HI1 := Lib.hid (HI2.out.below hb2)
      have HK1 := Lib.hid (And.intro (HK2.out.1.trans (keeps_below hb2)) (HK2.out.2.below hb2))
      clear hb2 HT2 HI2 HK2
      obtain ⟨q2, hq⟩ : ∃ q2, muN q n = q2 := ⟨_, rfl⟩
      rw [hq] at h ⊢
      have HI2 := Lib.hid (HI1.out.row q2)
      have HK2 := Lib.hid (And.intro (HK1.out.1.trans (keeps_row HI1.out.hr (lsC (lm q2)))) (HK1.out.2.row (.inl rfl) (lsC (lm q2))))
      have HH := Lib.hid h
      clear hq h HK1
      gi_wp2_with (refine wpListIn_store_row rfl 44 _ _ rfl (w.heap.size + 1 + 1) (lsC (lm q2)) rfl rfl 44 _ HI1.out.hr (by rw [size44, lsC_size, lm_length]) (by rw [lsC_size, lsC_size, lm_length, lm_length]) (lsC_one _) ?_)
      exact ⟨HK2.out.1, HK2.out.2, by
        show Ir w n (powL n (pre ++ [true])) _
        rw [HH.out]; exact HI2.out⟩
  case done =>
    rintro D xs W hD hS hI hK
    have hDz : w.heap.size + 1 + 1 + 1 + 1 ≤ D := by omega
    change Ir w n (powL n xs) W at hI
    rw [hS, powL_bits] at hI
    obtain ⟨M, hM⟩ : ∃ M, powN n s 255 = M := ⟨_, rfl⟩
    rw [hM] at hI
    have HM := Lib.hid hM
    have HI := Lib.hid hI
    have hK2 : (W.setRow (w.heap.size + 1) (lsC (lm M))).heap[D]? = some (.deferred (some [])) := (setRow_other _ _ _ _ (by omega)).trans hK
    have HK := Lib.hid hK2
    have hB2 := below_setRow hI.hb (show w.heap.size ≤ w.heap.size + 1 by omega) (lsC (lm M))
    have hB := hB2.trans (belowK_b (w := w) (Nat.le_refl _) _ D (.deferred (some [])) (.deferred none) (by omega) hK2 rfl rfl)
    have hR0 := hI.hz.row (lm M)
    have HB := Lib.hid hB
    clear hI hB hK hM hS HSQ HI1 hK2 hB2
    go_wp2_with (first | (refine wpList_load_row rfl 44 _ rfl (w.heap.size + 1 + 1) rfl 44 (lsC (lm M)) (0, 0) _ HI.out.hr Tryd.underlying44 rfl (by rw [size44, lsC_size, lm_length]) ?_) | (refine wpList_store_row rfl 44 _ _ rfl (w.heap.size + 1) (lsC (lm M)) rfl rfl 44 _ HI.out.hz (by rw [size44, lsC_size, lm_length]) (by rw [lsC_size, lsC_size, lm_length]; rfl) (lsC_one _) ?_))
    have hR1 : ((W.setRow (w.heap.size + 1) (lsC (lm M))).putObj D (.deferred none)).heap[w.heap.size + 1]? = some (.cells (lsC (lm M)) 44 (0, 0)) := (World.putObj_heap_other (by omega)).trans hR0
    refine ⟨by simp, .inl ⟨_, _, rfl, run_takeDeferred HK.out, ?_⟩⟩
    exact ⟨.agg (lsC (lm M)), results_cell_row (p := 3) (ty := 44) Tryd.results66 _ _ (w.heap.size + 1) 44 _ (0, 0) _ rfl hR1 Tryd.underlying44 rfl (by rw [size44, lsC_size, lm_length]), by rw [HM.out], HB.out⟩
end Go.Proofs.YtbadiljligcenaaDoor
