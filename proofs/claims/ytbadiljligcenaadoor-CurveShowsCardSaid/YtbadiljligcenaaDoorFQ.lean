/- Contract of resultOf. -/
import Derived.Test.YtbadiljligcenaaDoorFP
import Derived.Test.YtbadiljligcenaaDoorFJ
import Derived.Great.BuildSlice
namespace Go.Proofs.YtbadiljligcenaaDoor
open Go.RowKit Go.Shelf
attribute [local go_sem] Oper.semAt_some
def STx (u : Nat) (x : St) : List Nat := ST x.a x.b x.c x.d u
def StOk (x : St) : Prop := x.a < pC ∧ x.b < pC ∧ x.c < pC ∧ x.d < pC
theorem StOk.step (u : Nat) (x : St) : StOk (stepN u x) := ⟨muN_lt _ _, muN_lt _ _, muN_lt _ _, muN_lt _ _⟩
theorem StOk.swap {x : St} (h : StOk x) : StOk (swapN x) := ⟨h.2.2.1, h.2.2.2, h.1, h.2.1⟩
theorem StOk.round (u : Nat) (b : Bool) (x : St) : StOk (roundN u b x) := by
  unfold roundN
  split
  · exact (StOk.step _ _).swap
  · exact StOk.step _ _
def ladL (u : Nat) (xs : List Bool) : St := xs.foldl (fun x b => roundN u b x) ⟨1, 0, u, 1⟩
theorem ladL_snoc (u : Nat) (xs : List Bool) (b : Bool) : ladL u (xs ++ [b]) = roundN u b (ladL u xs) := by simp [ladL]
theorem ladL_bits (u : Nat) (s : List UInt8) (k : Nat) : ladL u (bitsK s k) = ladN u s k := by
  induction k with
  | zero => rfl
  | succ k ih => rw [bitsK_succ, ladL_snoc, ih]; rfl
theorem ladL_ok {u : Nat} (hu : u < pC) (xs : List Bool) : StOk (ladL u xs) := by
  rcases List.eq_nil_or_concat xs with rfl | ⟨l, b, rfl⟩
  · exact ⟨show 1 < pC by decide, show 0 < pC by decide, hu, show 1 < pC by decide⟩
  · rw [List.concat_eq_append, ladL_snoc]; exact StOk.round _ _ _
theorem exch_st (g u : Nat) (x : St) (w : World) (h : Lar w g 72 (STx u x)) :
    Calls Tryd.prog 45 #[.pointer (some ⟨g, 0, none⟩)] w fun e w' => (∃ v, e = .returned v) ∧ Lar w' g 72 (STx u (swapN x)) ∧ Only g w w' := by
  have h1 : Lar w g 72 ((lm x.a ++ lm x.b) ++ ((lm x.c ++ lm x.d) ++ lm u)) := by
    unfold STx ST at h
    simp only [List.append_assoc]; exact h
  refine (exchange_any g _ _ _ w (by simp [lm_length]) (by simp [lm_length]) h1).mono ?_
  rintro e w' ⟨he, h2, h3⟩
  refine ⟨he, ?_, h3⟩
  simp only [List.append_assoc] at h2
  exact h2
theorem step_st (g u : Nat) (x : St) (w : World) (hx : StOk x) (hu : u < pC) (h : Lar w g 72 (STx u x)) :
    Calls Tryd.prog 46 #[.pointer (some ⟨g, 0, none⟩)] w fun e w' => (∃ v, e = .returned v) ∧ Lar w' g 72 (STx u (stepN u x)) ∧ Only g w w' :=
  step_any g x.a x.b x.c x.d u w h.lt hx.1 hx.2.1 hx.2.2.1 hx.2.2.2 hu h
/-- What the loop keeps. -/
structure Ja (w : World) (G u : Nat) (x : St) (W : World) : Prop where
  hs : Lar W G 72 (STx u x)
  hz : Lar W (w.heap.size + 1) 44 [0, 0, 0, 0, 0]
  hG : w.heap.size + 1 < G
  hb : Below w.heap.size w W
theorem Ja.only {w : World} {G u : Nat} {x y : St} {W V : World} (h : Ja w G u x W) (ho : Only G W V) (hs : Lar V G 72 (STx u y)) : Ja w G u y V :=
  ⟨hs, h.hz.of_only ho (by have := h.hG; omega), h.hG, ho.below h.hb h.hb.size (by have := h.hG; omega)⟩
theorem Ja.grown {w : World} {G u : Nat} {x : St} {W V : World} (h : Ja w G u x W) {row : Option Nat} (hg : W.grownBy V row) (hr : ∀ k, row = some k → G < k) : Ja w G u x V := by
  have h2 := h.hs.lt
  have h3 := h.hG
  exact ⟨(hg.block _ h.hs.lt (fun e => by have := hr _ e.symm; omega)).trans h.hs, (hg.block _ h.hz.lt (fun e => by have := hr _ e.symm; omega)).trans h.hz, h.hG,
    h.hb.grown hg h.hb.size (fun k e => by have := hr k e; omega)⟩
theorem Ja.below {w : World} {G u : Nat} {x : St} {W V : World} (h : Ja w G u x W) (hb : Below W.heap.size W V) : Ja w G u x V := ⟨h.hs.below hb h.hs.lt, h.hz.below hb h.hz.lt, h.hG, bstep h.hb hb⟩
theorem keeps_only {g : Nat} {A B : World} {cs : Array Value} {t : TypeId} {fr : Nat × Nat} (ho : Only g A B) (hg : A.heap[g]? = some (.cells cs t fr)) : KeepsOthers A B :=
  ⟨ho.size, fun k o hk hc => (ho.block k (Array.getElem?_eq_some_iff.1 hk).1 (fun e => by injection e with e; subst e; rw [hg] at hk; cases hk; cases hc)).trans hk⟩
theorem KpX.only {g : Nat} {A W V : World} (h : KpX g g A W) (ho : Only g W V) : KpX g g A V := fun k cs t fr hk h1 h2 => by
  have hw := h k cs t fr hk h1 h2
  exact (ho.block k (Array.getElem?_eq_some_iff.1 hw).1 (fun e => h1 (by injection e))).trans hw
theorem built72_ (a b c d e : Nat) : Tryd.prog.built 72 [(0, .agg #[.int .u64 1, .int .u64 0, .int .u64 0, .int .u64 0, .int .u64 0, .int .u64 0, .int .u64 0, .int .u64 0, .int .u64 0, .int .u64 0]), (1, .agg (lsC ([a, b, c, d, e] ++ [1, 0, 0, 0, 0]))), (2, .agg (lsC [a, b, c, d, e]))] = some (lsC ([1, 0, 0, 0, 0] ++ ([0, 0, 0, 0, 0] ++ ([a, b, c, d, e] ++ ([1, 0, 0, 0, 0] ++ [a, b, c, d, e]))))) := by kernel_rfl
theorem built44a : Tryd.prog.built 44 [(0, .int .u64 1)] = some #[.int .u64 1, .int .u64 0, .int .u64 0, .int .u64 0, .int .u64 0] := by kernel_rfl
theorem built70a : Tryd.prog.built 70 [(0, .agg #[.int .u64 1, .int .u64 0, .int .u64 0, .int .u64 0, .int .u64 0])] = some #[.int .u64 1, .int .u64 0, .int .u64 0, .int .u64 0, .int .u64 0, .int .u64 0, .int .u64 0, .int .u64 0, .int .u64 0, .int .u64 0] := by kernel_rfl
theorem lm_1 : lm 1 = [1, 0, 0, 0, 0] := by decide
theorem lm_0 : lm 0 = [0, 0, 0, 0, 0] := by decide
theorem built72 (u : Nat) : Tryd.prog.built 72 [(0, .agg #[.int .u64 1, .int .u64 0, .int .u64 0, .int .u64 0, .int .u64 0, .int .u64 0, .int .u64 0, .int .u64 0, .int .u64 0, .int .u64 0]), (1, .agg (lsC (lm u ++ [1, 0, 0, 0, 0]))), (2, .agg (lsC (lm u)))] = some (lsC (STx u ⟨1, 0, u, 1⟩)) := by
  show _ = some (lsC (lm 1 ++ (lm 0 ++ (lm u ++ (lm 1 ++ lm u)))))
  rw [lm_1, lm_0]
  have h := lm_length u
  generalize lm u = l at h ⊢
  match l, h with
  | [a, b, c, d, e], _ => exact built72_ a b c d e
theorem built70u (u : Nat) : Tryd.prog.built 70 [(0, .agg (lsC (lm u))), (1, .agg #[.int .u64 1, .int .u64 0, .int .u64 0, .int .u64 0, .int .u64 0])] = some (lsC (lm u ++ [1, 0, 0, 0, 0])) :=
  built70 (lm u) [1, 0, 0, 0, 0] (lm_length _) rfl
set_option maxRecDepth 100000 in
set_option maxHeartbeats 8000000 in
theorem resultOf_any (s : List UInt8) (u : Nat) (w : World) (hs : s.length = 32) (hu : u < pC) :
    Calls Tryd.prog 27 #[.string (bs s), nv u] w fun e w' => e = .returned (nv (resN s u)) ∧ Below w.heap.size w w' := by
  have h1 : Lar ((w.alloc (.cells (lsC (lm u)) 44)).alloc Z5o) w.heap.size 44 (lm u) := (Lar.new w 44 _).alloc _
  have h2 : Lar ((w.alloc (.cells (lsC (lm u)) 44)).alloc Z5o) (w.heap.size + 1) 44 [0, 0, 0, 0, 0] := by
    have h := Lar.new (w.alloc (.cells (lsC (lm u)) 44)) 44 [0, 0, 0, 0, 0]
    rw [World.size_alloc] at h
    exact h
  have h3 : Below w.heap.size w ((w.alloc (.cells (lsC (lm u)) 44)).alloc Z5o) := by go_grown
  have h4 : ((w.alloc (.cells (lsC (lm u)) 44)).alloc Z5o).heap.size = w.heap.size + 2 := by simp
  have H1 := Lib.hid h1
  have H2 := Lib.hid h2
  have H3 := Lib.hid h3
  have H4 := Lib.hid h4
  have HCL := Lib.hid (fun W => clamped_any s W hs)
  have HBO := Lib.hid (fun W => bitsOf_any (bs (clN s)) W)
  have hB70 := Lib.hid (built70u u)
  have hB72 := Lib.hid (built72 u)
  have hcl : (clN s).length = 32 := by rw [clN_length, hs]
  have HL := Lib.hid hcl
  clear h1 h2 h3 h4 hs hcl
  obtain ⟨S, hS⟩ : ∃ S, bs s = S := ⟨_, rfl⟩
  rw [hS] at HCL ⊢
  clear hS
  refine (callsIn_wide (n := 5)).1 ?_
  refine callsIn_of_wp_marks Tryd.func27 rfl trivial ?_ rfl
  simp only [Tryd.ntmps27, List.size_toArray, List.length_cons, List.length_nil, Nat.reduceAdd, Nat.reduceSub, Array.replicate_succ, Array.replicate_zero, List.push_toArray, List.append_toArray, List.nil_append, List.cons_append]
  refine wpIn_wide.2 ?_
  unfold nv
  go_upto_region 1 with fail
  generalize World.alloc (World.alloc w _) Z5o = V at H1 H2 H3 H4 ⊢
  have HZ := Lib.hid (show (V.alloc (.cells #[.int .u64 0, .int .u64 0, .int .u64 0, .int .u64 0, .int .u64 0, .int .u64 0, .int .u64 0, .int .u64 0, .int .u64 0, .int .u64 0, .int .u64 0, .int .u64 0, .int .u64 0, .int .u64 0, .int .u64 0, .int .u64 0, .int .u64 0, .int .u64 0, .int .u64 0, .int .u64 0, .int .u64 0, .int .u64 0, .int .u64 0, .int .u64 0, .int .u64 0] 72)).heap[V.heap.size]? = _ from heap_alloc_new V _)
  refine wp_region_lit ?_
  refine wpList_buildTo (o := ⟨some 7, _, _, _, _, _⟩) rfl 44 _ rfl (some 7) rfl (#[.int .u64 1, .int .u64 0, .int .u64 0, .int .u64 0, .int .u64 0]) (by simp only [List.map_toArray, List.map_cons, List.map_nil]; exact built44a) ?_
  try simp only [Act.put, List.setIfInBounds_toArray, List.set_cons_zero, List.set_cons_succ]
  refine wpList_buildTo (o := ⟨some 8, _, _, _, _, _⟩) rfl 70 _ rfl (some 8) rfl (#[.int .u64 1, .int .u64 0, .int .u64 0, .int .u64 0, .int .u64 0, .int .u64 0, .int .u64 0, .int .u64 0, .int .u64 0, .int .u64 0]) (by simp only [List.map_toArray, List.map_cons, List.map_nil]; exact built70a) ?_
  try simp only [Act.put, List.setIfInBounds_toArray, List.set_cons_zero, List.set_cons_succ]
  refine wpList_load_row rfl 44 _ rfl w.heap.size rfl 44 (lsC (lm u)) (0, 0) _ H1.out Tryd.underlying44 rfl (by rw [size44, lsC_size, lm_length]) ?_
  try simp only [Act.put, List.setIfInBounds_toArray, List.set_cons_zero, List.set_cons_succ]
  refine wpList_buildTo (o := ⟨some 10, _, _, _, _, _⟩) rfl 44 _ rfl (some 10) rfl (#[.int .u64 1, .int .u64 0, .int .u64 0, .int .u64 0, .int .u64 0]) (by simp only [List.map_toArray, List.map_cons, List.map_nil]; exact built44a) ?_
  try simp only [Act.put, List.setIfInBounds_toArray, List.set_cons_zero, List.set_cons_succ]
  refine wpList_buildTo (o := ⟨some 11, _, _, _, _, _⟩) rfl 70 _ rfl (some 11) rfl (lsC (lm u ++ [1, 0, 0, 0, 0])) (by simp only [List.map_toArray, List.map_cons, List.map_nil]; exact hB70.out) ?_
  try simp only [Act.put, List.setIfInBounds_toArray, List.set_cons_zero, List.set_cons_succ]
  refine wpList_load_row rfl 44 _ rfl w.heap.size rfl 44 (lsC (lm u)) (0, 0) _ H1.out Tryd.underlying44 rfl (by rw [size44, lsC_size, lm_length]) ?_
  try simp only [Act.put, List.setIfInBounds_toArray, List.set_cons_zero, List.set_cons_succ]
  refine wpList_buildTo (o := ⟨some 13, _, _, _, _, _⟩) rfl 72 _ rfl (some 13) rfl (lsC (STx u ⟨1, 0, u, 1⟩)) (by simp only [List.map_toArray, List.map_cons, List.map_nil]; exact hB72.out) ?_
  try simp only [Act.put, List.setIfInBounds_toArray, List.set_cons_zero, List.set_cons_succ]
  go_wp2_with (refine wpList_store_row rfl 72 _ _ rfl V.heap.size (lsC (STx u ⟨1, 0, u, 1⟩)) rfl rfl 72 _ HZ.out (by rw [size72, lsC_size]; simp [STx, ST, lm_length]) (by rw [lsC_size]; simp [STx, ST, lm_length]) (lsC_one _) ?_)
  have HJ0 : Hid (Ja w V.heap.size u ⟨1, 0, u, 1⟩ (World.setRow (World.alloc V (.cells #[.int .u64 0, .int .u64 0, .int .u64 0, .int .u64 0, .int .u64 0, .int .u64 0, .int .u64 0, .int .u64 0, .int .u64 0, .int .u64 0, .int .u64 0, .int .u64 0, .int .u64 0, .int .u64 0, .int .u64 0, .int .u64 0, .int .u64 0, .int .u64 0, .int .u64 0, .int .u64 0, .int .u64 0, .int .u64 0, .int .u64 0, .int .u64 0, .int .u64 0] 72)) V.heap.size (lsC (STx u ⟨1, 0, u, 1⟩)))) := Lib.hid
    ⟨setRow_heap _ _ _ _ _ _ HZ.out, (setRow_other _ _ _ _ (by have := H4.out; omega)).trans (H2.out.alloc _), by have := H4.out; omega, below_setRow (bstep1 H3.out) H3.out.size _⟩
  clear HZ H1 H2 H3 H4 hB70 hB72
  generalize World.setRow (World.alloc V _) _ _ = V1 at HJ0 ⊢
  generalize V.heap.size = G at HJ0 ⊢
  (with_reducible refine (HCL.out _).mono ?_)
  rintro e V2 ⟨rfl, hb⟩
  have HJ1 := Lib.hid (HJ0.out.below hb)
  clear hb HCL HJ0
  go_wp2_with fail
  (with_reducible refine (HBO.out _).mono ?_)
  rintro e V3 ⟨rfl, hV3⟩
  have hC : V3.heap[V2.heap.size]? = some (.cells #[.string (bs (clN s))] 9 (0, 0)) := by rw [hV3]; exact heap_alloc_new V2 _
  have HJ2 : Hid (Ja w G u (ladL u []) V3) := Lib.hid (by rw [hV3]; exact HJ1.out.below ((Below.refl _ _).alloc (Nat.le_refl _) _))
  have hBl : V2.heap.size < V3.heap.size := by rw [hV3, World.size_alloc]; omega
  have hGB : V2.heap.size ≠ G := by have := HJ1.out.hs.lt; omega
  generalize V2.heap.size = B at hC hBl hGB ⊢
  clear hV3 HJ1 HBO
  have HSQ := Lib.hid (bits_seq 4 G G B (clN s) V3 (by decide) HL.out hGB hGB hC)
  have HOK := Lib.hid (fun xs => ladL_ok hu xs)
  have HU := Lib.hid hu
  have HBL := Lib.hid hBl
  clear hC hGB HL hu hBl
  go_wp2_with fail
  refine (wpIn_wide (n := 5)).1 ?_
  refine rangeC rfl (by decide) (gf := 57) (lb := #[.pointer (some ⟨B, 0, none⟩)]) rfl trivial (enters_of Tryd.func57 (by kernel_rfl) rfl) HSQ.out (fun h k => h.trans k)
    (fun W A A' hA k cs t fr hk _ _ => (World.putObj_heap_other (by intro e; rw [e, hA] at hk; cases hk)).trans hk) (fun _ => rfl)
    (fun pre W => Ja w G u (ladL u pre) W)
    (fun pre A B row h hg hr => h.grown hg (fun r e => by have := hr r e; have := HJ2.out.hs.lt; omega))
    HJ2.out
    (fun b : Bool => { tmps := #[.string S, .agg (lsC (lm u)), undef, .pointer (some ⟨w.heap.size, 0, none⟩), .pointer (some ⟨w.heap.size + 1, 0, none⟩), .pointer (some ⟨G, 0, none⟩), .bool b, .agg #[.int .u64 1, .int .u64 0, .int .u64 0, .int .u64 0, .int .u64 0], .agg #[.int .u64 1, .int .u64 0, .int .u64 0, .int .u64 0, .int .u64 0, .int .u64 0, .int .u64 0, .int .u64 0, .int .u64 0, .int .u64 0], .agg (lsC (lm u)), .agg #[.int .u64 1, .int .u64 0, .int .u64 0, .int .u64 0, .int .u64 0], .agg (lsC (lm u ++ [1, 0, 0, 0, 0])), .agg (lsC (lm u)), .agg (lsC (STx u ⟨1, 0, u, 1⟩)), .string S, .string (bs (clN s)), .func (.func 57) #[] #[.pointer (some ⟨B, 0, none⟩)], .bool b, undef, undef, undef, undef, undef, undef, undef, undef], defers := [] }) ?assign ?body ?done
  case assign =>
    intro l x W K' hK
    clear HSQ HJ2 HOK HU HBL
    gi_wp2
    exact hK
  case body =>
    rintro l pre b W hI _
    have hok := HOK.out pre
    have hsn := ladL_snoc u pre b
    change Ja w G u (ladL u pre) W at hI
    generalize ladL u pre = x at hI hok hsn
    have HI := Lib.hid hI
    have HX := Lib.hid hok
    have HSN := Lib.hid hsn
    clear hI hok hsn HSQ HJ2 HOK HBL
    cases b with
    | false =>
      gi_wp2
      refine ⟨trivial, ((callsIn_wide.2 (step_st G u x W HX.out HU.out HI.out.hs)).inRound _).mono ?_⟩
      rintro e w1 ⟨⟨v, rfl⟩, hs1, ho1⟩
      have H1 := Lib.hid (HI.out.only ho1 hs1)
      have HK := Lib.hid (And.intro (keeps_only ho1 HI.out.hs) ((KpX.refl G G W).only ho1))
      clear hs1 ho1
      gi_wp2
      exact ⟨HK.out.1, HK.out.2, by
        show Ja w G u (ladL u (pre ++ [false])) _
        rw [HSN.out]; exact H1.out⟩
    | true =>
      gi_wp2
      refine ⟨trivial, ((callsIn_wide.2 (exch_st G u x W HI.out.hs)).inRound _).mono ?_⟩
      rintro e w1 ⟨⟨v, rfl⟩, hs1, ho1⟩
      have H1 := Lib.hid (HI.out.only ho1 hs1)
      have HK1 := Lib.hid (And.intro (keeps_only ho1 HI.out.hs) ((KpX.refl G G W).only ho1))
      clear hs1 ho1
      gi_wp2
      refine ⟨trivial, ((callsIn_wide.2 (step_st G u (swapN x) w1 HX.out.swap HU.out H1.out.hs)).inRound _).mono ?_⟩
      rintro e w2 ⟨⟨v, rfl⟩, hs1, ho1⟩
      have H2 := Lib.hid (H1.out.only ho1 hs1)
      have HK2 := Lib.hid (And.intro (HK1.out.1.trans (keeps_only ho1 H1.out.hs)) (HK1.out.2.only ho1))
      clear hs1 ho1 HK1
      gi_wp2
      refine ⟨trivial, ((callsIn_wide.2 (exch_st G u (stepN u (swapN x)) w2 H2.out.hs)).inRound _).mono ?_⟩
      rintro e w3 ⟨⟨v, rfl⟩, hs1, ho1⟩
      have H3 := Lib.hid (H2.out.only ho1 hs1)
      have HK3 := Lib.hid (And.intro (HK2.out.1.trans (keeps_only ho1 H2.out.hs)) (HK2.out.2.only ho1))
      clear hs1 ho1 HK2
      gi_wp2
      exact ⟨HK3.out.1, HK3.out.2, by
        show Ja w G u (ladL u (pre ++ [true])) _
        rw [HSN.out]; exact H3.out⟩
  case done =>
    rintro D xs W hD hS hI hK
    have hDz : B + 1 ≤ D := by have := HBL.out; omega
    change Ja w G u (ladL u xs) W at hI
    have hok := HOK.out xs
    have hGD : G < D := by have := HJ2.out.hs.lt; omega
    rw [hS, ladL_bits] at hI hok
    have hM : resN s u = quoN (ladN u (clN s) 255) := rfl
    generalize ladN u (clN s) 255 = x at hI hok hM
    have HM := Lib.hid hM
    have HI := Lib.hid hI
    have HD := Lib.hid (show W.heap[D]? = some (.deferred (some [])) ∧ G < D from ⟨hK, hGD⟩)
    have hq : ∀ W, Calls Tryd.prog 47 #[.agg ((lm x.a ++ lm x.b).map ld).toArray] W fun e w' => e = .returned (nv (muN x.a (powN x.b P2 255))) ∧ Below W.heap.size W w' := fun W => quotient_any x.a x.b W hok.1 hok.2.1
    have hrng : W.rangeAt G 0 ((lm x.a ++ lm x.b).map ld) := rangeL [] (lm x.a ++ lm x.b) (lm x.c ++ (lm x.d ++ lm u)) (by have h := hI.hs; unfold STx ST at h; simp only [List.nil_append, List.append_assoc]; exact h)
    have hlen : ((lm x.a ++ lm x.b).map ld).length = 10 := by rw [List.length_map, List.length_append, lm_length, lm_length]
    generalize (lm x.a ++ lm x.b).map ld = cs at hq hrng hlen
    have HQ := Lib.hid hq
    have HLC := Lib.hid hlen
    have HR := Lib.hid hrng
    clear hrng hq hlen hI hK hM hS hok hDz hGD HSQ HOK HBL HJ2 hD
    go_wp2_with (refine wpList_load_mid rfl 70 _ rfl G 0 rfl cs _ HR.out Tryd.underlying70 rfl (by rw [size70, HLC.out]) ?_)
    (with_reducible refine (HQ.out _).mono ?_)
    rintro e W2 ⟨rfl, hb⟩
    have HI2 := Lib.hid (HI.out.below hb)
    have hD2 : W2.heap[D]? = some (.deferred (some [])) := (hb.block D (Array.getElem?_eq_some_iff.1 HD.out.1).1).trans HD.out.1
    generalize hqq : muN x.a (powN x.b P2 255) = M
    have HM2 := Lib.hid (show resN s u = M by rw [HM.out, ← hqq]; rfl)
    have hK2 : (W2.setRow (w.heap.size + 1) (lsC (lm M))).heap[D]? = some (.deferred (some [])) := (setRow_other _ _ _ _ (by have := HI2.out.hG; have := HD.out.2; omega)).trans hD2
    have hB2 := below_setRow HI2.out.hb (show w.heap.size ≤ w.heap.size + 1 by omega) (lsC (lm M))
    have hB := hB2.trans (belowK_b (w := w) (Nat.le_refl _) _ D (.deferred (some [])) (.deferred none) (by have := HI2.out.hG; have := HD.out.2; omega) hK2 rfl rfl)
    have hR0 := HI2.out.hz.row (lm M)
    have HK := Lib.hid hK2
    have HB := Lib.hid hB
    have HR1 := Lib.hid (show ((W2.setRow (w.heap.size + 1) (lsC (lm M))).putObj D (.deferred none)).heap[w.heap.size + 1]? = some (.cells (lsC (lm M)) 44 (0, 0)) from (World.putObj_heap_other (by have := HI2.out.hG; have := HD.out.2; omega)).trans hR0)
    clear hD2 hK2 hB2 hB hR0 hqq hb HQ HR HM HD
    unfold nv
    go_wp2_with (refine wpList_store_row rfl 44 _ _ rfl (w.heap.size + 1) (lsC (lm M)) rfl rfl 44 _ HI2.out.hz (by rw [size44, lsC_size, lm_length]) (by rw [lsC_size, lsC_size, lm_length]; rfl) (lsC_one _) ?_)
    refine ⟨by simp, .inl ⟨_, _, rfl, run_takeDeferred HK.out, ?_⟩⟩
    exact ⟨.agg (lsC (lm M)), results_cell_row (p := 4) (ty := 44) Tryd.results27 _ _ (w.heap.size + 1) 44 _ (0, 0) _ rfl HR1.out Tryd.underlying44 rfl (by rw [size44, lsC_size, lm_length]), by rw [HM2.out], HB.out⟩
end Go.Proofs.YtbadiljligcenaaDoor
