/- Contract of groupsOf. -/
import Derived.Test.YtjoogiabimiioaaGreatDoorG
import Derived.Laws.Tables
namespace Go.Proofs.YtjoogiabimiioaaGreatDoor
open Go.RowKit Go.ChangeShapes
attribute [local go_sem] Oper.semAt_some
abbrev g16 (n : Nat) : Value := .int .u16 (n : Int)
/-- Groups as cells. -/
def gsC (l : List Nat) : Array Value := (l.map g16).toArray
theorem gsC_size (l : List Nat) : (gsC l).size = l.length := by simp [gsC]
theorem gsC_one (l : List Nat) : (gsC l).all (·.oneCell') = true := by simp [gsC, Value.oneCell']
/-- Block g holds groups, and may be written. -/
def Gr (w : World) (g : Nat) (l : List Nat) : Prop := w.heap[g]? = some (.cells (gsC l) 120 (0, 0))
theorem Gr.lt {w : World} {g : Nat} {l : List Nat} (h : Gr w g l) : g < w.heap.size := (Array.getElem?_eq_some_iff.1 h).1
theorem Gr.below {w w' : World} {B g : Nat} {l : List Nat} (h : Gr w g l) (hb : Below B w w') (hg : g < B) : Gr w' g l := (hb.block g hg).trans h
theorem Gr.drew {w : World} {g : Nat} {l : List Nat} (h : Gr w g l) : Gr w.drew g l := h
theorem Gr.alloc {w : World} {g : Nat} {l : List Nat} (h : Gr w g l) (o : Obj) : Gr (w.alloc o) g l := (Below.heap_alloc w o g h.lt).trans h
theorem Gr.new (w : World) (l : List Nat) : Gr (w.alloc (.cells (gsC l) 120)) w.heap.size l := heap_alloc_new w _
theorem Gr.set {w : World} {g : Nat} {l : List Nat} (h : Gr w g l) (i x : Nat) : Gr (w.setCell ⟨g, i, none⟩ (g16 x)) g (l.set i x) := by
  have := heap_setCell_same w g i (gsC l) 120 (g16 x) h
  unfold Gr
  rw [this]
  congr 2
  simp [gsC, List.map_set]
theorem Gr.other {w : World} {g : Nat} {l : List Nat} (h : Gr w g l) {a : Addr} (ha : g ≠ a.block) (v : Value) : Gr (w.setCell a v) g l := (heap_setCell_other w a g v ha).trans h
theorem Gr.row {w : World} {g : Nat} {l : List Nat} (h : Gr w g l) (l' : List Nat) : Gr (w.setRow g (gsC l')) g l' := setRow_heap w g _ _ 120 _ h
theorem Gr.cell {w : World} {g : Nat} {l : List Nat} (h : Gr w g l) {i : Nat} (hi : i < l.length) : w.cell? ⟨g, i, none⟩ = some (g16 (l.getD i 0)) := by
  rw [cell_of_row w g i _ 120 (0, 0) h]
  simp [gsC, hi, List.getD_eq_getElem?_getD]
theorem Gr.free {w : World} {g : Nat} {l : List Nat} (h : Gr w g l) (i : Nat) : w.frozen? ⟨g, i, none⟩ = false := frozen_of_row w g i _ 120 h
theorem Gr.grown {w W : World} {g : Nat} {l : List Nat} (h : Gr w g l) {row : Option Nat} (hg : w.grownBy W row) (hr : row ≠ some g) : Gr W g l := (hg.block g h.lt (fun e => hr e.symm)).trans h
theorem size120 : (Tryz.prog.info? 120).map (·.size) = some 8 := by kernel_rfl
def Z8 : List Nat := [0, 0, 0, 0, 0, 0, 0, 0]
theorem zero120 (W : World) : (zeroValue 120).run Tryz.prog W = .ok (.agg (gsC Z8)) W := by kernel_rfl
/-- The groups when some are set. -/
def seF (pre : List (Fin 8 × Nat)) : List Nat := pre.foldl (fun l x => l.set x.1.val x.2) Z8
theorem seF_snoc (pre : List (Fin 8 × Nat)) (x : Fin 8 × Nat) : seF (pre ++ [x]) = (seF pre).set x.1.val x.2 := by simp [seF]
theorem seF_length (pre : List (Fin 8 × Nat)) : (seF pre).length = 8 := by
  rcases List.eq_nil_or_concat pre with rfl | ⟨l, b, rfl⟩
  · rfl
  · rw [List.concat_eq_append, seF_snoc, List.length_set]; exact seF_length l
termination_by pre.length
/-- The groups of a host. -/
def grpL (s : List UInt8) : List Nat := seF (prF s (s.length / 2))
theorem grpL_length (s : List UInt8) : (grpL s).length = 8 := seF_length _
theorem keeps_only {g : Nat} {A B : World} {cs : Array Value} {t : TypeId} {fr : Nat × Nat} (ho : Only g A B) (hg : A.heap[g]? = some (.cells cs t fr)) : KeepsOthers A B :=
  ⟨ho.size, fun k o hk hc => (ho.block k (Array.getElem?_eq_some_iff.1 hk).1 (fun e => by injection e with e; subst e; rw [hg] at hk; cases hk; cases hc)).trans hk⟩
theorem KpX.only {g : Nat} {A W V : World} (h : KpX g g A W) (ho : Only g W V) : KpX g g A V := fun k cs t fr hk h1 h2 => by
  have hw := h k cs t fr hk h1 h2
  exact (ho.block k (Array.getElem?_eq_some_iff.1 hw).1 (fun e => h1 (by injection e))).trans hw
theorem each_any (S : ByteArray) (w : World) :
    Calls Tryz.prog 102 #[.string S] w fun e w' => e = .returned (.func (.func 121) #[] #[.pointer (some ⟨w.heap.size, 0, none⟩)]) ∧ w' = w.alloc (.cells #[.string S] 9) := by
  have hmf : ∀ (fn : Fn) (first cap : Array Value) (w : World), (Instr.makeFunc fn first cap).run Tryz.prog w = .ok (.func fn first cap) w := fun _ _ _ _ => rfl
  go_enter Tryz.func102, Tryz.ntmps102
  go_wp2
  go_ret
  exact ⟨rfl, rfl⟩
/-- What the loop keeps. -/
structure Jg (w : World) (G : Nat) (l : List Nat) (W : World) : Prop where
  g : Gr W G l
  r : Gr W w.heap.size Z8
  z : w.heap.size < G
  b : Below w.heap.size w W
theorem Jg.grown {w : World} {G : Nat} {l : List Nat} {W V : World} (h : Jg w G l W) {row : Option Nat} (hg : W.grownBy V row) (hr : ∀ k, row = some k → G < k) : Jg w G l V :=
  ⟨h.g.grown hg (fun e => by have := hr _ e; omega), h.r.grown hg (fun e => by have := hr _ e; have := h.z; omega), h.z, h.b.grown hg h.b.size (fun k e => by have := hr k e; have := h.z; omega)⟩
theorem Jg.set {w : World} {G : Nat} {l : List Nat} {W : World} (h : Jg w G l W) (i x : Nat) : Jg w G (l.set i x) (W.setCell ⟨G, i, none⟩ (g16 x)) :=
  ⟨h.g.set i x, h.r.other (by show w.heap.size ≠ G; have := h.z; omega) _, h.z, h.b.setCell (p := ⟨G, i, none⟩) (by show w.heap.size ≤ G; have := h.z; omega) _⟩
set_option maxRecDepth 100000 in
set_option maxHeartbeats 8000000 in
theorem groupsOf_any (s : List UInt8) (w : World) (hs : s.length ≤ 16) :
    Calls Tryz.prog 81 #[.string (bs s)] w fun e w' => e = .returned (.agg (gsC (grpL s))) ∧ Below w.heap.size w w' := by
  have hz := zero120
  have h0 : Jg w (w.heap.size + 1) Z8 ((w.alloc (.cells (gsC Z8) 120)).alloc (.cells (gsC Z8) 120)) :=
    ⟨by have h := Gr.new (w.alloc (.cells (gsC Z8) 120)) Z8; rwa [World.size_alloc] at h, (Gr.new w Z8).alloc _, by omega, bstep1 (bstep1 (Below.refl _ _))⟩
  have H0 := Lib.hid h0
  have HEA := Lib.hid (fun W => each_any (bs s) W)
  have HS := Lib.hid hs
  clear h0 hs
  obtain ⟨S, hS⟩ : ∃ S, bs s = S := ⟨_, rfl⟩
  rw [hS] at HEA ⊢
  have HSB := Lib.hid hS
  clear hS
  refine (callsIn_wide (n := 5)).1 ?_
  refine callsIn_of_wp_marks Tryz.func81 rfl trivial ?_ rfl
  simp only [Tryz.ntmps81, List.size_toArray, List.length_cons, List.length_nil, Nat.reduceAdd, Nat.reduceSub, Array.replicate_succ, Array.replicate_zero, List.push_toArray, List.append_toArray, List.nil_append, List.cons_append]
  refine wpIn_wide.2 ?_
  go_upto_region 2 with fail
  generalize hV : World.alloc (World.alloc w _) _ = V at H0 ⊢
  clear hV hz
  go_wp2_with fail
  (with_reducible refine (HEA.out _).mono ?_)
  rintro e V3 ⟨rfl, hV3⟩
  have hC : V3.heap[V.heap.size]? = some (.cells #[.string (bs s)] 9 (0, 0)) := by rw [hV3, HSB.out]; exact heap_alloc_new V _
  have HJ2 : Hid (Jg w (w.heap.size + 1) (seF []) V3) := Lib.hid (by rw [hV3]; exact H0.out.grown (World.grownBy_alloc V _ none) (fun k e => by cases e))
  have hBl : V.heap.size < V3.heap.size := by rw [hV3, World.size_alloc]; omega
  have hGB : V.heap.size ≠ w.heap.size + 1 := by have := H0.out.g.lt; omega
  have hGL : w.heap.size + 1 < V3.heap.size := HJ2.out.g.lt
  generalize V.heap.size = B at hC hBl hGB ⊢
  clear hV3 H0 HEA
  generalize hG : w.heap.size + 1 = G at HJ2 hGB hGL ⊢
  clear hG
  have HSQ := Lib.hid (grp_seq 4 G G B s V3 (by decide) HS.out hGB hGB hC)
  have HBL := Lib.hid (And.intro hBl hGL)
  clear hC hGB hBl hGL HS
  go_wp2_with fail
  refine (wpIn_wide (n := 5)).1 ?_
  refine rangeC rfl (by decide) (gf := 121) (lb := #[.pointer (some ⟨B, 0, none⟩)]) rfl trivial (enters_of Tryz.func121 (by kernel_rfl) rfl) HSQ.out (fun h k => h.trans k)
    (fun W A A' hA k cs t fr hk _ _ => (World.putObj_heap_other (by intro e; rw [e, hA] at hk; cases hk)).trans hk) (fun _ => rfl)
    (fun pre W => Jg w G (seF pre) W)
    (fun pre A B row h hg hr => h.grown hg (fun r e => by have := hr r e; have := HBL.out.2; omega))
    HJ2.out
    (fun x : Fin 8 × Nat => { tmps := #[.string S, undef, .pointer (some ⟨w.heap.size, 0, none⟩), .pointer (some ⟨G, 0, none⟩), .int .i64 (x.1.val : Int), .int .u16 (x.2 : Int), .string S, .func (.func 121) #[] #[.pointer (some ⟨B, 0, none⟩)], .int .i64 (x.1.val : Int), .int .u16 (x.2 : Int), undef, undef, undef, undef], defers := [] }) ?assign ?body ?done
  case assign =>
    intro l x W K' hK
    clear HSQ HJ2 HBL
    gi_wp2
    exact hK
  case body =>
    rintro l pre x W hI _
    have HI := Lib.hid hI
    have hx := x.1.isLt
    have hc := hI.g.cell (i := x.1.val) (by rw [seF_length]; exact hx)
    have hf := hI.g.free x.1.val
    have H2 := Lib.hid (hI.set x.1.val x.2)
    have HO := Lib.hid ((Only.refl G W).set x.1.val (g16 x.2))
    have hi0 : (0 : Int) ≤ (x.1.val : Int) := by omega
    have hi8 : (x.1.val : Int) < 8 := by omega
    clear hI HSQ HJ2 HBL
    rw [← seF_snoc] at H2
    generalize x.1.val = i at *
    gi_wp2
    exact ⟨keeps_only HO.out HI.out.g, (KpX.refl G G W).only HO.out, H2.out⟩
  case done =>
    rintro D xs W hD hS hI hK
    subst hS
    change Jg w G (grpL s) W at hI
    have hDz : G < D := by have := HBL.out; omega
    have HI := Lib.hid hI
    have hl := grpL_length s
    obtain ⟨L, hgl⟩ : ∃ L, grpL s = L := ⟨_, rfl⟩
    rw [hgl] at hI HI hl
    have HGL := Lib.hid hgl
    clear hgl
    have hK2 : (W.setRow w.heap.size (gsC L)).heap[D]? = some (.deferred (some [])) := (setRow_other _ _ _ _ (by have := HI.out.z; omega)).trans hK
    have hB2 := below_setRow HI.out.b (Nat.le_refl _) (gsC L)
    have hB := hB2.trans (belowK_b (w := w) (Nat.le_refl _) _ D (.deferred (some [])) (.deferred none) (by have := HI.out.z; omega) hK2 rfl rfl)
    have HR1 := Lib.hid (show ((W.setRow w.heap.size (gsC L)).putObj D (.deferred none)).heap[w.heap.size]? = some (.cells (gsC L) 120 (0, 0)) from (World.putObj_heap_other (by have := HI.out.z; omega)).trans (HI.out.r.row L))
    have HK := Lib.hid hK2
    have HB := Lib.hid hB
    have HL := Lib.hid hl
    clear hK hK2 hB2 hB hI hDz hD HSQ HJ2 HBL hl
    go_wp2_with (first
      | (refine wpList_load_row rfl 120 _ rfl G rfl 120 (gsC L) (0, 0) _ HI.out.g Tryz.underlying120 rfl (by rw [size120, gsC_size, HL.out]) ?_)
      | (refine wpList_store_row rfl 120 _ _ rfl w.heap.size (gsC L) rfl rfl 120 _ HI.out.r (by rw [size120, gsC_size, HL.out]) (by rw [gsC_size, gsC_size, HL.out]; rfl) (gsC_one _) ?_))
    refine ⟨by simp, .inl ⟨_, _, rfl, run_takeDeferred HK.out, ?_⟩⟩
    exact ⟨.agg (gsC L), results_cell_row (p := 2) (ty := 120) Tryz.results81 _ _ w.heap.size 120 _ (0, 0) _ rfl HR1.out Tryz.underlying120 rfl (by rw [size120, gsC_size, HL.out]), by rw [HGL.out], HB.out⟩
end Go.Proofs.YtjoogiabimiioaaGreatDoor
