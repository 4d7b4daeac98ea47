/- Contract of tagOf. -/
import Derived.Test.YtnfefkcfifnjnaaDoorMI
namespace Go.Proofs.YtnfefkcfifnjnaaDoor
open Go.RowKit Go.Shelf
attribute [local go_sem] Oper.semAt_some
/-- The sum behind some pieces. -/
def accP (r : Nat) (pre : List Pce) : Nat := pre.foldl (fun a x => (a + num (x.1.data.toList ++ [1])) * r % pP) 0
theorem accP_snoc (r : Nat) (pre : List Pce) (x : Pce) : accP r (pre ++ [x]) = (accP r pre + num (x.1.data.toList ++ [1])) * r % pP := by simp [accP]
theorem accP_lt (r : Nat) (pre : List Pce) : accP r pre < two130 := by
  rcases List.eq_nil_or_concat pre with rfl | ⟨l, x, rfl⟩
  · exact (show 0 < two130 by decide)
  · rw [List.concat_eq_append, accP_snoc]
    exact Nat.lt_trans (Nat.mod_lt _ (by decide)) (show pP < two130 by decide)
theorem accP_pcs (r : Nat) (s : List UInt8) (pre : List Pce) (n : Nat) (h : pre.map (·.1) = pcs (bs s) n) : accP r pre = accN r s n := by
  have h1 : accP r pre = (pre.map (·.1)).foldl (fun a (x : ByteArray) => (a + num (x.data.toList ++ [1])) * r % pP) 0 := by rw [accP, List.foldl_map]
  rw [h1, h]
  clear h h1
  induction n with
  | zero => rfl
  | succ n ih =>
    rw [pcs_succ, List.foldl_append, ih, List.foldl_cons, List.foldl_nil, accN, ext_list, bs_data]
    congr 5
    have hsz : (bs s).size = s.length := rfl
    rw [hsz]
    by_cases hc : 16 * n + 16 ≤ s.length
    · rw [Nat.min_eq_left hc, show 16 * n + 16 - 16 * n = 16 by omega]
    · rw [Nat.min_eq_right (by omega), List.take_of_length_le (by rw [List.length_drop]; exact Nat.le_refl _), List.take_of_length_le (by rw [List.length_drop]; omega)]
theorem KeepsOthers.of_only {g : Nat} {W W' : World} {t : TypeId} {l : List Nat} (h : Only g W W') (hA : Lar W g t l) : KeepsOthers W W' :=
  ⟨h.size, fun k o hk hc => (h.block k (Array.getElem?_eq_some_iff.1 hk).1 (fun e => by
    injection e with e
    subst e
    rw [hA] at hk
    cases hk
    cases hc)).trans hk⟩
theorem build113 (f : List Nat) (h : f.length = 5) (w : World) : (Instr.build 113 #[(1, .agg (lsC f))]).run Tryd.prog w = .ok (.agg (lsC ([0, 0, 0, 0, 0] ++ f))) w := by
  obtain ⟨a0, a1, a2, a3, a4, rfl⟩ := list5 h
  kernel_rfl
set_option maxRecDepth 100000 in
set_option maxHeartbeats 8000000 in
theorem tagOf_any (k s : List UInt8) (w : World) (hk : k.length = 32) (hs : s.length ≤ 140737488351232) :
    Calls Tryd.prog 42 #[.string (bs k), .string (bs s)] w fun e w' => e = .returned (.string (bs (tagO k s))) ∧ Below w.heap.size w w' := by
  refine (callsIn_wide (n := 5)).1 ?_
  have h1 : ∀ w, Calls Tryd.prog 72 #[.string ((bs k).extract 0 16)] w fun e w' => e = .returned (.agg (lsC (lm (facN k)))) ∧ Below w.heap.size w w' := fun w => by
    have h := factorOf_any (k.take 16) w (by rw [List.length_take]; omega)
    rw [ext_bs, bs_data]
    exact h
  have h2 : ∀ (g a : Nat) w, a < two130 → Lar w g 113 (lm a ++ lm (facN k)) → Calls Tryd.prog 75 #[.pointer (some ⟨g, 0, none⟩), .string ((bs k).extract 16 32)] w fun e w' => e = .returned (.string (bs (octV (a + num (k.drop 16)) 16))) ∧ Only g w w' := fun g a w ha hA => by
    have h := end_any g a (facN k) (k.drop 16) w (by rw [List.length_drop]; omega) ha hA
    rw [ext_bs, bs_data, List.take_of_length_le (by rw [List.length_drop]; omega)]
    exact h
  have hr : facN k < two130 := by
    have := num_16 (clB (clA (k.take 16) 4) 3) (by rw [clB_length, clA_length, List.length_take]; omega)
    unfold facN two130; omega
  have hkz : (bs k).size = 32 := by rw [bs_size, hk]
  have hsz : (bs s).size = s.length := rfl
  obtain ⟨T, hT⟩ : ∃ T, tagO k s = T := ⟨_, rfl⟩
  rw [hT]
  have hT2 : octV (accN (facN k) s ((s.length + 15) / 16) + num (k.drop 16)) 16 = T := hT
  have hacc : ∀ pre : List Pce, pre.map (·.1) = pcs (bs s) (((bs s).size + 15) / 16) → accP (facN k) pre = accN (facN k) s (((bs s).size + 15) / 16) := fun pre h => accP_pcs (facN k) s pre _ h
  rw [← hsz] at hT2 hs
  obtain ⟨r, hrr⟩ : ∃ r, facN k = r := ⟨_, rfl⟩
  rw [hrr] at h1 h2 hr hT2 hacc
  obtain ⟨K, hK⟩ : ∃ K, bs k = K := ⟨_, rfl⟩
  rw [hK] at h1 h2 hkz ⊢
  obtain ⟨S, hS⟩ : ∃ S, bs s = S := ⟨_, rfl⟩
  rw [hS] at hT2 hacc hs ⊢
  obtain ⟨q, hq⟩ : ∃ q, num (k.drop 16) = q := ⟨_, rfl⟩
  rw [hq] at h2 hT2
  have H1 := Lib.hid h1
  have H2 := Lib.hid h2
  have HR := Lib.hid hr
  have HT := Lib.hid hT2
  have HAC := Lib.hid hacc
  have HBU := Lib.hid (build113 (lm r) (lm_length r))
  clear h1 h2 hr hT2 hacc hrr hK hS hT hsz hk hq
  refine callsIn_of_wp_marks Tryd.func42 rfl trivial ?_ rfl
  simp only [Tryd.ntmps42, List.size_toArray, List.length_cons, List.length_nil, Nat.reduceAdd, Nat.reduceSub, Array.replicate_succ, Array.replicate_zero, List.push_toArray, List.append_toArray, List.nil_append, List.cons_append]
  refine wpIn_wide.2 ?_
  go_upto_region 2 with (first
    | (go_at_call 72; (with_reducible refine (H1.out _).mono ?_); rintro e w1 ⟨rfl, hb1⟩; have hgz := heap_alloc_new w1 (.cells #[.int .u64 0, .int .u64 0, .int .u64 0, .int .u64 0, .int .u64 0, .int .u64 0, .int .u64 0, .int .u64 0, .int .u64 0, .int .u64 0] 113); have HGZ := Lib.hid hgz; clear hgz)
    | (refine wpList_build rfl 113 #[(1, .tmp 9)] #[(1, .agg (lsC (lm r)))] rfl (by simp [Act.eval, Act.put]) (.agg (lsC ([0, 0, 0, 0, 0] ++ lm r))) (HBU.out _) ?_)
    | (refine wpList_store_row rfl 113 _ _ rfl w1.heap.size (lsC ([0, 0, 0, 0, 0] ++ lm r)) rfl rfl 113 _ HGZ.out (by rw [size113, lsC_size, List.length_append, lm_length]; rfl) (by rw [lsC_size, List.length_append, lm_length]; rfl) (lsC_one _) ?_))
  have hv1 : Lar ((w1.alloc (.cells #[.int .u64 0, .int .u64 0, .int .u64 0, .int .u64 0, .int .u64 0, .int .u64 0, .int .u64 0, .int .u64 0, .int .u64 0, .int .u64 0] 113)).setRow w1.heap.size (lsC ([0, 0, 0, 0, 0] ++ lm r))) w1.heap.size 113 (lm 0 ++ lm r) := setRow_heap _ _ _ _ 113 _ HGZ.out
  have hz1 := hb1.size
  have hv2 : Below w.heap.size w ((w1.alloc (.cells #[.int .u64 0, .int .u64 0, .int .u64 0, .int .u64 0, .int .u64 0, .int .u64 0, .int .u64 0, .int .u64 0, .int .u64 0, .int .u64 0] 113)).setRow w1.heap.size (lsC ([0, 0, 0, 0, 0] ++ lm r))) := below_setRow (hb1.alloc hz1 _) hz1 _
  obtain ⟨g, hg⟩ : ∃ g, w1.heap.size = g := ⟨_, rfl⟩
  rw [hg] at hz1
  generalize hV : ((w1.alloc (.cells #[.int .u64 0, .int .u64 0, .int .u64 0, .int .u64 0, .int .u64 0, .int .u64 0, .int .u64 0, .int .u64 0, .int .u64 0, .int .u64 0] 113)).setRow w1.heap.size (lsC ([0, 0, 0, 0, 0] ++ lm r))) = V at hv1 hv2 ⊢
  rw [hg] at hv1 ⊢
  clear hV HGZ hb1 hg
  have hgV := hv1.lt
  have A0 : Lar (V.alloc (.cells #[.string S] 9)) g 113 (lm 0 ++ lm r) := hv1.alloc _
  have A2 : (V.alloc (.cells #[.string S] 9)).cell? ⟨V.heap.size, 0, none⟩ = some (.string S) := cell_of_row _ _ 0 _ 9 (0, 0) (heap_alloc_new V _)
  have A4 : Below w.heap.size w (V.alloc (.cells #[.string S] 9)) := hv2.alloc hv2.size _
  have A5 : (V.alloc (.cells #[.string S] 9)).heap.size = V.heap.size + 1 := by simp
  have HA0 := Lib.hid A0
  have HA4 := Lib.hid A4
  clear hv1 hv2 A0 A4 HBU
  go_wp2_with (go_at_call 73; (with_reducible refine (pieces_any S _).mono ?_); rintro e w' ⟨rfl, rfl⟩)
  refine (wpIn_wide (n := 5)).1 ?_
  generalize V.alloc (.cells #[.string S] 9) = wl at HA0 HA4 A2 A5 ⊢
  refine wpIn_rangeFunc_ownF rfl (by decide) (gf := 94) (lb := #[.pointer (some ⟨V.heap.size, 0, none⟩)]) rfl trivial (enters_of Tryd.func94 (by kernel_rfl) rfl)
    (pieces_stops Fence.wide 4 trivial rfl (by decide) V.heap.size S hs wl (by omega) A2) (fun h k => k.trans h)
    (fun W l o o' hl ho hc _ => World.cell?_of_block (World.putObj_heap_other (by show V.heap.size ≠ l; omega))) (Below.refl _ _) (fun _ => rfl)
    (fun pre W => Lar W g 113 (lm (accP r pre) ++ lm r) ∧ V.heap.size + 1 ≤ W.heap.size ∧ Below w.heap.size w W)
    (fun _ _ _ => False)
    (fun pre W W' row hI hg hr => ⟨(grownBy_keeps_cells hg (fun r e => (hr r e).2) hI.1 rfl).trans hI.1, Nat.le_trans hI.2.1 hg.size, hI.2.2.grown hg hI.2.2.size (fun k e => by have := (hr k e).1; omega)⟩)
    (fun _ _ _ _ _ hs _ _ => hs)
    ⟨HA0.out, by omega, HA4.out⟩
    (fun y => { tmps := #[Value.string K, Value.string S, undef, undef, Value.string ⟨#[]⟩, Value.pointer (some ⟨g, 0, none⟩), Value.string y.1, Value.string K, Value.string (K.extract 0 16), Value.agg (lsC (lm r)), Value.agg (lsC (0 :: 0 :: 0 :: 0 :: 0 :: lm r)), Value.string S, Value.func (Fn.func 94) #[] #[Value.pointer (some ⟨V.heap.size, 0, none⟩)], Value.string y.1, undef, undef, undef, undef, undef], defers := [] }) ?assign ?body ?done ?stop
  case assign =>
    intro l x W K hK
    gi_wp2
    exact hK
  case body =>
    rintro l pre y W ⟨hM, hz3, hB⟩ _
    obtain ⟨yb, hy⟩ := y
    have hmx := mix_any g (accP r pre) r yb.data.toList W hy (accP_lt r pre) HR.out hM
    rw [← accP_snoc r pre ⟨yb, hy⟩] at hmx
    have HMX : Hid (Calls Tryd.prog 74 #[.pointer (some ⟨g, 0, none⟩), .string yb] W fun e w' => (∃ v, e = .returned v) ∧ Lar w' g 113 (lm (accP r (pre ++ [⟨yb, hy⟩])) ++ lm r) ∧ Only g W w') := Lib.hid hmx
    have HB := Lib.hid hB
    have HM := Lib.hid hM
    clear hmx hM hB
    gi_wp2_with (refine ⟨trivial, ?_⟩; gi_at_call 74; refine (CallsIn.inRound l (callsIn_wide.2 HMX.out)).mono ?_; rintro e w2 ⟨⟨v, rfl⟩, hA2, hO2⟩)
    refine ⟨KeepsOthers.of_only hO2 HM.out, World.cell?_of_block (a := ⟨V.heap.size, 0, none⟩) (hO2.block V.heap.size (by omega) (fun e => by injection e with e; omega)), hA2, Nat.le_trans hz3 hO2.size, hO2.below HB.out HB.out.size hz1⟩
  case done =>
    rintro D ys W hD hys ⟨hM, hz3, hB⟩ hK
    have hacc := HAC.out ys hys
    rw [hacc] at hM
    have hlt := accP_lt r ys
    rw [hacc] at hlt
    have hE := H2.out g _ W hlt hM
    rw [HT.out] at hE
    have HE := Lib.hid hE
    have HB := Lib.hid hB
    have HM := Lib.hid hM
    have HKK := Lib.hid hK
    clear hacc hM hlt hE hB hK hys
    go_wp2_with (go_at_call 75; (with_reducible refine HE.out.mono ?_); rintro e w3 ⟨rfl, hO3⟩)
    have KO : w3.heap[D]? = some (Obj.deferred (some [])) := (hO3.block D (Array.getElem?_eq_some_iff.1 HKK.out).1 (fun e => by injection e with e; omega)).trans HKK.out
    have B2 := hO3.below HB.out HB.out.size hz1
    refine ⟨by simp, .inl ⟨_, _, rfl, run_takeDeferred KO, ?_⟩⟩
    exact ⟨.string (bs T), by simp [results, Tryd.results42, go_sem], rfl, B2.trans (belowK_b (w := w) (Nat.le_refl _) _ D _ _ (by omega) KO rfl rfl)⟩
  case stop =>
    rintro D c pre W _ _ h _
    exact h.elim
end Go.Proofs.YtnfefkcfifnjnaaDoor
