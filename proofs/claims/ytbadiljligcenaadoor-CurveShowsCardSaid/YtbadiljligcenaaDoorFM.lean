/- Contract of quotient. -/
import Derived.Test.YtbadiljligcenaaDoorFL
import Derived.Test.YtbadiljligcenaaDoorW
import Derived.Deep.MidRow
namespace Go.Proofs.YtbadiljligcenaaDoor
open Go.RowKit Go.ChangeShapes
theorem rangeL {w : World} {g : Nat} {t : TypeId} (p l q : List Nat) (h : Lar w g t (p ++ (l ++ q))) : w.rangeAt g p.length (l.map ld) := fun j v hv => by
  have hj : j < l.length := by
    have := (List.getElem?_eq_some_iff.1 hv).1
    simpa using this
  rw [h.get (i := p.length + j) (by simp; omega)]
  rw [List.getElem?_map, List.getElem?_eq_getElem hj] at hv
  simp only [Option.map_some] at hv
  rw [← hv, List.getElem_append_right (by omega)]
  simp [hj]
theorem size70 : (Tryd.prog.info? 70).map (·.size) = some 10 := by kernel_rfl
theorem lmap_len (v : Nat) : ((lm v).map ld).length = 5 := by rw [List.length_map, lm_length]
set_option maxRecDepth 100000 in
set_option maxHeartbeats 8000000 in
theorem quotient_any (a b : Nat) (w : World) (ha : a < pC) (hb : b < pC) :
    Calls Tryd.prog 47 #[.agg (lsC (lm a ++ lm b))] w fun e w' => e = .returned (nv (muN a (powN b P2 255))) ∧ Below w.heap.size w w' := by
  have hrep : ∀ W, Calls Tryd.prog 21 #[.string ⟨#[255]⟩, .int .i64 30] W fun e w' => e = .returned (.string ⟨(Lib.repeatL [255] 30).toArray⟩) ∧ Below W.heap.size W w' := fun W => Tryd.strings_Repeat ⟨#[255]⟩ 30 W (by decide) (by decide)
  have hstr : (⟨#[235]⟩ : ByteArray) ++ ⟨(Lib.repeatL [255] 30).toArray⟩ ++ ⟨#[127]⟩ = bs P2 := by kernel_rfl
  have h1 : Lar ((w.alloc (.cells (lsC (lm a ++ lm b)) 70)).alloc (.cells #[.int .u64 0, .int .u64 0, .int .u64 0, .int .u64 0, .int .u64 0] 44)) w.heap.size 70 (lm a ++ lm b) := (Lar.new w 70 _).alloc _
  have h2 : Lar ((w.alloc (.cells (lsC (lm a ++ lm b)) 70)).alloc (.cells #[.int .u64 0, .int .u64 0, .int .u64 0, .int .u64 0, .int .u64 0] 44)) (w.heap.size + 1) 44 [0, 0, 0, 0, 0] := by
    have h := Lar.new (w.alloc (.cells (lsC (lm a ++ lm b)) 70)) 44 [0, 0, 0, 0, 0]
    rw [World.size_alloc] at h
    exact h
  have h3 : Below w.heap.size w ((w.alloc (.cells (lsC (lm a ++ lm b)) 70)).alloc (.cells #[.int .u64 0, .int .u64 0, .int .u64 0, .int .u64 0, .int .u64 0] 44)) := by go_grown
  have H1 := Lib.hid h1
  have H2 := Lib.hid h2
  have H3 := Lib.hid h3
  have HREP := Lib.hid hrep
  have HSTR := Lib.hid hstr
  clear h1 h2 h3 hrep hstr
  go_enter Tryd.func47, Tryd.ntmps47
  go_upto_region 1 with fail
  generalize (w.alloc (.cells (lsC (lm a ++ lm b)) 70)).alloc (.cells #[.int .u64 0, .int .u64 0, .int .u64 0, .int .u64 0, .int .u64 0] 44) = V at H1 H2 H3 ⊢
  go_wp2_with fail
  (with_reducible refine (HREP.out _).mono ?_)
  rintro e w1 ⟨rfl, hb1⟩
  have H1b := Lib.hid (H1.out.below hb1 H1.out.lt)
  have H2b := Lib.hid (H2.out.below hb1 H2.out.lt)
  have H3b := Lib.hid (bstep H3.out hb1)
  clear hb1 HREP H1 H2 H3
  go_wp2_with fail
  rw [HSTR.out]
  (with_reducible refine (raiser_any _ _).mono ?_)
  rintro e w2 ⟨rfl, rfl⟩
  have hV : (w1.alloc (.cells #[.string (bs P2)] 9)).heap[w1.heap.size]? = some (.cells #[.string (bs P2)] 9 (0, 0)) := heap_alloc_new w1 _
  have H1 := Lib.hid (H1b.out.alloc (.cells #[.string (bs P2)] 9))
  have H2 := Lib.hid (H2b.out.alloc (.cells #[.string (bs P2)] 9))
  have H3 := Lib.hid (bstep1 (o := .cells #[.string (bs P2)] 9) H3b.out)
  generalize w1.alloc (.cells #[.string (bs P2)] 9) = V2 at hV H1 H2 H3 ⊢
  generalize w1.heap.size = G at hV ⊢
  clear HSTR H1b H2b H3b
  have hra : Calls Tryd.prog 66 #[.agg (lsC (lm b)), .pointer (some ⟨G, 0, none⟩)] V2.drew fun e w' => e = .returned (.agg (lsC (lm (powN b P2 255)))) ∧ Below V2.drew.heap.size V2.drew w' := raise_any b G P2 V2.drew (by decide) hb hV
  have hpl : powN b P2 255 < pC := by rw [← powL_bits]; exact powL_lt _ _
  obtain ⟨r, hr⟩ : ∃ r, powN b P2 255 = r := ⟨_, rfl⟩
  rw [hr] at hra hpl
  have HRA := Lib.hid hra
  have HRR := Lib.hid hr
  have HTM := Lib.hid (fun W => times_lm a r ha hpl W)
  obtain ⟨M, hM⟩ : ∃ M, muN a r = M := ⟨_, rfl⟩
  rw [hM] at HTM
  have HM := Lib.hid hM
  clear hra hpl hr hM hV ha hb
  go_wp2_with fail
  have HS0 : Hid (Lar V2.drew w.heap.size 70 (lm a ++ lm b)) := Lib.hid H1.out.drew
  refine region_anyC (fun w' => Lar w' w.heap.size 70 (lm a ++ lm b)) (fun _ => True) [] (by kernel_rfl) ?_
  refine anyC_takeS (i := 0) (oi := ⟨some 8, _, _, _, _, _⟩) (v := _) rfl (by kernel_rfl) (by kernel_rfl) (by kernel_rfl) (by kernel_rfl) (fun _ _ _ h => h) (Or.inl ⟨by rfl, fun w' hw' => (by clear hw'; go_simp; try with_reducible rfl)⟩) HS0.out (fun _ => trivial) ?_
  try simp only [Act.put, List.setIfInBounds_toArray, List.set_cons_zero, List.set_cons_succ]
  refine anyC_takeS (i := 1) (oi := ⟨some 9, _, _, _, _, _⟩) (v := .agg (lsC (lm a))) rfl (by kernel_rfl) (by kernel_rfl) (by kernel_rfl) (by kernel_rfl) (fun _ _ _ h => h) (yieldsIf_load_mid (by rfl) 44 _ rfl w.heap.size 0 rfl ((lm a).map ld) _ (fun w' hw' => rangeL [] (lm a) (lm b) hw') Tryd.underlying44 rfl (by rw [size44, lmap_len])) HS0.out (fun _ => trivial) ?_
  try simp only [Act.put, List.setIfInBounds_toArray, List.set_cons_zero, List.set_cons_succ]
  refine anyC_takeS (i := 2) (oi := ⟨some 10, _, _, _, _, _⟩) (v := _) rfl (by kernel_rfl) (by kernel_rfl) (by kernel_rfl) (by kernel_rfl) (fun _ _ _ h => h) (Or.inl ⟨by rfl, fun w' hw' => (by clear hw'; go_simp; try with_reducible rfl)⟩) HS0.out (fun _ => trivial) ?_
  try simp only [Act.put, List.setIfInBounds_toArray, List.set_cons_zero, List.set_cons_succ]
  refine anyC_takeS (i := 3) (oi := ⟨some 11, _, _, _, _, _⟩) (v := _) rfl (by kernel_rfl) (by kernel_rfl) (by kernel_rfl) (by kernel_rfl) (fun _ _ _ h => h) (Or.inl ⟨by rfl, fun w' hw' => (by clear hw'; go_simp; try with_reducible rfl)⟩) HS0.out (fun _ => trivial) ?_
  try simp only [Act.put, List.setIfInBounds_toArray, List.set_cons_zero, List.set_cons_succ]
  refine anyC_takeS (i := 4) (oi := ⟨some 12, _, _, _, _, _⟩) (v := .agg (lsC (lm b))) rfl (by kernel_rfl) (by kernel_rfl) (by kernel_rfl) (by kernel_rfl) (fun _ _ _ h => h) (yieldsIf_load_mid (by rfl) 44 _ rfl w.heap.size 5 rfl ((lm b).map ld) _ (fun w' hw' => (by have h := rangeL (lm a) (lm b) [] (by rw [List.append_nil]; exact hw'); rwa [lm_length] at h)) Tryd.underlying44 rfl (by rw [size44, lmap_len])) HS0.out (fun _ => trivial) ?_
  try simp only [Act.put, List.setIfInBounds_toArray, List.set_cons_zero, List.set_cons_succ]
  refine anyC_keep (i := 5) (o := ⟨some 13, _, _, _, _, _⟩) (by kernel_rfl) rfl (fun K hK => ?_)
  rw [if_pos (by rfl)]
  go_wp2_with fail
  (with_reducible refine HRA.out.mono ?_)
  rintro e V3 ⟨rfl, hb⟩
  have HS1 := Lib.hid (HS0.out.below hb HS0.out.lt)
  have H2c := Lib.hid (H2.out.drew.below hb H2.out.lt)
  have H3c := Lib.hid (bstep H3.out.drew hb)
  refine hK.out _ _ ⟨HS1.out, fun _ => trivial⟩ ?_
  clear hK K hb HRA
  try simp only [Act.put, List.setIfInBounds_toArray, List.set_cons_zero, List.set_cons_succ]
  refine anyC_keep (i := 6) (o := ⟨some 14, _, _, _, _, _⟩) (by kernel_rfl) rfl (fun K hK => ?_)
  rw [if_pos (by rfl)]
  go_wp2_with fail
  (with_reducible refine (HTM.out _).mono ?_)
  rintro e V4 ⟨rfl, hb⟩
  have HS2 := Lib.hid (HS1.out.below hb HS1.out.lt)
  have H2d := Lib.hid (H2c.out.below hb H2c.out.lt)
  have H3d := Lib.hid (bstep H3c.out hb)
  refine hK.out _ _ ⟨HS2.out, fun _ => trivial⟩ ?_
  clear hK K hb HTM
  try simp only [Act.put, List.setIfInBounds_toArray, List.set_cons_zero, List.set_cons_succ]
  refine anyC_keep (i := 7) (o := ⟨none, _, _, _, _, _⟩) (by kernel_rfl) rfl (fun K hK => ?_)
  rw [if_pos (by rfl)]
  refine wp_store_row 44 _ _ rfl (w.heap.size + 1) (lsC (lm M)) rfl rfl 44 _ H2d.out (by rw [size44, lsC_size, lm_length]) (by rw [lsC_size, lsC_size, lm_length]; rfl) (lsC_one _) ?_
  have H3e := Lib.hid (below_setRow H3d.out (show w.heap.size ≤ w.heap.size + 1 by omega) (lsC (lm M)))
  have H2e := Lib.hid (H2d.out.row (lm M))
  refine hK.out _ _ ⟨(setRow_other _ _ _ _ (by omega)).trans HS2.out, fun _ => trivial⟩ ?_
  clear hK K
  try simp only [Act.put]
  refine anyC_done (by kernel_rfl) ?_ _
  go_wp2_with fail
  exact bodyPost_ret (v := nv M) (results_cell_row (p := 2) (ty := 44) Tryd.results47 _ _ (w.heap.size + 1) 44 _ (0, 0) _ rfl H2e.out Tryd.underlying44 rfl (by rw [size44, lsC_size, lm_length])) rfl ⟨by rw [HRR.out, HM.out], H3e.out⟩
end Go.Proofs.YtbadiljligcenaaDoor
