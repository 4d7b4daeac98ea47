/- Contract of exchange. -/
import Derived.Test.YtbadiljligcenaaDoorFM
namespace Go.Proofs.YtbadiljligcenaaDoor
open Go.RowKit Go.ChangeShapes
theorem Lar.sets (l' : List Nat) : ∀ (w : World) (g : Nat) (t : TypeId) (p l q : List Nat), l.length = l'.length → Lar w g t (p ++ (l ++ q)) → Lar (w.setCells g p.length (l'.map ld)) g t (p ++ (l' ++ q)) := by
  induction l' with
  | nil => intro w g t p l q hl h; rw [List.eq_nil_of_length_eq_zero hl] at h; exact h
  | cons x l' ih =>
    intro w g t p l q hl h
    match l, hl with
    | y :: l, hl =>
      have h1 := h.set p.length x
      have e : (p ++ (y :: l ++ q)).set p.length x = (p ++ [x]) ++ (l ++ q) := by
        rw [List.set_append_right _ _ (Nat.le_refl _), Nat.sub_self]; simp
      rw [e] at h1
      have h2 := ih (w.setCell ⟨g, p.length, none⟩ (ld x)) g t (p ++ [x]) l q (by simpa using hl) h1
      have e2 : (p ++ [x]).length = p.length + 1 := by simp
      rw [e2] at h2
      simp only [List.append_assoc, List.singleton_append] at h2
      exact h2
theorem only_sets (g : Nat) : ∀ (vs : List Value) (o : Nat) (w0 w : World), Only g w0 w → Only g w0 (w.setCells g o vs)
  | [], _, _, _, h => h
  | v :: vs, o, w0, w, h => only_sets g vs (o + 1) w0 _ (h.set o v)
theorem thereL {w : World} {g : Nat} {t : TypeId} (p l q : List Nat) (h : Lar w g t (p ++ (l ++ q))) : w.there g p.length l.length := fun j hj =>
  ⟨by rw [h.getD (by simp; omega)]; rfl, h.free _⟩
theorem size72 : (Tryd.prog.info? 72).map (·.size) = some 25 := by kernel_rfl
theorem Lar.drew' {w : World} {g : Nat} {t : TypeId} {l : List Nat} (h : Lar w g t l) : Lar w.drew g t l := h
set_option maxRecDepth 100000 in
set_option maxHeartbeats 8000000 in
theorem exchange_any (g : Nat) (A B u : List Nat) (w : World) (hA : A.length = 10) (hB : B.length = 10) (h : Lar w g 72 (A ++ (B ++ u))) :
    Calls Tryd.prog 45 #[.pointer (some ⟨g, 0, none⟩)] w fun e w' => (∃ v, e = .returned v) ∧ Lar w' g 72 (B ++ (A ++ u)) ∧ Only g w w' := by
  have HU : Hid (Lar w.drew g 72 (A ++ (B ++ u))) := Lib.hid h
  have HL := Lib.hid (And.intro hA hB)
  have mA : (A.map ld).length = 10 := by rw [List.length_map, hA]
  have mB : (B.map ld).length = 10 := by rw [List.length_map, hB]
  have MA := Lib.hid (And.intro mA mB)
  have HO : Hid (Only g w w.drew) := Lib.hid (Only.refl g w).drew
  clear h hA hB mA mB
  go_enter Tryd.func45, Tryd.ntmps45
  go_wp2_with fail
  refine region_anyC (fun _ => True) (fun w' => Lar w' g 72 (A ++ (B ++ u))) [12] (by kernel_rfl) ?_
  refine anyC_takeS (i := 0) (oi := ⟨some 2, _, _, _, _, _⟩) (v := _) rfl (by kernel_rfl) (by kernel_rfl) (by kernel_rfl) (by kernel_rfl) (fun _ _ _ h => h) (Or.inl ⟨by rfl, fun w' hw' => (by clear hw'; go_simp; try with_reducible rfl)⟩) trivial (fun _ => HU.out) ?_
  try simp only [Act.put, List.setIfInBounds_toArray, List.set_cons_zero, List.set_cons_succ]
  refine anyC_takeS (i := 1) (oi := ⟨some 3, _, _, _, _, _⟩) (v := _) rfl (by kernel_rfl) (by kernel_rfl) (by kernel_rfl) (by kernel_rfl) (fun _ _ _ h => h) (Or.inl ⟨by rfl, fun w' hw' => (by clear hw'; go_simp; try with_reducible rfl)⟩) trivial (fun _ => HU.out) ?_
  try simp only [Act.put, List.setIfInBounds_toArray, List.set_cons_zero, List.set_cons_succ]
  refine anyC_takeS (i := 2) (oi := ⟨some 4, _, _, _, _, _⟩) (v := _) rfl (by kernel_rfl) (by kernel_rfl) (by kernel_rfl) (by kernel_rfl) (fun _ _ _ h => h) (Or.inl ⟨by rfl, fun w' hw' => (by clear hw'; go_simp; try with_reducible rfl)⟩) trivial (fun _ => HU.out) ?_
  try simp only [Act.put, List.setIfInBounds_toArray, List.set_cons_zero, List.set_cons_succ]
  refine anyC_takeS (i := 3) (oi := ⟨some 5, _, _, _, _, _⟩) (v := _) rfl (by kernel_rfl) (by kernel_rfl) (by kernel_rfl) (by kernel_rfl) (fun _ _ _ h => h) (Or.inl ⟨by rfl, fun w' hw' => (by clear hw'; go_simp; try with_reducible rfl)⟩) trivial (fun _ => HU.out) ?_
  try simp only [Act.put, List.setIfInBounds_toArray, List.set_cons_zero, List.set_cons_succ]
  refine anyC_takeS (i := 4) (oi := ⟨some 6, _, _, _, _, _⟩) (v := _) rfl (by kernel_rfl) (by kernel_rfl) (by kernel_rfl) (by kernel_rfl) (fun _ _ _ h => h) (Or.inl ⟨by rfl, fun w' hw' => (by clear hw'; go_simp; try with_reducible rfl)⟩) trivial (fun _ => HU.out) ?_
  try simp only [Act.put, List.setIfInBounds_toArray, List.set_cons_zero, List.set_cons_succ]
  refine anyC_takeU (i := 5) (oi := ⟨some 7, _, _, _, _, _⟩) (v := .agg (lsC B)) rfl (by kernel_rfl) (by kernel_rfl) (by kernel_rfl) (by kernel_rfl) (fun _ _ _ h => h) (yieldsIf_load_mid (by rfl) 70 _ rfl g 10 rfl (B.map ld) _ (fun w' hw' => (by have h := rangeL A B u hw'; rwa [HL.out.1] at h)) Tryd.underlying70 rfl (by rw [size70, MA.out.2])) trivial HU.out ?_
  try simp only [Act.put, List.setIfInBounds_toArray, List.set_cons_zero, List.set_cons_succ]
  refine anyC_takeS (i := 6) (oi := ⟨some 8, _, _, _, _, _⟩) (v := _) rfl (by kernel_rfl) (by kernel_rfl) (by kernel_rfl) (by kernel_rfl) (fun _ _ _ h => h) (Or.inl ⟨by rfl, fun w' hw' => (by clear hw'; go_simp; try with_reducible rfl)⟩) trivial (fun _ => HU.out) ?_
  try simp only [Act.put, List.setIfInBounds_toArray, List.set_cons_zero, List.set_cons_succ]
  refine anyC_takeS (i := 7) (oi := ⟨some 9, _, _, _, _, _⟩) (v := _) rfl (by kernel_rfl) (by kernel_rfl) (by kernel_rfl) (by kernel_rfl) (fun _ _ _ h => h) (Or.inl ⟨by rfl, fun w' hw' => (by clear hw'; go_simp; try with_reducible rfl)⟩) trivial (fun _ => HU.out) ?_
  try simp only [Act.put, List.setIfInBounds_toArray, List.set_cons_zero, List.set_cons_succ]
  refine anyC_takeS (i := 8) (oi := ⟨some 10, _, _, _, _, _⟩) (v := _) rfl (by kernel_rfl) (by kernel_rfl) (by kernel_rfl) (by kernel_rfl) (fun _ _ _ h => h) (Or.inl ⟨by rfl, fun w' hw' => (by clear hw'; go_simp; try with_reducible rfl)⟩) trivial (fun _ => HU.out) ?_
  try simp only [Act.put, List.setIfInBounds_toArray, List.set_cons_zero, List.set_cons_succ]
  refine anyC_takeU (i := 9) (oi := ⟨some 11, _, _, _, _, _⟩) (v := .agg (lsC A)) rfl (by kernel_rfl) (by kernel_rfl) (by kernel_rfl) (by kernel_rfl) (fun _ _ _ h => h) (yieldsIf_load_mid (by rfl) 70 _ rfl g 0 rfl (A.map ld) _ (fun w' hw' => rangeL [] A (B ++ u) hw') Tryd.underlying70 rfl (by rw [size70, MA.out.1])) trivial HU.out ?_
  try simp only [Act.put, List.setIfInBounds_toArray, List.set_cons_zero, List.set_cons_succ]
  refine anyC_takeS (i := 10) (oi := ⟨some 12, _, _, _, _, _⟩) (v := _) rfl (by kernel_rfl) (by kernel_rfl) (by kernel_rfl) (by kernel_rfl) (fun _ _ _ h => h) (Or.inl ⟨by rfl, fun w' hw' => (by clear hw'; go_simp; try with_reducible rfl)⟩) trivial (fun _ => HU.out) ?_
  try simp only [Act.put, List.setIfInBounds_toArray, List.set_cons_zero, List.set_cons_succ]
  refine anyC_takeS (i := 11) (oi := ⟨some 13, _, _, _, _, _⟩) (v := _) rfl (by kernel_rfl) (by kernel_rfl) (by kernel_rfl) (by kernel_rfl) (fun _ _ _ h => h) (Or.inl ⟨by rfl, fun w' hw' => (by clear hw'; go_simp; try with_reducible rfl)⟩) trivial (fun _ => HU.out) ?_
  try simp only [Act.put, List.setIfInBounds_toArray, List.set_cons_zero, List.set_cons_succ]
  refine anyC_keep (i := 12) (o := ⟨none, _, _, _, _, _⟩) (by kernel_rfl) rfl (fun K hK => ?_)
  rw [if_pos (by rfl)]
  refine wp_store_mid 70 _ _ rfl g 0 (lsC B) rfl rfl (by have h := thereL [] A (B ++ u) HU.out; rw [lsC_size, HL.out.2]; rwa [HL.out.1] at h) (by rw [size70, lsC_size, HL.out.2]) (lsC_one _) ?_
  have H1 : Hid (Lar (w.drew.setCells g 0 (lsC B).toList) g 72 ([] ++ (B ++ (B ++ u)))) := Lib.hid (by have h := Lar.sets B w.drew g 72 [] A (B ++ u) (by rw [HL.out.1, HL.out.2]) HU.out; exact h)
  have O1 : Hid (Only g w (w.drew.setCells g 0 (lsC B).toList)) := Lib.hid (only_sets g _ 0 w _ HO.out)
  refine hK.out _ _ ⟨trivial, fun h => absurd h (by decide)⟩ ?_
  clear hK K
  generalize w.drew.setCells g 0 (lsC B).toList = V at H1 O1 ⊢
  try simp only [Act.put]
  refine anyC_takeS (i := 13) (oi := ⟨some 14, _, _, _, _, _⟩) (v := _) rfl (by kernel_rfl) (by kernel_rfl) (by kernel_rfl) (by kernel_rfl) (fun _ _ _ h => h) (Or.inl ⟨by rfl, fun w' hw' => (by clear hw'; go_simp; try with_reducible rfl)⟩) trivial (fun h => absurd h (by decide)) ?_
  try simp only [Act.put, List.setIfInBounds_toArray, List.set_cons_zero, List.set_cons_succ]
  refine anyC_takeS (i := 14) (oi := ⟨some 15, _, _, _, _, _⟩) (v := _) rfl (by kernel_rfl) (by kernel_rfl) (by kernel_rfl) (by kernel_rfl) (fun _ _ _ h => h) (Or.inl ⟨by rfl, fun w' hw' => (by clear hw'; go_simp; try with_reducible rfl)⟩) trivial (fun h => absurd h (by decide)) ?_
  try simp only [Act.put, List.setIfInBounds_toArray, List.set_cons_zero, List.set_cons_succ]
  refine anyC_keep (i := 15) (o := ⟨none, _, _, _, _, _⟩) (by kernel_rfl) rfl (fun K hK => ?_)
  rw [if_pos (by rfl)]
  refine wp_store_mid 70 _ _ rfl g 10 (lsC A) rfl rfl (by have h := thereL B B u H1.out; rw [lsC_size, HL.out.1]; rwa [HL.out.2] at h) (by rw [size70, lsC_size, HL.out.1]) (lsC_one _) ?_
  have H2 : Hid (Lar (V.setCells g 10 (lsC A).toList) g 72 (B ++ (A ++ u))) := Lib.hid (by have h := Lar.sets A V g 72 B B u (by rw [HL.out.1, HL.out.2]) H1.out; rwa [HL.out.2] at h)
  have O2 : Hid (Only g w (V.setCells g 10 (lsC A).toList)) := Lib.hid (only_sets g _ 10 w _ O1.out)
  refine hK.out _ _ ⟨trivial, fun h => absurd h (by decide)⟩ ?_
  clear hK K
  try simp only [Act.put]
  refine anyC_done (by kernel_rfl) ?_ _
  go_wp2_with fail
  go_end0
  exact ⟨⟨_, rfl⟩, H2.out, O2.out⟩
end Go.Proofs.YtbadiljligcenaaDoor
