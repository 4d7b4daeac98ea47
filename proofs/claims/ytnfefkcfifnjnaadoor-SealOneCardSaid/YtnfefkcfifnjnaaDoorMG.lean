/- Contract of mix. -/
import Derived.Test.YtnfefkcfifnjnaaDoorMF
import Derived.Deep.RegionHeld3
namespace Go.Proofs.YtnfefkcfifnjnaaDoor
open Go.RowKit Go.ChangeShapes
theorem list5 {f : List Nat} (h : f.length = 5) : ∃ a0 a1 a2 a3 a4, f = [a0, a1, a2, a3, a4] := by
  match f, h with
  | [a0, a1, a2, a3, a4], _ => exact ⟨a0, a1, a2, a3, a4, rfl⟩
/-- A block of ten limbs. -/
def Tn (W : World) (g : Nat) (a0 a1 a2 a3 a4 r0 r1 r2 r3 r4 : Nat) : Prop := Lar W g 113 [a0, a1, a2, a3, a4, r0, r1, r2, r3, r4]
theorem Tn.cells {W : World} {g a0 a1 a2 a3 a4 r0 r1 r2 r3 r4 : Nat} (h : Tn W g a0 a1 a2 a3 a4 r0 r1 r2 r3 r4) :
    (W.cell? ⟨g, 0, none⟩ = some (ld a0) ∧ W.cell? ⟨g, 1, none⟩ = some (ld a1) ∧ W.cell? ⟨g, 2, none⟩ = some (ld a2) ∧ W.cell? ⟨g, 3, none⟩ = some (ld a3) ∧ W.cell? ⟨g, 4, none⟩ = some (ld a4)) ∧
    (W.cell? ⟨g, 5, none⟩ = some (ld r0) ∧ W.cell? ⟨g, 6, none⟩ = some (ld r1) ∧ W.cell? ⟨g, 7, none⟩ = some (ld r2) ∧ W.cell? ⟨g, 8, none⟩ = some (ld r3) ∧ W.cell? ⟨g, 9, none⟩ = some (ld r4)) :=
  ⟨⟨Lar.getD h (i := 0) (Nat.lt_of_sub_eq_succ rfl), Lar.getD h (i := 1) (Nat.lt_of_sub_eq_succ rfl), Lar.getD h (i := 2) (Nat.lt_of_sub_eq_succ rfl), Lar.getD h (i := 3) (Nat.lt_of_sub_eq_succ rfl), Lar.getD h (i := 4) (Nat.lt_of_sub_eq_succ rfl)⟩, ⟨Lar.getD h (i := 5) (Nat.lt_of_sub_eq_succ rfl), Lar.getD h (i := 6) (Nat.lt_of_sub_eq_succ rfl), Lar.getD h (i := 7) (Nat.lt_of_sub_eq_succ rfl), Lar.getD h (i := 8) (Nat.lt_of_sub_eq_succ rfl), Lar.getD h (i := 9) (Nat.lt_of_sub_eq_succ rfl)⟩⟩
/-- Five limbs are stored. -/
def put5 (W : World) (g a0 a1 a2 a3 a4 : Nat) : World := ((((W.setCell ⟨g, 0, none⟩ (ld a0)).setCell ⟨g, 1, none⟩ (ld a1)).setCell ⟨g, 2, none⟩ (ld a2)).setCell ⟨g, 3, none⟩ (ld a3)).setCell ⟨g, 4, none⟩ (ld a4)
theorem Tn.put {W : World} {g a0 a1 a2 a3 a4 r0 r1 r2 r3 r4 : Nat} (h : Tn W g a0 a1 a2 a3 a4 r0 r1 r2 r3 r4) (b0 b1 b2 b3 b4 : Nat) : Tn (put5 W g b0 b1 b2 b3 b4) g b0 b1 b2 b3 b4 r0 r1 r2 r3 r4 :=
  ((((Lar.set h 0 b0).set 1 b1).set 2 b2).set 3 b3).set 4 b4
theorem put5_only {W V : World} {g : Nat} (h : Only g W V) (b0 b1 b2 b3 b4 : Nat) : Only g W (put5 V g b0 b1 b2 b3 b4) := ((((h.set 0 _).set 1 _).set 2 _).set 3 _).set 4 _
theorem bel_drew {W W' : World} (h : Below W.drew.heap.size W.drew W') : Below W.heap.size W W' := (Below.refl _ W).drew.trans h
theorem mix_facts (a r x : Nat) (ha : a < two130) (hr : r < two130) (hx : x < two130) :
    (adK (lm a) (lm x) 5).length = 5 ∧ val (adK (lm a) (lm x) 5) = a + x ∧ (∀ y ∈ adK (lm a) (lm x) 5, y ≤ 134217728) ∧ val (lm r) = r ∧ (∀ y ∈ lm r, y ≤ 67108864) := by
  refine ⟨by rw [adK_length, lm_length], ?_, fun y hy => ?_, val_lm r hr, fun y hy => by have := lm_lt r y hy; omega⟩
  · rw [adK_val _ _ _ (by rw [lm_length]; decide), val_lm a ha, List.take_of_length_le (by rw [lm_length]; decide), val_lm x hx]
  · exact adK_le (lm a) (lm x) 5 67108864 67108864 (fun y hy => by have := lm_lt a y hy; omega) (fun y hy => by have := lm_lt x y hy; omega) y hy
theorem limb32 (v : Nat) : ∀ y ∈ lm v, y ≤ 4294967296 := fun y hy => by have := lm_lt v y hy; omega
set_option maxRecDepth 100000 in
set_option maxHeartbeats 8000000 in
theorem mix_any (g a r : Nat) (s : List UInt8) (w : World) (hs : s.length ≤ 16) (ha : a < two130) (hr : r < two130) (hA : Lar w g 113 (lm a ++ lm r)) :
    Calls Tryd.prog 74 #[.pointer (some ⟨g, 0, none⟩), .string (bs s)] w fun e w' => (∃ v, e = .returned v) ∧ Lar w' g 113 (lm ((a + num (s ++ [1])) * r % pP) ++ lm r) ∧ Only g w w' := by
  have hx0 := num_17 s hs
  have h1 : ∀ w, Calls Tryd.prog 93 #[.string (bs s ++ ⟨#[1]⟩)] w fun e w' => e = .returned (nv (num (s ++ [1]))) ∧ Below w.heap.size w w' := fun w => by
    have h := numberOf_any (s ++ [1]) w (by simp; omega)
    rw [show bs (s ++ [1]) = bs s ++ ⟨#[1]⟩ by apply ByteArray.ext; simp [bs]] at h
    exact h
  obtain ⟨x, hx⟩ : ∃ x, num (s ++ [1]) = x := ⟨_, rfl⟩
  obtain ⟨S, hS⟩ : ∃ S, bs s = S := ⟨_, rfl⟩
  rw [hx] at h1 hx0 ⊢
  have hS16 : S.size ≤ 16 := by rw [← hS]; exact hs
  rw [hS] at h1 ⊢
  have hx1 : x < two130 := by unfold two130; omega
  clear hx hS hs
  obtain ⟨f1, f2, f3, f4, f5⟩ := mix_facts a r x ha hr hx1
  have h2 : ∀ w, Lar w g 113 (lm a ++ lm r) → Calls Tryd.prog 95 #[.pointer (some ⟨g, 0, none⟩), nv x] w fun e w' => (∃ v, e = .returned v) ∧ Lar w' g 113 (adK (lm a) (lm x) 5 ++ lm r) ∧ Only g w w' := fun w h =>
    add_any g 113 (lm a) (lm r) (lm x) w (lm_length _) (lm_length _) (limb32 _) (limb32 _) h
  have h3 : ∀ w, Calls Tryd.prog 96 #[.agg (lsC (adK (lm a) (lm x) 5)), .agg (lsC (lm r))] w fun e w' => e = .returned (.agg (lsC (lm ((a + x) * r % pP)))) ∧ Below w.heap.size w w' := fun w => by
    have h := times_any (adK (lm a) (lm x) 5) (lm r) w f1 (lm_length _) f3 f5
    rw [f2, f4] at h
    exact h
  obtain ⟨z, hz⟩ : ∃ z, lm ((a + x) * r % pP) = z := ⟨_, rfl⟩
  have hzl : z.length = 5 := by rw [← hz, lm_length]
  rw [hz] at h3 ⊢
  obtain ⟨u, hu⟩ : ∃ z, adK (lm a) (lm x) 5 = z := ⟨_, rfl⟩
  rw [hu] at h2 h3 f1
  obtain ⟨q, hq⟩ : ∃ z, lm r = z := ⟨_, rfl⟩
  have hql : q.length = 5 := by rw [← hq, lm_length]
  rw [hq] at h2 h3 hA ⊢
  clear hz hu hq f2 f3 f4 f5 hx0 hx1
  obtain ⟨a0, a1, a2, a3, a4, rfl⟩ := list5 f1
  obtain ⟨r0, r1, r2, r3, r4, rfl⟩ := list5 hql
  obtain ⟨b0, b1, b2, b3, b4, rfl⟩ := list5 hzl
  have hgw := hA.lt
  have HA := Lib.hid hA
  have H1 := Lib.hid h1
  have H2 := Lib.hid h2
  have H3 : Hid (∀ w, Calls Tryd.prog 96 #[.agg #[ld a0, ld a1, ld a2, ld a3, ld a4], .agg #[ld r0, ld r1, ld r2, ld r3, ld r4]] w fun e w' => e = .returned (.agg #[ld b0, ld b1, ld b2, ld b3, ld b4]) ∧ Below w.heap.size w w') := Lib.hid h3
  clear hA h1 h2 h3 f1 hql hzl
  go_enter Tryd.func74, Tryd.ntmps74
  go_wp2_with (first | (go_at_call 93; (with_reducible refine (H1.out _).mono ?_); rintro e w1 ⟨rfl, hb1⟩; have hA1 := HA.out.below hb1 hgw) | (go_at_call 95; (with_reducible refine (H2.out _ hA1).mono ?_); rintro e w2 ⟨⟨v, rfl⟩, hA2, hO2⟩))
  have hT : Tn w2 g a0 a1 a2 a3 a4 r0 r1 r2 r3 r4 := hA2
  have hO : Only g w w2 := (Only.of_below hb1).trans hO2
  clear hA2 hO2 hA1 hb1 H1 H2 HA
  have hgz : g < w2.heap.size := hT.lt
  have HT := Lib.hid hT
  have HO := Lib.hid hO
  clear hT hO
  have HU := Lib.hid (Tn.cells (W := World.drew w2) HT.out)
  refine region_anyC (fun _ => True) (fun w' => (w'.cell? ⟨g, 0, none⟩ = some (ld a0) ∧ w'.cell? ⟨g, 1, none⟩ = some (ld a1) ∧ w'.cell? ⟨g, 2, none⟩ = some (ld a2) ∧ w'.cell? ⟨g, 3, none⟩ = some (ld a3) ∧ w'.cell? ⟨g, 4, none⟩ = some (ld a4)) ∧ (w'.cell? ⟨g, 5, none⟩ = some (ld r0) ∧ w'.cell? ⟨g, 6, none⟩ = some (ld r1) ∧ w'.cell? ⟨g, 7, none⟩ = some (ld r2) ∧ w'.cell? ⟨g, 8, none⟩ = some (ld r3) ∧ w'.cell? ⟨g, 9, none⟩ = some (ld r4))) [12] (by kernel_rfl) ?_
  refine anyC_takeS (i := 0) (oi := ⟨some 9, _, _, _, _, _⟩) (v := _) rfl (by kernel_rfl) (by kernel_rfl) (by kernel_rfl) (by kernel_rfl) (fun _ _ _ h => h) (Or.inl ⟨by rfl, fun w' hw' => (by clear hw'; go_simp; try with_reducible rfl)⟩) trivial (fun _ => HU.out) ?_
  try simp only [Act.put, List.setIfInBounds_toArray, List.set_cons_zero, List.set_cons_succ]
  refine anyC_takeS (i := 1) (oi := ⟨some 10, _, _, _, _, _⟩) (v := _) rfl (by kernel_rfl) (by kernel_rfl) (by kernel_rfl) (by kernel_rfl) (fun _ _ _ h => h) (Or.inl ⟨by rfl, fun w' hw' => (by clear hw'; go_simp; try with_reducible rfl)⟩) trivial (fun _ => HU.out) ?_
  try simp only [Act.put, List.setIfInBounds_toArray, List.set_cons_zero, List.set_cons_succ]
  refine anyC_takeS (i := 2) (oi := ⟨some 11, _, _, _, _, _⟩) (v := _) rfl (by kernel_rfl) (by kernel_rfl) (by kernel_rfl) (by kernel_rfl) (fun _ _ _ h => h) (Or.inl ⟨by rfl, fun w' hw' => (by clear hw'; go_simp; try with_reducible rfl)⟩) trivial (fun _ => HU.out) ?_
  try simp only [Act.put, List.setIfInBounds_toArray, List.set_cons_zero, List.set_cons_succ]
  refine anyC_takeS (i := 3) (oi := ⟨some 12, _, _, _, _, _⟩) (v := _) rfl (by kernel_rfl) (by kernel_rfl) (by kernel_rfl) (by kernel_rfl) (fun _ _ _ h => h) (Or.inl ⟨by rfl, fun w' hw' => (by clear hw'; go_simp; try with_reducible rfl)⟩) trivial (fun _ => HU.out) ?_
  try simp only [Act.put, List.setIfInBounds_toArray, List.set_cons_zero, List.set_cons_succ]
  refine anyC_takeU (i := 4) (oi := ⟨some 13, _, _, _, _, _⟩) (v := _) rfl (by kernel_rfl) (by kernel_rfl) (by kernel_rfl) (by kernel_rfl) (fun _ _ _ h => h) (Or.inl ⟨by rfl, fun w' hw' => (by obtain ⟨⟨h0, h1, h2, h3, h4⟩, _⟩ := hw'; go_simp; try with_reducible rfl)⟩) trivial HU.out ?_
  try simp only [Act.put, List.setIfInBounds_toArray, List.set_cons_zero, List.set_cons_succ]
  refine anyC_takeS (i := 5) (oi := ⟨some 14, _, _, _, _, _⟩) (v := _) rfl (by kernel_rfl) (by kernel_rfl) (by kernel_rfl) (by kernel_rfl) (fun _ _ _ h => h) (Or.inl ⟨by rfl, fun w' hw' => (by clear hw'; go_simp; try with_reducible rfl)⟩) trivial (fun _ => HU.out) ?_
  try simp only [Act.put, List.setIfInBounds_toArray, List.set_cons_zero, List.set_cons_succ]
  refine anyC_takeS (i := 6) (oi := ⟨some 15, _, _, _, _, _⟩) (v := _) rfl (by kernel_rfl) (by kernel_rfl) (by kernel_rfl) (by kernel_rfl) (fun _ _ _ h => h) (Or.inl ⟨by rfl, fun w' hw' => (by clear hw'; go_simp; try with_reducible rfl)⟩) trivial (fun _ => HU.out) ?_
  try simp only [Act.put, List.setIfInBounds_toArray, List.set_cons_zero, List.set_cons_succ]
  refine anyC_takeS (i := 7) (oi := ⟨some 16, _, _, _, _, _⟩) (v := _) rfl (by kernel_rfl) (by kernel_rfl) (by kernel_rfl) (by kernel_rfl) (fun _ _ _ h => h) (Or.inl ⟨by rfl, fun w' hw' => (by clear hw'; go_simp; try with_reducible rfl)⟩) trivial (fun _ => HU.out) ?_
  try simp only [Act.put, List.setIfInBounds_toArray, List.set_cons_zero, List.set_cons_succ]
  refine anyC_takeU (i := 8) (oi := ⟨some 17, _, _, _, _, _⟩) (v := _) rfl (by kernel_rfl) (by kernel_rfl) (by kernel_rfl) (by kernel_rfl) (fun _ _ _ h => h) (Or.inl ⟨by rfl, fun w' hw' => (by obtain ⟨_, h0, h1, h2, h3, h4⟩ := hw'; go_simp; try with_reducible rfl)⟩) trivial HU.out ?_
  try simp only [Act.put, List.setIfInBounds_toArray, List.set_cons_zero, List.set_cons_succ]
  refine anyC_keep (i := 9) (o := ⟨some 18, _, _, _, _, _⟩) (by kernel_rfl) rfl (fun K hK => ?_)
  rw [if_pos (by rfl)]
  go_wp2_with (go_at_call 96; (with_reducible refine (H3.out _).mono ?_); rintro e w3 ⟨rfl, hb3⟩)
  have hT3 : Tn w3 g a0 a1 a2 a3 a4 r0 r1 r2 r3 r4 := Lar.below HT.out.drew hb3 hgz
  have HU3 := Lib.hid hT3.cells
  have HT3 := Lib.hid hT3
  have HO3 : Hid (Only g w w3) := Lib.hid (HO.out.drew.trans (Only.of_below hb3))
  clear hT3 hb3
  refine hK.out _ _ ⟨trivial, fun _ => HU3.out⟩ ?_
  clear hK K
  try simp only [Act.put, List.setIfInBounds_toArray, List.set_cons_zero, List.set_cons_succ]
  refine anyC_takeS (i := 10) (oi := ⟨some 19, _, _, _, _, _⟩) (v := _) rfl (by kernel_rfl) (by kernel_rfl) (by kernel_rfl) (by kernel_rfl) (fun _ _ _ h => h) (Or.inl ⟨by rfl, fun w' hw' => (by clear hw'; go_simp; try with_reducible rfl)⟩) trivial (fun _ => HU3.out) ?_
  try simp only [Act.put, List.setIfInBounds_toArray, List.set_cons_zero, List.set_cons_succ]
  refine anyC_takeS (i := 11) (oi := ⟨some 20, _, _, _, _, _⟩) (v := _) rfl (by kernel_rfl) (by kernel_rfl) (by kernel_rfl) (by kernel_rfl) (fun _ _ _ h => h) (Or.inl ⟨by rfl, fun w' hw' => (by clear hw'; go_simp; try with_reducible rfl)⟩) trivial (fun _ => HU3.out) ?_
  try simp only [Act.put, List.setIfInBounds_toArray, List.set_cons_zero, List.set_cons_succ]
  obtain ⟨⟨c0, c1, c2, c3, c4⟩, _⟩ := HU3.out
  have q0 := Lar.free HT3.out 0
  have q1 := Lar.free HT3.out 1
  have q2 := Lar.free HT3.out 2
  have q3 := Lar.free HT3.out 3
  have q4 := Lar.free HT3.out 4
  have HP := Lib.hid (HT3.out.put b0 b1 b2 b3 b4)
  have HQ := Lib.hid (put5_only HO3.out b0 b1 b2 b3 b4)
  refine anyC_keep (i := 12) (o := ⟨none, _, _, _, _, _⟩) (by kernel_rfl) rfl (fun K hK => ?_)
  rw [if_pos (by rfl)]
  go_simp
  refine hK.out _ _ ⟨trivial, fun h => absurd h (by decide)⟩ ?_
  clear hK K c0 c1 c2 c3 c4 q0 q1 q2 q3 q4
  refine anyC_done (by kernel_rfl) ?_ _
  go_wp2
  go_end0
  exact ⟨⟨_, rfl⟩, HP.out, HQ.out⟩
end Go.Proofs.YtnfefkcfifnjnaaDoor
