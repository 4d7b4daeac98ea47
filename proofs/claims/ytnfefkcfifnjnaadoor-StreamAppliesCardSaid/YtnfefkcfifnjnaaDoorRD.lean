/- Contract of the reference's quarter round. -/
import Derived.Test.YtnfefkcfifnjnaaDoorRC
import Derived.Deep.AppendLies
namespace Go.Proofs.YtnfefkcfifnjnaaDoor
open Go.RowKit Go.ChangeShapes

/-- Words lie in block g as numbers, and may be written. -/
def Ri (w : World) (g : Nat) (l : List Nat) : Prop := ∀ j, j < l.length → w.cell? ⟨g, j, none⟩ = some (iv (l.getD j 0)) ∧ w.frozen? ⟨g, j, none⟩ = false
theorem Ri.set {w : World} {g : Nat} {l : List Nat} (h : Ri w g l) (k : Nat) (b : Nat) : Ri (w.setCell ⟨g, k, none⟩ (iv b)) g (l.set k b) := by
  intro j hj
  rw [List.length_set] at hj
  obtain ⟨h1, h2⟩ := h j hj
  by_cases e : k = j
  · subst e
    refine ⟨?_, by rw [World.frozen?_setCell]; exact h2⟩
    rw [World.cell?_setCell_same' _ _ _ (by rw [h1]; rfl), List.getD_eq_getElem?_getD, List.getElem?_set_self hj]; rfl
  · refine ⟨?_, by rw [World.frozen?_setCell]; exact h2⟩
    rw [List.getD_eq_getElem?_getD, List.getElem?_set_ne e, ← List.getD_eq_getElem?_getD, ← h1]
    exact World.cell?_setCell_other _ _ _ _ (by intro h; cases h; exact e rfl)
theorem Ri.below {w V : World} {g : Nat} {l : List Nat} (h : Ri w g l) (hb : Below w.heap.size w V) (hg : g < w.heap.size) : Ri V g l := fun j hj =>
  ⟨(hb.cell (p := ⟨g, j, none⟩) hg).trans (h j hj).1, (hb.frozen (p := ⟨g, j, none⟩) hg).trans (h j hj).2⟩
theorem Ri.lt {w : World} {g : Nat} {l : List Nat} (h : Ri w g l) (hl : 0 < l.length) : g < w.heap.size := by
  have h1 := (h 0 hl).1
  rcases Nat.lt_or_ge g w.heap.size with h2 | h2
  · exact h2
  · unfold World.cell? at h1
    rw [Array.getElem?_eq_none h2] at h1
    simp at h1
/-- Half a quarter round, one word after the other. -/
def hq (l : List Nat) (a b c d k m : Nat) : List Nat :=
  let l1 := l.set a (ad (l.getD a 0) (l.getD b 0))
  let l2 := l1.set d (rotl (l1.getD d 0 ^^^ l1.getD a 0) k)
  let l3 := l2.set c (ad (l2.getD c 0) (l2.getD d 0))
  l3.set b (rotl (l3.getD b 0 ^^^ l3.getD c 0) m)
theorem info3 : (Tryd.prog.info? 3).map (fun i => (i.zero, i.size, i.bytes)) = some (some (.int .i64 0), 1, 8) := by kernel_rfl
def ivC (l : List Nat) : List Value := l.map iv
theorem ivC_length (l : List Nat) : (ivC l).length = l.length := List.length_map ..
theorem ivC_get (l : List Nat) (j : Nat) (h : j < l.length) : (ivC l)[j]? = some (iv (l.getD j 0)) := by simp [ivC, List.getD_eq_getElem?_getD, h]
set_option maxRecDepth 1000000 in
set_option maxHeartbeats 8000000 in
theorem rquarter (l : List Nat) (g cap pa pb pc pd : Nat) (w : World) (hl : l.length = 16) (hW : AllW l) (hA : Ri w g l) (ha : pa < 16) (hb : pb < 16) (hc : pc < 16) (hd : pd < 16) :
    Calls Tryd.prog 67 #[.slice (some ⟨g, 0, none⟩) 16 cap, iv pa, iv pb, iv pc, iv pd] w fun e w' => ∃ G c', e = .returned (.slice (some ⟨G, 0, none⟩) 16 c') ∧ w.heap.size ≤ G ∧ G < w'.heap.size ∧ Ri w' G (hq (hq l pa pb pc pd 16 12) pa pb pc pd 8 7) ∧ Below w.heap.size w w' := by
  obtain ⟨i0, hi, hz0, hz1, hz2⟩ := info_parts info3
  have hcH : ∀ j u, (ivC l)[j]? = some u → w.cell? ((⟨g, 0, none⟩ : Addr).add j) = some u := fun j u hj => by
    have hj8 : j < 16 := by have := (List.getElem?_eq_some_iff.1 hj).1; rw [ivC_length, hl] at this; exact this
    have hadd : (⟨g, 0, none⟩ : Addr).add j = ⟨g, j, none⟩ := by unfold Addr.add; split <;> simp_all
    rw [hadd, (hA j (by omega)).1, ← hj, ivC_get _ _ (by omega)]
  have h1c : ∀ u ∈ ivC l, u.oneCell' = true := fun u hu => by
    obtain ⟨x, _, rfl⟩ := List.mem_map.1 hu
    rfl
  have hl8 : (ivC l).length = 16 * 1 := by rw [ivC_length, hl]
  have HCH := Lib.hid hcH
  have H1C := Lib.hid h1c
  have HL8 := Lib.hid hl8
  have HA := Lib.hid hA
  have HW := Lib.hid hW
  have HL := Lib.hid hl
  have i1 : (pa : Int) < 16 := by omega
  have i2 : (pb : Int) < 16 := by omega
  have i3 : (pc : Int) < 16 := by omega
  have i4 : (pd : Int) < 16 := by omega
  clear hcH h1c hl8 hA hW hl
  go_enter Tryd.func67, Tryd.ntmps67
  go_wp2_with (first | (at_builtin; refine wpList_append_own _ rfl _ _ 70 rfl w.heap.size 3 i0 (.int .i64 0) 1 8 Tryd.underlying70 hi hz0 hz1 hz2 rfl (by decide) (.slice none 0 0) 0 [] rfl (World.ownsRow_nil _ _ _ _) ⟨g, 0, none⟩ 16 cap (ivC l) rfl HL8.out HCH.out H1C.out ?_ ?_ ?_ ?_; (unfold maxLen; omega); omega; omega; intro v2 w3 hown3 hg3 _; simp only [Nat.zero_add, List.nil_append] at hown3; obtain ⟨G, cG, rfl, hBG, hGlt⟩ := hown3.form (by decide : 0 < 16)))
  have hcell : Ri w3 G l := fun j hj => ⟨by rw [hown3.cellAt j (by rw [HL.out] at hj; omega), ivC_get _ _ hj], hown3.frozenAt j⟩
  have hb3 : Below w.heap.size w w3 := (Below.refl _ w).grown hg3 (Nat.le_refl _) (fun _ e => by cases e)
  have hsz := hb3.size
  have hh := alloc_at w3 (.cells #[.int .i64 16, .int .i64 12, .int .i64 8, .int .i64 7] 126)
  have S00 : S4 (w3.alloc (.cells #[.int .i64 16, .int .i64 12, .int .i64 8, .int .i64 7] 126)) w3.heap.size 16 12 8 7 :=
    ⟨cell_of_row _ _ 0 _ 126 (0, 0) hh, cell_of_row _ _ 1 _ 126 (0, 0) hh, cell_of_row _ _ 2 _ 126 (0, 0) hh, cell_of_row _ _ 3 _ 126 (0, 0) hh⟩
  have A00 : Ri (w3.alloc (.cells #[.int .i64 16, .int .i64 12, .int .i64 8, .int .i64 7] 126)) G l := hcell.below ((Below.refl _ w3).alloc (Nat.le_refl _) _) hGlt
  have O00 : Below w.heap.size w (w3.alloc (.cells #[.int .i64 16, .int .i64 12, .int .i64 8, .int .i64 7] 126)) := hb3.alloc hsz _
  have A0 := Lib.hid A00
  have S0 := Lib.hid S00
  have O0 := Lib.hid O00
  have hGD := hGlt
  clear hcell hb3 hsz hh S00 A00 O00 hown3 hg3 HCH H1C HL8 HA
  generalize w3.alloc (.cells #[.int .i64 16, .int .i64 12, .int .i64 8, .int .i64 7] 126) = V at A0 S0 O0 ⊢
  generalize w3.heap.size = D at hGD hGlt S0 ⊢
  go_loopw [13] (fun i wr => ∃ L : List Nat, ((i = .int .i64 0 ∧ L = l) ∨ (i = .int .i64 2 ∧ L = hq l pa pb pc pd 16 12) ∨ (i = .int .i64 4 ∧ L = hq (hq l pa pb pc pd 16 12) pa pb pc pd 8 7)) ∧ Hid (L.length = 16) ∧ Hid (AllW L) ∧ Hid (Ri wr G L) ∧ Hid (S4 wr D 16 12 8 7) ∧ Hid (Below w.heap.size w wr)) (fun i _ => 4 - (intOf i).toNat)
  case atStart => exact ⟨l, Or.inl ⟨rfl, rfl⟩, HL, HW, A0, S0, O0⟩
  case round =>
    clear A0 S0 O0 HL HW
    obtain ⟨L0, hcs, N0, W0, A0, T0, O0⟩ := hrel
    have k1 : IntKind.i64.wrap 1 = 1 := by decide
    have k3 : IntKind.i64.wrap 3 = 3 := by decide
    rcases hcs with ⟨rfl, hE⟩ | ⟨rfl, hE⟩ | ⟨rfl, hE⟩ <;> (have HE := Lib.hid hE; clear hE)
    · go_wp2
      obtain ⟨x0, hx0⟩ : ∃ x, L0.getD pa 0 = x := ⟨_, rfl⟩
      obtain ⟨z0, hz0⟩ : ∃ x, L0.getD pb 0 = x := ⟨_, rfl⟩
      obtain ⟨old0, ho0⟩ : ∃ x, L0.getD pa 0 = x := ⟨_, rfl⟩
      have AD0 : Hid (Ri wr.drew G L0) := Lib.hid (show Ri wr.drew G L0 from A0.out)
      have SD0 : Hid (S4 wr.drew D 16 12 8 7) := Lib.hid (show S4 wr.drew D 16 12 8 7 from T0.out)
      have OD0 := Lib.hid (Below.drew O0.out)
      have u1 := (AD0.out pa (by rw [N0.out]; omega)).1
      have u2 := (AD0.out pb (by rw [N0.out]; omega)).1
      have hc := (AD0.out pa (by rw [N0.out]; omega)).1
      have hf := (AD0.out pa (by rw [N0.out]; omega)).2
      rw [hx0] at u1
      rw [hz0] at u2
      rw [ho0] at hc
      clear ho0
      have b1 := W0.out.get pa
      have b2 := W0.out.get pb
      rw [hx0] at b1
      rw [hz0] at b2
      obtain ⟨y0, hy0⟩ : ∃ y, ad x0 z0 = y := ⟨_, rfl⟩
      have by0 : isW y0 := by rw [← hy0]; exact isW_ad _ _
      have e1 : IntKind.i64.wrap ((x0 : Int) + (z0 : Int)) = (x0 : Int) + (z0 : Int) := IntWalk.i64_in _ (by unfold isW at b1 b2; omega)
      have e2 : ((x0 : Int) + (z0 : Int)).tmod 4294967296 = (y0 : Int) := by rw [← hy0, Int.tmod_eq_emod_of_nonneg (by omega)]; unfold ad; omega
      have e3 : ((x0 : Int) + (z0 : Int)) % 4294967296 = (y0 : Int) := by rw [← hy0]; unfold ad; omega
      obtain ⟨L1, hL0⟩ : ∃ l, L0.set pa y0 = l := ⟨_, rfl⟩
      have N1 : Hid (L1.length = 16) := Lib.hid (by rw [← hL0, List.length_set]; exact N0.out)
      have W1 : Hid (AllW L1) := Lib.hid (by rw [← hL0]; exact W0.out.set pa by0)
      have E1 : Hid (L1 = L0.set pa (ad (L0.getD pa 0) (L0.getD pb 0))) := Lib.hid (by rw [hx0, hz0, hy0, hL0])
      have A1' := AD0.out.set pa y0
      rw [hL0] at A1'
      have A1 := Lib.hid A1'
      clear A1'
      have T1 := Lib.hid (S4.set SD0.out hGD pa (iv y0) : S4 (wr.drew.setCell ⟨G, pa, none⟩ (iv y0)) D 16 12 8 7)
      have O1 := Lib.hid (OD0.out.setCell (p := ⟨G, pa, none⟩) hBG (iv y0))
      have UD0 := Lib.hid (And.intro u1 u2)
      clear u1 u2 hL0 hx0 hz0 by0 AD0 hy0 b1 b2
      refine region_anyC (fun w' => S4 w' D 16 12 8 7) (fun w' => w'.cell? ⟨G, pa, none⟩ = some (iv x0) ∧ w'.cell? ⟨G, pb, none⟩ = some (iv z0)) [13] (by kernel_rfl) ?_
      generalize wr.drew = X0 at SD0 OD0 UD0 hc hf A1 T1 O1 ⊢
      refine anyC_takeS (i := 0) (oi := ⟨some 22, _, _, _, _, _⟩) (v := _) rfl (by kernel_rfl) (by kernel_rfl) (by kernel_rfl) (by kernel_rfl) (fun _ _ _ h => h) (Or.inl ⟨by rfl, fun w' hw' => (by clear hw'; go_simp; try with_reducible rfl)⟩) SD0.out (fun _ => UD0.out) ?_
      try simp only [Act.put, List.setIfInBounds_toArray, List.set_cons_zero, List.set_cons_succ]
      refine anyC_takeS (i := 1) (oi := ⟨some 23, _, _, _, _, _⟩) (v := _) rfl (by kernel_rfl) (by kernel_rfl) (by kernel_rfl) (by kernel_rfl) (fun _ _ _ h => h) (Or.inl ⟨by rfl, fun w' hw' => (by clear hw'; go_simp; try with_reducible rfl)⟩) SD0.out (fun _ => UD0.out) ?_
      try simp only [Act.put, List.setIfInBounds_toArray, List.set_cons_zero, List.set_cons_succ]
      refine anyC_takeS (i := 2) (oi := ⟨some 24, _, _, _, _, _⟩) (v := _) rfl (by kernel_rfl) (by kernel_rfl) (by kernel_rfl) (by kernel_rfl) (fun _ _ _ h => h) (Or.inl ⟨by rfl, fun w' hw' => (by clear hw'; go_simp; try with_reducible rfl)⟩) SD0.out (fun _ => UD0.out) ?_
      try simp only [Act.put, List.setIfInBounds_toArray, List.set_cons_zero, List.set_cons_succ]
      refine anyC_takeS (i := 3) (oi := ⟨some 25, _, _, _, _, _⟩) (v := _) rfl (by kernel_rfl) (by kernel_rfl) (by kernel_rfl) (by kernel_rfl) (fun _ _ _ h => h) (Or.inl ⟨by rfl, fun w' hw' => (by clear hw'; go_simp; try with_reducible rfl)⟩) SD0.out (fun _ => UD0.out) ?_
      try simp only [Act.put, List.setIfInBounds_toArray, List.set_cons_zero, List.set_cons_succ]
      refine anyC_takeS (i := 4) (oi := ⟨some 26, _, _, _, _, _⟩) (v := _) rfl (by kernel_rfl) (by kernel_rfl) (by kernel_rfl) (by kernel_rfl) (fun _ _ _ h => h) (Or.inl ⟨by rfl, fun w' hw' => (by clear hw'; go_simp; try with_reducible rfl)⟩) SD0.out (fun _ => UD0.out) ?_
      try simp only [Act.put, List.setIfInBounds_toArray, List.set_cons_zero, List.set_cons_succ]
      refine anyC_takeU (i := 5) (oi := ⟨some 27, _, _, _, _, _⟩) (v := _) rfl (by kernel_rfl) (by kernel_rfl) (by kernel_rfl) (by kernel_rfl) (fun _ _ _ h => h) (Or.inl ⟨by rfl, fun w' hw' => (by obtain ⟨u1, u2⟩ := hw'; go_simp; try with_reducible rfl)⟩) SD0.out UD0.out ?_
      try simp only [Act.put, List.setIfInBounds_toArray, List.set_cons_zero, List.set_cons_succ]
      refine anyC_takeS (i := 6) (oi := ⟨some 28, _, _, _, _, _⟩) (v := _) rfl (by kernel_rfl) (by kernel_rfl) (by kernel_rfl) (by kernel_rfl) (fun _ _ _ h => h) (Or.inl ⟨by rfl, fun w' hw' => (by clear hw'; go_simp; try with_reducible rfl)⟩) SD0.out (fun _ => UD0.out) ?_
      try simp only [Act.put, List.setIfInBounds_toArray, List.set_cons_zero, List.set_cons_succ]
      refine anyC_takeS (i := 7) (oi := ⟨some 29, _, _, _, _, _⟩) (v := _) rfl (by kernel_rfl) (by kernel_rfl) (by kernel_rfl) (by kernel_rfl) (fun _ _ _ h => h) (Or.inl ⟨by rfl, fun w' hw' => (by clear hw'; go_simp; try with_reducible rfl)⟩) SD0.out (fun _ => UD0.out) ?_
      try simp only [Act.put, List.setIfInBounds_toArray, List.set_cons_zero, List.set_cons_succ]
      refine anyC_takeS (i := 8) (oi := ⟨some 30, _, _, _, _, _⟩) (v := _) rfl (by kernel_rfl) (by kernel_rfl) (by kernel_rfl) (by kernel_rfl) (fun _ _ _ h => h) (Or.inl ⟨by rfl, fun w' hw' => (by clear hw'; go_simp; try with_reducible rfl)⟩) SD0.out (fun _ => UD0.out) ?_
      try simp only [Act.put, List.setIfInBounds_toArray, List.set_cons_zero, List.set_cons_succ]
      refine anyC_takeU (i := 9) (oi := ⟨some 31, _, _, _, _, _⟩) (v := _) rfl (by kernel_rfl) (by kernel_rfl) (by kernel_rfl) (by kernel_rfl) (fun _ _ _ h => h) (Or.inl ⟨by rfl, fun w' hw' => (by obtain ⟨u1, u2⟩ := hw'; go_simp; try with_reducible rfl)⟩) SD0.out UD0.out ?_
      try simp only [Act.put, List.setIfInBounds_toArray, List.set_cons_zero, List.set_cons_succ]
      refine anyC_takeS (i := 10) (oi := ⟨some 32, _, _, _, _, _⟩) (v := _) rfl (by kernel_rfl) (by kernel_rfl) (by kernel_rfl) (by kernel_rfl) (fun _ _ _ h => h) (Or.inl ⟨by rfl, fun w' hw' => (by clear hw'; go_simp; try with_reducible rfl)⟩) SD0.out (fun _ => UD0.out) ?_
      try simp only [Act.put, List.setIfInBounds_toArray, List.set_cons_zero, List.set_cons_succ]
      refine anyC_takeS (i := 11) (oi := ⟨some 33, _, _, _, _, _⟩) (v := _) rfl (by kernel_rfl) (by kernel_rfl) (by kernel_rfl) (by kernel_rfl) (fun _ _ _ h => h) (Or.inl ⟨by rfl, fun w' hw' => (by clear hw'; go_simp; try with_reducible rfl)⟩) SD0.out (fun _ => UD0.out) ?_
      try simp only [Act.put, List.setIfInBounds_toArray, List.set_cons_zero, List.set_cons_succ]
      refine anyC_takeS (i := 12) (oi := ⟨some 34, _, _, _, _, _⟩) (v := _) rfl (by kernel_rfl) (by kernel_rfl) (by kernel_rfl) (by kernel_rfl) (fun _ _ _ h => h) (Or.inl ⟨by rfl, fun w' hw' => (by clear hw'; go_simp; try with_reducible rfl)⟩) SD0.out (fun _ => UD0.out) ?_
      try simp only [Act.put, List.setIfInBounds_toArray, List.set_cons_zero, List.set_cons_succ]
      refine anyC_keep (i := 13) (o := ⟨none, _, _, _, _, _⟩) (by kernel_rfl) rfl (fun K hK => ?_)
      rw [if_pos (by rfl)]
      go_simp
      refine hK.out _ _ ⟨T1.out, fun h => absurd h (by decide)⟩ ?_
      clear hK K
      try simp only [Act.put, List.setIfInBounds_toArray, List.set_cons_zero, List.set_cons_succ]
      generalize X0.setCell ⟨G, pa, none⟩ (iv y0) = V1 at A1 T1 O1 ⊢
      clear hc hf UD0 OD0 SD0 e1 e2 e3
      refine anyC_done (by kernel_rfl) ?_ _
      go_wp2
      obtain ⟨x1, hx1⟩ : ∃ x, L1.getD pd 0 = x := ⟨_, rfl⟩
      obtain ⟨z1, hz1⟩ : ∃ x, L1.getD pa 0 = x := ⟨_, rfl⟩
      obtain ⟨old1, ho1⟩ : ∃ x, L1.getD pd 0 = x := ⟨_, rfl⟩
      have AD1 : Hid (Ri V1.drew G L1) := Lib.hid (show Ri V1.drew G L1 from A1.out)
      have SD1 : Hid (S4 V1.drew D 16 12 8 7) := Lib.hid (show S4 V1.drew D 16 12 8 7 from T1.out)
      have OD1 := Lib.hid (Below.drew O1.out)
      have u1 := (AD1.out pd (by rw [N1.out]; omega)).1
      have u2 := (AD1.out pa (by rw [N1.out]; omega)).1
      have hc := (AD1.out pd (by rw [N1.out]; omega)).1
      have hf := (AD1.out pd (by rw [N1.out]; omega)).2
      rw [hx1] at u1
      rw [hz1] at u2
      rw [ho1] at hc
      clear ho1
      have b1 := W1.out.get pd
      have b2 := W1.out.get pa
      rw [hx1] at b1
      rw [hz1] at b2
      obtain ⟨m1, hm1⟩ : ∃ y, x1 ^^^ z1 = y := ⟨_, rfl⟩
      obtain ⟨y1, hy1⟩ : ∃ y, rotl m1 16 = y := ⟨_, rfl⟩
      have bm : isW m1 := by rw [← hm1]; exact isW_xor b1 b2
      have by1 : isW y1 := by rw [← hy1]; exact isW_rotl bm _
      have HX0 := fun w' => rxor x1 z1 w' b1 b2
      rw [hm1] at HX0
      have HT0 := fun w' => rturned m1 16 w' bm (by decide) (by decide)
      rw [hy1] at HT0
      have HX := Lib.hid HX0
      have HT := Lib.hid HT0
      clear HX0 HT0 bm
      obtain ⟨L2, hL1⟩ : ∃ l, L1.set pd y1 = l := ⟨_, rfl⟩
      have N2 : Hid (L2.length = 16) := Lib.hid (by rw [← hL1, List.length_set]; exact N1.out)
      have W2 : Hid (AllW L2) := Lib.hid (by rw [← hL1]; exact W1.out.set pd by1)
      have E2 : Hid (L2 = L1.set pd (rotl (L1.getD pd 0 ^^^ L1.getD pa 0) 16)) := Lib.hid (by rw [hx1, hz1, hm1, hy1, hL1])
      have A2' := AD1.out.set pd y1
      rw [hL1] at A2'
      have A2 := Lib.hid A2'
      clear A2'
      have T2 := Lib.hid (S4.set SD1.out hGD pd (iv y1) : S4 (V1.drew.setCell ⟨G, pd, none⟩ (iv y1)) D 16 12 8 7)
      have O2 := Lib.hid (OD1.out.setCell (p := ⟨G, pd, none⟩) hBG (iv y1))
      have UD1 := Lib.hid (And.intro u1 u2)
      clear u1 u2 hL1 hx1 hz1 by1 AD1 hm1 hy1 b1 b2
      refine region_anyC (fun w' => S4 w' D 16 12 8 7) (fun w' => w'.cell? ⟨G, pd, none⟩ = some (iv x1) ∧ w'.cell? ⟨G, pa, none⟩ = some (iv z1)) [16] (by kernel_rfl) ?_
      generalize V1.drew = X1 at SD1 OD1 UD1 hc hf A2 T2 O2 ⊢
      refine anyC_takeS (i := 0) (oi := ⟨some 35, _, _, _, _, _⟩) (v := _) rfl (by kernel_rfl) (by kernel_rfl) (by kernel_rfl) (by kernel_rfl) (fun _ _ _ h => h) (Or.inl ⟨by rfl, fun w' hw' => (by clear hw'; go_simp; try with_reducible rfl)⟩) SD1.out (fun _ => UD1.out) ?_
      try simp only [Act.put, List.setIfInBounds_toArray, List.set_cons_zero, List.set_cons_succ]
      refine anyC_takeS (i := 1) (oi := ⟨some 36, _, _, _, _, _⟩) (v := _) rfl (by kernel_rfl) (by kernel_rfl) (by kernel_rfl) (by kernel_rfl) (fun _ _ _ h => h) (Or.inl ⟨by rfl, fun w' hw' => (by clear hw'; go_simp; try with_reducible rfl)⟩) SD1.out (fun _ => UD1.out) ?_
      try simp only [Act.put, List.setIfInBounds_toArray, List.set_cons_zero, List.set_cons_succ]
      refine anyC_takeS (i := 2) (oi := ⟨some 37, _, _, _, _, _⟩) (v := _) rfl (by kernel_rfl) (by kernel_rfl) (by kernel_rfl) (by kernel_rfl) (fun _ _ _ h => h) (Or.inl ⟨by rfl, fun w' hw' => (by clear hw'; go_simp; try with_reducible rfl)⟩) SD1.out (fun _ => UD1.out) ?_
      try simp only [Act.put, List.setIfInBounds_toArray, List.set_cons_zero, List.set_cons_succ]
      refine anyC_takeS (i := 3) (oi := ⟨some 38, _, _, _, _, _⟩) (v := _) rfl (by kernel_rfl) (by kernel_rfl) (by kernel_rfl) (by kernel_rfl) (fun _ _ _ h => h) (Or.inl ⟨by rfl, fun w' hw' => (by clear hw'; go_simp; try with_reducible rfl)⟩) SD1.out (fun _ => UD1.out) ?_
      try simp only [Act.put, List.setIfInBounds_toArray, List.set_cons_zero, List.set_cons_succ]
      refine anyC_takeS (i := 4) (oi := ⟨some 39, _, _, _, _, _⟩) (v := _) rfl (by kernel_rfl) (by kernel_rfl) (by kernel_rfl) (by kernel_rfl) (fun _ _ _ h => h) (Or.inl ⟨by rfl, fun w' hw' => (by clear hw'; go_simp; try with_reducible rfl)⟩) SD1.out (fun _ => UD1.out) ?_
      try simp only [Act.put, List.setIfInBounds_toArray, List.set_cons_zero, List.set_cons_succ]
      refine anyC_takeU (i := 5) (oi := ⟨some 40, _, _, _, _, _⟩) (v := _) rfl (by kernel_rfl) (by kernel_rfl) (by kernel_rfl) (by kernel_rfl) (fun _ _ _ h => h) (Or.inl ⟨by rfl, fun w' hw' => (by obtain ⟨u1, u2⟩ := hw'; go_simp; try with_reducible rfl)⟩) SD1.out UD1.out ?_
      try simp only [Act.put, List.setIfInBounds_toArray, List.set_cons_zero, List.set_cons_succ]
      refine anyC_takeS (i := 6) (oi := ⟨some 41, _, _, _, _, _⟩) (v := _) rfl (by kernel_rfl) (by kernel_rfl) (by kernel_rfl) (by kernel_rfl) (fun _ _ _ h => h) (Or.inl ⟨by rfl, fun w' hw' => (by clear hw'; go_simp; try with_reducible rfl)⟩) SD1.out (fun _ => UD1.out) ?_
      try simp only [Act.put, List.setIfInBounds_toArray, List.set_cons_zero, List.set_cons_succ]
      refine anyC_takeS (i := 7) (oi := ⟨some 42, _, _, _, _, _⟩) (v := _) rfl (by kernel_rfl) (by kernel_rfl) (by kernel_rfl) (by kernel_rfl) (fun _ _ _ h => h) (Or.inl ⟨by rfl, fun w' hw' => (by clear hw'; go_simp; try with_reducible rfl)⟩) SD1.out (fun _ => UD1.out) ?_
      try simp only [Act.put, List.setIfInBounds_toArray, List.set_cons_zero, List.set_cons_succ]
      refine anyC_takeS (i := 8) (oi := ⟨some 43, _, _, _, _, _⟩) (v := _) rfl (by kernel_rfl) (by kernel_rfl) (by kernel_rfl) (by kernel_rfl) (fun _ _ _ h => h) (Or.inl ⟨by rfl, fun w' hw' => (by clear hw'; go_simp; try with_reducible rfl)⟩) SD1.out (fun _ => UD1.out) ?_
      try simp only [Act.put, List.setIfInBounds_toArray, List.set_cons_zero, List.set_cons_succ]
      refine anyC_takeU (i := 9) (oi := ⟨some 44, _, _, _, _, _⟩) (v := _) rfl (by kernel_rfl) (by kernel_rfl) (by kernel_rfl) (by kernel_rfl) (fun _ _ _ h => h) (Or.inl ⟨by rfl, fun w' hw' => (by obtain ⟨u1, u2⟩ := hw'; go_simp; try with_reducible rfl)⟩) SD1.out UD1.out ?_
      try simp only [Act.put, List.setIfInBounds_toArray, List.set_cons_zero, List.set_cons_succ]
      refine anyC_takeS (i := 11) (oi := ⟨some 46, _, _, _, _, _⟩) (v := _) rfl (by kernel_rfl) (by kernel_rfl) (by kernel_rfl) (by kernel_rfl) (fun _ _ _ h => h) (Or.inl ⟨by rfl, fun w' hw' => (by clear hw'; go_simp; try with_reducible rfl)⟩) SD1.out (fun _ => UD1.out) ?_
      try simp only [Act.put, List.setIfInBounds_toArray, List.set_cons_zero, List.set_cons_succ]
      refine anyC_takeS (i := 12) (oi := ⟨some 47, _, _, _, _, _⟩) (v := _) rfl (by kernel_rfl) (by kernel_rfl) (by kernel_rfl) (by kernel_rfl) (fun _ _ _ h => h) (Or.inl ⟨by rfl, fun w' hw' => (by clear hw'; go_simp; try with_reducible rfl)⟩) SD1.out (fun _ => UD1.out) ?_
      try simp only [Act.put, List.setIfInBounds_toArray, List.set_cons_zero, List.set_cons_succ]
      refine anyC_takeS (i := 13) (oi := ⟨some 48, _, _, _, _, _⟩) (v := _) rfl (by kernel_rfl) (by kernel_rfl) (by kernel_rfl) (by kernel_rfl) (fun _ _ _ h => h) (Or.inl ⟨by rfl, fun w' hw' => (by obtain ⟨h0, h1, h2, h3⟩ := hw'; go_simp; try with_reducible rfl)⟩) SD1.out (fun _ => UD1.out) ?_
      try simp only [Act.put, List.setIfInBounds_toArray, List.set_cons_zero, List.set_cons_succ]
      refine anyC_keep (i := 10) (o := ⟨some 45, _, _, _, _, _⟩) (by kernel_rfl) rfl (fun K hK => ?_)
      rw [if_pos (by rfl)]
      go_wp2_with (go_at_call 92; (refine (HX.out _).mono ?_); rintro e V' ⟨rfl, rfl⟩)
      refine hK.out _ _ ⟨SD1.out, fun _ => UD1.out⟩ ?_
      clear hK K
      try simp only [Act.put, List.setIfInBounds_toArray, List.set_cons_zero, List.set_cons_succ]
      refine anyC_keep (i := 14) (o := ⟨some 49, _, _, _, _, _⟩) (by kernel_rfl) rfl (fun K hK => ?_)
      rw [if_pos (by rfl)]
      go_wp2_with (go_at_call 91; (refine (HT.out _).mono ?_); rintro e V' ⟨rfl, rfl⟩)
      refine hK.out _ _ ⟨SD1.out, fun _ => UD1.out⟩ ?_
      clear hK K
      try simp only [Act.put, List.setIfInBounds_toArray, List.set_cons_zero, List.set_cons_succ]
      refine anyC_takeS (i := 15) (oi := ⟨some 50, _, _, _, _, _⟩) (v := _) rfl (by kernel_rfl) (by kernel_rfl) (by kernel_rfl) (by kernel_rfl) (fun _ _ _ h => h) (Or.inl ⟨by rfl, fun w' hw' => (by clear hw'; go_simp; try with_reducible rfl)⟩) SD1.out (fun _ => UD1.out) ?_
      try simp only [Act.put, List.setIfInBounds_toArray, List.set_cons_zero, List.set_cons_succ]
      refine anyC_keep (i := 16) (o := ⟨none, _, _, _, _, _⟩) (by kernel_rfl) rfl (fun K hK => ?_)
      rw [if_pos (by rfl)]
      go_simp
      refine hK.out _ _ ⟨T2.out, fun h => absurd h (by decide)⟩ ?_
      clear hK K
      try simp only [Act.put, List.setIfInBounds_toArray, List.set_cons_zero, List.set_cons_succ]
      generalize X1.setCell ⟨G, pd, none⟩ (iv y1) = V2 at A2 T2 O2 ⊢
      clear hc hf UD1 OD1 SD1 HX HT
      refine anyC_done (by kernel_rfl) ?_ _
      go_wp2
      obtain ⟨x2, hx2⟩ : ∃ x, L2.getD pc 0 = x := ⟨_, rfl⟩
      obtain ⟨z2, hz2⟩ : ∃ x, L2.getD pd 0 = x := ⟨_, rfl⟩
      obtain ⟨old2, ho2⟩ : ∃ x, L2.getD pc 0 = x := ⟨_, rfl⟩
      have AD2 : Hid (Ri V2.drew G L2) := Lib.hid (show Ri V2.drew G L2 from A2.out)
      have SD2 : Hid (S4 V2.drew D 16 12 8 7) := Lib.hid (show S4 V2.drew D 16 12 8 7 from T2.out)
      have OD2 := Lib.hid (Below.drew O2.out)
      have u1 := (AD2.out pc (by rw [N2.out]; omega)).1
      have u2 := (AD2.out pd (by rw [N2.out]; omega)).1
      have hc := (AD2.out pc (by rw [N2.out]; omega)).1
      have hf := (AD2.out pc (by rw [N2.out]; omega)).2
      rw [hx2] at u1
      rw [hz2] at u2
      rw [ho2] at hc
      clear ho2
      have b1 := W2.out.get pc
      have b2 := W2.out.get pd
      rw [hx2] at b1
      rw [hz2] at b2
      obtain ⟨y2, hy2⟩ : ∃ y, ad x2 z2 = y := ⟨_, rfl⟩
      have by2 : isW y2 := by rw [← hy2]; exact isW_ad _ _
      have e1 : IntKind.i64.wrap ((x2 : Int) + (z2 : Int)) = (x2 : Int) + (z2 : Int) := IntWalk.i64_in _ (by unfold isW at b1 b2; omega)
      have e2 : ((x2 : Int) + (z2 : Int)).tmod 4294967296 = (y2 : Int) := by rw [← hy2, Int.tmod_eq_emod_of_nonneg (by omega)]; unfold ad; omega
      have e3 : ((x2 : Int) + (z2 : Int)) % 4294967296 = (y2 : Int) := by rw [← hy2]; unfold ad; omega
      obtain ⟨L3, hL2⟩ : ∃ l, L2.set pc y2 = l := ⟨_, rfl⟩
      have N3 : Hid (L3.length = 16) := Lib.hid (by rw [← hL2, List.length_set]; exact N2.out)
      have W3 : Hid (AllW L3) := Lib.hid (by rw [← hL2]; exact W2.out.set pc by2)
      have E3 : Hid (L3 = L2.set pc (ad (L2.getD pc 0) (L2.getD pd 0))) := Lib.hid (by rw [hx2, hz2, hy2, hL2])
      have A3' := AD2.out.set pc y2
      rw [hL2] at A3'
      have A3 := Lib.hid A3'
      clear A3'
      have T3 := Lib.hid (S4.set SD2.out hGD pc (iv y2) : S4 (V2.drew.setCell ⟨G, pc, none⟩ (iv y2)) D 16 12 8 7)
      have O3 := Lib.hid (OD2.out.setCell (p := ⟨G, pc, none⟩) hBG (iv y2))
      have UD2 := Lib.hid (And.intro u1 u2)
      clear u1 u2 hL2 hx2 hz2 by2 AD2 hy2 b1 b2
      refine region_anyC (fun w' => S4 w' D 16 12 8 7) (fun w' => w'.cell? ⟨G, pc, none⟩ = some (iv x2) ∧ w'.cell? ⟨G, pd, none⟩ = some (iv z2)) [13] (by kernel_rfl) ?_
      generalize V2.drew = X2 at SD2 OD2 UD2 hc hf A3 T3 O3 ⊢
      refine anyC_takeS (i := 0) (oi := ⟨some 51, _, _, _, _, _⟩) (v := _) rfl (by kernel_rfl) (by kernel_rfl) (by kernel_rfl) (by kernel_rfl) (fun _ _ _ h => h) (Or.inl ⟨by rfl, fun w' hw' => (by clear hw'; go_simp; try with_reducible rfl)⟩) SD2.out (fun _ => UD2.out) ?_
      try simp only [Act.put, List.setIfInBounds_toArray, List.set_cons_zero, List.set_cons_succ]
      refine anyC_takeS (i := 1) (oi := ⟨some 52, _, _, _, _, _⟩) (v := _) rfl (by kernel_rfl) (by kernel_rfl) (by kernel_rfl) (by kernel_rfl) (fun _ _ _ h => h) (Or.inl ⟨by rfl, fun w' hw' => (by clear hw'; go_simp; try with_reducible rfl)⟩) SD2.out (fun _ => UD2.out) ?_
      try simp only [Act.put, List.setIfInBounds_toArray, List.set_cons_zero, List.set_cons_succ]
      refine anyC_takeS (i := 2) (oi := ⟨some 53, _, _, _, _, _⟩) (v := _) rfl (by kernel_rfl) (by kernel_rfl) (by kernel_rfl) (by kernel_rfl) (fun _ _ _ h => h) (Or.inl ⟨by rfl, fun w' hw' => (by clear hw'; go_simp; try with_reducible rfl)⟩) SD2.out (fun _ => UD2.out) ?_
      try simp only [Act.put, List.setIfInBounds_toArray, List.set_cons_zero, List.set_cons_succ]
      refine anyC_takeS (i := 3) (oi := ⟨some 54, _, _, _, _, _⟩) (v := _) rfl (by kernel_rfl) (by kernel_rfl) (by kernel_rfl) (by kernel_rfl) (fun _ _ _ h => h) (Or.inl ⟨by rfl, fun w' hw' => (by clear hw'; go_simp; try with_reducible rfl)⟩) SD2.out (fun _ => UD2.out) ?_
      try simp only [Act.put, List.setIfInBounds_toArray, List.set_cons_zero, List.set_cons_succ]
      refine anyC_takeS (i := 4) (oi := ⟨some 55, _, _, _, _, _⟩) (v := _) rfl (by kernel_rfl) (by kernel_rfl) (by kernel_rfl) (by kernel_rfl) (fun _ _ _ h => h) (Or.inl ⟨by rfl, fun w' hw' => (by clear hw'; go_simp; try with_reducible rfl)⟩) SD2.out (fun _ => UD2.out) ?_
      try simp only [Act.put, List.setIfInBounds_toArray, List.set_cons_zero, List.set_cons_succ]
      refine anyC_takeU (i := 5) (oi := ⟨some 56, _, _, _, _, _⟩) (v := _) rfl (by kernel_rfl) (by kernel_rfl) (by kernel_rfl) (by kernel_rfl) (fun _ _ _ h => h) (Or.inl ⟨by rfl, fun w' hw' => (by obtain ⟨u1, u2⟩ := hw'; go_simp; try with_reducible rfl)⟩) SD2.out UD2.out ?_
      try simp only [Act.put, List.setIfInBounds_toArray, List.set_cons_zero, List.set_cons_succ]
      refine anyC_takeS (i := 6) (oi := ⟨some 57, _, _, _, _, _⟩) (v := _) rfl (by kernel_rfl) (by kernel_rfl) (by kernel_rfl) (by kernel_rfl) (fun _ _ _ h => h) (Or.inl ⟨by rfl, fun w' hw' => (by clear hw'; go_simp; try with_reducible rfl)⟩) SD2.out (fun _ => UD2.out) ?_
      try simp only [Act.put, List.setIfInBounds_toArray, List.set_cons_zero, List.set_cons_succ]
      refine anyC_takeS (i := 7) (oi := ⟨some 58, _, _, _, _, _⟩) (v := _) rfl (by kernel_rfl) (by kernel_rfl) (by kernel_rfl) (by kernel_rfl) (fun _ _ _ h => h) (Or.inl ⟨by rfl, fun w' hw' => (by clear hw'; go_simp; try with_reducible rfl)⟩) SD2.out (fun _ => UD2.out) ?_
      try simp only [Act.put, List.setIfInBounds_toArray, List.set_cons_zero, List.set_cons_succ]
      refine anyC_takeS (i := 8) (oi := ⟨some 59, _, _, _, _, _⟩) (v := _) rfl (by kernel_rfl) (by kernel_rfl) (by kernel_rfl) (by kernel_rfl) (fun _ _ _ h => h) (Or.inl ⟨by rfl, fun w' hw' => (by clear hw'; go_simp; try with_reducible rfl)⟩) SD2.out (fun _ => UD2.out) ?_
      try simp only [Act.put, List.setIfInBounds_toArray, List.set_cons_zero, List.set_cons_succ]
      refine anyC_takeU (i := 9) (oi := ⟨some 60, _, _, _, _, _⟩) (v := _) rfl (by kernel_rfl) (by kernel_rfl) (by kernel_rfl) (by kernel_rfl) (fun _ _ _ h => h) (Or.inl ⟨by rfl, fun w' hw' => (by obtain ⟨u1, u2⟩ := hw'; go_simp; try with_reducible rfl)⟩) SD2.out UD2.out ?_
      try simp only [Act.put, List.setIfInBounds_toArray, List.set_cons_zero, List.set_cons_succ]
      refine anyC_takeS (i := 10) (oi := ⟨some 61, _, _, _, _, _⟩) (v := _) rfl (by kernel_rfl) (by kernel_rfl) (by kernel_rfl) (by kernel_rfl) (fun _ _ _ h => h) (Or.inl ⟨by rfl, fun w' hw' => (by clear hw'; go_simp; try with_reducible rfl)⟩) SD2.out (fun _ => UD2.out) ?_
      try simp only [Act.put, List.setIfInBounds_toArray, List.set_cons_zero, List.set_cons_succ]
      refine anyC_takeS (i := 11) (oi := ⟨some 62, _, _, _, _, _⟩) (v := _) rfl (by kernel_rfl) (by kernel_rfl) (by kernel_rfl) (by kernel_rfl) (fun _ _ _ h => h) (Or.inl ⟨by rfl, fun w' hw' => (by clear hw'; go_simp; try with_reducible rfl)⟩) SD2.out (fun _ => UD2.out) ?_
      try simp only [Act.put, List.setIfInBounds_toArray, List.set_cons_zero, List.set_cons_succ]
      refine anyC_takeS (i := 12) (oi := ⟨some 63, _, _, _, _, _⟩) (v := _) rfl (by kernel_rfl) (by kernel_rfl) (by kernel_rfl) (by kernel_rfl) (fun _ _ _ h => h) (Or.inl ⟨by rfl, fun w' hw' => (by clear hw'; go_simp; try with_reducible rfl)⟩) SD2.out (fun _ => UD2.out) ?_
      try simp only [Act.put, List.setIfInBounds_toArray, List.set_cons_zero, List.set_cons_succ]
      refine anyC_keep (i := 13) (o := ⟨none, _, _, _, _, _⟩) (by kernel_rfl) rfl (fun K hK => ?_)
      rw [if_pos (by rfl)]
      go_simp
      refine hK.out _ _ ⟨T3.out, fun h => absurd h (by decide)⟩ ?_
      clear hK K
      try simp only [Act.put, List.setIfInBounds_toArray, List.set_cons_zero, List.set_cons_succ]
      generalize X2.setCell ⟨G, pc, none⟩ (iv y2) = V3 at A3 T3 O3 ⊢
      clear hc hf UD2 OD2 SD2 e1 e2 e3
      refine anyC_done (by kernel_rfl) ?_ _
      go_wp2
      obtain ⟨x3, hx3⟩ : ∃ x, L3.getD pb 0 = x := ⟨_, rfl⟩
      obtain ⟨z3, hz3⟩ : ∃ x, L3.getD pc 0 = x := ⟨_, rfl⟩
      obtain ⟨old3, ho3⟩ : ∃ x, L3.getD pb 0 = x := ⟨_, rfl⟩
      have AD3 : Hid (Ri V3.drew G L3) := Lib.hid (show Ri V3.drew G L3 from A3.out)
      have SD3 : Hid (S4 V3.drew D 16 12 8 7) := Lib.hid (show S4 V3.drew D 16 12 8 7 from T3.out)
      have OD3 := Lib.hid (Below.drew O3.out)
      have u1 := (AD3.out pb (by rw [N3.out]; omega)).1
      have u2 := (AD3.out pc (by rw [N3.out]; omega)).1
      have hc := (AD3.out pb (by rw [N3.out]; omega)).1
      have hf := (AD3.out pb (by rw [N3.out]; omega)).2
      rw [hx3] at u1
      rw [hz3] at u2
      rw [ho3] at hc
      clear ho3
      have b1 := W3.out.get pb
      have b2 := W3.out.get pc
      rw [hx3] at b1
      rw [hz3] at b2
      obtain ⟨m3, hm3⟩ : ∃ y, x3 ^^^ z3 = y := ⟨_, rfl⟩
      obtain ⟨y3, hy3⟩ : ∃ y, rotl m3 12 = y := ⟨_, rfl⟩
      have bm : isW m3 := by rw [← hm3]; exact isW_xor b1 b2
      have by3 : isW y3 := by rw [← hy3]; exact isW_rotl bm _
      have HX0 := fun w' => rxor x3 z3 w' b1 b2
      rw [hm3] at HX0
      have HT0 := fun w' => rturned m3 12 w' bm (by decide) (by decide)
      rw [hy3] at HT0
      have HX := Lib.hid HX0
      have HT := Lib.hid HT0
      clear HX0 HT0 bm
      obtain ⟨L4, hL3⟩ : ∃ l, L3.set pb y3 = l := ⟨_, rfl⟩
      have N4 : Hid (L4.length = 16) := Lib.hid (by rw [← hL3, List.length_set]; exact N3.out)
      have W4 : Hid (AllW L4) := Lib.hid (by rw [← hL3]; exact W3.out.set pb by3)
      have E4 : Hid (L4 = L3.set pb (rotl (L3.getD pb 0 ^^^ L3.getD pc 0) 12)) := Lib.hid (by rw [hx3, hz3, hm3, hy3, hL3])
      have A4' := AD3.out.set pb y3
      rw [hL3] at A4'
      have A4 := Lib.hid A4'
      clear A4'
      have T4 := Lib.hid (S4.set SD3.out hGD pb (iv y3) : S4 (V3.drew.setCell ⟨G, pb, none⟩ (iv y3)) D 16 12 8 7)
      have O4 := Lib.hid (OD3.out.setCell (p := ⟨G, pb, none⟩) hBG (iv y3))
      have UD3 := Lib.hid (And.intro u1 u2)
      clear u1 u2 hL3 hx3 hz3 by3 AD3 hm3 hy3 b1 b2
      refine region_anyC (fun w' => S4 w' D 16 12 8 7) (fun w' => w'.cell? ⟨G, pb, none⟩ = some (iv x3) ∧ w'.cell? ⟨G, pc, none⟩ = some (iv z3)) [17] (by kernel_rfl) ?_
      generalize V3.drew = X3 at SD3 OD3 UD3 hc hf A4 T4 O4 ⊢
      refine anyC_takeS (i := 0) (oi := ⟨some 64, _, _, _, _, _⟩) (v := _) rfl (by kernel_rfl) (by kernel_rfl) (by kernel_rfl) (by kernel_rfl) (fun _ _ _ h => h) (Or.inl ⟨by rfl, fun w' hw' => (by clear hw'; go_simp; try with_reducible rfl)⟩) SD3.out (fun _ => UD3.out) ?_
      try simp only [Act.put, List.setIfInBounds_toArray, List.set_cons_zero, List.set_cons_succ]
      refine anyC_takeS (i := 1) (oi := ⟨some 65, _, _, _, _, _⟩) (v := _) rfl (by kernel_rfl) (by kernel_rfl) (by kernel_rfl) (by kernel_rfl) (fun _ _ _ h => h) (Or.inl ⟨by rfl, fun w' hw' => (by clear hw'; go_simp; try with_reducible rfl)⟩) SD3.out (fun _ => UD3.out) ?_
      try simp only [Act.put, List.setIfInBounds_toArray, List.set_cons_zero, List.set_cons_succ]
      refine anyC_takeS (i := 2) (oi := ⟨some 66, _, _, _, _, _⟩) (v := _) rfl (by kernel_rfl) (by kernel_rfl) (by kernel_rfl) (by kernel_rfl) (fun _ _ _ h => h) (Or.inl ⟨by rfl, fun w' hw' => (by clear hw'; go_simp; try with_reducible rfl)⟩) SD3.out (fun _ => UD3.out) ?_
      try simp only [Act.put, List.setIfInBounds_toArray, List.set_cons_zero, List.set_cons_succ]
      refine anyC_takeS (i := 3) (oi := ⟨some 67, _, _, _, _, _⟩) (v := _) rfl (by kernel_rfl) (by kernel_rfl) (by kernel_rfl) (by kernel_rfl) (fun _ _ _ h => h) (Or.inl ⟨by rfl, fun w' hw' => (by clear hw'; go_simp; try with_reducible rfl)⟩) SD3.out (fun _ => UD3.out) ?_
      try simp only [Act.put, List.setIfInBounds_toArray, List.set_cons_zero, List.set_cons_succ]
      refine anyC_takeS (i := 4) (oi := ⟨some 68, _, _, _, _, _⟩) (v := _) rfl (by kernel_rfl) (by kernel_rfl) (by kernel_rfl) (by kernel_rfl) (fun _ _ _ h => h) (Or.inl ⟨by rfl, fun w' hw' => (by clear hw'; go_simp; try with_reducible rfl)⟩) SD3.out (fun _ => UD3.out) ?_
      try simp only [Act.put, List.setIfInBounds_toArray, List.set_cons_zero, List.set_cons_succ]
      refine anyC_takeU (i := 5) (oi := ⟨some 69, _, _, _, _, _⟩) (v := _) rfl (by kernel_rfl) (by kernel_rfl) (by kernel_rfl) (by kernel_rfl) (fun _ _ _ h => h) (Or.inl ⟨by rfl, fun w' hw' => (by obtain ⟨u1, u2⟩ := hw'; go_simp; try with_reducible rfl)⟩) SD3.out UD3.out ?_
      try simp only [Act.put, List.setIfInBounds_toArray, List.set_cons_zero, List.set_cons_succ]
      refine anyC_takeS (i := 6) (oi := ⟨some 70, _, _, _, _, _⟩) (v := _) rfl (by kernel_rfl) (by kernel_rfl) (by kernel_rfl) (by kernel_rfl) (fun _ _ _ h => h) (Or.inl ⟨by rfl, fun w' hw' => (by clear hw'; go_simp; try with_reducible rfl)⟩) SD3.out (fun _ => UD3.out) ?_
      try simp only [Act.put, List.setIfInBounds_toArray, List.set_cons_zero, List.set_cons_succ]
      refine anyC_takeS (i := 7) (oi := ⟨some 71, _, _, _, _, _⟩) (v := _) rfl (by kernel_rfl) (by kernel_rfl) (by kernel_rfl) (by kernel_rfl) (fun _ _ _ h => h) (Or.inl ⟨by rfl, fun w' hw' => (by clear hw'; go_simp; try with_reducible rfl)⟩) SD3.out (fun _ => UD3.out) ?_
      try simp only [Act.put, List.setIfInBounds_toArray, List.set_cons_zero, List.set_cons_succ]
      refine anyC_takeS (i := 8) (oi := ⟨some 72, _, _, _, _, _⟩) (v := _) rfl (by kernel_rfl) (by kernel_rfl) (by kernel_rfl) (by kernel_rfl) (fun _ _ _ h => h) (Or.inl ⟨by rfl, fun w' hw' => (by clear hw'; go_simp; try with_reducible rfl)⟩) SD3.out (fun _ => UD3.out) ?_
      try simp only [Act.put, List.setIfInBounds_toArray, List.set_cons_zero, List.set_cons_succ]
      refine anyC_takeU (i := 9) (oi := ⟨some 73, _, _, _, _, _⟩) (v := _) rfl (by kernel_rfl) (by kernel_rfl) (by kernel_rfl) (by kernel_rfl) (fun _ _ _ h => h) (Or.inl ⟨by rfl, fun w' hw' => (by obtain ⟨u1, u2⟩ := hw'; go_simp; try with_reducible rfl)⟩) SD3.out UD3.out ?_
      try simp only [Act.put, List.setIfInBounds_toArray, List.set_cons_zero, List.set_cons_succ]
      refine anyC_takeS (i := 11) (oi := ⟨some 75, _, _, _, _, _⟩) (v := _) rfl (by kernel_rfl) (by kernel_rfl) (by kernel_rfl) (by kernel_rfl) (fun _ _ _ h => h) (Or.inl ⟨by rfl, fun w' hw' => (by clear hw'; go_simp; try with_reducible rfl)⟩) SD3.out (fun _ => UD3.out) ?_
      try simp only [Act.put, List.setIfInBounds_toArray, List.set_cons_zero, List.set_cons_succ]
      refine anyC_takeS (i := 12) (oi := ⟨some 76, _, _, _, _, _⟩) (v := _) rfl (by kernel_rfl) (by kernel_rfl) (by kernel_rfl) (by kernel_rfl) (fun _ _ _ h => h) (Or.inl ⟨by rfl, fun w' hw' => (by clear hw'; go_simp; try with_reducible rfl)⟩) SD3.out (fun _ => UD3.out) ?_
      try simp only [Act.put, List.setIfInBounds_toArray, List.set_cons_zero, List.set_cons_succ]
      refine anyC_takeS (i := 13) (oi := ⟨some 77, _, _, _, _, _⟩) (v := _) rfl (by kernel_rfl) (by kernel_rfl) (by kernel_rfl) (by kernel_rfl) (fun _ _ _ h => h) (Or.inl ⟨by rfl, fun w' hw' => (by clear hw'; go_simp; try with_reducible rfl)⟩) SD3.out (fun _ => UD3.out) ?_
      try simp only [Act.put, List.setIfInBounds_toArray, List.set_cons_zero, List.set_cons_succ]
      refine anyC_takeS (i := 14) (oi := ⟨some 78, _, _, _, _, _⟩) (v := _) rfl (by kernel_rfl) (by kernel_rfl) (by kernel_rfl) (by kernel_rfl) (fun _ _ _ h => h) (Or.inl ⟨by rfl, fun w' hw' => (by obtain ⟨h0, h1, h2, h3⟩ := hw'; go_simp; try with_reducible rfl)⟩) SD3.out (fun _ => UD3.out) ?_
      try simp only [Act.put, List.setIfInBounds_toArray, List.set_cons_zero, List.set_cons_succ]
      refine anyC_keep (i := 10) (o := ⟨some 74, _, _, _, _, _⟩) (by kernel_rfl) rfl (fun K hK => ?_)
      rw [if_pos (by rfl)]
      go_wp2_with (go_at_call 92; (refine (HX.out _).mono ?_); rintro e V' ⟨rfl, rfl⟩)
      refine hK.out _ _ ⟨SD3.out, fun _ => UD3.out⟩ ?_
      clear hK K
      try simp only [Act.put, List.setIfInBounds_toArray, List.set_cons_zero, List.set_cons_succ]
      refine anyC_keep (i := 15) (o := ⟨some 79, _, _, _, _, _⟩) (by kernel_rfl) rfl (fun K hK => ?_)
      rw [if_pos (by rfl)]
      go_wp2_with (go_at_call 91; (refine (HT.out _).mono ?_); rintro e V' ⟨rfl, rfl⟩)
      refine hK.out _ _ ⟨SD3.out, fun _ => UD3.out⟩ ?_
      clear hK K
      try simp only [Act.put, List.setIfInBounds_toArray, List.set_cons_zero, List.set_cons_succ]
      refine anyC_takeS (i := 16) (oi := ⟨some 80, _, _, _, _, _⟩) (v := _) rfl (by kernel_rfl) (by kernel_rfl) (by kernel_rfl) (by kernel_rfl) (fun _ _ _ h => h) (Or.inl ⟨by rfl, fun w' hw' => (by clear hw'; go_simp; try with_reducible rfl)⟩) SD3.out (fun _ => UD3.out) ?_
      try simp only [Act.put, List.setIfInBounds_toArray, List.set_cons_zero, List.set_cons_succ]
      refine anyC_keep (i := 17) (o := ⟨none, _, _, _, _, _⟩) (by kernel_rfl) rfl (fun K hK => ?_)
      rw [if_pos (by rfl)]
      go_simp
      refine hK.out _ _ ⟨T4.out, fun h => absurd h (by decide)⟩ ?_
      clear hK K
      try simp only [Act.put, List.setIfInBounds_toArray, List.set_cons_zero, List.set_cons_succ]
      generalize X3.setCell ⟨G, pb, none⟩ (iv y3) = V4 at A4 T4 O4 ⊢
      clear hc hf UD3 OD3 SD3 HX HT
      refine anyC_done (by kernel_rfl) ?_ _
      go_wp2
      go_roundw
      case rel => exact ⟨L4, Or.inr (Or.inl ⟨by first | rfl | go_num, by rw [E4.out, E3.out, E2.out, E1.out, HE.out]; rfl⟩), N4, W4, A4, T4, O4⟩
      case measure => simp [intOf]
    · go_wp2
      obtain ⟨x0, hx0⟩ : ∃ x, L0.getD pa 0 = x := ⟨_, rfl⟩
      obtain ⟨z0, hz0⟩ : ∃ x, L0.getD pb 0 = x := ⟨_, rfl⟩
      obtain ⟨old0, ho0⟩ : ∃ x, L0.getD pa 0 = x := ⟨_, rfl⟩
      have AD0 : Hid (Ri wr.drew G L0) := Lib.hid (show Ri wr.drew G L0 from A0.out)
      have SD0 : Hid (S4 wr.drew D 16 12 8 7) := Lib.hid (show S4 wr.drew D 16 12 8 7 from T0.out)
      have OD0 := Lib.hid (Below.drew O0.out)
      have u1 := (AD0.out pa (by rw [N0.out]; omega)).1
      have u2 := (AD0.out pb (by rw [N0.out]; omega)).1
      have hc := (AD0.out pa (by rw [N0.out]; omega)).1
      have hf := (AD0.out pa (by rw [N0.out]; omega)).2
      rw [hx0] at u1
      rw [hz0] at u2
      rw [ho0] at hc
      clear ho0
      have b1 := W0.out.get pa
      have b2 := W0.out.get pb
      rw [hx0] at b1
      rw [hz0] at b2
      obtain ⟨y0, hy0⟩ : ∃ y, ad x0 z0 = y := ⟨_, rfl⟩
      have by0 : isW y0 := by rw [← hy0]; exact isW_ad _ _
      have e1 : IntKind.i64.wrap ((x0 : Int) + (z0 : Int)) = (x0 : Int) + (z0 : Int) := IntWalk.i64_in _ (by unfold isW at b1 b2; omega)
      have e2 : ((x0 : Int) + (z0 : Int)).tmod 4294967296 = (y0 : Int) := by rw [← hy0, Int.tmod_eq_emod_of_nonneg (by omega)]; unfold ad; omega
      have e3 : ((x0 : Int) + (z0 : Int)) % 4294967296 = (y0 : Int) := by rw [← hy0]; unfold ad; omega
      obtain ⟨L1, hL0⟩ : ∃ l, L0.set pa y0 = l := ⟨_, rfl⟩
      have N1 : Hid (L1.length = 16) := Lib.hid (by rw [← hL0, List.length_set]; exact N0.out)
      have W1 : Hid (AllW L1) := Lib.hid (by rw [← hL0]; exact W0.out.set pa by0)
      have E1 : Hid (L1 = L0.set pa (ad (L0.getD pa 0) (L0.getD pb 0))) := Lib.hid (by rw [hx0, hz0, hy0, hL0])
      have A1' := AD0.out.set pa y0
      rw [hL0] at A1'
      have A1 := Lib.hid A1'
      clear A1'
      have T1 := Lib.hid (S4.set SD0.out hGD pa (iv y0) : S4 (wr.drew.setCell ⟨G, pa, none⟩ (iv y0)) D 16 12 8 7)
      have O1 := Lib.hid (OD0.out.setCell (p := ⟨G, pa, none⟩) hBG (iv y0))
      have UD0 := Lib.hid (And.intro u1 u2)
      clear u1 u2 hL0 hx0 hz0 by0 AD0 hy0 b1 b2
      refine region_anyC (fun w' => S4 w' D 16 12 8 7) (fun w' => w'.cell? ⟨G, pa, none⟩ = some (iv x0) ∧ w'.cell? ⟨G, pb, none⟩ = some (iv z0)) [13] (by kernel_rfl) ?_
      generalize wr.drew = X0 at SD0 OD0 UD0 hc hf A1 T1 O1 ⊢
      refine anyC_takeS (i := 0) (oi := ⟨some 22, _, _, _, _, _⟩) (v := _) rfl (by kernel_rfl) (by kernel_rfl) (by kernel_rfl) (by kernel_rfl) (fun _ _ _ h => h) (Or.inl ⟨by rfl, fun w' hw' => (by clear hw'; go_simp; try with_reducible rfl)⟩) SD0.out (fun _ => UD0.out) ?_
      try simp only [Act.put, List.setIfInBounds_toArray, List.set_cons_zero, List.set_cons_succ]
      refine anyC_takeS (i := 1) (oi := ⟨some 23, _, _, _, _, _⟩) (v := _) rfl (by kernel_rfl) (by kernel_rfl) (by kernel_rfl) (by kernel_rfl) (fun _ _ _ h => h) (Or.inl ⟨by rfl, fun w' hw' => (by clear hw'; go_simp; try with_reducible rfl)⟩) SD0.out (fun _ => UD0.out) ?_
      try simp only [Act.put, List.setIfInBounds_toArray, List.set_cons_zero, List.set_cons_succ]
      refine anyC_takeS (i := 2) (oi := ⟨some 24, _, _, _, _, _⟩) (v := _) rfl (by kernel_rfl) (by kernel_rfl) (by kernel_rfl) (by kernel_rfl) (fun _ _ _ h => h) (Or.inl ⟨by rfl, fun w' hw' => (by clear hw'; go_simp; try with_reducible rfl)⟩) SD0.out (fun _ => UD0.out) ?_
      try simp only [Act.put, List.setIfInBounds_toArray, List.set_cons_zero, List.set_cons_succ]
      refine anyC_takeS (i := 3) (oi := ⟨some 25, _, _, _, _, _⟩) (v := _) rfl (by kernel_rfl) (by kernel_rfl) (by kernel_rfl) (by kernel_rfl) (fun _ _ _ h => h) (Or.inl ⟨by rfl, fun w' hw' => (by clear hw'; go_simp; try with_reducible rfl)⟩) SD0.out (fun _ => UD0.out) ?_
      try simp only [Act.put, List.setIfInBounds_toArray, List.set_cons_zero, List.set_cons_succ]
      refine anyC_takeS (i := 4) (oi := ⟨some 26, _, _, _, _, _⟩) (v := _) rfl (by kernel_rfl) (by kernel_rfl) (by kernel_rfl) (by kernel_rfl) (fun _ _ _ h => h) (Or.inl ⟨by rfl, fun w' hw' => (by clear hw'; go_simp; try with_reducible rfl)⟩) SD0.out (fun _ => UD0.out) ?_
      try simp only [Act.put, List.setIfInBounds_toArray, List.set_cons_zero, List.set_cons_succ]
      refine anyC_takeU (i := 5) (oi := ⟨some 27, _, _, _, _, _⟩) (v := _) rfl (by kernel_rfl) (by kernel_rfl) (by kernel_rfl) (by kernel_rfl) (fun _ _ _ h => h) (Or.inl ⟨by rfl, fun w' hw' => (by obtain ⟨u1, u2⟩ := hw'; go_simp; try with_reducible rfl)⟩) SD0.out UD0.out ?_
      try simp only [Act.put, List.setIfInBounds_toArray, List.set_cons_zero, List.set_cons_succ]
      refine anyC_takeS (i := 6) (oi := ⟨some 28, _, _, _, _, _⟩) (v := _) rfl (by kernel_rfl) (by kernel_rfl) (by kernel_rfl) (by kernel_rfl) (fun _ _ _ h => h) (Or.inl ⟨by rfl, fun w' hw' => (by clear hw'; go_simp; try with_reducible rfl)⟩) SD0.out (fun _ => UD0.out) ?_
      try simp only [Act.put, List.setIfInBounds_toArray, List.set_cons_zero, List.set_cons_succ]
      refine anyC_takeS (i := 7) (oi := ⟨some 29, _, _, _, _, _⟩) (v := _) rfl (by kernel_rfl) (by kernel_rfl) (by kernel_rfl) (by kernel_rfl) (fun _ _ _ h => h) (Or.inl ⟨by rfl, fun w' hw' => (by clear hw'; go_simp; try with_reducible rfl)⟩) SD0.out (fun _ => UD0.out) ?_
      try simp only [Act.put, List.setIfInBounds_toArray, List.set_cons_zero, List.set_cons_succ]
      refine anyC_takeS (i := 8) (oi := ⟨some 30, _, _, _, _, _⟩) (v := _) rfl (by kernel_rfl) (by kernel_rfl) (by kernel_rfl) (by kernel_rfl) (fun _ _ _ h => h) (Or.inl ⟨by rfl, fun w' hw' => (by clear hw'; go_simp; try with_reducible rfl)⟩) SD0.out (fun _ => UD0.out) ?_
      try simp only [Act.put, List.setIfInBounds_toArray, List.set_cons_zero, List.set_cons_succ]
      refine anyC_takeU (i := 9) (oi := ⟨some 31, _, _, _, _, _⟩) (v := _) rfl (by kernel_rfl) (by kernel_rfl) (by kernel_rfl) (by kernel_rfl) (fun _ _ _ h => h) (Or.inl ⟨by rfl, fun w' hw' => (by obtain ⟨u1, u2⟩ := hw'; go_simp; try with_reducible rfl)⟩) SD0.out UD0.out ?_
      try simp only [Act.put, List.setIfInBounds_toArray, List.set_cons_zero, List.set_cons_succ]
      refine anyC_takeS (i := 10) (oi := ⟨some 32, _, _, _, _, _⟩) (v := _) rfl (by kernel_rfl) (by kernel_rfl) (by kernel_rfl) (by kernel_rfl) (fun _ _ _ h => h) (Or.inl ⟨by rfl, fun w' hw' => (by clear hw'; go_simp; try with_reducible rfl)⟩) SD0.out (fun _ => UD0.out) ?_
      try simp only [Act.put, List.setIfInBounds_toArray, List.set_cons_zero, List.set_cons_succ]
      refine anyC_takeS (i := 11) (oi := ⟨some 33, _, _, _, _, _⟩) (v := _) rfl (by kernel_rfl) (by kernel_rfl) (by kernel_rfl) (by kernel_rfl) (fun _ _ _ h => h) (Or.inl ⟨by rfl, fun w' hw' => (by clear hw'; go_simp; try with_reducible rfl)⟩) SD0.out (fun _ => UD0.out) ?_
      try simp only [Act.put, List.setIfInBounds_toArray, List.set_cons_zero, List.set_cons_succ]
      refine anyC_takeS (i := 12) (oi := ⟨some 34, _, _, _, _, _⟩) (v := _) rfl (by kernel_rfl) (by kernel_rfl) (by kernel_rfl) (by kernel_rfl) (fun _ _ _ h => h) (Or.inl ⟨by rfl, fun w' hw' => (by clear hw'; go_simp; try with_reducible rfl)⟩) SD0.out (fun _ => UD0.out) ?_
      try simp only [Act.put, List.setIfInBounds_toArray, List.set_cons_zero, List.set_cons_succ]
      refine anyC_keep (i := 13) (o := ⟨none, _, _, _, _, _⟩) (by kernel_rfl) rfl (fun K hK => ?_)
      rw [if_pos (by rfl)]
      go_simp
      refine hK.out _ _ ⟨T1.out, fun h => absurd h (by decide)⟩ ?_
      clear hK K
      try simp only [Act.put, List.setIfInBounds_toArray, List.set_cons_zero, List.set_cons_succ]
      generalize X0.setCell ⟨G, pa, none⟩ (iv y0) = V1 at A1 T1 O1 ⊢
      clear hc hf UD0 OD0 SD0 e1 e2 e3
      refine anyC_done (by kernel_rfl) ?_ _
      go_wp2
      obtain ⟨x1, hx1⟩ : ∃ x, L1.getD pd 0 = x := ⟨_, rfl⟩
      obtain ⟨z1, hz1⟩ : ∃ x, L1.getD pa 0 = x := ⟨_, rfl⟩
      obtain ⟨old1, ho1⟩ : ∃ x, L1.getD pd 0 = x := ⟨_, rfl⟩
      have AD1 : Hid (Ri V1.drew G L1) := Lib.hid (show Ri V1.drew G L1 from A1.out)
      have SD1 : Hid (S4 V1.drew D 16 12 8 7) := Lib.hid (show S4 V1.drew D 16 12 8 7 from T1.out)
      have OD1 := Lib.hid (Below.drew O1.out)
      have u1 := (AD1.out pd (by rw [N1.out]; omega)).1
      have u2 := (AD1.out pa (by rw [N1.out]; omega)).1
      have hc := (AD1.out pd (by rw [N1.out]; omega)).1
      have hf := (AD1.out pd (by rw [N1.out]; omega)).2
      rw [hx1] at u1
      rw [hz1] at u2
      rw [ho1] at hc
      clear ho1
      have b1 := W1.out.get pd
      have b2 := W1.out.get pa
      rw [hx1] at b1
      rw [hz1] at b2
      obtain ⟨m1, hm1⟩ : ∃ y, x1 ^^^ z1 = y := ⟨_, rfl⟩
      obtain ⟨y1, hy1⟩ : ∃ y, rotl m1 8 = y := ⟨_, rfl⟩
      have bm : isW m1 := by rw [← hm1]; exact isW_xor b1 b2
      have by1 : isW y1 := by rw [← hy1]; exact isW_rotl bm _
      have HX0 := fun w' => rxor x1 z1 w' b1 b2
      rw [hm1] at HX0
      have HT0 := fun w' => rturned m1 8 w' bm (by decide) (by decide)
      rw [hy1] at HT0
      have HX := Lib.hid HX0
      have HT := Lib.hid HT0
      clear HX0 HT0 bm
      obtain ⟨L2, hL1⟩ : ∃ l, L1.set pd y1 = l := ⟨_, rfl⟩
      have N2 : Hid (L2.length = 16) := Lib.hid (by rw [← hL1, List.length_set]; exact N1.out)
      have W2 : Hid (AllW L2) := Lib.hid (by rw [← hL1]; exact W1.out.set pd by1)
      have E2 : Hid (L2 = L1.set pd (rotl (L1.getD pd 0 ^^^ L1.getD pa 0) 8)) := Lib.hid (by rw [hx1, hz1, hm1, hy1, hL1])
      have A2' := AD1.out.set pd y1
      rw [hL1] at A2'
      have A2 := Lib.hid A2'
      clear A2'
      have T2 := Lib.hid (S4.set SD1.out hGD pd (iv y1) : S4 (V1.drew.setCell ⟨G, pd, none⟩ (iv y1)) D 16 12 8 7)
      have O2 := Lib.hid (OD1.out.setCell (p := ⟨G, pd, none⟩) hBG (iv y1))
      have UD1 := Lib.hid (And.intro u1 u2)
      clear u1 u2 hL1 hx1 hz1 by1 AD1 hm1 hy1 b1 b2
      refine region_anyC (fun w' => S4 w' D 16 12 8 7) (fun w' => w'.cell? ⟨G, pd, none⟩ = some (iv x1) ∧ w'.cell? ⟨G, pa, none⟩ = some (iv z1)) [16] (by kernel_rfl) ?_
      generalize V1.drew = X1 at SD1 OD1 UD1 hc hf A2 T2 O2 ⊢
      refine anyC_takeS (i := 0) (oi := ⟨some 35, _, _, _, _, _⟩) (v := _) rfl (by kernel_rfl) (by kernel_rfl) (by kernel_rfl) (by kernel_rfl) (fun _ _ _ h => h) (Or.inl ⟨by rfl, fun w' hw' => (by clear hw'; go_simp; try with_reducible rfl)⟩) SD1.out (fun _ => UD1.out) ?_
      try simp only [Act.put, List.setIfInBounds_toArray, List.set_cons_zero, List.set_cons_succ]
      refine anyC_takeS (i := 1) (oi := ⟨some 36, _, _, _, _, _⟩) (v := _) rfl (by kernel_rfl) (by kernel_rfl) (by kernel_rfl) (by kernel_rfl) (fun _ _ _ h => h) (Or.inl ⟨by rfl, fun w' hw' => (by clear hw'; go_simp; try with_reducible rfl)⟩) SD1.out (fun _ => UD1.out) ?_
      try simp only [Act.put, List.setIfInBounds_toArray, List.set_cons_zero, List.set_cons_succ]
      refine anyC_takeS (i := 2) (oi := ⟨some 37, _, _, _, _, _⟩) (v := _) rfl (by kernel_rfl) (by kernel_rfl) (by kernel_rfl) (by kernel_rfl) (fun _ _ _ h => h) (Or.inl ⟨by rfl, fun w' hw' => (by clear hw'; go_simp; try with_reducible rfl)⟩) SD1.out (fun _ => UD1.out) ?_
      try simp only [Act.put, List.setIfInBounds_toArray, List.set_cons_zero, List.set_cons_succ]
      refine anyC_takeS (i := 3) (oi := ⟨some 38, _, _, _, _, _⟩) (v := _) rfl (by kernel_rfl) (by kernel_rfl) (by kernel_rfl) (by kernel_rfl) (fun _ _ _ h => h) (Or.inl ⟨by rfl, fun w' hw' => (by clear hw'; go_simp; try with_reducible rfl)⟩) SD1.out (fun _ => UD1.out) ?_
      try simp only [Act.put, List.setIfInBounds_toArray, List.set_cons_zero, List.set_cons_succ]
      refine anyC_takeS (i := 4) (oi := ⟨some 39, _, _, _, _, _⟩) (v := _) rfl (by kernel_rfl) (by kernel_rfl) (by kernel_rfl) (by kernel_rfl) (fun _ _ _ h => h) (Or.inl ⟨by rfl, fun w' hw' => (by clear hw'; go_simp; try with_reducible rfl)⟩) SD1.out (fun _ => UD1.out) ?_
      try simp only [Act.put, List.setIfInBounds_toArray, List.set_cons_zero, List.set_cons_succ]
      refine anyC_takeU (i := 5) (oi := ⟨some 40, _, _, _, _, _⟩) (v := _) rfl (by kernel_rfl) (by kernel_rfl) (by kernel_rfl) (by kernel_rfl) (fun _ _ _ h => h) (Or.inl ⟨by rfl, fun w' hw' => (by obtain ⟨u1, u2⟩ := hw'; go_simp; try with_reducible rfl)⟩) SD1.out UD1.out ?_
      try simp only [Act.put, List.setIfInBounds_toArray, List.set_cons_zero, List.set_cons_succ]
      refine anyC_takeS (i := 6) (oi := ⟨some 41, _, _, _, _, _⟩) (v := _) rfl (by kernel_rfl) (by kernel_rfl) (by kernel_rfl) (by kernel_rfl) (fun _ _ _ h => h) (Or.inl ⟨by rfl, fun w' hw' => (by clear hw'; go_simp; try with_reducible rfl)⟩) SD1.out (fun _ => UD1.out) ?_
      try simp only [Act.put, List.setIfInBounds_toArray, List.set_cons_zero, List.set_cons_succ]
      refine anyC_takeS (i := 7) (oi := ⟨some 42, _, _, _, _, _⟩) (v := _) rfl (by kernel_rfl) (by kernel_rfl) (by kernel_rfl) (by kernel_rfl) (fun _ _ _ h => h) (Or.inl ⟨by rfl, fun w' hw' => (by clear hw'; go_simp; try with_reducible rfl)⟩) SD1.out (fun _ => UD1.out) ?_
      try simp only [Act.put, List.setIfInBounds_toArray, List.set_cons_zero, List.set_cons_succ]
      refine anyC_takeS (i := 8) (oi := ⟨some 43, _, _, _, _, _⟩) (v := _) rfl (by kernel_rfl) (by kernel_rfl) (by kernel_rfl) (by kernel_rfl) (fun _ _ _ h => h) (Or.inl ⟨by rfl, fun w' hw' => (by clear hw'; go_simp; try with_reducible rfl)⟩) SD1.out (fun _ => UD1.out) ?_
      try simp only [Act.put, List.setIfInBounds_toArray, List.set_cons_zero, List.set_cons_succ]
      refine anyC_takeU (i := 9) (oi := ⟨some 44, _, _, _, _, _⟩) (v := _) rfl (by kernel_rfl) (by kernel_rfl) (by kernel_rfl) (by kernel_rfl) (fun _ _ _ h => h) (Or.inl ⟨by rfl, fun w' hw' => (by obtain ⟨u1, u2⟩ := hw'; go_simp; try with_reducible rfl)⟩) SD1.out UD1.out ?_
      try simp only [Act.put, List.setIfInBounds_toArray, List.set_cons_zero, List.set_cons_succ]
      refine anyC_takeS (i := 11) (oi := ⟨some 46, _, _, _, _, _⟩) (v := _) rfl (by kernel_rfl) (by kernel_rfl) (by kernel_rfl) (by kernel_rfl) (fun _ _ _ h => h) (Or.inl ⟨by rfl, fun w' hw' => (by clear hw'; go_simp; try with_reducible rfl)⟩) SD1.out (fun _ => UD1.out) ?_
      try simp only [Act.put, List.setIfInBounds_toArray, List.set_cons_zero, List.set_cons_succ]
      refine anyC_takeS (i := 12) (oi := ⟨some 47, _, _, _, _, _⟩) (v := _) rfl (by kernel_rfl) (by kernel_rfl) (by kernel_rfl) (by kernel_rfl) (fun _ _ _ h => h) (Or.inl ⟨by rfl, fun w' hw' => (by clear hw'; go_simp; try with_reducible rfl)⟩) SD1.out (fun _ => UD1.out) ?_
      try simp only [Act.put, List.setIfInBounds_toArray, List.set_cons_zero, List.set_cons_succ]
      refine anyC_takeS (i := 13) (oi := ⟨some 48, _, _, _, _, _⟩) (v := _) rfl (by kernel_rfl) (by kernel_rfl) (by kernel_rfl) (by kernel_rfl) (fun _ _ _ h => h) (Or.inl ⟨by rfl, fun w' hw' => (by obtain ⟨h0, h1, h2, h3⟩ := hw'; go_simp; try with_reducible rfl)⟩) SD1.out (fun _ => UD1.out) ?_
      try simp only [Act.put, List.setIfInBounds_toArray, List.set_cons_zero, List.set_cons_succ]
      refine anyC_keep (i := 10) (o := ⟨some 45, _, _, _, _, _⟩) (by kernel_rfl) rfl (fun K hK => ?_)
      rw [if_pos (by rfl)]
      go_wp2_with (go_at_call 92; (refine (HX.out _).mono ?_); rintro e V' ⟨rfl, rfl⟩)
      refine hK.out _ _ ⟨SD1.out, fun _ => UD1.out⟩ ?_
      clear hK K
      try simp only [Act.put, List.setIfInBounds_toArray, List.set_cons_zero, List.set_cons_succ]
      refine anyC_keep (i := 14) (o := ⟨some 49, _, _, _, _, _⟩) (by kernel_rfl) rfl (fun K hK => ?_)
      rw [if_pos (by rfl)]
      go_wp2_with (go_at_call 91; (refine (HT.out _).mono ?_); rintro e V' ⟨rfl, rfl⟩)
      refine hK.out _ _ ⟨SD1.out, fun _ => UD1.out⟩ ?_
      clear hK K
      try simp only [Act.put, List.setIfInBounds_toArray, List.set_cons_zero, List.set_cons_succ]
      refine anyC_takeS (i := 15) (oi := ⟨some 50, _, _, _, _, _⟩) (v := _) rfl (by kernel_rfl) (by kernel_rfl) (by kernel_rfl) (by kernel_rfl) (fun _ _ _ h => h) (Or.inl ⟨by rfl, fun w' hw' => (by clear hw'; go_simp; try with_reducible rfl)⟩) SD1.out (fun _ => UD1.out) ?_
      try simp only [Act.put, List.setIfInBounds_toArray, List.set_cons_zero, List.set_cons_succ]
      refine anyC_keep (i := 16) (o := ⟨none, _, _, _, _, _⟩) (by kernel_rfl) rfl (fun K hK => ?_)
      rw [if_pos (by rfl)]
      go_simp
      refine hK.out _ _ ⟨T2.out, fun h => absurd h (by decide)⟩ ?_
      clear hK K
      try simp only [Act.put, List.setIfInBounds_toArray, List.set_cons_zero, List.set_cons_succ]
      generalize X1.setCell ⟨G, pd, none⟩ (iv y1) = V2 at A2 T2 O2 ⊢
      clear hc hf UD1 OD1 SD1 HX HT
      refine anyC_done (by kernel_rfl) ?_ _
      go_wp2
      obtain ⟨x2, hx2⟩ : ∃ x, L2.getD pc 0 = x := ⟨_, rfl⟩
      obtain ⟨z2, hz2⟩ : ∃ x, L2.getD pd 0 = x := ⟨_, rfl⟩
      obtain ⟨old2, ho2⟩ : ∃ x, L2.getD pc 0 = x := ⟨_, rfl⟩
      have AD2 : Hid (Ri V2.drew G L2) := Lib.hid (show Ri V2.drew G L2 from A2.out)
      have SD2 : Hid (S4 V2.drew D 16 12 8 7) := Lib.hid (show S4 V2.drew D 16 12 8 7 from T2.out)
      have OD2 := Lib.hid (Below.drew O2.out)
      have u1 := (AD2.out pc (by rw [N2.out]; omega)).1
      have u2 := (AD2.out pd (by rw [N2.out]; omega)).1
      have hc := (AD2.out pc (by rw [N2.out]; omega)).1
      have hf := (AD2.out pc (by rw [N2.out]; omega)).2
      rw [hx2] at u1
      rw [hz2] at u2
      rw [ho2] at hc
      clear ho2
      have b1 := W2.out.get pc
      have b2 := W2.out.get pd
      rw [hx2] at b1
      rw [hz2] at b2
      obtain ⟨y2, hy2⟩ : ∃ y, ad x2 z2 = y := ⟨_, rfl⟩
      have by2 : isW y2 := by rw [← hy2]; exact isW_ad _ _
      have e1 : IntKind.i64.wrap ((x2 : Int) + (z2 : Int)) = (x2 : Int) + (z2 : Int) := IntWalk.i64_in _ (by unfold isW at b1 b2; omega)
      have e2 : ((x2 : Int) + (z2 : Int)).tmod 4294967296 = (y2 : Int) := by rw [← hy2, Int.tmod_eq_emod_of_nonneg (by omega)]; unfold ad; omega
      have e3 : ((x2 : Int) + (z2 : Int)) % 4294967296 = (y2 : Int) := by rw [← hy2]; unfold ad; omega
      obtain ⟨L3, hL2⟩ : ∃ l, L2.set pc y2 = l := ⟨_, rfl⟩
      have N3 : Hid (L3.length = 16) := Lib.hid (by rw [← hL2, List.length_set]; exact N2.out)
      have W3 : Hid (AllW L3) := Lib.hid (by rw [← hL2]; exact W2.out.set pc by2)
      have E3 : Hid (L3 = L2.set pc (ad (L2.getD pc 0) (L2.getD pd 0))) := Lib.hid (by rw [hx2, hz2, hy2, hL2])
      have A3' := AD2.out.set pc y2
      rw [hL2] at A3'
      have A3 := Lib.hid A3'
      clear A3'
      have T3 := Lib.hid (S4.set SD2.out hGD pc (iv y2) : S4 (V2.drew.setCell ⟨G, pc, none⟩ (iv y2)) D 16 12 8 7)
      have O3 := Lib.hid (OD2.out.setCell (p := ⟨G, pc, none⟩) hBG (iv y2))
      have UD2 := Lib.hid (And.intro u1 u2)
      clear u1 u2 hL2 hx2 hz2 by2 AD2 hy2 b1 b2
      refine region_anyC (fun w' => S4 w' D 16 12 8 7) (fun w' => w'.cell? ⟨G, pc, none⟩ = some (iv x2) ∧ w'.cell? ⟨G, pd, none⟩ = some (iv z2)) [13] (by kernel_rfl) ?_
      generalize V2.drew = X2 at SD2 OD2 UD2 hc hf A3 T3 O3 ⊢
      refine anyC_takeS (i := 0) (oi := ⟨some 51, _, _, _, _, _⟩) (v := _) rfl (by kernel_rfl) (by kernel_rfl) (by kernel_rfl) (by kernel_rfl) (fun _ _ _ h => h) (Or.inl ⟨by rfl, fun w' hw' => (by clear hw'; go_simp; try with_reducible rfl)⟩) SD2.out (fun _ => UD2.out) ?_
      try simp only [Act.put, List.setIfInBounds_toArray, List.set_cons_zero, List.set_cons_succ]
      refine anyC_takeS (i := 1) (oi := ⟨some 52, _, _, _, _, _⟩) (v := _) rfl (by kernel_rfl) (by kernel_rfl) (by kernel_rfl) (by kernel_rfl) (fun _ _ _ h => h) (Or.inl ⟨by rfl, fun w' hw' => (by clear hw'; go_simp; try with_reducible rfl)⟩) SD2.out (fun _ => UD2.out) ?_
      try simp only [Act.put, List.setIfInBounds_toArray, List.set_cons_zero, List.set_cons_succ]
      refine anyC_takeS (i := 2) (oi := ⟨some 53, _, _, _, _, _⟩) (v := _) rfl (by kernel_rfl) (by kernel_rfl) (by kernel_rfl) (by kernel_rfl) (fun _ _ _ h => h) (Or.inl ⟨by rfl, fun w' hw' => (by clear hw'; go_simp; try with_reducible rfl)⟩) SD2.out (fun _ => UD2.out) ?_
      try simp only [Act.put, List.setIfInBounds_toArray, List.set_cons_zero, List.set_cons_succ]
      refine anyC_takeS (i := 3) (oi := ⟨some 54, _, _, _, _, _⟩) (v := _) rfl (by kernel_rfl) (by kernel_rfl) (by kernel_rfl) (by kernel_rfl) (fun _ _ _ h => h) (Or.inl ⟨by rfl, fun w' hw' => (by clear hw'; go_simp; try with_reducible rfl)⟩) SD2.out (fun _ => UD2.out) ?_
      try simp only [Act.put, List.setIfInBounds_toArray, List.set_cons_zero, List.set_cons_succ]
      refine anyC_takeS (i := 4) (oi := ⟨some 55, _, _, _, _, _⟩) (v := _) rfl (by kernel_rfl) (by kernel_rfl) (by kernel_rfl) (by kernel_rfl) (fun _ _ _ h => h) (Or.inl ⟨by rfl, fun w' hw' => (by clear hw'; go_simp; try with_reducible rfl)⟩) SD2.out (fun _ => UD2.out) ?_
      try simp only [Act.put, List.setIfInBounds_toArray, List.set_cons_zero, List.set_cons_succ]
      refine anyC_takeU (i := 5) (oi := ⟨some 56, _, _, _, _, _⟩) (v := _) rfl (by kernel_rfl) (by kernel_rfl) (by kernel_rfl) (by kernel_rfl) (fun _ _ _ h => h) (Or.inl ⟨by rfl, fun w' hw' => (by obtain ⟨u1, u2⟩ := hw'; go_simp; try with_reducible rfl)⟩) SD2.out UD2.out ?_
      try simp only [Act.put, List.setIfInBounds_toArray, List.set_cons_zero, List.set_cons_succ]
      refine anyC_takeS (i := 6) (oi := ⟨some 57, _, _, _, _, _⟩) (v := _) rfl (by kernel_rfl) (by kernel_rfl) (by kernel_rfl) (by kernel_rfl) (fun _ _ _ h => h) (Or.inl ⟨by rfl, fun w' hw' => (by clear hw'; go_simp; try with_reducible rfl)⟩) SD2.out (fun _ => UD2.out) ?_
      try simp only [Act.put, List.setIfInBounds_toArray, List.set_cons_zero, List.set_cons_succ]
      refine anyC_takeS (i := 7) (oi := ⟨some 58, _, _, _, _, _⟩) (v := _) rfl (by kernel_rfl) (by kernel_rfl) (by kernel_rfl) (by kernel_rfl) (fun _ _ _ h => h) (Or.inl ⟨by rfl, fun w' hw' => (by clear hw'; go_simp; try with_reducible rfl)⟩) SD2.out (fun _ => UD2.out) ?_
      try simp only [Act.put, List.setIfInBounds_toArray, List.set_cons_zero, List.set_cons_succ]
      refine anyC_takeS (i := 8) (oi := ⟨some 59, _, _, _, _, _⟩) (v := _) rfl (by kernel_rfl) (by kernel_rfl) (by kernel_rfl) (by kernel_rfl) (fun _ _ _ h => h) (Or.inl ⟨by rfl, fun w' hw' => (by clear hw'; go_simp; try with_reducible rfl)⟩) SD2.out (fun _ => UD2.out) ?_
      try simp only [Act.put, List.setIfInBounds_toArray, List.set_cons_zero, List.set_cons_succ]
      refine anyC_takeU (i := 9) (oi := ⟨some 60, _, _, _, _, _⟩) (v := _) rfl (by kernel_rfl) (by kernel_rfl) (by kernel_rfl) (by kernel_rfl) (fun _ _ _ h => h) (Or.inl ⟨by rfl, fun w' hw' => (by obtain ⟨u1, u2⟩ := hw'; go_simp; try with_reducible rfl)⟩) SD2.out UD2.out ?_
      try simp only [Act.put, List.setIfInBounds_toArray, List.set_cons_zero, List.set_cons_succ]
      refine anyC_takeS (i := 10) (oi := ⟨some 61, _, _, _, _, _⟩) (v := _) rfl (by kernel_rfl) (by kernel_rfl) (by kernel_rfl) (by kernel_rfl) (fun _ _ _ h => h) (Or.inl ⟨by rfl, fun w' hw' => (by clear hw'; go_simp; try with_reducible rfl)⟩) SD2.out (fun _ => UD2.out) ?_
      try simp only [Act.put, List.setIfInBounds_toArray, List.set_cons_zero, List.set_cons_succ]
      refine anyC_takeS (i := 11) (oi := ⟨some 62, _, _, _, _, _⟩) (v := _) rfl (by kernel_rfl) (by kernel_rfl) (by kernel_rfl) (by kernel_rfl) (fun _ _ _ h => h) (Or.inl ⟨by rfl, fun w' hw' => (by clear hw'; go_simp; try with_reducible rfl)⟩) SD2.out (fun _ => UD2.out) ?_
      try simp only [Act.put, List.setIfInBounds_toArray, List.set_cons_zero, List.set_cons_succ]
      refine anyC_takeS (i := 12) (oi := ⟨some 63, _, _, _, _, _⟩) (v := _) rfl (by kernel_rfl) (by kernel_rfl) (by kernel_rfl) (by kernel_rfl) (fun _ _ _ h => h) (Or.inl ⟨by rfl, fun w' hw' => (by clear hw'; go_simp; try with_reducible rfl)⟩) SD2.out (fun _ => UD2.out) ?_
      try simp only [Act.put, List.setIfInBounds_toArray, List.set_cons_zero, List.set_cons_succ]
      refine anyC_keep (i := 13) (o := ⟨none, _, _, _, _, _⟩) (by kernel_rfl) rfl (fun K hK => ?_)
      rw [if_pos (by rfl)]
      go_simp
      refine hK.out _ _ ⟨T3.out, fun h => absurd h (by decide)⟩ ?_
      clear hK K
      try simp only [Act.put, List.setIfInBounds_toArray, List.set_cons_zero, List.set_cons_succ]
      generalize X2.setCell ⟨G, pc, none⟩ (iv y2) = V3 at A3 T3 O3 ⊢
      clear hc hf UD2 OD2 SD2 e1 e2 e3
      refine anyC_done (by kernel_rfl) ?_ _
      go_wp2
      obtain ⟨x3, hx3⟩ : ∃ x, L3.getD pb 0 = x := ⟨_, rfl⟩
      obtain ⟨z3, hz3⟩ : ∃ x, L3.getD pc 0 = x := ⟨_, rfl⟩
      obtain ⟨old3, ho3⟩ : ∃ x, L3.getD pb 0 = x := ⟨_, rfl⟩
      have AD3 : Hid (Ri V3.drew G L3) := Lib.hid (show Ri V3.drew G L3 from A3.out)
      have SD3 : Hid (S4 V3.drew D 16 12 8 7) := Lib.hid (show S4 V3.drew D 16 12 8 7 from T3.out)
      have OD3 := Lib.hid (Below.drew O3.out)
      have u1 := (AD3.out pb (by rw [N3.out]; omega)).1
      have u2 := (AD3.out pc (by rw [N3.out]; omega)).1
      have hc := (AD3.out pb (by rw [N3.out]; omega)).1
      have hf := (AD3.out pb (by rw [N3.out]; omega)).2
      rw [hx3] at u1
      rw [hz3] at u2
      rw [ho3] at hc
      clear ho3
      have b1 := W3.out.get pb
      have b2 := W3.out.get pc
      rw [hx3] at b1
      rw [hz3] at b2
      obtain ⟨m3, hm3⟩ : ∃ y, x3 ^^^ z3 = y := ⟨_, rfl⟩
      obtain ⟨y3, hy3⟩ : ∃ y, rotl m3 7 = y := ⟨_, rfl⟩
      have bm : isW m3 := by rw [← hm3]; exact isW_xor b1 b2
      have by3 : isW y3 := by rw [← hy3]; exact isW_rotl bm _
      have HX0 := fun w' => rxor x3 z3 w' b1 b2
      rw [hm3] at HX0
      have HT0 := fun w' => rturned m3 7 w' bm (by decide) (by decide)
      rw [hy3] at HT0
      have HX := Lib.hid HX0
      have HT := Lib.hid HT0
      clear HX0 HT0 bm
      obtain ⟨L4, hL3⟩ : ∃ l, L3.set pb y3 = l := ⟨_, rfl⟩
      have N4 : Hid (L4.length = 16) := Lib.hid (by rw [← hL3, List.length_set]; exact N3.out)
      have W4 : Hid (AllW L4) := Lib.hid (by rw [← hL3]; exact W3.out.set pb by3)
      have E4 : Hid (L4 = L3.set pb (rotl (L3.getD pb 0 ^^^ L3.getD pc 0) 7)) := Lib.hid (by rw [hx3, hz3, hm3, hy3, hL3])
      have A4' := AD3.out.set pb y3
      rw [hL3] at A4'
      have A4 := Lib.hid A4'
      clear A4'
      have T4 := Lib.hid (S4.set SD3.out hGD pb (iv y3) : S4 (V3.drew.setCell ⟨G, pb, none⟩ (iv y3)) D 16 12 8 7)
      have O4 := Lib.hid (OD3.out.setCell (p := ⟨G, pb, none⟩) hBG (iv y3))
      have UD3 := Lib.hid (And.intro u1 u2)
      clear u1 u2 hL3 hx3 hz3 by3 AD3 hm3 hy3 b1 b2
      refine region_anyC (fun w' => S4 w' D 16 12 8 7) (fun w' => w'.cell? ⟨G, pb, none⟩ = some (iv x3) ∧ w'.cell? ⟨G, pc, none⟩ = some (iv z3)) [17] (by kernel_rfl) ?_
      generalize V3.drew = X3 at SD3 OD3 UD3 hc hf A4 T4 O4 ⊢
      refine anyC_takeS (i := 0) (oi := ⟨some 64, _, _, _, _, _⟩) (v := _) rfl (by kernel_rfl) (by kernel_rfl) (by kernel_rfl) (by kernel_rfl) (fun _ _ _ h => h) (Or.inl ⟨by rfl, fun w' hw' => (by clear hw'; go_simp; try with_reducible rfl)⟩) SD3.out (fun _ => UD3.out) ?_
      try simp only [Act.put, List.setIfInBounds_toArray, List.set_cons_zero, List.set_cons_succ]
      refine anyC_takeS (i := 1) (oi := ⟨some 65, _, _, _, _, _⟩) (v := _) rfl (by kernel_rfl) (by kernel_rfl) (by kernel_rfl) (by kernel_rfl) (fun _ _ _ h => h) (Or.inl ⟨by rfl, fun w' hw' => (by clear hw'; go_simp; try with_reducible rfl)⟩) SD3.out (fun _ => UD3.out) ?_
      try simp only [Act.put, List.setIfInBounds_toArray, List.set_cons_zero, List.set_cons_succ]
      refine anyC_takeS (i := 2) (oi := ⟨some 66, _, _, _, _, _⟩) (v := _) rfl (by kernel_rfl) (by kernel_rfl) (by kernel_rfl) (by kernel_rfl) (fun _ _ _ h => h) (Or.inl ⟨by rfl, fun w' hw' => (by clear hw'; go_simp; try with_reducible rfl)⟩) SD3.out (fun _ => UD3.out) ?_
      try simp only [Act.put, List.setIfInBounds_toArray, List.set_cons_zero, List.set_cons_succ]
      refine anyC_takeS (i := 3) (oi := ⟨some 67, _, _, _, _, _⟩) (v := _) rfl (by kernel_rfl) (by kernel_rfl) (by kernel_rfl) (by kernel_rfl) (fun _ _ _ h => h) (Or.inl ⟨by rfl, fun w' hw' => (by clear hw'; go_simp; try with_reducible rfl)⟩) SD3.out (fun _ => UD3.out) ?_
      try simp only [Act.put, List.setIfInBounds_toArray, List.set_cons_zero, List.set_cons_succ]
      refine anyC_takeS (i := 4) (oi := ⟨some 68, _, _, _, _, _⟩) (v := _) rfl (by kernel_rfl) (by kernel_rfl) (by kernel_rfl) (by kernel_rfl) (fun _ _ _ h => h) (Or.inl ⟨by rfl, fun w' hw' => (by clear hw'; go_simp; try with_reducible rfl)⟩) SD3.out (fun _ => UD3.out) ?_
      try simp only [Act.put, List.setIfInBounds_toArray, List.set_cons_zero, List.set_cons_succ]
      refine anyC_takeU (i := 5) (oi := ⟨some 69, _, _, _, _, _⟩) (v := _) rfl (by kernel_rfl) (by kernel_rfl) (by kernel_rfl) (by kernel_rfl) (fun _ _ _ h => h) (Or.inl ⟨by rfl, fun w' hw' => (by obtain ⟨u1, u2⟩ := hw'; go_simp; try with_reducible rfl)⟩) SD3.out UD3.out ?_
      try simp only [Act.put, List.setIfInBounds_toArray, List.set_cons_zero, List.set_cons_succ]
      refine anyC_takeS (i := 6) (oi := ⟨some 70, _, _, _, _, _⟩) (v := _) rfl (by kernel_rfl) (by kernel_rfl) (by kernel_rfl) (by kernel_rfl) (fun _ _ _ h => h) (Or.inl ⟨by rfl, fun w' hw' => (by clear hw'; go_simp; try with_reducible rfl)⟩) SD3.out (fun _ => UD3.out) ?_
      try simp only [Act.put, List.setIfInBounds_toArray, List.set_cons_zero, List.set_cons_succ]
      refine anyC_takeS (i := 7) (oi := ⟨some 71, _, _, _, _, _⟩) (v := _) rfl (by kernel_rfl) (by kernel_rfl) (by kernel_rfl) (by kernel_rfl) (fun _ _ _ h => h) (Or.inl ⟨by rfl, fun w' hw' => (by clear hw'; go_simp; try with_reducible rfl)⟩) SD3.out (fun _ => UD3.out) ?_
      try simp only [Act.put, List.setIfInBounds_toArray, List.set_cons_zero, List.set_cons_succ]
      refine anyC_takeS (i := 8) (oi := ⟨some 72, _, _, _, _, _⟩) (v := _) rfl (by kernel_rfl) (by kernel_rfl) (by kernel_rfl) (by kernel_rfl) (fun _ _ _ h => h) (Or.inl ⟨by rfl, fun w' hw' => (by clear hw'; go_simp; try with_reducible rfl)⟩) SD3.out (fun _ => UD3.out) ?_
      try simp only [Act.put, List.setIfInBounds_toArray, List.set_cons_zero, List.set_cons_succ]
      refine anyC_takeU (i := 9) (oi := ⟨some 73, _, _, _, _, _⟩) (v := _) rfl (by kernel_rfl) (by kernel_rfl) (by kernel_rfl) (by kernel_rfl) (fun _ _ _ h => h) (Or.inl ⟨by rfl, fun w' hw' => (by obtain ⟨u1, u2⟩ := hw'; go_simp; try with_reducible rfl)⟩) SD3.out UD3.out ?_
      try simp only [Act.put, List.setIfInBounds_toArray, List.set_cons_zero, List.set_cons_succ]
      refine anyC_takeS (i := 11) (oi := ⟨some 75, _, _, _, _, _⟩) (v := _) rfl (by kernel_rfl) (by kernel_rfl) (by kernel_rfl) (by kernel_rfl) (fun _ _ _ h => h) (Or.inl ⟨by rfl, fun w' hw' => (by clear hw'; go_simp; try with_reducible rfl)⟩) SD3.out (fun _ => UD3.out) ?_
      try simp only [Act.put, List.setIfInBounds_toArray, List.set_cons_zero, List.set_cons_succ]
      refine anyC_takeS (i := 12) (oi := ⟨some 76, _, _, _, _, _⟩) (v := _) rfl (by kernel_rfl) (by kernel_rfl) (by kernel_rfl) (by kernel_rfl) (fun _ _ _ h => h) (Or.inl ⟨by rfl, fun w' hw' => (by clear hw'; go_simp; try with_reducible rfl)⟩) SD3.out (fun _ => UD3.out) ?_
      try simp only [Act.put, List.setIfInBounds_toArray, List.set_cons_zero, List.set_cons_succ]
      refine anyC_takeS (i := 13) (oi := ⟨some 77, _, _, _, _, _⟩) (v := _) rfl (by kernel_rfl) (by kernel_rfl) (by kernel_rfl) (by kernel_rfl) (fun _ _ _ h => h) (Or.inl ⟨by rfl, fun w' hw' => (by clear hw'; go_simp; try with_reducible rfl)⟩) SD3.out (fun _ => UD3.out) ?_
      try simp only [Act.put, List.setIfInBounds_toArray, List.set_cons_zero, List.set_cons_succ]
      refine anyC_takeS (i := 14) (oi := ⟨some 78, _, _, _, _, _⟩) (v := _) rfl (by kernel_rfl) (by kernel_rfl) (by kernel_rfl) (by kernel_rfl) (fun _ _ _ h => h) (Or.inl ⟨by rfl, fun w' hw' => (by obtain ⟨h0, h1, h2, h3⟩ := hw'; go_simp; try with_reducible rfl)⟩) SD3.out (fun _ => UD3.out) ?_
      try simp only [Act.put, List.setIfInBounds_toArray, List.set_cons_zero, List.set_cons_succ]
      refine anyC_keep (i := 10) (o := ⟨some 74, _, _, _, _, _⟩) (by kernel_rfl) rfl (fun K hK => ?_)
      rw [if_pos (by rfl)]
      go_wp2_with (go_at_call 92; (refine (HX.out _).mono ?_); rintro e V' ⟨rfl, rfl⟩)
      refine hK.out _ _ ⟨SD3.out, fun _ => UD3.out⟩ ?_
      clear hK K
      try simp only [Act.put, List.setIfInBounds_toArray, List.set_cons_zero, List.set_cons_succ]
      refine anyC_keep (i := 15) (o := ⟨some 79, _, _, _, _, _⟩) (by kernel_rfl) rfl (fun K hK => ?_)
      rw [if_pos (by rfl)]
      go_wp2_with (go_at_call 91; (refine (HT.out _).mono ?_); rintro e V' ⟨rfl, rfl⟩)
      refine hK.out _ _ ⟨SD3.out, fun _ => UD3.out⟩ ?_
      clear hK K
      try simp only [Act.put, List.setIfInBounds_toArray, List.set_cons_zero, List.set_cons_succ]
      refine anyC_takeS (i := 16) (oi := ⟨some 80, _, _, _, _, _⟩) (v := _) rfl (by kernel_rfl) (by kernel_rfl) (by kernel_rfl) (by kernel_rfl) (fun _ _ _ h => h) (Or.inl ⟨by rfl, fun w' hw' => (by clear hw'; go_simp; try with_reducible rfl)⟩) SD3.out (fun _ => UD3.out) ?_
      try simp only [Act.put, List.setIfInBounds_toArray, List.set_cons_zero, List.set_cons_succ]
      refine anyC_keep (i := 17) (o := ⟨none, _, _, _, _, _⟩) (by kernel_rfl) rfl (fun K hK => ?_)
      rw [if_pos (by rfl)]
      go_simp
      refine hK.out _ _ ⟨T4.out, fun h => absurd h (by decide)⟩ ?_
      clear hK K
      try simp only [Act.put, List.setIfInBounds_toArray, List.set_cons_zero, List.set_cons_succ]
      generalize X3.setCell ⟨G, pb, none⟩ (iv y3) = V4 at A4 T4 O4 ⊢
      clear hc hf UD3 OD3 SD3 HX HT
      refine anyC_done (by kernel_rfl) ?_ _
      go_wp2
      go_roundw
      case rel => exact ⟨L4, Or.inr (Or.inr ⟨by first | rfl | go_num, by rw [E4.out, E3.out, E2.out, E1.out, HE.out]; rfl⟩), N4, W4, A4, T4, O4⟩
      case measure => simp [intOf]
    · go_wp2
      go_ret
      exact ⟨G, cG, rfl, hBG, A0.out.lt (by rw [N0.out]; decide), by rw [← HE.out]; exact A0.out, O0.out⟩
end Go.Proofs.YtnfefkcfifnjnaaDoor
