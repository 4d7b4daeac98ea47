/- Contract of quarter rounds at a list of places. -/
import Derived.Test.YtnfefkcfifnjnaaDoorC
import Derived.Test.YtnfefkcfifnjnaaDoorW
namespace Go.Proofs.YtnfefkcfifnjnaaDoor
open Go.RowKit Go.ChangeShapes

abbrev iv (n : Nat) : Value := .int .i64 (n : Int)
def P4.vals (p : P4) : List Value := [iv p.a, iv p.b, iv p.c, iv p.d]
/-- The places lie in a block. -/
def Pl (w : World) (h : Nat) (ps : List P4) : Prop := h < w.heap.size ∧ ∀ j p, ps[j]? = some p → w.rangeAt h (4 * j) p.vals
theorem Pl.only {w w' : World} {g h : Nat} {ps : List P4} (hP : Pl w h ps) (hO : Only g w w') (hne : h ≠ g) : Pl w' h ps :=
  ⟨Nat.lt_of_lt_of_le hP.1 hO.size, fun j p hj i v hv => (World.cell?_of_block (hO.block h hP.1 (fun e => hne (by injection e)))).trans (hP.2 j p hj i v hv)⟩
def S4 (w : World) (D pa pb pc pd : Nat) : Prop := w.cell? ⟨D, 0, none⟩ = some (iv pa) ∧ w.cell? ⟨D, 1, none⟩ = some (iv pb) ∧ w.cell? ⟨D, 2, none⟩ = some (iv pc) ∧ w.cell? ⟨D, 3, none⟩ = some (iv pd)
theorem S4.set {w : World} {D pa pb pc pd g : Nat} (h : S4 w D pa pb pc pd) (hg : g < D) (i : Nat) (v : Value) : S4 (w.setCell ⟨g, i, none⟩ v) D pa pb pc pd := by
  have e : ∀ o, (w.setCell ⟨g, i, none⟩ v).cell? ⟨D, o, none⟩ = w.cell? ⟨D, o, none⟩ := fun o => World.cell?_of_block (heap_setCell_other w ⟨g, i, none⟩ D v (by simp; omega))
  unfold S4
  rw [e, e, e, e]
  exact h
theorem S4.new (w : World) (pa pb pc pd : Nat) : S4 (w.alloc (.cells #[iv pa, iv pb, iv pc, iv pd] 136)).drew w.heap.size pa pb pc pd :=
  have hh := heap_alloc_new w (.cells #[iv pa, iv pb, iv pc, iv pd] 136)
  ⟨cell_of_row (w.alloc (.cells #[iv pa, iv pb, iv pc, iv pd] 136)) _ 0 _ 136 (0, 0) hh, cell_of_row (w.alloc (.cells #[iv pa, iv pb, iv pc, iv pd] 136)) _ 1 _ 136 (0, 0) hh, cell_of_row (w.alloc (.cells #[iv pa, iv pb, iv pc, iv pd] 136)) _ 2 _ 136 (0, 0) hh, cell_of_row (w.alloc (.cells #[iv pa, iv pb, iv pc, iv pd] 136)) _ 3 _ 136 (0, 0) hh⟩
theorem take_snocP {ps : List P4} {k : Nat} {p : P4} (h : ps[k]? = some p) : ps.take (k + 1) = ps.take k ++ [p] := by
  have hk := (List.getElem?_eq_some_iff.1 h).1
  rw [List.take_succ_eq_append_getElem hk, (List.getElem?_eq_some_iff.1 h).2]
set_option maxRecDepth 100000 in
set_option maxHeartbeats 4000000 in
theorem quarters_any (g h : Nat) (t : TypeId) (l : List Nat) (ps : List P4) (n : Nat) (w : World) (hn : ps.length = n) (hn4 : n ≤ 4) (hl : 16 ≤ l.length) (hW : AllW l) (hp : ∀ p ∈ ps, p.lt 16) (hA : Arr w g t l) (hP : Pl w h ps) (hgh : h ≠ g) :
    Calls Tryd.prog 99 #[.pointer (some ⟨g, 0, none⟩), .slice (some ⟨h, 0, none⟩) n n] w fun e w' => (∃ v, e = .returned v) ∧ Arr w' g t (qrs l ps) ∧ Only g w w' := by
  have HA := Lib.hid hA
  have HP := Lib.hid hP
  have HL := Lib.hid hl
  have HW := Lib.hid hW
  have HPS := Lib.hid hp
  have HN := Lib.hid hn
  clear hA hP hl hW hp hn
  go_enter Tryd.func99, Tryd.ntmps99
  go_wp2
  go_loopw [8] (fun i wr => ∃ k : Nat, k ≤ n ∧ i = .int .i64 k ∧ Hid (Arr wr g t (qrs l (ps.take k))) ∧ Hid (Only g w wr)) (fun i _ => n - (intOf i).toNat)
  case atStart => exact ⟨0, by omega, rfl, by simpa [qrs] using HA, Lib.hid (Only.refl _ _)⟩
  case round =>
    clear HA
    obtain ⟨k, hk, rfl, HA, HO⟩ := hrel
    by_cases hlt : k < n
    · obtain ⟨⟨pa, pb, pc, pd⟩, hpk⟩ : ∃ p, ps[k]? = some p := ⟨ps[k]'(by rw [HN.out]; exact hlt), List.getElem?_eq_getElem _⟩
      have hpl := HPS.out _ (List.mem_of_getElem? hpk)
      have hPr := HP.out.only HO.out hgh
      have hrg := hPr.2 k _ hpk
      have c0 : wr.cell? ⟨h, k * 4, none⟩ = some (iv pa) := by have := hrg 0 _ rfl; rwa [Nat.add_zero, Nat.mul_comm] at this
      have c1 : wr.cell? ⟨h, k * 4 + 1, none⟩ = some (iv pb) := by have := hrg 1 _ rfl; rwa [Nat.mul_comm] at this
      have c2 : wr.cell? ⟨h, k * 4 + 2, none⟩ = some (iv pc) := by have := hrg 2 _ rfl; rwa [Nat.mul_comm] at this
      have c3 : wr.cell? ⟨h, k * 4 + 3, none⟩ = some (iv pd) := by have := hrg 3 _ rfl; rwa [Nat.mul_comm] at this
      have HPK := Lib.hid hpk
      have zz := hPr.1
      obtain ⟨q1, q2, q3, q4⟩ := hpl
      dsimp only at q1 q2 q3 q4
      clear hrg hpk hPr
      go_wp2_with fail
      have AV0 := (HA.out.alloc (.cells #[iv pa, iv pb, iv pc, iv pd] 136)).drew
      have OV0 := (HO.out.alloc (.cells #[iv pa, iv pb, iv pc, iv pd] 136)).drew
      have SV0 : S4 (wr.alloc (.cells #[iv pa, iv pb, iv pc, iv pd] 136)).drew wr.heap.size pa pb pc pd := S4.new wr pa pb pc pd
      have hDg : g < wr.heap.size := HA.out.lt
      obtain ⟨L, hL⟩ : ∃ L, qrs l (ps.take k) = L := ⟨_, rfl⟩
      have hLl : 16 ≤ L.length := by rw [← hL, qrs_length]; exact HL.out
      have hLw : AllW L := by rw [← hL]; exact qrs_all _ _ HW.out
      have HLL := Lib.hid hL
      rw [hL] at AV0
      generalize wr.heap.size = D at SV0 hDg ⊢
      have HQ0 := fun w' => quarter_any (L.getD pa 0) (L.getD pb 0) (L.getD pc 0) (L.getD pd 0) w' (at4_ok hLw pa pb pc pd)
      obtain ⟨⟨ra, rb, rc, rd⟩, hr⟩ : ∃ r, qr ⟨L.getD pa 0, L.getD pb 0, L.getD pc 0, L.getD pd 0⟩ = r := ⟨_, rfl⟩
      have HE : Hid (qrL L pa pb pc pd = (((L.set pa ra).set pb rb).set pc rc).set pd rd) := Lib.hid (by unfold qrL at4; rw [hr]; rfl)
      rw [hr] at HQ0
      have HQ := Lib.hid HQ0
      have x1 := AV0.getD (i := pa) (by omega)
      have x2 := AV0.getD (i := pb) (by omega)
      have x3 := AV0.getD (i := pc) (by omega)
      have x4 := AV0.getD (i := pd) (by omega)
      have OV := Lib.hid OV0
      have AV := Lib.hid AV0
      have HS0 := Lib.hid SV0
      clear hL hr HQ0 hLw OV0 AV0 SV0
      obtain ⟨xa, hxa⟩ : ∃ x, L.getD pa 0 = x := ⟨_, rfl⟩
      obtain ⟨xb, hxb⟩ : ∃ x, L.getD pb 0 = x := ⟨_, rfl⟩
      obtain ⟨xc, hxc⟩ : ∃ x, L.getD pc 0 = x := ⟨_, rfl⟩
      obtain ⟨xd, hxd⟩ : ∃ x, L.getD pd 0 = x := ⟨_, rfl⟩
      rw [hxa, hxb, hxc, hxd] at HQ
      rw [hxa] at x1
      rw [hxb] at x2
      rw [hxc] at x3
      rw [hxd] at x4
      clear hxa hxb hxc hxd c0 c1 c2 c3
      have HU0 := Lib.hid (And.intro x1 (And.intro x2 (And.intro x3 x4)))
      clear x1 x2 x3 x4
      have i1 : (pa : Int) < 16 := by omega
      have i2 : (pb : Int) < 16 := by omega
      have i3 : (pc : Int) < 16 := by omega
      have i4 : (pd : Int) < 16 := by omega
      refine region_anyC (fun w' => S4 w' D pa pb pc pd) (fun w' => w'.cell? ⟨g, pa, none⟩ = some (wd xa) ∧ w'.cell? ⟨g, pb, none⟩ = some (wd xb) ∧ w'.cell? ⟨g, pc, none⟩ = some (wd xc) ∧ w'.cell? ⟨g, pd, none⟩ = some (wd xd)) [44, 47, 50, 53] (by kernel_rfl) ?_
      generalize (wr.alloc (.cells #[iv pa, iv pb, iv pc, iv pd] 136)).drew = V at OV AV HS0 HU0 ⊢
      refine anyC_takeS (i := 0) (oi := ⟨some 13, _, _, _, _, _⟩) (v := _) rfl (by kernel_rfl) (by kernel_rfl) (by kernel_rfl) (by kernel_rfl) (fun _ _ _ h => h) (Or.inl ⟨by rfl, fun w' hw' => (by clear hw'; go_simp; try with_reducible rfl)⟩) HS0.out (fun _ => HU0.out) ?_
      try simp only [Act.put, List.setIfInBounds_toArray, List.set_cons_zero, List.set_cons_succ]
      refine anyC_takeS (i := 1) (oi := ⟨some 14, _, _, _, _, _⟩) (v := _) rfl (by kernel_rfl) (by kernel_rfl) (by kernel_rfl) (by kernel_rfl) (fun _ _ _ h => h) (Or.inl ⟨by rfl, fun w' hw' => (by clear hw'; go_simp; try with_reducible rfl)⟩) HS0.out (fun _ => HU0.out) ?_
      try simp only [Act.put, List.setIfInBounds_toArray, List.set_cons_zero, List.set_cons_succ]
      refine anyC_takeS (i := 2) (oi := ⟨some 15, _, _, _, _, _⟩) (v := _) rfl (by kernel_rfl) (by kernel_rfl) (by kernel_rfl) (by kernel_rfl) (fun _ _ _ h => h) (Or.inl ⟨by rfl, fun w' hw' => (by obtain ⟨h0, h1, h2, h3⟩ := hw'; go_simp; try with_reducible rfl)⟩) HS0.out (fun _ => HU0.out) ?_
      try simp only [Act.put, List.setIfInBounds_toArray, List.set_cons_zero, List.set_cons_succ]
      refine anyC_takeS (i := 3) (oi := ⟨some 16, _, _, _, _, _⟩) (v := _) rfl (by kernel_rfl) (by kernel_rfl) (by kernel_rfl) (by kernel_rfl) (fun _ _ _ h => h) (Or.inl ⟨by rfl, fun w' hw' => (by clear hw'; go_simp; try with_reducible rfl)⟩) HS0.out (fun _ => HU0.out) ?_
      try simp only [Act.put, List.setIfInBounds_toArray, List.set_cons_zero, List.set_cons_succ]
      refine anyC_takeS (i := 4) (oi := ⟨some 17, _, _, _, _, _⟩) (v := _) rfl (by kernel_rfl) (by kernel_rfl) (by kernel_rfl) (by kernel_rfl) (fun _ _ _ h => h) (Or.inl ⟨by rfl, fun w' hw' => (by clear hw'; go_simp; try with_reducible rfl)⟩) HS0.out (fun _ => HU0.out) ?_
      try simp only [Act.put, List.setIfInBounds_toArray, List.set_cons_zero, List.set_cons_succ]
      refine anyC_takeS (i := 5) (oi := ⟨some 18, _, _, _, _, _⟩) (v := _) rfl (by kernel_rfl) (by kernel_rfl) (by kernel_rfl) (by kernel_rfl) (fun _ _ _ h => h) (Or.inl ⟨by rfl, fun w' hw' => (by obtain ⟨h0, h1, h2, h3⟩ := hw'; go_simp; try with_reducible rfl)⟩) HS0.out (fun _ => HU0.out) ?_
      try simp only [Act.put, List.setIfInBounds_toArray, List.set_cons_zero, List.set_cons_succ]
      refine anyC_takeS (i := 6) (oi := ⟨some 19, _, _, _, _, _⟩) (v := _) rfl (by kernel_rfl) (by kernel_rfl) (by kernel_rfl) (by kernel_rfl) (fun _ _ _ h => h) (Or.inl ⟨by rfl, fun w' hw' => (by clear hw'; go_simp; try with_reducible rfl)⟩) HS0.out (fun _ => HU0.out) ?_
      try simp only [Act.put, List.setIfInBounds_toArray, List.set_cons_zero, List.set_cons_succ]
      refine anyC_takeS (i := 7) (oi := ⟨some 20, _, _, _, _, _⟩) (v := _) rfl (by kernel_rfl) (by kernel_rfl) (by kernel_rfl) (by kernel_rfl) (fun _ _ _ h => h) (Or.inl ⟨by rfl, fun w' hw' => (by clear hw'; go_simp; try with_reducible rfl)⟩) HS0.out (fun _ => HU0.out) ?_
      try simp only [Act.put, List.setIfInBounds_toArray, List.set_cons_zero, List.set_cons_succ]
      refine anyC_takeS (i := 8) (oi := ⟨some 21, _, _, _, _, _⟩) (v := _) rfl (by kernel_rfl) (by kernel_rfl) (by kernel_rfl) (by kernel_rfl) (fun _ _ _ h => h) (Or.inl ⟨by rfl, fun w' hw' => (by obtain ⟨h0, h1, h2, h3⟩ := hw'; go_simp; try with_reducible rfl)⟩) HS0.out (fun _ => HU0.out) ?_
      try simp only [Act.put, List.setIfInBounds_toArray, List.set_cons_zero, List.set_cons_succ]
      refine anyC_takeS (i := 9) (oi := ⟨some 22, _, _, _, _, _⟩) (v := _) rfl (by kernel_rfl) (by kernel_rfl) (by kernel_rfl) (by kernel_rfl) (fun _ _ _ h => h) (Or.inl ⟨by rfl, fun w' hw' => (by clear hw'; go_simp; try with_reducible rfl)⟩) HS0.out (fun _ => HU0.out) ?_
      try simp only [Act.put, List.setIfInBounds_toArray, List.set_cons_zero, List.set_cons_succ]
      refine anyC_takeS (i := 10) (oi := ⟨some 23, _, _, _, _, _⟩) (v := _) rfl (by kernel_rfl) (by kernel_rfl) (by kernel_rfl) (by kernel_rfl) (fun _ _ _ h => h) (Or.inl ⟨by rfl, fun w' hw' => (by clear hw'; go_simp; try with_reducible rfl)⟩) HS0.out (fun _ => HU0.out) ?_
      try simp only [Act.put, List.setIfInBounds_toArray, List.set_cons_zero, List.set_cons_succ]
      refine anyC_takeS (i := 11) (oi := ⟨some 24, _, _, _, _, _⟩) (v := _) rfl (by kernel_rfl) (by kernel_rfl) (by kernel_rfl) (by kernel_rfl) (fun _ _ _ h => h) (Or.inl ⟨by rfl, fun w' hw' => (by obtain ⟨h0, h1, h2, h3⟩ := hw'; go_simp; try with_reducible rfl)⟩) HS0.out (fun _ => HU0.out) ?_
      try simp only [Act.put, List.setIfInBounds_toArray, List.set_cons_zero, List.set_cons_succ]
      refine anyC_takeS (i := 12) (oi := ⟨some 25, _, _, _, _, _⟩) (v := _) rfl (by kernel_rfl) (by kernel_rfl) (by kernel_rfl) (by kernel_rfl) (fun _ _ _ h => h) (Or.inl ⟨by rfl, fun w' hw' => (by clear hw'; go_simp; try with_reducible rfl)⟩) HS0.out (fun _ => HU0.out) ?_
      try simp only [Act.put, List.setIfInBounds_toArray, List.set_cons_zero, List.set_cons_succ]
      refine anyC_takeS (i := 13) (oi := ⟨some 26, _, _, _, _, _⟩) (v := _) rfl (by kernel_rfl) (by kernel_rfl) (by kernel_rfl) (by kernel_rfl) (fun _ _ _ h => h) (Or.inl ⟨by rfl, fun w' hw' => (by clear hw'; go_simp; try with_reducible rfl)⟩) HS0.out (fun _ => HU0.out) ?_
      try simp only [Act.put, List.setIfInBounds_toArray, List.set_cons_zero, List.set_cons_succ]
      refine anyC_takeS (i := 14) (oi := ⟨some 27, _, _, _, _, _⟩) (v := _) rfl (by kernel_rfl) (by kernel_rfl) (by kernel_rfl) (by kernel_rfl) (fun _ _ _ h => h) (Or.inl ⟨by rfl, fun w' hw' => (by obtain ⟨h0, h1, h2, h3⟩ := hw'; go_simp; try with_reducible rfl)⟩) HS0.out (fun _ => HU0.out) ?_
      try simp only [Act.put, List.setIfInBounds_toArray, List.set_cons_zero, List.set_cons_succ]
      refine anyC_takeS (i := 15) (oi := ⟨some 28, _, _, _, _, _⟩) (v := _) rfl (by kernel_rfl) (by kernel_rfl) (by kernel_rfl) (by kernel_rfl) (fun _ _ _ h => h) (Or.inl ⟨by rfl, fun w' hw' => (by clear hw'; go_simp; try with_reducible rfl)⟩) HS0.out (fun _ => HU0.out) ?_
      try simp only [Act.put, List.setIfInBounds_toArray, List.set_cons_zero, List.set_cons_succ]
      refine anyC_takeS (i := 16) (oi := ⟨some 29, _, _, _, _, _⟩) (v := _) rfl (by kernel_rfl) (by kernel_rfl) (by kernel_rfl) (by kernel_rfl) (fun _ _ _ h => h) (Or.inl ⟨by rfl, fun w' hw' => (by clear hw'; go_simp; try with_reducible rfl)⟩) HS0.out (fun _ => HU0.out) ?_
      try simp only [Act.put, List.setIfInBounds_toArray, List.set_cons_zero, List.set_cons_succ]
      refine anyC_takeU (i := 17) (oi := ⟨some 30, _, _, _, _, _⟩) (v := _) rfl (by kernel_rfl) (by kernel_rfl) (by kernel_rfl) (by kernel_rfl) (fun _ _ _ h => h) (Or.inl ⟨by rfl, fun w' hw' => (by obtain ⟨u1, u2, u3, u4⟩ := hw'; go_simp; try with_reducible rfl)⟩) HS0.out HU0.out ?_
      try simp only [Act.put, List.setIfInBounds_toArray, List.set_cons_zero, List.set_cons_succ]
      refine anyC_takeS (i := 18) (oi := ⟨some 31, _, _, _, _, _⟩) (v := _) rfl (by kernel_rfl) (by kernel_rfl) (by kernel_rfl) (by kernel_rfl) (fun _ _ _ h => h) (Or.inl ⟨by rfl, fun w' hw' => (by clear hw'; go_simp; try with_reducible rfl)⟩) HS0.out (fun _ => HU0.out) ?_
      try simp only [Act.put, List.setIfInBounds_toArray, List.set_cons_zero, List.set_cons_succ]
      refine anyC_takeS (i := 19) (oi := ⟨some 32, _, _, _, _, _⟩) (v := _) rfl (by kernel_rfl) (by kernel_rfl) (by kernel_rfl) (by kernel_rfl) (fun _ _ _ h => h) (Or.inl ⟨by rfl, fun w' hw' => (by clear hw'; go_simp; try with_reducible rfl)⟩) HS0.out (fun _ => HU0.out) ?_
      try simp only [Act.put, List.setIfInBounds_toArray, List.set_cons_zero, List.set_cons_succ]
      refine anyC_takeS (i := 20) (oi := ⟨some 33, _, _, _, _, _⟩) (v := _) rfl (by kernel_rfl) (by kernel_rfl) (by kernel_rfl) (by kernel_rfl) (fun _ _ _ h => h) (Or.inl ⟨by rfl, fun w' hw' => (by obtain ⟨h0, h1, h2, h3⟩ := hw'; go_simp; try with_reducible rfl)⟩) HS0.out (fun _ => HU0.out) ?_
      try simp only [Act.put, List.setIfInBounds_toArray, List.set_cons_zero, List.set_cons_succ]
      refine anyC_takeS (i := 21) (oi := ⟨some 34, _, _, _, _, _⟩) (v := _) rfl (by kernel_rfl) (by kernel_rfl) (by kernel_rfl) (by kernel_rfl) (fun _ _ _ h => h) (Or.inl ⟨by rfl, fun w' hw' => (by clear hw'; go_simp; try with_reducible rfl)⟩) HS0.out (fun _ => HU0.out) ?_
      try simp only [Act.put, List.setIfInBounds_toArray, List.set_cons_zero, List.set_cons_succ]
      refine anyC_takeS (i := 22) (oi := ⟨some 35, _, _, _, _, _⟩) (v := _) rfl (by kernel_rfl) (by kernel_rfl) (by kernel_rfl) (by kernel_rfl) (fun _ _ _ h => h) (Or.inl ⟨by rfl, fun w' hw' => (by clear hw'; go_simp; try with_reducible rfl)⟩) HS0.out (fun _ => HU0.out) ?_
      try simp only [Act.put, List.setIfInBounds_toArray, List.set_cons_zero, List.set_cons_succ]
      refine anyC_takeU (i := 23) (oi := ⟨some 36, _, _, _, _, _⟩) (v := _) rfl (by kernel_rfl) (by kernel_rfl) (by kernel_rfl) (by kernel_rfl) (fun _ _ _ h => h) (Or.inl ⟨by rfl, fun w' hw' => (by obtain ⟨u1, u2, u3, u4⟩ := hw'; go_simp; try with_reducible rfl)⟩) HS0.out HU0.out ?_
      try simp only [Act.put, List.setIfInBounds_toArray, List.set_cons_zero, List.set_cons_succ]
      refine anyC_takeS (i := 24) (oi := ⟨some 37, _, _, _, _, _⟩) (v := _) rfl (by kernel_rfl) (by kernel_rfl) (by kernel_rfl) (by kernel_rfl) (fun _ _ _ h => h) (Or.inl ⟨by rfl, fun w' hw' => (by clear hw'; go_simp; try with_reducible rfl)⟩) HS0.out (fun _ => HU0.out) ?_
      try simp only [Act.put, List.setIfInBounds_toArray, List.set_cons_zero, List.set_cons_succ]
      refine anyC_takeS (i := 25) (oi := ⟨some 38, _, _, _, _, _⟩) (v := _) rfl (by kernel_rfl) (by kernel_rfl) (by kernel_rfl) (by kernel_rfl) (fun _ _ _ h => h) (Or.inl ⟨by rfl, fun w' hw' => (by clear hw'; go_simp; try with_reducible rfl)⟩) HS0.out (fun _ => HU0.out) ?_
      try simp only [Act.put, List.setIfInBounds_toArray, List.set_cons_zero, List.set_cons_succ]
      refine anyC_takeS (i := 26) (oi := ⟨some 39, _, _, _, _, _⟩) (v := _) rfl (by kernel_rfl) (by kernel_rfl) (by kernel_rfl) (by kernel_rfl) (fun _ _ _ h => h) (Or.inl ⟨by rfl, fun w' hw' => (by obtain ⟨h0, h1, h2, h3⟩ := hw'; go_simp; try with_reducible rfl)⟩) HS0.out (fun _ => HU0.out) ?_
      try simp only [Act.put, List.setIfInBounds_toArray, List.set_cons_zero, List.set_cons_succ]
      refine anyC_takeS (i := 27) (oi := ⟨some 40, _, _, _, _, _⟩) (v := _) rfl (by kernel_rfl) (by kernel_rfl) (by kernel_rfl) (by kernel_rfl) (fun _ _ _ h => h) (Or.inl ⟨by rfl, fun w' hw' => (by clear hw'; go_simp; try with_reducible rfl)⟩) HS0.out (fun _ => HU0.out) ?_
      try simp only [Act.put, List.setIfInBounds_toArray, List.set_cons_zero, List.set_cons_succ]
      refine anyC_takeS (i := 28) (oi := ⟨some 41, _, _, _, _, _⟩) (v := _) rfl (by kernel_rfl) (by kernel_rfl) (by kernel_rfl) (by kernel_rfl) (fun _ _ _ h => h) (Or.inl ⟨by rfl, fun w' hw' => (by clear hw'; go_simp; try with_reducible rfl)⟩) HS0.out (fun _ => HU0.out) ?_
      try simp only [Act.put, List.setIfInBounds_toArray, List.set_cons_zero, List.set_cons_succ]
      refine anyC_takeU (i := 29) (oi := ⟨some 42, _, _, _, _, _⟩) (v := _) rfl (by kernel_rfl) (by kernel_rfl) (by kernel_rfl) (by kernel_rfl) (fun _ _ _ h => h) (Or.inl ⟨by rfl, fun w' hw' => (by obtain ⟨u1, u2, u3, u4⟩ := hw'; go_simp; try with_reducible rfl)⟩) HS0.out HU0.out ?_
      try simp only [Act.put, List.setIfInBounds_toArray, List.set_cons_zero, List.set_cons_succ]
      refine anyC_takeS (i := 30) (oi := ⟨some 43, _, _, _, _, _⟩) (v := _) rfl (by kernel_rfl) (by kernel_rfl) (by kernel_rfl) (by kernel_rfl) (fun _ _ _ h => h) (Or.inl ⟨by rfl, fun w' hw' => (by clear hw'; go_simp; try with_reducible rfl)⟩) HS0.out (fun _ => HU0.out) ?_
      try simp only [Act.put, List.setIfInBounds_toArray, List.set_cons_zero, List.set_cons_succ]
      refine anyC_takeS (i := 31) (oi := ⟨some 44, _, _, _, _, _⟩) (v := _) rfl (by kernel_rfl) (by kernel_rfl) (by kernel_rfl) (by kernel_rfl) (fun _ _ _ h => h) (Or.inl ⟨by rfl, fun w' hw' => (by clear hw'; go_simp; try with_reducible rfl)⟩) HS0.out (fun _ => HU0.out) ?_
      try simp only [Act.put, List.setIfInBounds_toArray, List.set_cons_zero, List.set_cons_succ]
      refine anyC_takeS (i := 32) (oi := ⟨some 45, _, _, _, _, _⟩) (v := _) rfl (by kernel_rfl) (by kernel_rfl) (by kernel_rfl) (by kernel_rfl) (fun _ _ _ h => h) (Or.inl ⟨by rfl, fun w' hw' => (by obtain ⟨h0, h1, h2, h3⟩ := hw'; go_simp; try with_reducible rfl)⟩) HS0.out (fun _ => HU0.out) ?_
      try simp only [Act.put, List.setIfInBounds_toArray, List.set_cons_zero, List.set_cons_succ]
      refine anyC_takeS (i := 33) (oi := ⟨some 46, _, _, _, _, _⟩) (v := _) rfl (by kernel_rfl) (by kernel_rfl) (by kernel_rfl) (by kernel_rfl) (fun _ _ _ h => h) (Or.inl ⟨by rfl, fun w' hw' => (by clear hw'; go_simp; try with_reducible rfl)⟩) HS0.out (fun _ => HU0.out) ?_
      try simp only [Act.put, List.setIfInBounds_toArray, List.set_cons_zero, List.set_cons_succ]
      refine anyC_takeS (i := 34) (oi := ⟨some 47, _, _, _, _, _⟩) (v := _) rfl (by kernel_rfl) (by kernel_rfl) (by kernel_rfl) (by kernel_rfl) (fun _ _ _ h => h) (Or.inl ⟨by rfl, fun w' hw' => (by clear hw'; go_simp; try with_reducible rfl)⟩) HS0.out (fun _ => HU0.out) ?_
      try simp only [Act.put, List.setIfInBounds_toArray, List.set_cons_zero, List.set_cons_succ]
      refine anyC_takeU (i := 35) (oi := ⟨some 48, _, _, _, _, _⟩) (v := _) rfl (by kernel_rfl) (by kernel_rfl) (by kernel_rfl) (by kernel_rfl) (fun _ _ _ h => h) (Or.inl ⟨by rfl, fun w' hw' => (by obtain ⟨u1, u2, u3, u4⟩ := hw'; go_simp; try with_reducible rfl)⟩) HS0.out HU0.out ?_
      try simp only [Act.put, List.setIfInBounds_toArray, List.set_cons_zero, List.set_cons_succ]
      refine anyC_takeS (i := 42) (oi := ⟨some 54, _, _, _, _, _⟩) (v := _) rfl (by kernel_rfl) (by kernel_rfl) (by kernel_rfl) (by kernel_rfl) (fun _ _ _ h => h) (Or.inl ⟨by rfl, fun w' hw' => (by clear hw'; go_simp; try with_reducible rfl)⟩) HS0.out (fun _ => HU0.out) ?_
      try simp only [Act.put, List.setIfInBounds_toArray, List.set_cons_zero, List.set_cons_succ]
      refine anyC_takeS (i := 45) (oi := ⟨some 56, _, _, _, _, _⟩) (v := _) rfl (by kernel_rfl) (by kernel_rfl) (by kernel_rfl) (by kernel_rfl) (fun _ _ _ h => h) (Or.inl ⟨by rfl, fun w' hw' => (by clear hw'; go_simp; try with_reducible rfl)⟩) HS0.out (fun _ => HU0.out) ?_
      try simp only [Act.put, List.setIfInBounds_toArray, List.set_cons_zero, List.set_cons_succ]
      refine anyC_takeS (i := 48) (oi := ⟨some 58, _, _, _, _, _⟩) (v := _) rfl (by kernel_rfl) (by kernel_rfl) (by kernel_rfl) (by kernel_rfl) (fun _ _ _ h => h) (Or.inl ⟨by rfl, fun w' hw' => (by clear hw'; go_simp; try with_reducible rfl)⟩) HS0.out (fun _ => HU0.out) ?_
      try simp only [Act.put, List.setIfInBounds_toArray, List.set_cons_zero, List.set_cons_succ]
      refine anyC_takeS (i := 51) (oi := ⟨some 60, _, _, _, _, _⟩) (v := _) rfl (by kernel_rfl) (by kernel_rfl) (by kernel_rfl) (by kernel_rfl) (fun _ _ _ h => h) (Or.inl ⟨by rfl, fun w' hw' => (by clear hw'; go_simp; try with_reducible rfl)⟩) HS0.out (fun _ => HU0.out) ?_
      try simp only [Act.put, List.setIfInBounds_toArray, List.set_cons_zero, List.set_cons_succ]
      refine anyC_keep (i := 36) (o := ⟨some 49, _, _, _, _, _⟩) (by kernel_rfl) rfl (fun K hK => ?_)
      rw [if_pos (by rfl)]
      go_wp2_with (go_at_call 103; (with_reducible refine (HQ.out _).mono ?_); rintro e V' ⟨rfl, rfl⟩)
      refine hK.out _ _ ⟨HS0.out, fun _ => HU0.out⟩ ?_
      clear hK K
      try simp only [Act.put, List.setIfInBounds_toArray, List.set_cons_zero, List.set_cons_succ]
      refine anyC_takeS (i := 37) (oi := ⟨some 12, _, _, _, _, _⟩) (v := _) rfl (by kernel_rfl) (by kernel_rfl) (by kernel_rfl) (by kernel_rfl) (fun _ _ _ h => h) (Or.inl ⟨by rfl, fun w' hw' => (by clear hw'; go_simp; try with_reducible rfl)⟩) HS0.out (fun _ => HU0.out) ?_
      try simp only [Act.put, List.setIfInBounds_toArray, List.set_cons_zero, List.set_cons_succ]
      refine anyC_takeS (i := 38) (oi := ⟨some 50, _, _, _, _, _⟩) (v := _) rfl (by kernel_rfl) (by kernel_rfl) (by kernel_rfl) (by kernel_rfl) (fun _ _ _ h => h) (Or.inl ⟨by rfl, fun w' hw' => (by clear hw'; go_simp; try with_reducible rfl)⟩) HS0.out (fun _ => HU0.out) ?_
      try simp only [Act.put, List.setIfInBounds_toArray, List.set_cons_zero, List.set_cons_succ]
      refine anyC_takeS (i := 39) (oi := ⟨some 51, _, _, _, _, _⟩) (v := _) rfl (by kernel_rfl) (by kernel_rfl) (by kernel_rfl) (by kernel_rfl) (fun _ _ _ h => h) (Or.inl ⟨by rfl, fun w' hw' => (by clear hw'; go_simp; try with_reducible rfl)⟩) HS0.out (fun _ => HU0.out) ?_
      try simp only [Act.put, List.setIfInBounds_toArray, List.set_cons_zero, List.set_cons_succ]
      refine anyC_takeS (i := 40) (oi := ⟨some 52, _, _, _, _, _⟩) (v := _) rfl (by kernel_rfl) (by kernel_rfl) (by kernel_rfl) (by kernel_rfl) (fun _ _ _ h => h) (Or.inl ⟨by rfl, fun w' hw' => (by clear hw'; go_simp; try with_reducible rfl)⟩) HS0.out (fun _ => HU0.out) ?_
      try simp only [Act.put, List.setIfInBounds_toArray, List.set_cons_zero, List.set_cons_succ]
      refine anyC_takeS (i := 41) (oi := ⟨some 53, _, _, _, _, _⟩) (v := _) rfl (by kernel_rfl) (by kernel_rfl) (by kernel_rfl) (by kernel_rfl) (fun _ _ _ h => h) (Or.inl ⟨by rfl, fun w' hw' => (by clear hw'; go_simp; try with_reducible rfl)⟩) HS0.out (fun _ => HU0.out) ?_
      try simp only [Act.put, List.setIfInBounds_toArray, List.set_cons_zero, List.set_cons_succ]
      refine anyC_takeS (i := 43) (oi := ⟨some 55, _, _, _, _, _⟩) (v := _) rfl (by kernel_rfl) (by kernel_rfl) (by kernel_rfl) (by kernel_rfl) (fun _ _ _ h => h) (Or.inl ⟨by rfl, fun w' hw' => (by clear hw'; go_simp; try with_reducible rfl)⟩) HS0.out (fun _ => HU0.out) ?_
      try simp only [Act.put, List.setIfInBounds_toArray, List.set_cons_zero, List.set_cons_succ]
      have hc0 := AV.out.getD (i := pa) (by (try simp only [List.length_set]); omega)
      have hf0 := AV.out.free pa
      obtain ⟨old0, ho0⟩ : ∃ x, List.getD L pa 0 = x := ⟨_, rfl⟩
      rw [ho0] at hc0
      clear ho0
      have A1 := Lib.hid (AV.out.set pa ra)
      have S1 := Lib.hid (S4.set HS0.out (by omega) pa (wd ra) : S4 (V.setCell ⟨g, pa, none⟩ (wd ra)) D pa pb pc pd)
      have O1 := Lib.hid ((OV.out).set pa (wd ra))
      refine anyC_keep (i := 44) (o := ⟨none, _, _, _, _, _⟩) (by kernel_rfl) rfl (fun K hK => ?_)
      rw [if_pos (by rfl)]
      go_simp
      refine hK.out _ _ ⟨S1.out, fun h => absurd h (by decide)⟩ ?_
      clear hK K
      try simp only [Act.put, List.setIfInBounds_toArray, List.set_cons_zero, List.set_cons_succ]
      generalize V.setCell ⟨g, pa, none⟩ (wd ra) = V1 at A1 S1 O1 ⊢
      clear hc0 hf0
      refine anyC_takeS (i := 46) (oi := ⟨some 57, _, _, _, _, _⟩) (v := _) rfl (by kernel_rfl) (by kernel_rfl) (by kernel_rfl) (by kernel_rfl) (fun _ _ _ h => h) (Or.inl ⟨by rfl, fun w' hw' => (by clear hw'; go_simp; try with_reducible rfl)⟩) S1.out (fun h => absurd h (by decide)) ?_
      try simp only [Act.put, List.setIfInBounds_toArray, List.set_cons_zero, List.set_cons_succ]
      have hc1 := A1.out.getD (i := pb) (by (try simp only [List.length_set]); omega)
      have hf1 := A1.out.free pb
      obtain ⟨old1, ho1⟩ : ∃ x, List.getD (L.set pa ra) pb 0 = x := ⟨_, rfl⟩
      rw [ho1] at hc1
      clear ho1
      have A2 := Lib.hid (A1.out.set pb rb)
      have S2 := Lib.hid (S4.set S1.out (by omega) pb (wd rb) : S4 (V1.setCell ⟨g, pb, none⟩ (wd rb)) D pa pb pc pd)
      have O2 := Lib.hid ((O1.out).set pb (wd rb))
      refine anyC_keep (i := 47) (o := ⟨none, _, _, _, _, _⟩) (by kernel_rfl) rfl (fun K hK => ?_)
      rw [if_pos (by rfl)]
      go_simp
      refine hK.out _ _ ⟨S2.out, fun h => absurd h (by decide)⟩ ?_
      clear hK K
      try simp only [Act.put, List.setIfInBounds_toArray, List.set_cons_zero, List.set_cons_succ]
      generalize V1.setCell ⟨g, pb, none⟩ (wd rb) = V2 at A2 S2 O2 ⊢
      clear hc1 hf1
      refine anyC_takeS (i := 49) (oi := ⟨some 59, _, _, _, _, _⟩) (v := _) rfl (by kernel_rfl) (by kernel_rfl) (by kernel_rfl) (by kernel_rfl) (fun _ _ _ h => h) (Or.inl ⟨by rfl, fun w' hw' => (by clear hw'; go_simp; try with_reducible rfl)⟩) S2.out (fun h => absurd h (by decide)) ?_
      try simp only [Act.put, List.setIfInBounds_toArray, List.set_cons_zero, List.set_cons_succ]
      have hc2 := A2.out.getD (i := pc) (by (try simp only [List.length_set]); omega)
      have hf2 := A2.out.free pc
      obtain ⟨old2, ho2⟩ : ∃ x, List.getD ((L.set pa ra).set pb rb) pc 0 = x := ⟨_, rfl⟩
      rw [ho2] at hc2
      clear ho2
      have A3 := Lib.hid (A2.out.set pc rc)
      have S3 := Lib.hid (S4.set S2.out (by omega) pc (wd rc) : S4 (V2.setCell ⟨g, pc, none⟩ (wd rc)) D pa pb pc pd)
      have O3 := Lib.hid ((O2.out).set pc (wd rc))
      refine anyC_keep (i := 50) (o := ⟨none, _, _, _, _, _⟩) (by kernel_rfl) rfl (fun K hK => ?_)
      rw [if_pos (by rfl)]
      go_simp
      refine hK.out _ _ ⟨S3.out, fun h => absurd h (by decide)⟩ ?_
      clear hK K
      try simp only [Act.put, List.setIfInBounds_toArray, List.set_cons_zero, List.set_cons_succ]
      generalize V2.setCell ⟨g, pc, none⟩ (wd rc) = V3 at A3 S3 O3 ⊢
      clear hc2 hf2
      refine anyC_takeS (i := 52) (oi := ⟨some 61, _, _, _, _, _⟩) (v := _) rfl (by kernel_rfl) (by kernel_rfl) (by kernel_rfl) (by kernel_rfl) (fun _ _ _ h => h) (Or.inl ⟨by rfl, fun w' hw' => (by clear hw'; go_simp; try with_reducible rfl)⟩) S3.out (fun h => absurd h (by decide)) ?_
      try simp only [Act.put, List.setIfInBounds_toArray, List.set_cons_zero, List.set_cons_succ]
      have hc3 := A3.out.getD (i := pd) (by (try simp only [List.length_set]); omega)
      have hf3 := A3.out.free pd
      obtain ⟨old3, ho3⟩ : ∃ x, List.getD (((L.set pa ra).set pb rb).set pc rc) pd 0 = x := ⟨_, rfl⟩
      rw [ho3] at hc3
      clear ho3
      have A4 := Lib.hid (A3.out.set pd rd)
      have S4 := Lib.hid (S4.set S3.out (by omega) pd (wd rd) : S4 (V3.setCell ⟨g, pd, none⟩ (wd rd)) D pa pb pc pd)
      have O4 := Lib.hid ((O3.out).set pd (wd rd))
      refine anyC_keep (i := 53) (o := ⟨none, _, _, _, _, _⟩) (by kernel_rfl) rfl (fun K hK => ?_)
      rw [if_pos (by rfl)]
      go_simp
      refine hK.out _ _ ⟨S4.out, fun h => absurd h (by decide)⟩ ?_
      clear hK K
      try simp only [Act.put, List.setIfInBounds_toArray, List.set_cons_zero, List.set_cons_succ]
      generalize V3.setCell ⟨g, pd, none⟩ (wd rd) = V4 at A4 S4 O4 ⊢
      clear hc3 hf3
      refine anyC_done (by kernel_rfl) ?_ _
      go_wp2
      go_roundw
      case rel => exact ⟨k + 1, by omega, by go_num, Lib.hid (by rw [take_snocP HPK.out, qrs_snoc, HLL.out, HE.out]; exact A4.out), O4⟩
      case measure => simp [intOf]; omega
    · obtain rfl : k = n := by omega
      go_wp2
      go_end0
      exact ⟨⟨_, rfl⟩, by have := HA.out; rwa [List.take_of_length_le (by rw [HN.out]; exact Nat.le_refl _)] at this, HO.out⟩
end Go.Proofs.YtnfefkcfifnjnaaDoor
