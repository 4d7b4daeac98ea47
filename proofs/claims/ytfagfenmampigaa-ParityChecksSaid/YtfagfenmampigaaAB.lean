/- The reference: More, Crc. -/
import Derived.Test.YtfagfenmampigaaAA
namespace Go.Proofs.Ytfagfenmampigaa
open Go.RowKit Go.ChangeShapes
/-- Block g begins with a row of bits, and may be written. -/
def Rb (w : World) (g : Nat) (l : List Bool) : Prop := ∃ ys : List Value, w.heap[g]? = some (.cells (boC l ++ ys).toArray 4 (0, 0))
theorem Rb.getD {w : World} {g : Nat} {l : List Bool} (h : Rb w g l) {i : Nat} (hi : i < l.length) : w.cell? ⟨g, i, none⟩ = some (Value.bool (l.getD i false)) := by
  obtain ⟨ys, hy⟩ := h
  rw [cell_of_row w g i _ 4 (0, 0) hy, List.getD_eq_getElem?_getD, List.getElem?_eq_getElem hi, List.getElem?_toArray, List.getElem?_append_left (by rw [boC_length]; exact hi)]
  simp [boC, hi]
theorem Rb.free {w : World} {g : Nat} {l : List Bool} (h : Rb w g l) (i : Nat) : w.frozen? ⟨g, i, none⟩ = false := by
  obtain ⟨ys, hy⟩ := h
  exact frozen_of_row w g i _ 4 hy
theorem Rb.lt {w : World} {g : Nat} {l : List Bool} (h : Rb w g l) : g < w.heap.size := by
  obtain ⟨ys, hy⟩ := h
  exact (Array.getElem?_eq_some_iff.1 hy).1
theorem Rb.below {w w' : World} {B g : Nat} {l : List Bool} (h : Rb w g l) (hb : Below B w w') (hg : g < B) : Rb w' g l := by
  obtain ⟨ys, hy⟩ := h
  exact ⟨ys, (hb.block g hg).trans hy⟩
theorem Rb.drew {w : World} {g : Nat} {l : List Bool} (h : Rb w g l) : Rb w.drew g l := h
theorem Rb.set {w : World} {g : Nat} {l : List Bool} (h : Rb w g l) (i : Nat) (hi : i < l.length) (x : Bool) : Rb (w.setCell ⟨g, i, none⟩ (Value.bool x)) g (l.set i x) := by
  obtain ⟨ys, hy⟩ := h
  refine ⟨ys, ?_⟩
  rw [heap_setCell_same w g i _ 4 (Value.bool x) hy]
  congr 2
  have hl : i < (boC l).length := by rw [boC_length]; exact hi
  simp [boC, List.map_set, List.set_append, hi]
theorem Rb.other {w : World} {g : Nat} {l : List Bool} (h : Rb w g l) {a : Addr} (ha : g ≠ a.block) (v : Value) : Rb (w.setCell a v) g l := by
  obtain ⟨ys, hy⟩ := h
  exact ⟨ys, (heap_setCell_other w a g v ha).trans hy⟩
theorem own_rb {W : World} {base n : Nat} {v : Value} {l : List Bool} (h : W.ownsRow base 4 1 v n (boC l)) (h0 : 0 < n) : ∃ g cap, v = .slice (some ⟨g, 0, none⟩) n cap ∧ base ≤ g ∧ Rb W g l := by
  rcases h.2 with ⟨_, hn⟩ | ⟨g, cap, cur, rfl, hb, hg, _, _, _, htake⟩
  · omega
  · refine ⟨g, cap, rfl, hb, cur.toList.drop (n * 1), ?_⟩
    rw [hg, ← htake, List.take_append_drop]
set_option maxRecDepth 100000 in
set_option maxHeartbeats 8000000 in
theorem rmore_any (b : Bool) (crc : Nat) (s : List UInt8) (w : World) (h : crc ≤ 4294967295) (hs : s.length ≤ 4096) : Calls Try.prog 16 #[kV b, .int .i64 (crc : Int), .string (bs s)] w fun e w' => e = .returned (.int .i64 ((moreN (kC b) crc s : Nat) : Int)) ∧ Below w.heap.size w w' := by
  have HBT := Lib.hid (fun W => bits_any s W hs)
  obtain ⟨cc, hcc⟩ : ∃ cc, 4294967295 - crc = cc := ⟨_, rfl⟩
  have hccI : (4294967295 : Int) - (crc : Int) = (cc : Int) := by omega
  have HCF := Lib.hid (fun W => coef_any cc W (by omega))
  have hmd := more_div (kC b) crc s (by have := kC_W b; unfold isW at this; omega) h
  rw [hcc] at hmd
  have HRS := Lib.hid (fun gs n c l W hl h32 hn hgs hsrc => rest_any b gs 0 n c l W hl h32 hn hgs hsrc)
  have hbl : (bitsS s ++ List.replicate 32 false).length = 8 * s.length + 32 := by rw [List.length_append, bitsS_length, List.length_replicate]
  have hfl := bitsL_length cc 32
  have happ : boC (bitsS s) ++ f32C = boC (bitsS s ++ List.replicate 32 false) := by simp [boC, f32C]
  have hpl := bitsL_length (kC b) 32
  have hrl : ∀ l : List Bool, l.length = 8 * s.length + 32 → (restL (bitsL (kC b) 32) (8 * s.length) l).length = 32 := fun l hl => by
    rw [restL_length _ _ _ (by omega), hl]; omega
  have HMD : Hid (FF ^^^ nb (restL (bitsL (kC b) 32) (8 * s.length) (xkL (bitsS s ++ List.replicate 32 false) (bitsL cc 32) 32)) = moreN (kC b) crc s) := Lib.hid (by
    rw [← hmd]; unfold xkL; rw [List.take_of_length_le (Nat.le_of_eq hfl)])
  clear hmd
  generalize moreN (kC b) crc s = RES at HMD ⊢
  generalize bitsL (kC b) 32 = p at HMD HRS hrl hpl
  generalize bitsL cc 32 = f at HMD HCF hfl
  have HAPP := Lib.hid happ
  generalize hN : 8 * s.length = nn at HBT hbl HMD hrl
  have hnn : nn ≤ 32768 := by omega
  generalize bitsS s ++ List.replicate 32 false = l at HMD HAPP hbl
  generalize bs s = S at HBT ⊢
  generalize bitsS s = l0 at HBT HAPP
  have HRL := Lib.hid hrl
  clear happ hrl hcc hN hs
  generalize kV b = KV at HRS ⊢
  clear hpl
  go_enter Try.func16, Try.ntmps16
  go_upto_region 1 with fail
  go_wp2_with fail
  (with_reducible refine (HBT.out _).mono ?_)
  rintro e V1 ⟨⟨v1, rfl, hown1⟩, hb1⟩
  go_upto_region 2 with (refine wpList_append_falses rfl _ _ rfl w.heap.size v1 nn (boC l0) rfl hown1 rfl (by omega) hb1.size ?_; intro v2 V2 hown2 hg2)
  rw [HAPP.out] at hown2
  obtain ⟨g1, cap1, rfl, hbg1, HR1⟩ := own_rb hown2 (by omega)
  have hB2 : Below w.heap.size w V2 := hb1.grown hg2 hb1.size (fun g hg => (hown1.lt g hg).1)
  clear hown1 hown2 hg2 hb1 HBT HAPP
  go_wp2_with fail
  (with_reducible refine (HCF.out V2).mono ?_)
  rintro e V3 ⟨⟨v3, rfl, hown3⟩, hb3⟩
  obtain ⟨g2, cap2, rfl, hbg2, HR2⟩ := own_rb hown3 (by omega)
  have hlt1 := HR1.lt
  have HR3 := HR1.below hb3 hlt1
  have hB3 := bstep hB2 hb3
  have H0 : Hid (Rb V3 g1 (xkL l f 0) ∧ Rb V3 g2 f ∧ Below w.heap.size w V3) := Lib.hid ⟨by rw [xkL_zero]; exact HR3, HR2, hB3⟩
  have hg12 : g1 < g2 := by omega
  have HLF := Lib.hid (And.intro hbl hfl)
  clear hown3 hb3 HR1 HR2 HR3 hB2 hB3 hbg2 hlt1 HCF hccI h hbl hfl
  go_upto_region 4 with fail
  go_wp2
  go_loopw [9] (fun i wr => ∃ k : Nat, k ≤ 32 ∧ i = .int .i64 (k : Int) ∧ Hid (Rb wr g1 (xkL l f k) ∧ Rb wr g2 f ∧ Below w.heap.size w wr)) (fun i _ => 32 - (intOf i).toNat)
  case atStart => exact ⟨0, by omega, rfl, H0⟩
  case round =>
    clear H0
    obtain ⟨k, hk, rfl, H1⟩ := hrel
    by_cases hlt : k < 32
    · have hki : (k : Int) < 32 := by omega
      have hxl2 : (xkL l f k).length = l.length := xkL_length l f k (by have := HLF.out.2; omega) (by have := HLF.out; omega)
      have ck := H1.out.1.getD (i := k) (by have := HLF.out.1; omega)
      rw [xkL_get l f k (by have := HLF.out; omega) (by have := HLF.out; omega)] at ck
      have fk := H1.out.1.free k
      have dk := H1.out.2.1.getD (i := k) (by have := HLF.out.2; omega)
      have hkn : (k : Int) < (nn : Int) + 32 := by omega
      have hset := xkL_set l f k (by have := HLF.out; omega) (by have := HLF.out; omega)
      have R1 := H1.out.1.drew.set k (by have := HLF.out.1; omega) (l.getD k false != f.getD k false)
      rw [hset] at R1
      have R2 := H1.out.2.1.drew.other (a := ⟨g1, k, none⟩) (show g2 ≠ g1 by omega) (Value.bool (l.getD k false != f.getD k false))
      have RB := H1.out.2.2.drew.setCell (p := ⟨g1, k, none⟩) (show w.heap.size ≤ g1 from hbg1) (Value.bool (l.getD k false != f.getD k false))
      have HRR := Lib.hid (And.intro R1 (And.intro R2 RB))
      generalize l.getD k false = x at ck HRR
      generalize f.getD k false = y at dk HRR
      have HU0 := Lib.hid (show wr.drew.cell? ⟨g1, k, none⟩ = some (.bool x) ∧ wr.drew.cell? ⟨g2, k, none⟩ = some (.bool y) from ⟨ck, dk⟩)
      have HF := Lib.hid (And.intro ck fk)
      clear ck fk dk hset R1 R2 RB hxl2 H1
      go_upto_region 6 with fail
      clear hnn
      refine region_anyC (fun _ => True) (fun w' => w'.cell? ⟨g1, k, none⟩ = some (.bool x) ∧ w'.cell? ⟨g2, k, none⟩ = some (.bool y)) [12] (by kernel_rfl) ?_
      refine anyC_takeS (i := 0) (oi := ⟨some 20, _, _, _, _, _⟩) (v := _) rfl (by kernel_rfl) (by kernel_rfl) (by kernel_rfl) (by kernel_rfl) (fun _ _ _ h => h) (Or.inl ⟨by rfl, fun w' hw' => (by clear hw'; go_simp; try with_reducible rfl)⟩) trivial (fun _ => HU0.out) ?_
      try simp only [Act.put, List.setIfInBounds_toArray, List.set_cons_zero, List.set_cons_succ]
      refine anyC_takeS (i := 1) (oi := ⟨some 21, _, _, _, _, _⟩) (v := _) rfl (by kernel_rfl) (by kernel_rfl) (by kernel_rfl) (by kernel_rfl) (fun _ _ _ h => h) (Or.inl ⟨by rfl, fun w' hw' => (by clear hw'; go_simp; try with_reducible rfl)⟩) trivial (fun _ => HU0.out) ?_
      try simp only [Act.put, List.setIfInBounds_toArray, List.set_cons_zero, List.set_cons_succ]
      refine anyC_takeS (i := 2) (oi := ⟨some 22, _, _, _, _, _⟩) (v := _) rfl (by kernel_rfl) (by kernel_rfl) (by kernel_rfl) (by kernel_rfl) (fun _ _ _ h => h) (Or.inl ⟨by rfl, fun w' hw' => (by clear hw'; go_simp; try with_reducible rfl)⟩) trivial (fun _ => HU0.out) ?_
      try simp only [Act.put, List.setIfInBounds_toArray, List.set_cons_zero, List.set_cons_succ]
      refine anyC_takeS (i := 3) (oi := ⟨some 23, _, _, _, _, _⟩) (v := _) rfl (by kernel_rfl) (by kernel_rfl) (by kernel_rfl) (by kernel_rfl) (fun _ _ _ h => h) (Or.inl ⟨by rfl, fun w' hw' => (by clear hw'; go_simp; try with_reducible rfl)⟩) trivial (fun _ => HU0.out) ?_
      try simp only [Act.put, List.setIfInBounds_toArray, List.set_cons_zero, List.set_cons_succ]
      refine anyC_takeS (i := 4) (oi := ⟨some 24, _, _, _, _, _⟩) (v := _) rfl (by kernel_rfl) (by kernel_rfl) (by kernel_rfl) (by kernel_rfl) (fun _ _ _ h => h) (Or.inl ⟨by rfl, fun w' hw' => (by clear hw'; go_simp; try with_reducible rfl)⟩) trivial (fun _ => HU0.out) ?_
      try simp only [Act.put, List.setIfInBounds_toArray, List.set_cons_zero, List.set_cons_succ]
      refine anyC_takeU (i := 5) (oi := ⟨some 25, _, _, _, _, _⟩) (v := _) rfl (by kernel_rfl) (by kernel_rfl) (by kernel_rfl) (by kernel_rfl) (fun _ _ _ h => h) (Or.inl ⟨by rfl, fun w' hw' => (by obtain ⟨u1, u2⟩ := hw'; go_simp; try with_reducible rfl)⟩) trivial HU0.out ?_
      try simp only [Act.put, List.setIfInBounds_toArray, List.set_cons_zero, List.set_cons_succ]
      refine anyC_takeS (i := 6) (oi := ⟨some 26, _, _, _, _, _⟩) (v := _) rfl (by kernel_rfl) (by kernel_rfl) (by kernel_rfl) (by kernel_rfl) (fun _ _ _ h => h) (Or.inl ⟨by rfl, fun w' hw' => (by clear hw'; go_simp; try with_reducible rfl)⟩) trivial (fun _ => HU0.out) ?_
      try simp only [Act.put, List.setIfInBounds_toArray, List.set_cons_zero, List.set_cons_succ]
      refine anyC_takeS (i := 7) (oi := ⟨some 27, _, _, _, _, _⟩) (v := _) rfl (by kernel_rfl) (by kernel_rfl) (by kernel_rfl) (by kernel_rfl) (fun _ _ _ h => h) (Or.inl ⟨by rfl, fun w' hw' => (by clear hw'; go_simp; try with_reducible rfl)⟩) trivial (fun _ => HU0.out) ?_
      try simp only [Act.put, List.setIfInBounds_toArray, List.set_cons_zero, List.set_cons_succ]
      refine anyC_takeS (i := 8) (oi := ⟨some 28, _, _, _, _, _⟩) (v := _) rfl (by kernel_rfl) (by kernel_rfl) (by kernel_rfl) (by kernel_rfl) (fun _ _ _ h => h) (Or.inl ⟨by rfl, fun w' hw' => (by clear hw'; go_simp; try with_reducible rfl)⟩) trivial (fun _ => HU0.out) ?_
      try simp only [Act.put, List.setIfInBounds_toArray, List.set_cons_zero, List.set_cons_succ]
      refine anyC_takeU (i := 9) (oi := ⟨some 29, _, _, _, _, _⟩) (v := _) rfl (by kernel_rfl) (by kernel_rfl) (by kernel_rfl) (by kernel_rfl) (fun _ _ _ h => h) (Or.inl ⟨by rfl, fun w' hw' => (by obtain ⟨u1, u2⟩ := hw'; go_simp; try with_reducible rfl)⟩) trivial HU0.out ?_
      try simp only [Act.put, List.setIfInBounds_toArray, List.set_cons_zero, List.set_cons_succ]
      refine anyC_takeS (i := 10) (oi := ⟨some 30, _, _, _, _, _⟩) (v := _) rfl (by kernel_rfl) (by kernel_rfl) (by kernel_rfl) (by kernel_rfl) (fun _ _ _ h => h) (Or.inl ⟨by rfl, fun w' hw' => (by clear hw'; go_simp; try with_reducible rfl)⟩) trivial (fun _ => HU0.out) ?_
      try simp only [Act.put, List.setIfInBounds_toArray, List.set_cons_zero, List.set_cons_succ]
      refine anyC_takeS (i := 11) (oi := ⟨some 31, _, _, _, _, _⟩) (v := _) rfl (by kernel_rfl) (by kernel_rfl) (by kernel_rfl) (by kernel_rfl) (fun _ _ _ h => h) (Or.inl ⟨by rfl, fun w' hw' => (by clear hw'; go_simp; try with_reducible rfl)⟩) trivial (fun _ => HU0.out) ?_
      try simp only [Act.put, List.setIfInBounds_toArray, List.set_cons_zero, List.set_cons_succ]
      refine anyC_keep (i := 12) (o := ⟨none, _, _, _, _, _⟩) (by kernel_rfl) rfl (fun K hK => ?_)
      rw [if_pos (by rfl)]
      obtain ⟨c3, f3⟩ := HF.out
      go_simp
      refine hK.out _ _ ⟨trivial, (fun h => absurd h (by decide))⟩ ?_
      clear hK K
      try simp only [Act.put, List.setIfInBounds_toArray, List.set_cons_zero, List.set_cons_succ]
      refine anyC_done (by kernel_rfl) ?_ _
      go_wp2
      go_roundw
      case rel => exact ⟨k + 1, by omega, by go_num, HRR⟩
      case measure => simp [intOf]; omega
    · obtain rfl : k = 32 := by omega
      have hxl2 : (xkL l f 32).length = nn + 32 := by rw [xkL_length l f 32 (by have := HLF.out.2; omega) (by have := HLF.out; omega)]; exact HLF.out.1
      have hres := HRL.out _ hxl2
      obtain ⟨fin, hfin⟩ : ∃ fin, restL p nn (xkL l f 32) = fin := ⟨_, rfl⟩
      have hmd := HMD.out
      rw [hfin] at hres hmd
      have hnl := nb_lt fin
      rw [hres] at hnl
      have hnb : (4294967295 : Int) - ((nb fin : Nat) : Int) = (RES : Int) := by
        rw [← hmd, ← ff_sub (nb fin) (by omega)]
        omega
      have hcall := HRS.out g1 (nn + 32) cap1 (xkL l f 32) wr hxl2 (by omega) (by omega) H1.out.1.lt (fun i hi => by rw [Nat.zero_add]; exact H1.out.1.getD (by omega))
      rw [Nat.add_sub_cancel, hfin] at hcall
      have HC := Lib.hid hcall
      have HNM := Lib.hid (fun W => number_any fin W hres)
      have HB := Lib.hid H1.out.2.2
      generalize nb fin = nbf at hnb hnl HNM
      have hnbl : nbf ≤ 4294967295 := by omega
      have hRES : RES ≤ 4294967295 := by omega
      clear hcall hres hmd hnl H1 HMD hfin hxl2 HRS HRL
      go_wp2_with fail
      (with_reducible refine HC.out.mono ?_)
      rintro e W1 ⟨rfl, hc1⟩
      have HB1 := Lib.hid (bstep HB.out hc1)
      clear HB hc1 HC
      go_wp2_with fail
      (with_reducible refine (HNM.out _).mono ?_)
      rintro e W2 ⟨rfl, hc2⟩
      have HB2 := Lib.hid (bstep HB1.out hc2)
      clear HB1 hc2 HNM
      go_wp2
      go_ret
      exact ⟨rfl, HB2.out⟩
set_option maxRecDepth 100000 in
set_option maxHeartbeats 4000000 in
theorem rcrc_any (b : Bool) (s : List UInt8) (w : World) (hs : s.length ≤ 4096) : Calls Try.prog 17 #[kV b, .string (bs s)] w fun e w' => e = .returned (.int .i64 ((moreN (kC b) 0 s : Nat) : Int)) ∧ Below w.heap.size w w' := by
  have HM : Hid (∀ W : World, Calls Try.prog 16 #[kV b, .int .i64 0, .string (bs s)] W fun e w' => e = .returned (.int .i64 ((moreN (kC b) 0 s : Nat) : Int)) ∧ Below W.heap.size W w') := Lib.hid (fun W => rmore_any b 0 s W (by omega) hs)
  generalize moreN (kC b) 0 s = RES at HM ⊢
  generalize bs s = S at HM ⊢
  generalize kV b = KV at HM ⊢
  clear hs
  go_enter Try.func17, Try.ntmps17
  go_wp2_with fail
  (with_reducible refine (HM.out _).mono ?_)
  rintro e W1 ⟨rfl, hc1⟩
  have HB := Lib.hid hc1
  clear hc1 HM
  go_wp2
  go_ret
  exact ⟨rfl, HB.out⟩
end Go.Proofs.Ytfagfenmampigaa
