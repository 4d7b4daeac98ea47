/- The reference's Fits and Apply. -/
import Derived.Test.YtnfefkcfifnjnaaDoorRZ
import Derived.Test.YtnfefkcfifnjnaaDoorW
import Derived.Test.YtnfefkcfifnjnaaDoorZC
import Derived.Deep.Cut
namespace Go.Proofs.YtnfefkcfifnjnaaDoor
open Go.RowKit Go.ChangeShapes
/-- An octet of a string. -/
theorem ix_bs (l : List UInt8) (k : Nat) (i : Int) (hi : i = (k : Int)) (h : k < l.length) (w : World) : (Instr.index 9 (.string (bs l)) (.int .i64 i)).run Tryd.prog w = .ok (.int .u8 ((l.getD k 0).toNat : Int)) w := by
  subst hi
  rw [run_index_string w 9 (bs l) .i64 _ Tryd.underlying9, dif_pos ⟨by omega, by rw [bs_size]; omega⟩]
  simp only [Int.toNat_natCast]
  rw [List.getD_eq_getElem?_getD, List.getElem?_eq_getElem h]; rfl
set_option maxRecDepth 100000 in
/-- The reference's Fits. -/
theorem rfits (c m : Nat) (w : World) (hc : c ≤ 4294967295) (hm : m ≤ 5000) :
    Calls Tryd.prog 35 #[.int .i64 (c : Int), .int .i64 (m : Int)] w fun e w' => e = .returned (.bool (decide (c + (m + 63) / 64 ≤ 4294967296))) ∧ w = w' := by
  rcases Nat.eq_zero_or_pos m with rfl | hm0
  · have hd : decide (c + (0 + 63) / 64 ≤ 4294967296) = true := decide_eq_true (by omega)
    rw [hd]
    clear hd
    go_enter Tryd.func35, Tryd.ntmps35
    go_wp2
    go_ret
    exact ⟨rfl, rfl⟩
  · obtain ⟨q, hq⟩ : ∃ q, (m - 1) / 64 = q := ⟨_, rfl⟩
    have e1 : ((m : Int) - 1).tdiv 64 = (q : Int) := by rw [Int.tdiv_eq_ediv_of_nonneg (by omega)]; omega
    have e1' : ((m : Int) - 1) / 64 = (q : Int) := by omega
    have m0 : (m : Int) ≠ 0 := by omega
    have hq0 : q ≤ 100 := by omega
    have hd : decide (c + (m + 63) / 64 ≤ 4294967296) = decide ((c : Int) + (q : Int) < 4294967296) := by apply decide_eq_decide.2; omega
    rw [hd]
    clear hd hq
    have hbm : ((m : Int) == 0) = false := by rw [beq_eq_false_iff_ne]; exact m0
    go_enter Tryd.func35, Tryd.ntmps35
    go_wp2
    all_goals go_ret
    all_goals refine ⟨?_, rfl⟩
    all_goals show Ending.returned (Value.bool _) = _
    all_goals with_reducible rfl
set_option maxRecDepth 1000000 in
set_option maxHeartbeats 4000000 in
/-- The reference's Apply. -/
theorem rapply (k n : List UInt8) (c : Nat) (s : List UInt8) (w : World) (hk : k.length = 32) (hn : n.length = 12) (hs : s.length ≤ 4200) (hb : c + (s.length + 63) / 64 ≤ 4294967296) :
    Calls Tryd.prog 36 #[.string (bs k), .string (bs n), .int .i64 (c : Int), .string (bs s)] w fun e w' => e = .returned (.string (bs (appO k n c s))) ∧ Below w.heap.size w w' := by
  obtain ⟨i0, hi, hz0, hz1, hz2⟩ := info_parts info5
  have HBLK : Hid (∀ (q : Nat) (w : World), c + q < 4294967296 → Calls Tryd.prog 34 #[.string (bs k), .string (bs n), .int .i64 ((c : Int) + (q : Int))] w fun e w' => e = .returned (.string (bs (blockO k n (c + q)))) ∧ Below w.heap.size w w') := Lib.hid fun q w hq => by
    have h := rblock k n (c + q) w hk hn (by unfold isW; omega)
    rw [show ((c + q : Nat) : Int) = (c : Int) + (q : Int) by omega] at h
    exact h
  have HSZ : Hid (∀ q, (blockO k n (c + q)).length = 64) := Lib.hid fun q => blockO_length k n (c + q)
  have HAP : Hid (∀ m, appN k n c s (m + 1) = appN k n c s m ++ [s.getD m 0 ^^^ (blockO k n (c + m / 64)).getD (m % 64) 0]) := Lib.hid fun m => appN_succ k n c s m
  have HAL : Hid (∀ m, (appN k n c s m).length = m) := Lib.hid fun m => appN_length k n c s m
  have HA0 : appN k n c s 0 = [] := rfl
  unfold appO
  generalize appN k n c s = AP at HAP HAL HA0 ⊢
  generalize blockO k n = BL at HBLK HSZ HAP
  generalize bs k = KK at HBLK ⊢
  generalize bs n = NN at HBLK ⊢
  have HIX : Hid (∀ (j : Nat) (w : World), j < s.length → (Instr.index 9 (.string (bs s)) (.int .i64 (j : Int))).run Tryd.prog w = .ok (.int .u8 ((s.getD j 0).toNat : Int)) w) := Lib.hid fun j w hj => ix_bs s j _ rfl hj w
  obtain ⟨S, hS⟩ : ∃ S, bs s = S := ⟨_, rfl⟩
  have hsz : S.size = s.length := by rw [← hS, bs_size]
  rw [hS] at HIX ⊢
  obtain ⟨L, hL⟩ : ∃ L, s.length = L := ⟨_, rfl⟩
  rw [hL] at hsz HIX hs hb ⊢
  clear hS hk hn hL
  go_enter Tryd.func36, Tryd.ntmps36
  go_wp2_with fail
  go_loopw [9, 10, 11] (fun v b i wr => ∃ m : Nat, m ≤ L ∧ i = .int .i64 m ∧ (∃ x, b = .string (bs x) ∧ (m % 64 ≠ 0 → x = BL (c + m / 64))) ∧ Hid (wr.ownsRow w.heap.size 5 1 v m (byC (AP m))) ∧ Hid (Below w.heap.size w wr)) (fun _ _ i _ => L - (intOf i).toNat)
  case atStart => exact ⟨0, by omega, rfl, ⟨[], rfl, fun h => absurd rfl h⟩, Lib.hid (by rw [HA0]; exact World.ownsRow_nil _ _ _ _), Lib.hid (Below.refl _ _)⟩
  case round =>
    obtain ⟨m, hm, rfl, ⟨x, rfl, hx⟩, HO, HB⟩ := hrel
    by_cases hlt : m < L
    · have hz := HB.out.size
      have ml : (m : Int) < (S.size : Int) := by omega
      have r1 : (m : Int).tmod 64 = ((m % 64 : Nat) : Int) := by rw [Int.tmod_eq_emod_of_nonneg (by omega)]; omega
      obtain ⟨d, hd⟩ : ∃ d, m / 64 = d := ⟨_, rfl⟩
      have r2 : (m : Int).tdiv 64 = (d : Int) := by rw [Int.tdiv_eq_ediv_of_nonneg (by omega)]; omega
      have r4 : (m : Int) / 64 = (d : Int) := by omega
      have d100 : d ≤ 100 := by omega
      have c32 : c ≤ 4294967296 := by omega
      have r3 : (m : Int) % 64 = ((m % 64 : Nat) : Int) := by omega
      have hbk := Lib.hid (HBLK.out d · (by omega))
      obtain ⟨q, hq⟩ : ∃ q, m % 64 = q := ⟨_, rfl⟩
      have hq64 : q < 64 := by omega
      have hlen := HSZ.out d
      have hap := HAP.out m
      rw [hd] at hap hx
      rw [hq] at r1 r3 hap hx
      obtain ⟨X, hX⟩ : ∃ X, BL (c + d) = X := ⟨_, rfl⟩
      have hxi := ix_bs X q (q : Int) rfl (by rw [← hX, hlen]; omega)
      have hsi := (HIX.out m · hlt)
      rw [hX] at hap hbk hx
      have HXX := Lib.hid hX
      have HAPP := Lib.hid hap
      have HX := Lib.hid hx
      have hxor := u8_xor (s.getD m 0) (X.getD q 0)
      have hq1 := Lib.hid hq
      have hd1 := Lib.hid hd
      generalize s.getD m 0 = sb at hsi hxor HAPP
      generalize X.getD q 0 = xb at hxi hxor HAPP
      clear hq hX hx hap hlen hd
      by_cases hq0 : q = 0
      · subst hq0
        have hxi0 : ∀ w, (Instr.index 9 (.string (bs X)) (.int .i64 0)).run Tryd.prog w = .ok (.int .u8 (xb.toNat : Int)) w := hxi
        clear hxi
        go_wp2_with (go_at_call 34; (with_reducible refine (hbk.out _).mono ?_); rintro e V ⟨rfl, hbv⟩)
        have HO2 := Lib.hid (own_below HO.out hbv)
        have HB2 := Lib.hid (HB.out.trans (hbv.mono hz))
        have hzV := HB2.out.size
        clear hbv
        refine region_anyC (fun _ => True) (fun _ => True) [] (by kernel_rfl) ?_
        refine anyC_takeS (i := 0) (oi := ⟨some 28, _, _, _, _, _⟩) (v := _) rfl (by kernel_rfl) (by kernel_rfl) (by kernel_rfl) (by kernel_rfl) (fun _ _ _ h => h) (Or.inl ⟨by rfl, fun w' hw' => (by clear hw'; go_simp; try with_reducible rfl)⟩) trivial (fun _ => trivial) ?_
        try simp only [Act.put, List.setIfInBounds_toArray, List.set_cons_zero, List.set_cons_succ]
        refine anyC_takeS (i := 1) (oi := ⟨some 29, _, _, _, _, _⟩) (v := _) rfl (by kernel_rfl) (by kernel_rfl) (by kernel_rfl) (by kernel_rfl) (fun _ _ _ h => h) (Or.inl ⟨by rfl, fun w' hw' => (by clear hw'; go_simp; try with_reducible rfl)⟩) trivial (fun _ => trivial) ?_
        try simp only [Act.put, List.setIfInBounds_toArray, List.set_cons_zero, List.set_cons_succ]
        refine anyC_takeS (i := 2) (oi := ⟨some 30, _, _, _, _, _⟩) (v := _) rfl (by kernel_rfl) (by kernel_rfl) (by kernel_rfl) (by kernel_rfl) (fun _ _ _ h => h) (Or.inl ⟨by rfl, fun w' hw' => (by clear hw'; go_simp; try with_reducible rfl)⟩) trivial (fun _ => trivial) ?_
        try simp only [Act.put, List.setIfInBounds_toArray, List.set_cons_zero, List.set_cons_succ]
        refine anyC_takeS (i := 3) (oi := ⟨some 31, _, _, _, _, _⟩) (v := _) rfl (by kernel_rfl) (by kernel_rfl) (by kernel_rfl) (by kernel_rfl) (fun _ _ _ h => h) (Or.inl ⟨by rfl, fun w' hw' => (by clear hw'; go_simp; try with_reducible rfl)⟩) trivial (fun _ => trivial) ?_
        try simp only [Act.put, List.setIfInBounds_toArray, List.set_cons_zero, List.set_cons_succ]
        refine anyC_takeS (i := 4) (oi := ⟨some 32, _, _, _, _, _⟩) (v := _) rfl (by kernel_rfl) (by kernel_rfl) (by kernel_rfl) (by kernel_rfl) (fun _ _ _ h => h) (Or.inl ⟨by rfl, fun w' hw' => (by clear hw'; go_simp; try with_reducible rfl)⟩) trivial (fun _ => trivial) ?_
        try simp only [Act.put, List.setIfInBounds_toArray, List.set_cons_zero, List.set_cons_succ]
        refine anyC_takeS (i := 5) (oi := ⟨some 33, _, _, _, _, _⟩) (v := _) rfl (by kernel_rfl) (by kernel_rfl) (by kernel_rfl) (by kernel_rfl) (fun _ _ _ h => h) (Or.inl ⟨by rfl, fun w' hw' => (by clear hw'; go_simp; try with_reducible rfl)⟩) trivial (fun _ => trivial) ?_
        try simp only [Act.put, List.setIfInBounds_toArray, List.set_cons_zero, List.set_cons_succ]
        refine anyC_takeS (i := 6) (oi := ⟨some 34, _, _, _, _, _⟩) (v := _) rfl (by kernel_rfl) (by kernel_rfl) (by kernel_rfl) (by kernel_rfl) (fun _ _ _ h => h) (Or.inl ⟨by rfl, fun w' hw' => (by clear hw'; go_simp; try with_reducible rfl)⟩) trivial (fun _ => trivial) ?_
        try simp only [Act.put, List.setIfInBounds_toArray, List.set_cons_zero, List.set_cons_succ]
        refine anyC_takeS (i := 7) (oi := ⟨some 35, _, _, _, _, _⟩) (v := _) rfl (by kernel_rfl) (by kernel_rfl) (by kernel_rfl) (by kernel_rfl) (fun _ _ _ h => h) (Or.inl ⟨by rfl, fun w' hw' => (by clear hw'; go_simp; try with_reducible rfl)⟩) trivial (fun _ => trivial) ?_
        try simp only [Act.put, List.setIfInBounds_toArray, List.set_cons_zero, List.set_cons_succ]
        refine anyC_takeS (i := 8) (oi := ⟨some 36, _, _, _, _, _⟩) (v := _) rfl (by kernel_rfl) (by kernel_rfl) (by kernel_rfl) (by kernel_rfl) (fun _ _ _ h => h) (Or.inl ⟨by rfl, fun w' hw' => (by clear hw'; go_simp; try with_reducible rfl)⟩) trivial (fun _ => trivial) ?_
        try simp only [Act.put, List.setIfInBounds_toArray, List.set_cons_zero, List.set_cons_succ]
        refine anyC_keep (i := 9) (o := ⟨some 37, _, _, _, _, _⟩) (by kernel_rfl) rfl (fun K hK => ?_)
        rw [if_pos (by rfl)]
        go_simp
        refine hK.out _ _ ⟨trivial, fun _ => trivial⟩ ?_
        clear hK K
        try simp only [Act.put, List.setIfInBounds_toArray, List.set_cons_zero, List.set_cons_succ]
        refine anyC_keep (i := 10) (o := ⟨some 38, _, _, _, _, _⟩) (by kernel_rfl) rfl (fun K hK => ?_)
        rw [if_pos (by rfl)]
        refine wp_append_own _ _ _ 25 rfl w.heap.size 5 i0 (.int .u8 0) 1 1 Tryd.underlying25 hi hz0 hz1 hz2 rfl (by decide) _ m _ rfl (HO2.out.alloc _) ⟨V.heap.size, 0, none⟩ 1 1 [.int .u8 ((sb ^^^ xb).toNat : Int)] rfl rfl (World.news_of_block (cs := #[.int .u8 ((sb ^^^ xb).toNat : Int)]) (t := 5) (fr := (0, 0)) (heap_alloc_new V _)) (by simp [Value.oneCell']) (by unfold maxLen; omega) (by omega) (by simp; omega) ?_
        intro v3 w3 hown3 hg3 _
        refine hK.out _ _ ⟨trivial, fun _ => trivial⟩ ?_
        clear hK K
        try simp only [Act.put, List.setIfInBounds_toArray, List.set_cons_zero, List.set_cons_succ]
        refine anyC_takeS (i := 11) (oi := ⟨some 9, _, _, _, _, _⟩) (v := _) rfl (by kernel_rfl) (by kernel_rfl) (by kernel_rfl) (by kernel_rfl) (fun _ _ _ h => h) (Or.inl ⟨by rfl, fun w' hw' => (by clear hw'; go_simp; try with_reducible rfl)⟩) trivial (fun _ => trivial) ?_
        try simp only [Act.put, List.setIfInBounds_toArray, List.set_cons_zero, List.set_cons_succ]
        refine anyC_done (by kernel_rfl) ?_ _
        rw [show byC (AP m) ++ [Value.int .u8 ((sb ^^^ xb).toNat : Int)] = byC (AP (m + 1)) from by rw [HAPP.out, ← byC_append]; rfl] at hown3
        have hB3 : Below w.heap.size w w3 := (HB2.out.alloc (by omega) _).drew.grown hg3 (by simp; omega) (fun g hg => (HO2.out.lt g hg).1)
        have HO3 := Lib.hid hown3
        have HB3 := Lib.hid hB3
        clear hown3 hg3 hB3
        go_wp2
        go_roundw
        case rel => exact ⟨m + 1, by omega, by go_num, ⟨X, rfl, fun h => by have := hq1.out; have := hd1.out; rw [← HXX.out, show (m + 1) / 64 = d by omega]⟩, HO3, HB3⟩
        case measure => simp [intOf]; omega
      · have hx := HX.out hq0
        subst x
        have hq0' : ¬ (q : Int) = 0 := by omega
        go_wp2_with fail
        refine region_anyC (fun _ => True) (fun _ => True) [] (by kernel_rfl) ?_
        refine anyC_takeS (i := 0) (oi := ⟨some 28, _, _, _, _, _⟩) (v := _) rfl (by kernel_rfl) (by kernel_rfl) (by kernel_rfl) (by kernel_rfl) (fun _ _ _ h => h) (Or.inl ⟨by rfl, fun w' hw' => (by clear hw'; go_simp; try with_reducible rfl)⟩) trivial (fun _ => trivial) ?_
        try simp only [Act.put, List.setIfInBounds_toArray, List.set_cons_zero, List.set_cons_succ]
        refine anyC_takeS (i := 1) (oi := ⟨some 29, _, _, _, _, _⟩) (v := _) rfl (by kernel_rfl) (by kernel_rfl) (by kernel_rfl) (by kernel_rfl) (fun _ _ _ h => h) (Or.inl ⟨by rfl, fun w' hw' => (by clear hw'; go_simp; try with_reducible rfl)⟩) trivial (fun _ => trivial) ?_
        try simp only [Act.put, List.setIfInBounds_toArray, List.set_cons_zero, List.set_cons_succ]
        refine anyC_takeS (i := 2) (oi := ⟨some 30, _, _, _, _, _⟩) (v := _) rfl (by kernel_rfl) (by kernel_rfl) (by kernel_rfl) (by kernel_rfl) (fun _ _ _ h => h) (Or.inl ⟨by rfl, fun w' hw' => (by clear hw'; go_simp; try with_reducible rfl)⟩) trivial (fun _ => trivial) ?_
        try simp only [Act.put, List.setIfInBounds_toArray, List.set_cons_zero, List.set_cons_succ]
        refine anyC_takeS (i := 3) (oi := ⟨some 31, _, _, _, _, _⟩) (v := _) rfl (by kernel_rfl) (by kernel_rfl) (by kernel_rfl) (by kernel_rfl) (fun _ _ _ h => h) (Or.inl ⟨by rfl, fun w' hw' => (by clear hw'; go_simp; try with_reducible rfl)⟩) trivial (fun _ => trivial) ?_
        try simp only [Act.put, List.setIfInBounds_toArray, List.set_cons_zero, List.set_cons_succ]
        refine anyC_takeS (i := 4) (oi := ⟨some 32, _, _, _, _, _⟩) (v := _) rfl (by kernel_rfl) (by kernel_rfl) (by kernel_rfl) (by kernel_rfl) (fun _ _ _ h => h) (Or.inl ⟨by rfl, fun w' hw' => (by clear hw'; go_simp; try with_reducible rfl)⟩) trivial (fun _ => trivial) ?_
        try simp only [Act.put, List.setIfInBounds_toArray, List.set_cons_zero, List.set_cons_succ]
        refine anyC_takeS (i := 5) (oi := ⟨some 33, _, _, _, _, _⟩) (v := _) rfl (by kernel_rfl) (by kernel_rfl) (by kernel_rfl) (by kernel_rfl) (fun _ _ _ h => h) (Or.inl ⟨by rfl, fun w' hw' => (by clear hw'; go_simp; try with_reducible rfl)⟩) trivial (fun _ => trivial) ?_
        try simp only [Act.put, List.setIfInBounds_toArray, List.set_cons_zero, List.set_cons_succ]
        refine anyC_takeS (i := 6) (oi := ⟨some 34, _, _, _, _, _⟩) (v := _) rfl (by kernel_rfl) (by kernel_rfl) (by kernel_rfl) (by kernel_rfl) (fun _ _ _ h => h) (Or.inl ⟨by rfl, fun w' hw' => (by clear hw'; go_simp; try with_reducible rfl)⟩) trivial (fun _ => trivial) ?_
        try simp only [Act.put, List.setIfInBounds_toArray, List.set_cons_zero, List.set_cons_succ]
        refine anyC_takeS (i := 7) (oi := ⟨some 35, _, _, _, _, _⟩) (v := _) rfl (by kernel_rfl) (by kernel_rfl) (by kernel_rfl) (by kernel_rfl) (fun _ _ _ h => h) (Or.inl ⟨by rfl, fun w' hw' => (by clear hw'; go_simp; try with_reducible rfl)⟩) trivial (fun _ => trivial) ?_
        try simp only [Act.put, List.setIfInBounds_toArray, List.set_cons_zero, List.set_cons_succ]
        refine anyC_takeS (i := 8) (oi := ⟨some 36, _, _, _, _, _⟩) (v := _) rfl (by kernel_rfl) (by kernel_rfl) (by kernel_rfl) (by kernel_rfl) (fun _ _ _ h => h) (Or.inl ⟨by rfl, fun w' hw' => (by clear hw'; go_simp; try with_reducible rfl)⟩) trivial (fun _ => trivial) ?_
        try simp only [Act.put, List.setIfInBounds_toArray, List.set_cons_zero, List.set_cons_succ]
        refine anyC_keep (i := 9) (o := ⟨some 37, _, _, _, _, _⟩) (by kernel_rfl) rfl (fun K hK => ?_)
        rw [if_pos (by rfl)]
        go_simp
        refine hK.out _ _ ⟨trivial, fun _ => trivial⟩ ?_
        clear hK K
        try simp only [Act.put, List.setIfInBounds_toArray, List.set_cons_zero, List.set_cons_succ]
        refine anyC_keep (i := 10) (o := ⟨some 38, _, _, _, _, _⟩) (by kernel_rfl) rfl (fun K hK => ?_)
        rw [if_pos (by rfl)]
        refine wp_append_own _ _ _ 25 rfl w.heap.size 5 i0 (.int .u8 0) 1 1 Tryd.underlying25 hi hz0 hz1 hz2 rfl (by decide) _ m _ rfl (HO.out.alloc _) ⟨wr.heap.size, 0, none⟩ 1 1 [.int .u8 ((sb ^^^ xb).toNat : Int)] rfl rfl (World.news_of_block (cs := #[.int .u8 ((sb ^^^ xb).toNat : Int)]) (t := 5) (fr := (0, 0)) (heap_alloc_new wr _)) (by simp [Value.oneCell']) (by unfold maxLen; omega) (by omega) (by simp; omega) ?_
        intro v3 w3 hown3 hg3 _
        refine hK.out _ _ ⟨trivial, fun _ => trivial⟩ ?_
        clear hK K
        try simp only [Act.put, List.setIfInBounds_toArray, List.set_cons_zero, List.set_cons_succ]
        refine anyC_takeS (i := 11) (oi := ⟨some 9, _, _, _, _, _⟩) (v := _) rfl (by kernel_rfl) (by kernel_rfl) (by kernel_rfl) (by kernel_rfl) (fun _ _ _ h => h) (Or.inl ⟨by rfl, fun w' hw' => (by clear hw'; go_simp; try with_reducible rfl)⟩) trivial (fun _ => trivial) ?_
        try simp only [Act.put, List.setIfInBounds_toArray, List.set_cons_zero, List.set_cons_succ]
        refine anyC_done (by kernel_rfl) ?_ _
        rw [show byC (AP m) ++ [Value.int .u8 ((sb ^^^ xb).toNat : Int)] = byC (AP (m + 1)) from by rw [HAPP.out, ← byC_append]; rfl] at hown3
        have hB3 : Below w.heap.size w w3 := (HB.out.alloc (by omega) _).drew.grown hg3 (by simp; omega) (fun g hg => (HO.out.lt g hg).1)
        have HO3 := Lib.hid hown3
        have HB3 := Lib.hid hB3
        clear hown3 hg3 hB3
        go_wp2
        go_roundw
        case rel => exact ⟨m + 1, by omega, by go_num, ⟨X, rfl, fun h => by have := hq1.out; have := hd1.out; rw [← HXX.out, show (m + 1) / 64 = d by omega]⟩, HO3, HB3⟩
        case measure => simp [intOf]; omega
    · obtain rfl : m = L := by omega
      have hcv := string_of_own (w := wr) (l := AP m) (by have := HO.out; rw [HAL.out]; exact this)
      have ml : ¬ (m : Int) < (S.size : Int) := by omega
      go_wp2
      go_ret
      exact ⟨rfl, HB.out⟩
end Go.Proofs.YtnfefkcfifnjnaaDoor
