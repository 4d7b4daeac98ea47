/- Contract of the reference's mixing. -/
import Derived.Test.YtfdeegafdaobdaaDoorW6
namespace Go.Proofs.YtfdeegafdaobdaaDoor
open Go.RowKit Go.ChangeShapes
set_option maxRecDepth 100000 in
set_option maxHeartbeats 8000000 in
theorem rmixed (h : W8) (hh : h.ok) (s : ByteArray) (b : List UInt8) (hsb : s.data.toList = b) (hs : s.size = 64) (gs cs gk ck gh ch : Nat) (w : World)
    (hK : ∀ j, j < 64 → w.cell? ⟨gk, j, none⟩ = some (.int .i64 ((KL.getD j 0 : Nat) : Int))) (hgk : gk < w.heap.size)
    (hH : ∀ j, j < 8 → w.cell? ⟨gh, j, none⟩ = some (.int .i64 ((h.list.getD j 0 : Nat) : Int))) (hgh : gh < w.heap.size) :
    Calls Tryd.prog 65 #[.agg #[.slice (some ⟨gs, 0, none⟩) 8 cs, .slice (some ⟨gk, 0, none⟩) 64 ck], .slice (some ⟨gh, 0, none⟩) 8 ch, .string s] w (Got8 (mixW KL h b).list w) := by
  obtain ⟨i0, hi, hz0, hz1, hz2⟩ := info_parts info3
  have HHK := Lib.hid hK
  have HHH := Lib.hid hH
  have HOK := Lib.hid hh
  clear hK hH hh
  have hs1 : 64 ≤ s.size := by omega
  have hs2 : s.size ≤ 64 := by omega
  have HSB := Lib.hid hsb
  clear hs hsb
  obtain ⟨tv, htv⟩ : ∃ t : Array Value, t = #[.slice (some ⟨gs, 0, none⟩) 8 cs, .slice (some ⟨gk, 0, none⟩) 64 ck] := ⟨_, rfl⟩
  have M0 : M1 w (w.alloc (.cells #[.slice (some ⟨gs, 0, none⟩) 8 cs, .slice (some ⟨gk, 0, none⟩) 64 ck] 27)) tv b 0 (.slice none 0 0) :=
    ⟨by go_grown, by rw [htv]; exact heap_alloc_new w _, World.ownsRow_nil _ _ _ _⟩
  have HM0 := Lib.hid M0
  have HTV := Lib.hid htv
  clear M0 htv
  go_enter Tryd.func65, Tryd.ntmps65
  go_wp2_with fail
  go_loopw [7, 8] (fun v i wr => ∃ k : Nat, k ≤ 64 ∧ i = .int .i64 (k : Int) ∧ Hid (M1 w wr tv b k v)) (fun _ i _ => 64 - (intOf i).toNat)
  case atStart => exact ⟨0, by omega, rfl, HM0⟩
  case round =>
    clear HM0
    obtain ⟨k, hk, rfl, HC⟩ := hrel
    by_cases hlt : k < 64
    · have k64 : (k : Int) < 64 := by omega
      by_cases hlo : k < 16
      · have C := HC.out
        have hz := C.bel.size
        have hown := C.o
        have HSP := Lib.hid (spK_lo b k hlo)
        have k16 : (k : Int) < 16 := by omega
        have HO := Lib.hid hown
        clear C
        obtain ⟨y, hy⟩ : ∃ y, s.extract (4 * k) (4 * k + 4) = y := ⟨_, rfl⟩
        have hsl : ∀ wx : World, (Instr.slice 9 (.string s) (some (.int .i64 (4 * (k : Int)))) (some (.int .i64 (4 * (k : Int) + 4))) none).run Tryd.prog wx = .ok (.string y) wx := fun wx => by
          have := run_slice_string (P := Tryd.prog) (w := wx) 9 (s := s) .i64 .i64 (4 * (k : Int)) (4 * (k : Int) + 4) Tryd.underlying9 (by omega) (by omega) (by omega)
          rw [this, ← hy, show (4 * (k : Int)).toNat = 4 * k by omega, show (4 * (k : Int) + 4).toNat = 4 * k + 4 by omega]
        have hy7 : y.size ≤ 7 := by rw [← hy, ByteArray.size_extract]; omega
        have hyd : y.data.toList = (b.drop (4 * k)).take 4 := by rw [← hy, ext_list, HSB.out, show 4 * k + 4 - 4 * k = 4 by omega]
        obtain ⟨n, hn⟩ : ∃ n, beN y.data.toList = n := ⟨_, rfl⟩
        have hc79 := fun w => refNumber_any y w hy7
        rw [hn] at hc79
        rw [hyd] at hn
        have H79 := Lib.hid hc79
        have HN := Lib.hid hn
        clear hc79 hn hyd hy
        go_wp2_with (first | (go_at_call 79; (with_reducible refine (H79.out _).mono ?_); rintro e w2 ⟨rfl, rfl⟩) | (at_builtin; refine wpList_append_own _ rfl _ _ 25 rfl (w.heap.size + 1) 3 i0 (.int .i64 0) 1 8 Tryd.underlying25 hi hz0 hz1 hz2 rfl (by decide) _ k _ rfl (HO.out.alloc _) ⟨wr.heap.size, 0, none⟩ 1 1 [.int .i64 (n : Int)] rfl rfl ?_ ?_ ?_ ?_ ?_ ?_; exact World.news_of_block (cs := #[.int .i64 (n : Int)]) (t := 3) (fr := (0, 0)) (heap_alloc_new wr _); (simp [Value.oneCell']); (unfold maxLen; omega); omega; (simp; omega); intro v2 w3 hown3 hg3 _))
        have C3 := HC.out.app _ (by rw [HSP.out, HN.out]) hown3 hg3
        have HC3 := Lib.hid C3
        clear C3 hown3 hg3 hown hsl
        go_roundw
        case rel => exact ⟨k + 1, by omega, by go_num, HC3⟩
        case measure => simp [intOf]; omega
      · have C := HC.out
        obtain ⟨gv, cv, rfl⟩ := Joins.ownsRow_form C.o (by omega : 0 < k)
        obtain ⟨q15, h15⟩ : ∃ q, k - 15 = q := ⟨_, rfl⟩
        obtain ⟨q2, h2⟩ : ∃ q, k - 2 = q := ⟨_, rfl⟩
        have i15 : (k : Int) - 15 = (q15 : Int) := by omega
        have i2 : (k : Int) - 2 = (q2 : Int) := by omega
        have b15 : (q15 : Int) < (k : Int) := by omega
        have x15 : IntKind.i64.wrap (q15 : Int) = (q15 : Int) := IntWalk.i64_in _ (by omega)
        have x2 : IntKind.i64.wrap (q2 : Int) = (q2 : Int) := IntWalk.i64_in _ (by omega)
        have b2 : (q2 : Int) < (k : Int) := by omega
        have k16 : (16 : Int) ≤ (k : Int) := by omega
        have c15 := C.cell q15 (by omega)
        have c2 := C.cell q2 (by omega)
        have gz := (C.o.lt gv rfl).2
        have HN := Lib.hid (spK_hi b k (by omega))
        have HNV := Lib.hid (next_val (spK b k) k (spK_len b k))
        have w15 := (spK_all b k).get q15
        have w2 := (spK_all b k).get q2
        obtain ⟨x, hx⟩ : ∃ x, (spK b k).getD q15 0 = x := ⟨_, rfl⟩
        obtain ⟨y, hy⟩ : ∃ x, (spK b k).getD q2 0 = x := ⟨_, rfl⟩
        rw [hx] at c15 w15
        rw [hy] at c2 w2
        unfold isW at w15 w2
        have kx := kword x w15
        have ky := kword y w2
        have KX := Lib.hid kx
        have KY := Lib.hid ky
        have H15 := Lib.hid h15
        have H2 := Lib.hid h2
        have HX := Lib.hid hx
        have HY := Lib.hid hy
        have hB0 : Below wr.heap.size wr wr.drew := (Below.refl _ wr).drew
        have B0 := Lib.hid hB0
        have W15 := Lib.hid w15
        have W2 := Lib.hid w2
        have C0 := HC
        clear h15 h2 hx hy kx ky C hB0
        go_wp2_with fail
        refine region_anyB (fun w' : World => Below wr.heap.size wr w') [14, 15] (by kernel_rfl) ?_
        refine anyB_take (i := 0) (oi := ⟨some 40, _, _, _, _, _⟩) (v := _) rfl (by kernel_rfl) (by kernel_rfl) (by kernel_rfl) (by kernel_rfl) (fun _ _ _ h => h) (Or.inl ⟨by rfl, fun w' hw' => (by clear hw'; go_simp; try with_reducible rfl)⟩) B0.out ?_
        try simp only [Act.put, List.setIfInBounds_toArray, List.set_cons_zero, List.set_cons_succ]
        refine anyB_take (i := 1) (oi := ⟨some 41, _, _, _, _, _⟩) (v := _) rfl (by kernel_rfl) (by kernel_rfl) (by kernel_rfl) (by kernel_rfl) (fun _ _ _ h => h) (Or.inl ⟨by rfl, fun w' hw' => (by clear hw'; go_simp; try with_reducible rfl)⟩) B0.out ?_
        try simp only [Act.put, List.setIfInBounds_toArray, List.set_cons_zero, List.set_cons_succ]
        refine anyB_take (i := 2) (oi := ⟨some 42, _, _, _, _, _⟩) (v := _) rfl (by kernel_rfl) (by kernel_rfl) (by kernel_rfl) (by kernel_rfl) (fun _ _ _ h => h) (Or.inl ⟨by rfl, fun w' hw' => (by clear hw'; go_simp; try with_reducible rfl)⟩) B0.out ?_
        try simp only [Act.put, List.setIfInBounds_toArray, List.set_cons_zero, List.set_cons_succ]
        refine anyB_take (i := 3) (oi := ⟨some 43, _, _, _, _, _⟩) (v := _) rfl (by kernel_rfl) (by kernel_rfl) (by kernel_rfl) (by kernel_rfl) (fun _ _ _ h => h) (Or.inl ⟨by rfl, fun w' hw' => (by clear hw'; go_simp; try with_reducible rfl)⟩) B0.out ?_
        try simp only [Act.put, List.setIfInBounds_toArray, List.set_cons_zero, List.set_cons_succ]
        refine anyB_take (i := 4) (oi := ⟨some 44, _, _, _, _, _⟩) (v := _) rfl (by kernel_rfl) (by kernel_rfl) (by kernel_rfl) (by kernel_rfl) (fun _ _ _ h => h) (Or.inl ⟨by rfl, fun w' hw' => (by have h1 := (hw'.cell (p := ⟨gv, q15, none⟩) gz).trans c15; have h3 := (hw'.cell (p := ⟨gv, q2, none⟩) gz).trans c2; go_simp; try with_reducible rfl)⟩) B0.out ?_
        try simp only [Act.put, List.setIfInBounds_toArray, List.set_cons_zero, List.set_cons_succ]
        refine anyB_take (i := 6) (oi := ⟨some 46, _, _, _, _, _⟩) (v := _) rfl (by kernel_rfl) (by kernel_rfl) (by kernel_rfl) (by kernel_rfl) (fun _ _ _ h => h) (Or.inl ⟨by rfl, fun w' hw' => (by clear hw'; go_simp; try with_reducible rfl)⟩) B0.out ?_
        try simp only [Act.put, List.setIfInBounds_toArray, List.set_cons_zero, List.set_cons_succ]
        refine anyB_take (i := 7) (oi := ⟨some 47, _, _, _, _, _⟩) (v := _) rfl (by kernel_rfl) (by kernel_rfl) (by kernel_rfl) (by kernel_rfl) (fun _ _ _ h => h) (Or.inl ⟨by rfl, fun w' hw' => (by clear hw'; go_simp; try with_reducible rfl)⟩) B0.out ?_
        try simp only [Act.put, List.setIfInBounds_toArray, List.set_cons_zero, List.set_cons_succ]
        refine anyB_take (i := 8) (oi := ⟨some 48, _, _, _, _, _⟩) (v := _) rfl (by kernel_rfl) (by kernel_rfl) (by kernel_rfl) (by kernel_rfl) (fun _ _ _ h => h) (Or.inl ⟨by rfl, fun w' hw' => (by clear hw'; go_simp; try with_reducible rfl)⟩) B0.out ?_
        try simp only [Act.put, List.setIfInBounds_toArray, List.set_cons_zero, List.set_cons_succ]
        refine anyB_take (i := 9) (oi := ⟨some 49, _, _, _, _, _⟩) (v := _) rfl (by kernel_rfl) (by kernel_rfl) (by kernel_rfl) (by kernel_rfl) (fun _ _ _ h => h) (Or.inl ⟨by rfl, fun w' hw' => (by clear hw'; go_simp; try with_reducible rfl)⟩) B0.out ?_
        try simp only [Act.put, List.setIfInBounds_toArray, List.set_cons_zero, List.set_cons_succ]
        refine anyB_take (i := 10) (oi := ⟨some 50, _, _, _, _, _⟩) (v := _) rfl (by kernel_rfl) (by kernel_rfl) (by kernel_rfl) (by kernel_rfl) (fun _ _ _ h => h) (Or.inl ⟨by rfl, fun w' hw' => (by have h1 := (hw'.cell (p := ⟨gv, q15, none⟩) gz).trans c15; have h3 := (hw'.cell (p := ⟨gv, q2, none⟩) gz).trans c2; go_simp; try with_reducible rfl)⟩) B0.out ?_
        try simp only [Act.put, List.setIfInBounds_toArray, List.set_cons_zero, List.set_cons_succ]
        refine anyB_inv2 [5, 11, 12, 13] [14, 15] #[true, true, true, true, true, true, true, true, true, true, true, true, true, true, false, false] 2 (by kernel_rfl) (fun a0 l a W => ∃ xr1 xr2 xp1 xp2 : Value, a = ((((a0.put (some 45) xr1).put (some 51) xr2).put (some 9) xp1).put (some 10) xp2) ∧ Below wr.heap.size wr W ∧ (CI l 5 xr1 (.agg (wC x).toArray) ∧ CI l 11 xr2 (.agg (wC y).toArray)) ∧ (AI l 12 wr.heap.size W xp1 ∧ AI l 13 wr.heap.size W xp2) ∧ (DI l 12 13 xp1 xp2)) 4 (by kernel_rfl) (fun l a W h => ?_) ?_ ?_ ?_
        · obtain ⟨xr1, xr2, xp1, xp2, _, hB, ⟨xc1, xc2⟩, ⟨xa1, xa2⟩, xd1⟩ := h
          exact hB
        · intro i hi l a W hI hr
          clear hr
          obtain ⟨xr1, xr2, xp1, xp2, rfl, hB, ⟨xc1, xc2⟩, ⟨xa1, xa2⟩, xd1⟩ := hI
          simp only [List.mem_cons, List.not_mem_nil, or_false] at hi
          rcases hi with rfl | rfl | rfl | rfl
          · refine wpOp_step (o := ⟨some 45, _, _, _, _, _⟩) rfl (fun K hK => ?_)
            have HK := Lib.hid hK
            clear hK
            rw [if_pos (by rfl)]
            simp only [Act.put, List.setIfInBounds_toArray, List.set_cons_zero, List.set_cons_succ]
            go_wp2_with (go_at_call 80; (with_reducible refine (KX.out _).mono ?_); rintro e V ⟨rfl, hb⟩; (repeat (with_reducible replace hb := bel_of_drew hb)))
            exact HK.out _ _ ⟨.agg (wC x).toArray, xr2, xp1, xp2, by simp only [Act.put, List.setIfInBounds_toArray, List.set_cons_zero, List.set_cons_succ], bstep hB hb, ⟨CI.new _ _ _, xc2.other (by decide)⟩, ⟨xa1.other (by decide) hb, xa2.other (by decide) hb⟩, xd1.other (by decide) (by decide)⟩
          · refine wpOp_step (o := ⟨some 51, _, _, _, _, _⟩) rfl (fun K hK => ?_)
            have HK := Lib.hid hK
            clear hK
            rw [if_pos (by rfl)]
            simp only [Act.put, List.setIfInBounds_toArray, List.set_cons_zero, List.set_cons_succ]
            go_wp2_with (go_at_call 80; (with_reducible refine (KY.out _).mono ?_); rintro e V ⟨rfl, hb⟩; (repeat (with_reducible replace hb := bel_of_drew hb)))
            exact HK.out _ _ ⟨xr1, .agg (wC y).toArray, xp1, xp2, by simp only [Act.put, List.setIfInBounds_toArray, List.set_cons_zero, List.set_cons_succ], bstep hB hb, ⟨xc1.other (by decide), CI.new _ _ _⟩, ⟨xa1.other (by decide) hb, xa2.other (by decide) hb⟩, xd1.other (by decide) (by decide)⟩
          · refine wpOp_step (o := ⟨some 9, _, _, _, _, _⟩) rfl (fun K hK => ?_)
            have HK := Lib.hid hK
            clear hK
            rw [if_pos (by rfl)]
            simp only [Act.put, List.setIfInBounds_toArray, List.set_cons_zero, List.set_cons_succ]
            go_simp
            exact HK.out _ _ ⟨xr1, xr2, .pointer (some ⟨W.heap.size, 0, none⟩), xp2, by simp only [Act.put, List.setIfInBounds_toArray, List.set_cons_zero, List.set_cons_succ], bel_al hB hB.size _, ⟨xc1.other (by decide), xc2.other (by decide)⟩, ⟨AI.new _ _ _ _ hB.size, xa2.other (by decide) ((Below.refl _ _).alloc (Nat.le_refl _) _)⟩, DI.new1 xa2 (by decide)⟩
          · refine wpOp_step (o := ⟨some 10, _, _, _, _, _⟩) rfl (fun K hK => ?_)
            have HK := Lib.hid hK
            clear hK
            rw [if_pos (by rfl)]
            simp only [Act.put, List.setIfInBounds_toArray, List.set_cons_zero, List.set_cons_succ]
            go_simp
            exact HK.out _ _ ⟨xr1, xr2, xp1, .pointer (some ⟨W.heap.size, 0, none⟩), by simp only [Act.put, List.setIfInBounds_toArray, List.set_cons_zero, List.set_cons_succ], bel_al hB hB.size _, ⟨xc1.other (by decide), xc2.other (by decide)⟩, ⟨xa1.other (by decide) ((Below.refl _ _).alloc (Nat.le_refl _) _), AI.new _ _ _ _ hB.size⟩, (DI.new1 xa1 (by decide)).symm⟩
        · exact ⟨u45, u51, u9, u10, by simp only [Act.put, List.setIfInBounds_toArray, List.set_cons_zero, List.set_cons_succ], B0.out, ⟨(fun h => absurd h (by decide)), (fun h => absurd h (by decide))⟩, ⟨(fun h => absurd h (by decide)), (fun h => absurd h (by decide))⟩, (fun h => absurd h (by decide))⟩
        intro n a W hI
        obtain ⟨xr1, xr2, xp1, xp2, rfl, hB, ⟨xc1, xc2⟩, ⟨xa1, xa2⟩, xd1⟩ := hI
        have xe1 := xc1 rfl
        obtain ⟨g1, xh1, xg1, xo1⟩ := xa1 rfl
        have xe2 := xc2 rfl
        obtain ⟨g2, xh2, xg2, xo2⟩ := xa2 rfl
        have xn12 : g1 ≠ g2 := fun e => xd1 rfl rfl g1 xh1 (by rw [xh2, e])
        subst xe1 xe2 xh1 xh2
        clear xc1 xa1 xc2 xa2 xd1
        try simp only [Act.put, List.setIfInBounds_toArray, List.set_cons_zero, List.set_cons_succ]
        refine anyB_last (i := 14) (o := ⟨none, _, _, _, _, _⟩) (by kernel_rfl) rfl (by kernel_rfl) (fun K hK => ?_)
        rw [if_pos (by rfl)]
        refine wp_store_row 128 _ _ rfl g1 (bC (fL (fW x))) rfl rfl 128 _ xo1 (by rw [size128, bC_size, fL_length]) (by rw [bC_size, bC_size, fL_length, fL_length]) (bC_one _) ?_
        refine hK.out _ _ ?_
        clear hK K
        try simp only [Act.put, List.setIfInBounds_toArray, List.set_cons_zero, List.set_cons_succ]
        refine anyB_last (i := 15) (o := ⟨none, _, _, _, _, _⟩) (by kernel_rfl) rfl (by kernel_rfl) (fun K hK => ?_)
        rw [if_pos (by rfl)]
        refine wp_store_row 128 _ _ rfl g2 (bC (fL (fW y))) rfl rfl 128 _ (xo2.row2 (Ne.symm xn12) _) (by rw [size128, bC_size, fL_length]) (by rw [bC_size, bC_size, fL_length, fL_length]) (bC_one _) ?_
        refine hK.out _ _ ?_
        clear hK K
        try simp only [Act.put, List.setIfInBounds_toArray, List.set_cons_zero, List.set_cons_succ]
        refine anyB_done (by kernel_rfl) ?_ _
        have gB : Below wr.heap.size wr ((W.setRow g1 (bC (fL (fW x)))).setRow g2 (bC (fL (fW y)))) := (below_setRow (below_setRow hB xg1 _) xg2 _)
        have gw1 : Bw ((W.setRow g1 (bC (fL (fW x)))).setRow g2 (bC (fL (fW y)))) g1 x := ((xo1.row (fL (fW x))).row2 xn12 _)
        have gw2 : Bw ((W.setRow g1 (bC (fL (fW x)))).setRow g2 (bC (fL (fW y)))) g2 y := ((xo2.row2 (Ne.symm xn12) _).row (fL (fW y)))
        generalize ((W.setRow g1 (bC (fL (fW x)))).setRow g2 (bC (fL (fW y)))) = gW at gB gw1 gw2 ⊢
        have HgB := Lib.hid gB
        have Hgw1 := Lib.hid gw1
        have Hgw2 := Lib.hid gw2
        clear hB xo1 xo2 xn12 gB gw1 gw2
        clear c15 c2 i15 i2 b15 b2 x15 x2 w15 w2
        have C8 := C0.out.step HgB.out
        obtain ⟨q16, h16⟩ : ∃ q, k - 16 = q := ⟨_, rfl⟩
        obtain ⟨q7, h7⟩ : ∃ q, k - 7 = q := ⟨_, rfl⟩
        have i16 : (k : Int) - 16 = (q16 : Int) := by omega
        have i7 : (k : Int) - 7 = (q7 : Int) := by omega
        have b16 : (q16 : Int) < (k : Int) := by omega
        have b7 : (q7 : Int) < (k : Int) := by omega
        have x16 : IntKind.i64.wrap (q16 : Int) = (q16 : Int) := IntWalk.i64_in _ (by omega)
        have y7 : IntKind.i64.wrap (q7 : Int) = (q7 : Int) := IntWalk.i64_in _ (by omega)
        have c16 := C8.cell q16 (by omega)
        have c7 := C8.cell q7 (by omega)
        have gz8 := (C8.o.lt gv rfl).2
        have w16 := (spK_all b k).get q16
        have w7 := (spK_all b k).get q7
        obtain ⟨u, hu⟩ : ∃ x, (spK b k).getD q16 0 = x := ⟨_, rfl⟩
        obtain ⟨v, hv⟩ : ∃ x, (spK b k).getD q7 0 = x := ⟨_, rfl⟩
        rw [hu] at c16 w16
        rw [hv] at c7 w7
        unfold isW at w16 w7
        have t1 := kturn x 7 7 rfl W15.out (by decide) (by decide)
        have t2 := kturn x 18 18 rfl W15.out (by decide) (by decide)
        have t3 := kmove x 3 3 rfl W15.out (by decide)
        have t4 := kthree (rotr x 7) (rotr x 18) (x / 2 ^ 3)
        rw [show rotr x 7 ^^^ rotr x 18 ^^^ (x / 2 ^ 3) = smX x from rfl] at t4
        have t5 := kval (smX x) (smX_le W15.out)
        have t6 := kturn y 17 17 rfl W2.out (by decide) (by decide)
        have t7 := kturn y 19 19 rfl W2.out (by decide) (by decide)
        have t8 := kmove y 10 10 rfl W2.out (by decide)
        have t9 := kthree (rotr y 17) (rotr y 19) (y / 2 ^ 10)
        rw [show rotr y 17 ^^^ rotr y 19 ^^^ (y / 2 ^ 10) = smY y from rfl] at t9
        have t10 := kval (smY y) (smY_le W2.out)
        have t11 : ∀ w', Calls Tryd.prog 81 #[.int .i64 (u : Int), .int .i64 (v : Int), .int .i64 ((smX x : Nat) : Int), .int .i64 ((smY y : Nat) : Int), .int .i64 0] w' (Ans w' (.int .i64 (((u + v + smX x + smY y + 0) % 4294967296 : Nat) : Int))) := ksum u v (smX x) (smY y) 0 w16 w7 (smX_le W15.out) (smY_le W2.out) (by decide)
        obtain ⟨n, hn⟩ : ∃ n, (u + v + smX x + smY y + 0) % 4294967296 = n := ⟨_, rfl⟩
        have hsp : spK b (k + 1) = spK b k ++ [n] := by rw [HN.out, HNV.out, h16, h7, H15.out, H2.out, hu, hv, HX.out, HY.out, hn]
        rw [hn] at t11
        obtain ⟨sx, hsx⟩ : ∃ n, smX x = n := ⟨_, rfl⟩
        obtain ⟨sy, hsy⟩ : ∃ n, smY y = n := ⟨_, rfl⟩
        rw [hsx] at t4 t5 t11
        rw [hsy] at t9 t10 t11
        obtain ⟨x7, hx7⟩ : ∃ n, rotr x 7 = n := ⟨_, rfl⟩
        obtain ⟨x18, hx18⟩ : ∃ n, rotr x 18 = n := ⟨_, rfl⟩
        obtain ⟨x3, hx3⟩ : ∃ n, x / 2 ^ 3 = n := ⟨_, rfl⟩
        obtain ⟨y17, hy17⟩ : ∃ n, rotr y 17 = n := ⟨_, rfl⟩
        obtain ⟨y19, hy19⟩ : ∃ n, rotr y 19 = n := ⟨_, rfl⟩
        obtain ⟨y10, hy10⟩ : ∃ n, y / 2 ^ 10 = n := ⟨_, rfl⟩
        rw [hx7] at t1 t4
        rw [hx18] at t2 t4
        rw [hx3] at t3 t4
        rw [hy17] at t6 t9
        rw [hy19] at t7 t9
        rw [hy10] at t8 t9
        have T1 := Lib.hid t1
        have T2 := Lib.hid t2
        have T3 := Lib.hid t3
        have T4 := Lib.hid t4
        have T5 := Lib.hid t5
        have T6 := Lib.hid t6
        have T7 := Lib.hid t7
        have T8 := Lib.hid t8
        have T9 := Lib.hid t9
        have T10 := Lib.hid t10
        have T11 := Lib.hid t11
        have HSP := Lib.hid hsp
        have HC8 := Lib.hid C8
        have hB8 : Below gW.heap.size gW gW.drew := (Below.refl _ gW).drew
        have B8 := Lib.hid hB8
        clear h16 h7 hu hv hn hsp hsx hsy hx7 hx18 hx3 hy17 hy19 hy10 t1 t2 t3 t4 t5 t6 t7 t8 t9 t10 t11 C8 hB8 w16 w7
        go_wp2_with fail
        refine region_anyB (fun w' : World => Below gW.heap.size gW w') [29, 30] (by kernel_rfl) ?_
        refine anyB_take (i := 0) (oi := ⟨some 52, _, _, _, _, _⟩) (v := _) rfl (by kernel_rfl) (by kernel_rfl) (by kernel_rfl) (by kernel_rfl) (fun _ _ _ h => h) (Or.inl ⟨by rfl, fun w' hw' => (by clear hw'; go_simp; try with_reducible rfl)⟩) B8.out ?_
        try simp only [Act.put, List.setIfInBounds_toArray, List.set_cons_zero, List.set_cons_succ]
        refine anyB_take (i := 1) (oi := ⟨some 53, _, _, _, _, _⟩) (v := _) rfl (by kernel_rfl) (by kernel_rfl) (by kernel_rfl) (by kernel_rfl) (fun _ _ _ h => h) (Or.inl ⟨by rfl, fun w' hw' => (by clear hw'; go_simp; try with_reducible rfl)⟩) B8.out ?_
        try simp only [Act.put, List.setIfInBounds_toArray, List.set_cons_zero, List.set_cons_succ]
        refine anyB_take (i := 2) (oi := ⟨some 54, _, _, _, _, _⟩) (v := _) rfl (by kernel_rfl) (by kernel_rfl) (by kernel_rfl) (by kernel_rfl) (fun _ _ _ h => h) (Or.inl ⟨by rfl, fun w' hw' => (by clear hw'; go_simp; try with_reducible rfl)⟩) B8.out ?_
        try simp only [Act.put, List.setIfInBounds_toArray, List.set_cons_zero, List.set_cons_succ]
        refine anyB_take (i := 3) (oi := ⟨some 55, _, _, _, _, _⟩) (v := _) rfl (by kernel_rfl) (by kernel_rfl) (by kernel_rfl) (by kernel_rfl) (fun _ _ _ h => h) (Or.inl ⟨by rfl, fun w' hw' => (by clear hw'; go_simp; try with_reducible rfl)⟩) B8.out ?_
        try simp only [Act.put, List.setIfInBounds_toArray, List.set_cons_zero, List.set_cons_succ]
        refine anyB_take (i := 4) (oi := ⟨some 56, _, _, _, _, _⟩) (v := _) rfl (by kernel_rfl) (by kernel_rfl) (by kernel_rfl) (by kernel_rfl) (fun _ _ _ h => h) (Or.inl ⟨by rfl, fun w' hw' => (by clear hw'; go_simp; try with_reducible rfl)⟩) B8.out ?_
        try simp only [Act.put, List.setIfInBounds_toArray, List.set_cons_zero, List.set_cons_succ]
        refine anyB_take (i := 5) (oi := ⟨some 57, _, _, _, _, _⟩) (v := _) rfl (by kernel_rfl) (by kernel_rfl) (by kernel_rfl) (by kernel_rfl) (fun _ _ _ h => h) (Or.inl ⟨by rfl, fun w' hw' => (by have h1 := (hw'.cell (p := ⟨gv, q16, none⟩) gz8).trans c16; have h3 := (hw'.cell (p := ⟨gv, q7, none⟩) gz8).trans c7; go_simp; try with_reducible rfl)⟩) B8.out ?_
        try simp only [Act.put, List.setIfInBounds_toArray, List.set_cons_zero, List.set_cons_succ]
        refine anyB_take (i := 6) (oi := ⟨some 58, _, _, _, _, _⟩) (v := _) rfl (by kernel_rfl) (by kernel_rfl) (by kernel_rfl) (by kernel_rfl) (fun _ _ _ h => h) (Or.inl ⟨by rfl, fun w' hw' => (by clear hw'; go_simp; try with_reducible rfl)⟩) B8.out ?_
        try simp only [Act.put, List.setIfInBounds_toArray, List.set_cons_zero, List.set_cons_succ]
        refine anyB_take (i := 7) (oi := ⟨some 59, _, _, _, _, _⟩) (v := _) rfl (by kernel_rfl) (by kernel_rfl) (by kernel_rfl) (by kernel_rfl) (fun _ _ _ h => h) (Or.inl ⟨by rfl, fun w' hw' => (by clear hw'; go_simp; try with_reducible rfl)⟩) B8.out ?_
        try simp only [Act.put, List.setIfInBounds_toArray, List.set_cons_zero, List.set_cons_succ]
        refine anyB_take (i := 8) (oi := ⟨some 60, _, _, _, _, _⟩) (v := _) rfl (by kernel_rfl) (by kernel_rfl) (by kernel_rfl) (by kernel_rfl) (fun _ _ _ h => h) (Or.inl ⟨by rfl, fun w' hw' => (by clear hw'; go_simp; try with_reducible rfl)⟩) B8.out ?_
        try simp only [Act.put, List.setIfInBounds_toArray, List.set_cons_zero, List.set_cons_succ]
        refine anyB_take (i := 9) (oi := ⟨some 61, _, _, _, _, _⟩) (v := _) rfl (by kernel_rfl) (by kernel_rfl) (by kernel_rfl) (by kernel_rfl) (fun _ _ _ h => h) (Or.inl ⟨by rfl, fun w' hw' => (by clear hw'; go_simp; try with_reducible rfl)⟩) B8.out ?_
        try simp only [Act.put, List.setIfInBounds_toArray, List.set_cons_zero, List.set_cons_succ]
        refine anyB_take (i := 10) (oi := ⟨some 62, _, _, _, _, _⟩) (v := _) rfl (by kernel_rfl) (by kernel_rfl) (by kernel_rfl) (by kernel_rfl) (fun _ _ _ h => h) (Or.inl ⟨by rfl, fun w' hw' => (by have h1 := (hw'.cell (p := ⟨gv, q16, none⟩) gz8).trans c16; have h3 := (hw'.cell (p := ⟨gv, q7, none⟩) gz8).trans c7; go_simp; try with_reducible rfl)⟩) B8.out ?_
        try simp only [Act.put, List.setIfInBounds_toArray, List.set_cons_zero, List.set_cons_succ]
        refine anyB_take (i := 11) (oi := ⟨some 63, _, _, _, _, _⟩) (v := _) rfl (by kernel_rfl) (by kernel_rfl) (by kernel_rfl) (by kernel_rfl) (fun _ _ _ h => h) (yieldsIf_load_mid (by rfl) _ _ rfl _ _ rfl (wC x) _ (fun w' hw' => rangeAt_below Hgw1.out.range hw' (Bo.lt Hgw1.out)) Tryd.underlying128 rfl (wsize x)) B8.out ?_
        try simp only [Act.put, List.setIfInBounds_toArray, List.set_cons_zero, List.set_cons_succ]
        refine anyB_take (i := 13) (oi := ⟨some 65, _, _, _, _, _⟩) (v := _) rfl (by kernel_rfl) (by kernel_rfl) (by kernel_rfl) (by kernel_rfl) (fun _ _ _ h => h) (yieldsIf_load_mid (by rfl) _ _ rfl _ _ rfl (wC x) _ (fun w' hw' => rangeAt_below Hgw1.out.range hw' (Bo.lt Hgw1.out)) Tryd.underlying128 rfl (wsize x)) B8.out ?_
        try simp only [Act.put, List.setIfInBounds_toArray, List.set_cons_zero, List.set_cons_succ]
        refine anyB_take (i := 15) (oi := ⟨some 67, _, _, _, _, _⟩) (v := _) rfl (by kernel_rfl) (by kernel_rfl) (by kernel_rfl) (by kernel_rfl) (fun _ _ _ h => h) (yieldsIf_load_mid (by rfl) _ _ rfl _ _ rfl (wC x) _ (fun w' hw' => rangeAt_below Hgw1.out.range hw' (Bo.lt Hgw1.out)) Tryd.underlying128 rfl (wsize x)) B8.out ?_
        try simp only [Act.put, List.setIfInBounds_toArray, List.set_cons_zero, List.set_cons_succ]
        refine anyB_take (i := 19) (oi := ⟨some 71, _, _, _, _, _⟩) (v := _) rfl (by kernel_rfl) (by kernel_rfl) (by kernel_rfl) (by kernel_rfl) (fun _ _ _ h => h) (yieldsIf_load_mid (by rfl) _ _ rfl _ _ rfl (wC y) _ (fun w' hw' => rangeAt_below Hgw2.out.range hw' (Bo.lt Hgw2.out)) Tryd.underlying128 rfl (wsize y)) B8.out ?_
        try simp only [Act.put, List.setIfInBounds_toArray, List.set_cons_zero, List.set_cons_succ]
        refine anyB_take (i := 21) (oi := ⟨some 73, _, _, _, _, _⟩) (v := _) rfl (by kernel_rfl) (by kernel_rfl) (by kernel_rfl) (by kernel_rfl) (fun _ _ _ h => h) (yieldsIf_load_mid (by rfl) _ _ rfl _ _ rfl (wC y) _ (fun w' hw' => rangeAt_below Hgw2.out.range hw' (Bo.lt Hgw2.out)) Tryd.underlying128 rfl (wsize y)) B8.out ?_
        try simp only [Act.put, List.setIfInBounds_toArray, List.set_cons_zero, List.set_cons_succ]
        refine anyB_take (i := 23) (oi := ⟨some 75, _, _, _, _, _⟩) (v := _) rfl (by kernel_rfl) (by kernel_rfl) (by kernel_rfl) (by kernel_rfl) (fun _ _ _ h => h) (yieldsIf_load_mid (by rfl) _ _ rfl _ _ rfl (wC y) _ (fun w' hw' => rangeAt_below Hgw2.out.range hw' (Bo.lt Hgw2.out)) Tryd.underlying128 rfl (wsize y)) B8.out ?_
        try simp only [Act.put, List.setIfInBounds_toArray, List.set_cons_zero, List.set_cons_succ]
        refine anyB_keep (i := 12) (o := ⟨some 64, _, _, _, _, _⟩) (by kernel_rfl) rfl (fun K hK => ?_)
        rw [if_pos (by rfl)]
        go_wp2_with (go_at_call 84; (with_reducible refine (T1.out _).mono ?_); rintro e V ⟨rfl, hb⟩; have B1 := Lib.hid (bstep B8.out hb); clear hb)
        refine hK.out _ _ B1.out ?_
        clear hK K
        try simp only [Act.put, List.setIfInBounds_toArray, List.set_cons_zero, List.set_cons_succ]
        refine anyB_keep (i := 14) (o := ⟨some 66, _, _, _, _, _⟩) (by kernel_rfl) rfl (fun K hK => ?_)
        rw [if_pos (by rfl)]
        go_wp2_with (go_at_call 84; (with_reducible refine (T2.out _).mono ?_); rintro e V ⟨rfl, hb⟩; have B2 := Lib.hid (bstep B1.out hb); clear hb)
        refine hK.out _ _ B2.out ?_
        clear hK K
        try simp only [Act.put, List.setIfInBounds_toArray, List.set_cons_zero, List.set_cons_succ]
        refine anyB_keep (i := 16) (o := ⟨some 68, _, _, _, _, _⟩) (by kernel_rfl) rfl (fun K hK => ?_)
        rw [if_pos (by rfl)]
        go_wp2_with (go_at_call 85; (with_reducible refine (T3.out _).mono ?_); rintro e V ⟨rfl, hb⟩; have B3 := Lib.hid (bstep B2.out hb); clear hb)
        refine hK.out _ _ B3.out ?_
        clear hK K
        try simp only [Act.put, List.setIfInBounds_toArray, List.set_cons_zero, List.set_cons_succ]
        refine anyB_keep (i := 17) (o := ⟨some 69, _, _, _, _, _⟩) (by kernel_rfl) rfl (fun K hK => ?_)
        rw [if_pos (by rfl)]
        go_wp2_with (go_at_call 83; (with_reducible refine (T4.out _).mono ?_); rintro e V ⟨rfl, hb⟩; have B4 := Lib.hid (bstep B3.out hb); clear hb)
        refine hK.out _ _ B4.out ?_
        clear hK K
        try simp only [Act.put, List.setIfInBounds_toArray, List.set_cons_zero, List.set_cons_succ]
        refine anyB_keep (i := 18) (o := ⟨some 70, _, _, _, _, _⟩) (by kernel_rfl) rfl (fun K hK => ?_)
        rw [if_pos (by rfl)]
        go_wp2_with (go_at_call 82; (with_reducible refine (T5.out _).mono ?_); rintro e V ⟨rfl, hb⟩; have B5 := Lib.hid (bstep B4.out hb); clear hb)
        refine hK.out _ _ B5.out ?_
        clear hK K
        try simp only [Act.put, List.setIfInBounds_toArray, List.set_cons_zero, List.set_cons_succ]
        refine anyB_keep (i := 20) (o := ⟨some 72, _, _, _, _, _⟩) (by kernel_rfl) rfl (fun K hK => ?_)
        rw [if_pos (by rfl)]
        go_wp2_with (go_at_call 84; (with_reducible refine (T6.out _).mono ?_); rintro e V ⟨rfl, hb⟩; have B6 := Lib.hid (bstep B5.out hb); clear hb)
        refine hK.out _ _ B6.out ?_
        clear hK K
        try simp only [Act.put, List.setIfInBounds_toArray, List.set_cons_zero, List.set_cons_succ]
        refine anyB_keep (i := 22) (o := ⟨some 74, _, _, _, _, _⟩) (by kernel_rfl) rfl (fun K hK => ?_)
        rw [if_pos (by rfl)]
        go_wp2_with (go_at_call 84; (with_reducible refine (T7.out _).mono ?_); rintro e V ⟨rfl, hb⟩; have B7 := Lib.hid (bstep B6.out hb); clear hb)
        refine hK.out _ _ B7.out ?_
        clear hK K
        try simp only [Act.put, List.setIfInBounds_toArray, List.set_cons_zero, List.set_cons_succ]
        refine anyB_keep (i := 24) (o := ⟨some 76, _, _, _, _, _⟩) (by kernel_rfl) rfl (fun K hK => ?_)
        rw [if_pos (by rfl)]
        go_wp2_with (go_at_call 85; (with_reducible refine (T8.out _).mono ?_); rintro e V ⟨rfl, hb⟩; have B8 := Lib.hid (bstep B7.out hb); clear hb)
        refine hK.out _ _ B8.out ?_
        clear hK K
        try simp only [Act.put, List.setIfInBounds_toArray, List.set_cons_zero, List.set_cons_succ]
        refine anyB_keep (i := 25) (o := ⟨some 77, _, _, _, _, _⟩) (by kernel_rfl) rfl (fun K hK => ?_)
        rw [if_pos (by rfl)]
        go_wp2_with (go_at_call 83; (with_reducible refine (T9.out _).mono ?_); rintro e V ⟨rfl, hb⟩; have B9 := Lib.hid (bstep B8.out hb); clear hb)
        refine hK.out _ _ B9.out ?_
        clear hK K
        try simp only [Act.put, List.setIfInBounds_toArray, List.set_cons_zero, List.set_cons_succ]
        refine anyB_keep (i := 26) (o := ⟨some 78, _, _, _, _, _⟩) (by kernel_rfl) rfl (fun K hK => ?_)
        rw [if_pos (by rfl)]
        go_wp2_with (go_at_call 82; (with_reducible refine (T10.out _).mono ?_); rintro e V ⟨rfl, hb⟩; have B10 := Lib.hid (bstep B9.out hb); clear hb)
        refine hK.out _ _ B10.out ?_
        clear hK K
        try simp only [Act.put, List.setIfInBounds_toArray, List.set_cons_zero, List.set_cons_succ]
        refine anyB_keep (i := 27) (o := ⟨some 79, _, _, _, _, _⟩) (by kernel_rfl) rfl (fun K hK => ?_)
        rw [if_pos (by rfl)]
        go_wp2_with (go_at_call 81; (with_reducible refine (T11.out _).mono ?_); rintro e V ⟨rfl, hb⟩; have B11 := Lib.hid (bstep B10.out hb); clear hb)
        refine hK.out _ _ B11.out ?_
        clear hK K
        try simp only [Act.put, List.setIfInBounds_toArray, List.set_cons_zero, List.set_cons_succ]
        refine anyB_keep (i := 28) (o := ⟨some 80, _, _, _, _, _⟩) (by kernel_rfl) rfl (fun K hK => ?_)
        rw [if_pos (by rfl)]
        have C9 := HC8.out.step B11.out
        have z9 := C9.bel.size
        have HC9 := Lib.hid C9
        clear C9
        go_simp
        refine hK.out _ _ (bstep B11.out ((Below.refl _ _).alloc (Nat.le_refl _) _)) ?_
        clear hK K
        try simp only [Act.put, List.setIfInBounds_toArray, List.set_cons_zero, List.set_cons_succ]
        refine anyB_last (i := 29) (o := ⟨some 81, _, _, _, _, _⟩) (by kernel_rfl) rfl (by kernel_rfl) (fun K hK => ?_)
        rw [if_pos (by rfl)]
        refine wp_append_own _ _ _ 25 rfl (w.heap.size + 1) 3 i0 (.int .i64 0) 1 8 Tryd.underlying25 hi hz0 hz1 hz2 rfl (by decide) _ k _ rfl (HC9.out.o.alloc _) ⟨V.heap.size, 0, none⟩ 1 1 [.int .i64 (n : Int)] rfl rfl (World.news_of_block (cs := #[.int .i64 (n : Int)]) (t := 3) (fr := (0, 0)) (heap_alloc_new V _)) (by simp [Value.oneCell']) (by unfold maxLen; omega) (by omega) (by simp; omega) ?_
        intro v3 w3 hown3 hg3 _
        refine hK.out _ _ ?_
        clear hK K
        try simp only [Act.put, List.setIfInBounds_toArray, List.set_cons_zero, List.set_cons_succ]
        refine anyB_takeW (i := 30) (oi := ⟨some 7, _, _, _, _, _⟩) (v := _) rfl (by kernel_rfl) (by kernel_rfl) (by kernel_rfl) (by kernel_rfl) (fun _ _ _ h => h) (Or.inl ⟨by rfl, fun w' hw' => (by clear hw'; go_simp; try with_reducible rfl)⟩) ?_
        try simp only [Act.put, List.setIfInBounds_toArray, List.set_cons_zero, List.set_cons_succ]
        refine anyB_done (by kernel_rfl) ?_ _
        have C3 := HC9.out.app _ HSP.out hown3 hg3
        have HC3 := Lib.hid C3
        clear C3 hown3 hg3 c16 c7 i16 i7 b16 b7 x16 y7 gz8
        go_wp2
        go_roundw
        case rel => exact ⟨k + 1, by omega, by go_num, HC3⟩
        case measure => simp [intOf]; omega
    · obtain rfl : k = 64 := by omega
      clear hlt hk hs1 hs2
      have C := HC.out
      obtain ⟨gv, cv, rfl⟩ := Joins.ownsRow_form C.o (by decide : 0 < 64)
      have hcH : ∀ j u, (intC h.list)[j]? = some u → wr.cell? ((⟨gh, 0, none⟩ : Addr).add j) = some u := fun j u hj => by
        have hl : (intC h.list).length = 8 := by rw [intC_length, W8.list_length]
        have hj8 : j < 8 := by have := (List.getElem?_eq_some_iff.1 hj).1; omega
        have hadd : (⟨gh, 0, none⟩ : Addr).add j = ⟨gh, j, none⟩ := by unfold Addr.add; split <;> simp_all
        rw [hadd, C.bel.cell (p := ⟨gh, j, none⟩) hgh, HHH.out j hj8, ← hj, intC_get _ _ (by rw [W8.list_length]; exact hj8)]
      have hz := C.bel.size
      have h1c : ∀ u ∈ intC h.list, u.oneCell' = true := fun u hu => by
        obtain ⟨x, _, rfl⟩ := List.mem_map.1 hu
        rfl
      have hl8 : (intC h.list).length = 8 * 1 := by rw [intC_length, W8.list_length]
      have HCH := Lib.hid hcH
      have H1C := Lib.hid h1c
      have HL8 := Lib.hid hl8
      clear C hcH h1c hl8
      go_wp2_with (first | (at_builtin; refine wpList_append_own _ rfl _ _ 25 rfl (w.heap.size + 1) 3 i0 (.int .i64 0) 1 8 Tryd.underlying25 hi hz0 hz1 hz2 rfl (by decide) (.slice none 0 0) 0 [] rfl (World.ownsRow_nil _ _ _ _) ⟨gh, 0, none⟩ 8 ch (intC h.list) rfl HL8.out HCH.out H1C.out ?_ ?_ ?_ ?_; (unfold maxLen; omega); omega; (have := (Array.getElem?_eq_some_iff.1 HC.out.t).1; omega); intro v2 w3 hown3 hg3 _))
      simp only [Nat.zero_add, List.nil_append] at hown3
      have hb3 : Below wr.heap.size wr w3 := (Below.refl _ wr).grown hg3 (Nat.le_refl _) (fun _ e => by cases e)
      obtain ⟨gb0, cb0, rfl⟩ := Joins.ownsRow_form hown3 (by decide : 0 < 8)
      have M30 : M3 w w3 tv b gv cv gb0 h := ⟨HC.out.step hb3, fun j hj => by rw [hown3.cellAt j (by omega), intC_get _ _ (by rw [W8.list_length]; exact hj)], (hown3.lt gb0 rfl).2⟩
      have HM30 := Lib.hid M30
      clear M30 hown3 hg3 hb3 HC HCH H1C HL8 hz
      go_loopw [11, 12] (fun v i wq => ∃ k gb cb : Nat, k ≤ 64 ∧ i = .int .i64 (k : Int) ∧ v = .slice (some ⟨gb, 0, none⟩) 8 cb ∧ Hid (M3 w wq tv b gv cv gb (mixT KL (spreadW b) h k))) (fun _ i _ => 64 - (intOf i).toNat)
      case atStart => exact ⟨0, gb0, cb0, by omega, rfl, rfl, HM30⟩
      case round =>
        clear HM30
        obtain ⟨k, gb, cb, hk, rfl, rfl, HC⟩ := hrel
        by_cases hlt : k < 64
        · have k64 : (k : Int) < 64 := by omega
          have C := HC.out
          have hso := W8.ok_le (mixT_ok KL (spreadW b) HOK.out k)
          have HST : Hid (mixT KL (spreadW b) h (k + 1) = stepW (mixT KL (spreadW b) h k) (ad (KL.getD k 0) ((spreadW b).getD k 0))) := Lib.hid rfl
          obtain ⟨sm, hsm⟩ : ∃ s, mixT KL (spreadW b) h k = s := ⟨_, rfl⟩
          rw [hsm] at C HST hso
          have HSM := Lib.hid hsm
          clear hsm
          obtain ⟨a1, a2, a3, a4, a5, a6, a7, a8⟩ := sm
          obtain ⟨⟨o1, o2, o3, o4⟩, o5, o6, o7, o8⟩ := hso
          dsimp only at o1 o2 o3 o4 o5 o6 o7 o8
          have s0 : wr.cell? ⟨gb, 0, none⟩ = some (.int .i64 (a1 : Int)) := C.c 0 (by decide)
          have s1 : wr.cell? ⟨gb, 1, none⟩ = some (.int .i64 (a2 : Int)) := C.c 1 (by decide)
          have s2 : wr.cell? ⟨gb, 2, none⟩ = some (.int .i64 (a3 : Int)) := C.c 2 (by decide)
          have gl := C.l
          have k1 := kword a1 o1
          have k2 := kword a2 o2
          have k3 := kword a3 o3
          have K1 := Lib.hid k1
          have K2 := Lib.hid k2
          have K3 := Lib.hid k3
          have HCM := Lib.hid C
          have hB0 : Below wr.heap.size wr wr.drew := (Below.refl _ wr).drew
          have B0 := Lib.hid hB0
          clear C k1 k2 k3 hB0 HC
          go_wp2_with fail
          refine region_anyB (fun w' : World => Below wr.heap.size wr w') [15, 16, 17] (by kernel_rfl) ?_
          refine anyB_take (i := 0) (oi := ⟨some 89, _, _, _, _, _⟩) (v := _) rfl (by kernel_rfl) (by kernel_rfl) (by kernel_rfl) (by kernel_rfl) (fun _ _ _ h => h) (Or.inl ⟨by rfl, fun w' hw' => (by clear hw'; go_simp; try with_reducible rfl)⟩) B0.out ?_
          try simp only [Act.put, List.setIfInBounds_toArray, List.set_cons_zero, List.set_cons_succ]
          refine anyB_take (i := 1) (oi := ⟨some 90, _, _, _, _, _⟩) (v := _) rfl (by kernel_rfl) (by kernel_rfl) (by kernel_rfl) (by kernel_rfl) (fun _ _ _ h => h) (Or.inl ⟨by rfl, fun w' hw' => (by clear hw'; go_simp; try with_reducible rfl)⟩) B0.out ?_
          try simp only [Act.put, List.setIfInBounds_toArray, List.set_cons_zero, List.set_cons_succ]
          refine anyB_take (i := 2) (oi := ⟨some 91, _, _, _, _, _⟩) (v := _) rfl (by kernel_rfl) (by kernel_rfl) (by kernel_rfl) (by kernel_rfl) (fun _ _ _ h => h) (Or.inl ⟨by rfl, fun w' hw' => (by have e0 := (hw'.cell (p := ⟨gb, 0, none⟩) gl).trans s0; have e1 := (hw'.cell (p := ⟨gb, 1, none⟩) gl).trans s1; have e2 := (hw'.cell (p := ⟨gb, 2, none⟩) gl).trans s2; go_simp; try with_reducible rfl)⟩) B0.out ?_
          try simp only [Act.put, List.setIfInBounds_toArray, List.set_cons_zero, List.set_cons_succ]
          refine anyB_take (i := 4) (oi := ⟨some 93, _, _, _, _, _⟩) (v := _) rfl (by kernel_rfl) (by kernel_rfl) (by kernel_rfl) (by kernel_rfl) (fun _ _ _ h => h) (Or.inl ⟨by rfl, fun w' hw' => (by clear hw'; go_simp; try with_reducible rfl)⟩) B0.out ?_
          try simp only [Act.put, List.setIfInBounds_toArray, List.set_cons_zero, List.set_cons_succ]
          refine anyB_take (i := 5) (oi := ⟨some 94, _, _, _, _, _⟩) (v := _) rfl (by kernel_rfl) (by kernel_rfl) (by kernel_rfl) (by kernel_rfl) (fun _ _ _ h => h) (Or.inl ⟨by rfl, fun w' hw' => (by clear hw'; go_simp; try with_reducible rfl)⟩) B0.out ?_
          try simp only [Act.put, List.setIfInBounds_toArray, List.set_cons_zero, List.set_cons_succ]
          refine anyB_take (i := 6) (oi := ⟨some 95, _, _, _, _, _⟩) (v := _) rfl (by kernel_rfl) (by kernel_rfl) (by kernel_rfl) (by kernel_rfl) (fun _ _ _ h => h) (Or.inl ⟨by rfl, fun w' hw' => (by have e0 := (hw'.cell (p := ⟨gb, 0, none⟩) gl).trans s0; have e1 := (hw'.cell (p := ⟨gb, 1, none⟩) gl).trans s1; have e2 := (hw'.cell (p := ⟨gb, 2, none⟩) gl).trans s2; go_simp; try with_reducible rfl)⟩) B0.out ?_
          try simp only [Act.put, List.setIfInBounds_toArray, List.set_cons_zero, List.set_cons_succ]
          refine anyB_take (i := 8) (oi := ⟨some 97, _, _, _, _, _⟩) (v := _) rfl (by kernel_rfl) (by kernel_rfl) (by kernel_rfl) (by kernel_rfl) (fun _ _ _ h => h) (Or.inl ⟨by rfl, fun w' hw' => (by clear hw'; go_simp; try with_reducible rfl)⟩) B0.out ?_
          try simp only [Act.put, List.setIfInBounds_toArray, List.set_cons_zero, List.set_cons_succ]
          refine anyB_take (i := 9) (oi := ⟨some 98, _, _, _, _, _⟩) (v := _) rfl (by kernel_rfl) (by kernel_rfl) (by kernel_rfl) (by kernel_rfl) (fun _ _ _ h => h) (Or.inl ⟨by rfl, fun w' hw' => (by clear hw'; go_simp; try with_reducible rfl)⟩) B0.out ?_
          try simp only [Act.put, List.setIfInBounds_toArray, List.set_cons_zero, List.set_cons_succ]
          refine anyB_take (i := 10) (oi := ⟨some 99, _, _, _, _, _⟩) (v := _) rfl (by kernel_rfl) (by kernel_rfl) (by kernel_rfl) (by kernel_rfl) (fun _ _ _ h => h) (Or.inl ⟨by rfl, fun w' hw' => (by have e0 := (hw'.cell (p := ⟨gb, 0, none⟩) gl).trans s0; have e1 := (hw'.cell (p := ⟨gb, 1, none⟩) gl).trans s1; have e2 := (hw'.cell (p := ⟨gb, 2, none⟩) gl).trans s2; go_simp; try with_reducible rfl)⟩) B0.out ?_
          try simp only [Act.put, List.setIfInBounds_toArray, List.set_cons_zero, List.set_cons_succ]
          refine anyB_inv2 [3, 7, 11, 12, 13, 14] [15, 16, 17] #[true, true, true, true, true, true, true, true, true, true, true, true, true, true, true, false, false, false] 3 (by kernel_rfl) (fun a0 l a W => ∃ xr1 xr2 xr3 xp1 xp2 xp3 : Value, a = ((((((a0.put (some 92) xr1).put (some 96) xr2).put (some 100) xr3).put (some 13) xp1).put (some 14) xp2).put (some 15) xp3) ∧ Below wr.heap.size wr W ∧ (CI l 3 xr1 (.agg (wC a1).toArray) ∧ CI l 7 xr2 (.agg (wC a2).toArray) ∧ CI l 11 xr3 (.agg (wC a3).toArray)) ∧ (AI l 12 wr.heap.size W xp1 ∧ AI l 13 wr.heap.size W xp2 ∧ AI l 14 wr.heap.size W xp3) ∧ (DI l 12 13 xp1 xp2 ∧ DI l 12 14 xp1 xp3 ∧ DI l 13 14 xp2 xp3)) 6 (by kernel_rfl) (fun l a W h => ?_) ?_ ?_ ?_
          · obtain ⟨xr1, xr2, xr3, xp1, xp2, xp3, _, hB, ⟨xc1, xc2, xc3⟩, ⟨xa1, xa2, xa3⟩, ⟨xd1, xd2, xd3⟩⟩ := h
            exact hB
          · intro i hi l a W hI hr
            clear hr
            obtain ⟨xr1, xr2, xr3, xp1, xp2, xp3, rfl, hB, ⟨xc1, xc2, xc3⟩, ⟨xa1, xa2, xa3⟩, ⟨xd1, xd2, xd3⟩⟩ := hI
            simp only [List.mem_cons, List.not_mem_nil, or_false] at hi
            rcases hi with rfl | rfl | rfl | rfl | rfl | rfl
            · refine wpOp_step (o := ⟨some 92, _, _, _, _, _⟩) rfl (fun K hK => ?_)
              have HK := Lib.hid hK
              clear hK
              rw [if_pos (by rfl)]
              simp only [Act.put, List.setIfInBounds_toArray, List.set_cons_zero, List.set_cons_succ]
              go_wp2_with (go_at_call 80; (with_reducible refine (K1.out _).mono ?_); rintro e V ⟨rfl, hb⟩; (repeat (with_reducible replace hb := bel_of_drew hb)))
              exact HK.out _ _ ⟨.agg (wC a1).toArray, xr2, xr3, xp1, xp2, xp3, by simp only [Act.put, List.setIfInBounds_toArray, List.set_cons_zero, List.set_cons_succ], bstep hB hb, ⟨CI.new _ _ _, xc2.other (by decide), xc3.other (by decide)⟩, ⟨xa1.other (by decide) hb, xa2.other (by decide) hb, xa3.other (by decide) hb⟩, ⟨xd1.other (by decide) (by decide), xd2.other (by decide) (by decide), xd3.other (by decide) (by decide)⟩⟩
            · refine wpOp_step (o := ⟨some 96, _, _, _, _, _⟩) rfl (fun K hK => ?_)
              have HK := Lib.hid hK
              clear hK
              rw [if_pos (by rfl)]
              simp only [Act.put, List.setIfInBounds_toArray, List.set_cons_zero, List.set_cons_succ]
              go_wp2_with (go_at_call 80; (with_reducible refine (K2.out _).mono ?_); rintro e V ⟨rfl, hb⟩; (repeat (with_reducible replace hb := bel_of_drew hb)))
              exact HK.out _ _ ⟨xr1, .agg (wC a2).toArray, xr3, xp1, xp2, xp3, by simp only [Act.put, List.setIfInBounds_toArray, List.set_cons_zero, List.set_cons_succ], bstep hB hb, ⟨xc1.other (by decide), CI.new _ _ _, xc3.other (by decide)⟩, ⟨xa1.other (by decide) hb, xa2.other (by decide) hb, xa3.other (by decide) hb⟩, ⟨xd1.other (by decide) (by decide), xd2.other (by decide) (by decide), xd3.other (by decide) (by decide)⟩⟩
            · refine wpOp_step (o := ⟨some 100, _, _, _, _, _⟩) rfl (fun K hK => ?_)
              have HK := Lib.hid hK
              clear hK
              rw [if_pos (by rfl)]
              simp only [Act.put, List.setIfInBounds_toArray, List.set_cons_zero, List.set_cons_succ]
              go_wp2_with (go_at_call 80; (with_reducible refine (K3.out _).mono ?_); rintro e V ⟨rfl, hb⟩; (repeat (with_reducible replace hb := bel_of_drew hb)))
              exact HK.out _ _ ⟨xr1, xr2, .agg (wC a3).toArray, xp1, xp2, xp3, by simp only [Act.put, List.setIfInBounds_toArray, List.set_cons_zero, List.set_cons_succ], bstep hB hb, ⟨xc1.other (by decide), xc2.other (by decide), CI.new _ _ _⟩, ⟨xa1.other (by decide) hb, xa2.other (by decide) hb, xa3.other (by decide) hb⟩, ⟨xd1.other (by decide) (by decide), xd2.other (by decide) (by decide), xd3.other (by decide) (by decide)⟩⟩
            · refine wpOp_step (o := ⟨some 13, _, _, _, _, _⟩) rfl (fun K hK => ?_)
              have HK := Lib.hid hK
              clear hK
              rw [if_pos (by rfl)]
              simp only [Act.put, List.setIfInBounds_toArray, List.set_cons_zero, List.set_cons_succ]
              go_simp
              exact HK.out _ _ ⟨xr1, xr2, xr3, .pointer (some ⟨W.heap.size, 0, none⟩), xp2, xp3, by simp only [Act.put, List.setIfInBounds_toArray, List.set_cons_zero, List.set_cons_succ], bel_al hB hB.size _, ⟨xc1.other (by decide), xc2.other (by decide), xc3.other (by decide)⟩, ⟨AI.new _ _ _ _ hB.size, xa2.other (by decide) ((Below.refl _ _).alloc (Nat.le_refl _) _), xa3.other (by decide) ((Below.refl _ _).alloc (Nat.le_refl _) _)⟩, ⟨DI.new1 xa2 (by decide), DI.new1 xa3 (by decide), xd3.other (by decide) (by decide)⟩⟩
            · refine wpOp_step (o := ⟨some 14, _, _, _, _, _⟩) rfl (fun K hK => ?_)
              have HK := Lib.hid hK
              clear hK
              rw [if_pos (by rfl)]
              simp only [Act.put, List.setIfInBounds_toArray, List.set_cons_zero, List.set_cons_succ]
              go_simp
              exact HK.out _ _ ⟨xr1, xr2, xr3, xp1, .pointer (some ⟨W.heap.size, 0, none⟩), xp3, by simp only [Act.put, List.setIfInBounds_toArray, List.set_cons_zero, List.set_cons_succ], bel_al hB hB.size _, ⟨xc1.other (by decide), xc2.other (by decide), xc3.other (by decide)⟩, ⟨xa1.other (by decide) ((Below.refl _ _).alloc (Nat.le_refl _) _), AI.new _ _ _ _ hB.size, xa3.other (by decide) ((Below.refl _ _).alloc (Nat.le_refl _) _)⟩, ⟨(DI.new1 xa1 (by decide)).symm, xd2.other (by decide) (by decide), DI.new1 xa3 (by decide)⟩⟩
            · refine wpOp_step (o := ⟨some 15, _, _, _, _, _⟩) rfl (fun K hK => ?_)
              have HK := Lib.hid hK
              clear hK
              rw [if_pos (by rfl)]
              simp only [Act.put, List.setIfInBounds_toArray, List.set_cons_zero, List.set_cons_succ]
              go_simp
              exact HK.out _ _ ⟨xr1, xr2, xr3, xp1, xp2, .pointer (some ⟨W.heap.size, 0, none⟩), by simp only [Act.put, List.setIfInBounds_toArray, List.set_cons_zero, List.set_cons_succ], bel_al hB hB.size _, ⟨xc1.other (by decide), xc2.other (by decide), xc3.other (by decide)⟩, ⟨xa1.other (by decide) ((Below.refl _ _).alloc (Nat.le_refl _) _), xa2.other (by decide) ((Below.refl _ _).alloc (Nat.le_refl _) _), AI.new _ _ _ _ hB.size⟩, ⟨xd1.other (by decide) (by decide), (DI.new1 xa1 (by decide)).symm, (DI.new1 xa2 (by decide)).symm⟩⟩
          · exact ⟨u92, u96, u100, u13, u14, u15, by simp only [Act.put, List.setIfInBounds_toArray, List.set_cons_zero, List.set_cons_succ], B0.out, ⟨(fun h => absurd h (by decide)), (fun h => absurd h (by decide)), (fun h => absurd h (by decide))⟩, ⟨(fun h => absurd h (by decide)), (fun h => absurd h (by decide)), (fun h => absurd h (by decide))⟩, ⟨(fun h => absurd h (by decide)), (fun h => absurd h (by decide)), (fun h => absurd h (by decide))⟩⟩
          intro n a W hI
          obtain ⟨xr1, xr2, xr3, xp1, xp2, xp3, rfl, hB, ⟨xc1, xc2, xc3⟩, ⟨xa1, xa2, xa3⟩, ⟨xd1, xd2, xd3⟩⟩ := hI
          have xe1 := xc1 rfl
          obtain ⟨p1, xh1, xg1, xo1⟩ := xa1 rfl
          have xe2 := xc2 rfl
          obtain ⟨p2, xh2, xg2, xo2⟩ := xa2 rfl
          have xe3 := xc3 rfl
          obtain ⟨p3, xh3, xg3, xo3⟩ := xa3 rfl
          have xn12 : p1 ≠ p2 := fun e => xd1 rfl rfl p1 xh1 (by rw [xh2, e])
          have xn13 : p1 ≠ p3 := fun e => xd2 rfl rfl p1 xh1 (by rw [xh3, e])
          have xn23 : p2 ≠ p3 := fun e => xd3 rfl rfl p2 xh2 (by rw [xh3, e])
          subst xe1 xe2 xe3 xh1 xh2 xh3
          clear xc1 xa1 xc2 xa2 xc3 xa3 xd1 xd2 xd3
          try simp only [Act.put, List.setIfInBounds_toArray, List.set_cons_zero, List.set_cons_succ]
          refine anyB_last (i := 15) (o := ⟨none, _, _, _, _, _⟩) (by kernel_rfl) rfl (by kernel_rfl) (fun K hK => ?_)
          rw [if_pos (by rfl)]
          refine wp_store_row 128 _ _ rfl p1 (bC (fL (fW a1))) rfl rfl 128 _ xo1 (by rw [size128, bC_size, fL_length]) (by rw [bC_size, bC_size, fL_length, fL_length]) (bC_one _) ?_
          refine hK.out _ _ ?_
          clear hK K
          try simp only [Act.put, List.setIfInBounds_toArray, List.set_cons_zero, List.set_cons_succ]
          refine anyB_last (i := 16) (o := ⟨none, _, _, _, _, _⟩) (by kernel_rfl) rfl (by kernel_rfl) (fun K hK => ?_)
          rw [if_pos (by rfl)]
          refine wp_store_row 128 _ _ rfl p2 (bC (fL (fW a2))) rfl rfl 128 _ (xo2.row2 (Ne.symm xn12) _) (by rw [size128, bC_size, fL_length]) (by rw [bC_size, bC_size, fL_length, fL_length]) (bC_one _) ?_
          refine hK.out _ _ ?_
          clear hK K
          try simp only [Act.put, List.setIfInBounds_toArray, List.set_cons_zero, List.set_cons_succ]
          refine anyB_last (i := 17) (o := ⟨none, _, _, _, _, _⟩) (by kernel_rfl) rfl (by kernel_rfl) (fun K hK => ?_)
          rw [if_pos (by rfl)]
          refine wp_store_row 128 _ _ rfl p3 (bC (fL (fW a3))) rfl rfl 128 _ ((xo3.row2 (Ne.symm xn13) _).row2 (Ne.symm xn23) _) (by rw [size128, bC_size, fL_length]) (by rw [bC_size, bC_size, fL_length, fL_length]) (bC_one _) ?_
          refine hK.out _ _ ?_
          clear hK K
          try simp only [Act.put, List.setIfInBounds_toArray, List.set_cons_zero, List.set_cons_succ]
          refine anyB_done (by kernel_rfl) ?_ _
          have pB : Below wr.heap.size wr (((W.setRow p1 (bC (fL (fW a1)))).setRow p2 (bC (fL (fW a2)))).setRow p3 (bC (fL (fW a3)))) := (below_setRow (below_setRow (below_setRow hB xg1 _) xg2 _) xg3 _)
          have pw1 : Bw (((W.setRow p1 (bC (fL (fW a1)))).setRow p2 (bC (fL (fW a2)))).setRow p3 (bC (fL (fW a3)))) p1 a1 := (((xo1.row (fL (fW a1))).row2 xn12 _).row2 xn13 _)
          have pw2 : Bw (((W.setRow p1 (bC (fL (fW a1)))).setRow p2 (bC (fL (fW a2)))).setRow p3 (bC (fL (fW a3)))) p2 a2 := (((xo2.row2 (Ne.symm xn12) _).row (fL (fW a2))).row2 xn23 _)
          have pw3 : Bw (((W.setRow p1 (bC (fL (fW a1)))).setRow p2 (bC (fL (fW a2)))).setRow p3 (bC (fL (fW a3)))) p3 a3 := (((xo3.row2 (Ne.symm xn13) _).row2 (Ne.symm xn23) _).row (fL (fW a3)))
          generalize (((W.setRow p1 (bC (fL (fW a1)))).setRow p2 (bC (fL (fW a2)))).setRow p3 (bC (fL (fW a3)))) = pW at pB pw1 pw2 pw3 ⊢
          have HpB := Lib.hid pB
          have Hpw1 := Lib.hid pw1
          have Hpw2 := Lib.hid pw2
          have Hpw3 := Lib.hid pw3
          clear hB xo1 xo2 xo3 xn12 xn13 xn23 pB pw1 pw2 pw3
          clear s0 s1 s2 gl
          have C := HCM.out.step HpB.out
          have s4 : pW.cell? ⟨gb, 4, none⟩ = some (.int .i64 (a5 : Int)) := C.c 4 (by decide)
          have s5 : pW.cell? ⟨gb, 5, none⟩ = some (.int .i64 (a6 : Int)) := C.c 5 (by decide)
          have s6 : pW.cell? ⟨gb, 6, none⟩ = some (.int .i64 (a7 : Int)) := C.c 6 (by decide)
          have gl := C.l
          have k1 := kword a5 o5
          have k2 := kword a6 o6
          have k3 := kword a7 o7
          have K5 := Lib.hid k1
          have K6 := Lib.hid k2
          have K7 := Lib.hid k3
          have HCP := Lib.hid C
          have hB0 : Below pW.heap.size pW pW.drew := (Below.refl _ pW).drew
          have BP := Lib.hid hB0
          clear C k1 k2 k3 hB0
          go_wp2_with fail
          refine region_anyB (fun w' : World => Below pW.heap.size pW w') [15, 16, 17] (by kernel_rfl) ?_
          refine anyB_take (i := 0) (oi := ⟨some 101, _, _, _, _, _⟩) (v := _) rfl (by kernel_rfl) (by kernel_rfl) (by kernel_rfl) (by kernel_rfl) (fun _ _ _ h => h) (Or.inl ⟨by rfl, fun w' hw' => (by clear hw'; go_simp; try with_reducible rfl)⟩) BP.out ?_
          try simp only [Act.put, List.setIfInBounds_toArray, List.set_cons_zero, List.set_cons_succ]
          refine anyB_take (i := 1) (oi := ⟨some 102, _, _, _, _, _⟩) (v := _) rfl (by kernel_rfl) (by kernel_rfl) (by kernel_rfl) (by kernel_rfl) (fun _ _ _ h => h) (Or.inl ⟨by rfl, fun w' hw' => (by clear hw'; go_simp; try with_reducible rfl)⟩) BP.out ?_
          try simp only [Act.put, List.setIfInBounds_toArray, List.set_cons_zero, List.set_cons_succ]
          refine anyB_take (i := 2) (oi := ⟨some 103, _, _, _, _, _⟩) (v := _) rfl (by kernel_rfl) (by kernel_rfl) (by kernel_rfl) (by kernel_rfl) (fun _ _ _ h => h) (Or.inl ⟨by rfl, fun w' hw' => (by have e4 := (hw'.cell (p := ⟨gb, 4, none⟩) gl).trans s4; have e5 := (hw'.cell (p := ⟨gb, 5, none⟩) gl).trans s5; have e6 := (hw'.cell (p := ⟨gb, 6, none⟩) gl).trans s6; go_simp; try with_reducible rfl)⟩) BP.out ?_
          try simp only [Act.put, List.setIfInBounds_toArray, List.set_cons_zero, List.set_cons_succ]
          refine anyB_take (i := 4) (oi := ⟨some 105, _, _, _, _, _⟩) (v := _) rfl (by kernel_rfl) (by kernel_rfl) (by kernel_rfl) (by kernel_rfl) (fun _ _ _ h => h) (Or.inl ⟨by rfl, fun w' hw' => (by clear hw'; go_simp; try with_reducible rfl)⟩) BP.out ?_
          try simp only [Act.put, List.setIfInBounds_toArray, List.set_cons_zero, List.set_cons_succ]
          refine anyB_take (i := 5) (oi := ⟨some 106, _, _, _, _, _⟩) (v := _) rfl (by kernel_rfl) (by kernel_rfl) (by kernel_rfl) (by kernel_rfl) (fun _ _ _ h => h) (Or.inl ⟨by rfl, fun w' hw' => (by clear hw'; go_simp; try with_reducible rfl)⟩) BP.out ?_
          try simp only [Act.put, List.setIfInBounds_toArray, List.set_cons_zero, List.set_cons_succ]
          refine anyB_take (i := 6) (oi := ⟨some 107, _, _, _, _, _⟩) (v := _) rfl (by kernel_rfl) (by kernel_rfl) (by kernel_rfl) (by kernel_rfl) (fun _ _ _ h => h) (Or.inl ⟨by rfl, fun w' hw' => (by have e4 := (hw'.cell (p := ⟨gb, 4, none⟩) gl).trans s4; have e5 := (hw'.cell (p := ⟨gb, 5, none⟩) gl).trans s5; have e6 := (hw'.cell (p := ⟨gb, 6, none⟩) gl).trans s6; go_simp; try with_reducible rfl)⟩) BP.out ?_
          try simp only [Act.put, List.setIfInBounds_toArray, List.set_cons_zero, List.set_cons_succ]
          refine anyB_take (i := 8) (oi := ⟨some 109, _, _, _, _, _⟩) (v := _) rfl (by kernel_rfl) (by kernel_rfl) (by kernel_rfl) (by kernel_rfl) (fun _ _ _ h => h) (Or.inl ⟨by rfl, fun w' hw' => (by clear hw'; go_simp; try with_reducible rfl)⟩) BP.out ?_
          try simp only [Act.put, List.setIfInBounds_toArray, List.set_cons_zero, List.set_cons_succ]
          refine anyB_take (i := 9) (oi := ⟨some 110, _, _, _, _, _⟩) (v := _) rfl (by kernel_rfl) (by kernel_rfl) (by kernel_rfl) (by kernel_rfl) (fun _ _ _ h => h) (Or.inl ⟨by rfl, fun w' hw' => (by clear hw'; go_simp; try with_reducible rfl)⟩) BP.out ?_
          try simp only [Act.put, List.setIfInBounds_toArray, List.set_cons_zero, List.set_cons_succ]
          refine anyB_take (i := 10) (oi := ⟨some 111, _, _, _, _, _⟩) (v := _) rfl (by kernel_rfl) (by kernel_rfl) (by kernel_rfl) (by kernel_rfl) (fun _ _ _ h => h) (Or.inl ⟨by rfl, fun w' hw' => (by have e4 := (hw'.cell (p := ⟨gb, 4, none⟩) gl).trans s4; have e5 := (hw'.cell (p := ⟨gb, 5, none⟩) gl).trans s5; have e6 := (hw'.cell (p := ⟨gb, 6, none⟩) gl).trans s6; go_simp; try with_reducible rfl)⟩) BP.out ?_
          try simp only [Act.put, List.setIfInBounds_toArray, List.set_cons_zero, List.set_cons_succ]
          refine anyB_inv2 [3, 7, 11, 12, 13, 14] [15, 16, 17] #[true, true, true, true, true, true, true, true, true, true, true, true, true, true, true, false, false, false] 3 (by kernel_rfl) (fun a0 l a W => ∃ xr1 xr2 xr3 xp1 xp2 xp3 : Value, a = ((((((a0.put (some 104) xr1).put (some 108) xr2).put (some 112) xr3).put (some 16) xp1).put (some 17) xp2).put (some 18) xp3) ∧ Below pW.heap.size pW W ∧ (CI l 3 xr1 (.agg (wC a5).toArray) ∧ CI l 7 xr2 (.agg (wC a6).toArray) ∧ CI l 11 xr3 (.agg (wC a7).toArray)) ∧ (AI l 12 pW.heap.size W xp1 ∧ AI l 13 pW.heap.size W xp2 ∧ AI l 14 pW.heap.size W xp3) ∧ (DI l 12 13 xp1 xp2 ∧ DI l 12 14 xp1 xp3 ∧ DI l 13 14 xp2 xp3)) 6 (by kernel_rfl) (fun l a W h => ?_) ?_ ?_ ?_
          · obtain ⟨xr1, xr2, xr3, xp1, xp2, xp3, _, hB, ⟨xc1, xc2, xc3⟩, ⟨xa1, xa2, xa3⟩, ⟨xd1, xd2, xd3⟩⟩ := h
            exact hB
          · intro i hi l a W hI hr
            clear hr
            obtain ⟨xr1, xr2, xr3, xp1, xp2, xp3, rfl, hB, ⟨xc1, xc2, xc3⟩, ⟨xa1, xa2, xa3⟩, ⟨xd1, xd2, xd3⟩⟩ := hI
            simp only [List.mem_cons, List.not_mem_nil, or_false] at hi
            rcases hi with rfl | rfl | rfl | rfl | rfl | rfl
            · refine wpOp_step (o := ⟨some 104, _, _, _, _, _⟩) rfl (fun K hK => ?_)
              have HK := Lib.hid hK
              clear hK
              rw [if_pos (by rfl)]
              simp only [Act.put, List.setIfInBounds_toArray, List.set_cons_zero, List.set_cons_succ]
              go_wp2_with (go_at_call 80; (with_reducible refine (K5.out _).mono ?_); rintro e V ⟨rfl, hb⟩; (repeat (with_reducible replace hb := bel_of_drew hb)))
              exact HK.out _ _ ⟨.agg (wC a5).toArray, xr2, xr3, xp1, xp2, xp3, by simp only [Act.put, List.setIfInBounds_toArray, List.set_cons_zero, List.set_cons_succ], bstep hB hb, ⟨CI.new _ _ _, xc2.other (by decide), xc3.other (by decide)⟩, ⟨xa1.other (by decide) hb, xa2.other (by decide) hb, xa3.other (by decide) hb⟩, ⟨xd1.other (by decide) (by decide), xd2.other (by decide) (by decide), xd3.other (by decide) (by decide)⟩⟩
            · refine wpOp_step (o := ⟨some 108, _, _, _, _, _⟩) rfl (fun K hK => ?_)
              have HK := Lib.hid hK
              clear hK
              rw [if_pos (by rfl)]
              simp only [Act.put, List.setIfInBounds_toArray, List.set_cons_zero, List.set_cons_succ]
              go_wp2_with (go_at_call 80; (with_reducible refine (K6.out _).mono ?_); rintro e V ⟨rfl, hb⟩; (repeat (with_reducible replace hb := bel_of_drew hb)))
              exact HK.out _ _ ⟨xr1, .agg (wC a6).toArray, xr3, xp1, xp2, xp3, by simp only [Act.put, List.setIfInBounds_toArray, List.set_cons_zero, List.set_cons_succ], bstep hB hb, ⟨xc1.other (by decide), CI.new _ _ _, xc3.other (by decide)⟩, ⟨xa1.other (by decide) hb, xa2.other (by decide) hb, xa3.other (by decide) hb⟩, ⟨xd1.other (by decide) (by decide), xd2.other (by decide) (by decide), xd3.other (by decide) (by decide)⟩⟩
            · refine wpOp_step (o := ⟨some 112, _, _, _, _, _⟩) rfl (fun K hK => ?_)
              have HK := Lib.hid hK
              clear hK
              rw [if_pos (by rfl)]
              simp only [Act.put, List.setIfInBounds_toArray, List.set_cons_zero, List.set_cons_succ]
              go_wp2_with (go_at_call 80; (with_reducible refine (K7.out _).mono ?_); rintro e V ⟨rfl, hb⟩; (repeat (with_reducible replace hb := bel_of_drew hb)))
              exact HK.out _ _ ⟨xr1, xr2, .agg (wC a7).toArray, xp1, xp2, xp3, by simp only [Act.put, List.setIfInBounds_toArray, List.set_cons_zero, List.set_cons_succ], bstep hB hb, ⟨xc1.other (by decide), xc2.other (by decide), CI.new _ _ _⟩, ⟨xa1.other (by decide) hb, xa2.other (by decide) hb, xa3.other (by decide) hb⟩, ⟨xd1.other (by decide) (by decide), xd2.other (by decide) (by decide), xd3.other (by decide) (by decide)⟩⟩
            · refine wpOp_step (o := ⟨some 16, _, _, _, _, _⟩) rfl (fun K hK => ?_)
              have HK := Lib.hid hK
              clear hK
              rw [if_pos (by rfl)]
              simp only [Act.put, List.setIfInBounds_toArray, List.set_cons_zero, List.set_cons_succ]
              go_simp
              exact HK.out _ _ ⟨xr1, xr2, xr3, .pointer (some ⟨W.heap.size, 0, none⟩), xp2, xp3, by simp only [Act.put, List.setIfInBounds_toArray, List.set_cons_zero, List.set_cons_succ], bel_al hB hB.size _, ⟨xc1.other (by decide), xc2.other (by decide), xc3.other (by decide)⟩, ⟨AI.new _ _ _ _ hB.size, xa2.other (by decide) ((Below.refl _ _).alloc (Nat.le_refl _) _), xa3.other (by decide) ((Below.refl _ _).alloc (Nat.le_refl _) _)⟩, ⟨DI.new1 xa2 (by decide), DI.new1 xa3 (by decide), xd3.other (by decide) (by decide)⟩⟩
            · refine wpOp_step (o := ⟨some 17, _, _, _, _, _⟩) rfl (fun K hK => ?_)
              have HK := Lib.hid hK
              clear hK
              rw [if_pos (by rfl)]
              simp only [Act.put, List.setIfInBounds_toArray, List.set_cons_zero, List.set_cons_succ]
              go_simp
              exact HK.out _ _ ⟨xr1, xr2, xr3, xp1, .pointer (some ⟨W.heap.size, 0, none⟩), xp3, by simp only [Act.put, List.setIfInBounds_toArray, List.set_cons_zero, List.set_cons_succ], bel_al hB hB.size _, ⟨xc1.other (by decide), xc2.other (by decide), xc3.other (by decide)⟩, ⟨xa1.other (by decide) ((Below.refl _ _).alloc (Nat.le_refl _) _), AI.new _ _ _ _ hB.size, xa3.other (by decide) ((Below.refl _ _).alloc (Nat.le_refl _) _)⟩, ⟨(DI.new1 xa1 (by decide)).symm, xd2.other (by decide) (by decide), DI.new1 xa3 (by decide)⟩⟩
            · refine wpOp_step (o := ⟨some 18, _, _, _, _, _⟩) rfl (fun K hK => ?_)
              have HK := Lib.hid hK
              clear hK
              rw [if_pos (by rfl)]
              simp only [Act.put, List.setIfInBounds_toArray, List.set_cons_zero, List.set_cons_succ]
              go_simp
              exact HK.out _ _ ⟨xr1, xr2, xr3, xp1, xp2, .pointer (some ⟨W.heap.size, 0, none⟩), by simp only [Act.put, List.setIfInBounds_toArray, List.set_cons_zero, List.set_cons_succ], bel_al hB hB.size _, ⟨xc1.other (by decide), xc2.other (by decide), xc3.other (by decide)⟩, ⟨xa1.other (by decide) ((Below.refl _ _).alloc (Nat.le_refl _) _), xa2.other (by decide) ((Below.refl _ _).alloc (Nat.le_refl _) _), AI.new _ _ _ _ hB.size⟩, ⟨xd1.other (by decide) (by decide), (DI.new1 xa1 (by decide)).symm, (DI.new1 xa2 (by decide)).symm⟩⟩
          · exact ⟨u104, u108, u112, u16, u17, u18, by simp only [Act.put, List.setIfInBounds_toArray, List.set_cons_zero, List.set_cons_succ], BP.out, ⟨(fun h => absurd h (by decide)), (fun h => absurd h (by decide)), (fun h => absurd h (by decide))⟩, ⟨(fun h => absurd h (by decide)), (fun h => absurd h (by decide)), (fun h => absurd h (by decide))⟩, ⟨(fun h => absurd h (by decide)), (fun h => absurd h (by decide)), (fun h => absurd h (by decide))⟩⟩
          intro n a W hI
          obtain ⟨xr1, xr2, xr3, xp1, xp2, xp3, rfl, hB, ⟨xc1, xc2, xc3⟩, ⟨xa1, xa2, xa3⟩, ⟨xd1, xd2, xd3⟩⟩ := hI
          have xe1 := xc1 rfl
          obtain ⟨q1, xh1, xg1, xo1⟩ := xa1 rfl
          have xe2 := xc2 rfl
          obtain ⟨q2, xh2, xg2, xo2⟩ := xa2 rfl
          have xe3 := xc3 rfl
          obtain ⟨q3, xh3, xg3, xo3⟩ := xa3 rfl
          have xn12 : q1 ≠ q2 := fun e => xd1 rfl rfl q1 xh1 (by rw [xh2, e])
          have xn13 : q1 ≠ q3 := fun e => xd2 rfl rfl q1 xh1 (by rw [xh3, e])
          have xn23 : q2 ≠ q3 := fun e => xd3 rfl rfl q2 xh2 (by rw [xh3, e])
          subst xe1 xe2 xe3 xh1 xh2 xh3
          clear xc1 xa1 xc2 xa2 xc3 xa3 xd1 xd2 xd3
          try simp only [Act.put, List.setIfInBounds_toArray, List.set_cons_zero, List.set_cons_succ]
          refine anyB_last (i := 15) (o := ⟨none, _, _, _, _, _⟩) (by kernel_rfl) rfl (by kernel_rfl) (fun K hK => ?_)
          rw [if_pos (by rfl)]
          refine wp_store_row 128 _ _ rfl q1 (bC (fL (fW a5))) rfl rfl 128 _ xo1 (by rw [size128, bC_size, fL_length]) (by rw [bC_size, bC_size, fL_length, fL_length]) (bC_one _) ?_
          refine hK.out _ _ ?_
          clear hK K
          try simp only [Act.put, List.setIfInBounds_toArray, List.set_cons_zero, List.set_cons_succ]
          refine anyB_last (i := 16) (o := ⟨none, _, _, _, _, _⟩) (by kernel_rfl) rfl (by kernel_rfl) (fun K hK => ?_)
          rw [if_pos (by rfl)]
          refine wp_store_row 128 _ _ rfl q2 (bC (fL (fW a6))) rfl rfl 128 _ (xo2.row2 (Ne.symm xn12) _) (by rw [size128, bC_size, fL_length]) (by rw [bC_size, bC_size, fL_length, fL_length]) (bC_one _) ?_
          refine hK.out _ _ ?_
          clear hK K
          try simp only [Act.put, List.setIfInBounds_toArray, List.set_cons_zero, List.set_cons_succ]
          refine anyB_last (i := 17) (o := ⟨none, _, _, _, _, _⟩) (by kernel_rfl) rfl (by kernel_rfl) (fun K hK => ?_)
          rw [if_pos (by rfl)]
          refine wp_store_row 128 _ _ rfl q3 (bC (fL (fW a7))) rfl rfl 128 _ ((xo3.row2 (Ne.symm xn13) _).row2 (Ne.symm xn23) _) (by rw [size128, bC_size, fL_length]) (by rw [bC_size, bC_size, fL_length, fL_length]) (bC_one _) ?_
          refine hK.out _ _ ?_
          clear hK K
          try simp only [Act.put, List.setIfInBounds_toArray, List.set_cons_zero, List.set_cons_succ]
          refine anyB_done (by kernel_rfl) ?_ _
          have qB : Below pW.heap.size pW (((W.setRow q1 (bC (fL (fW a5)))).setRow q2 (bC (fL (fW a6)))).setRow q3 (bC (fL (fW a7)))) := (below_setRow (below_setRow (below_setRow hB xg1 _) xg2 _) xg3 _)
          have qw1 : Bw (((W.setRow q1 (bC (fL (fW a5)))).setRow q2 (bC (fL (fW a6)))).setRow q3 (bC (fL (fW a7)))) q1 a5 := (((xo1.row (fL (fW a5))).row2 xn12 _).row2 xn13 _)
          have qw2 : Bw (((W.setRow q1 (bC (fL (fW a5)))).setRow q2 (bC (fL (fW a6)))).setRow q3 (bC (fL (fW a7)))) q2 a6 := (((xo2.row2 (Ne.symm xn12) _).row (fL (fW a6))).row2 xn23 _)
          have qw3 : Bw (((W.setRow q1 (bC (fL (fW a5)))).setRow q2 (bC (fL (fW a6)))).setRow q3 (bC (fL (fW a7)))) q3 a7 := (((xo3.row2 (Ne.symm xn13) _).row2 (Ne.symm xn23) _).row (fL (fW a7)))
          generalize (((W.setRow q1 (bC (fL (fW a5)))).setRow q2 (bC (fL (fW a6)))).setRow q3 (bC (fL (fW a7)))) = qW at qB qw1 qw2 qw3 ⊢
          have HqB := Lib.hid qB
          have Hqw1 := Lib.hid qw1
          have Hqw2 := Lib.hid qw2
          have Hqw3 := Lib.hid qw3
          clear hB xo1 xo2 xo3 xn12 xn13 xn23 qB qw1 qw2 qw3
          clear s4 s5 s6 gl
          have C := HCP.out.step HqB.out
          have s7 : qW.cell? ⟨gb, 7, none⟩ = some (.int .i64 (a8 : Int)) := C.c 7 (by decide)
          have gl := C.l
          have sk : qW.cell? ⟨gk, k, none⟩ = some (.int .i64 ((KL.getD k 0 : Nat) : Int)) := (C.m.bel.cell (p := ⟨gk, k, none⟩) hgk).trans (HHK.out k hlt)
          have glk : gk < qW.heap.size := Nat.lt_of_lt_of_le hgk C.m.bel.size
          have sv := C.m.cell k hlt
          rw [spK_64] at sv
          have glv := (C.m.o.lt gv rfl).2
          have glt := (Array.getElem?_eq_some_iff.1 C.m.t).1
          have st : qW.cell? ⟨w.heap.size, 1, none⟩ = some (.slice (some ⟨gk, 0, none⟩) 64 ck) := by rw [cell_of_row _ _ 1 _ 27 (0, 0) C.m.t, HTV.out]; rfl
          have ok := KL_all.get k
          have ov := (spreadW_all b).get k
          unfold isW at ok ov
          obtain ⟨kc, hkc⟩ : ∃ n, KL.getD k 0 = n := ⟨_, rfl⟩
          obtain ⟨vc, hvc⟩ : ∃ n, (spreadW b).getD k 0 = n := ⟨_, rfl⟩
          rw [hkc] at sk ok HST
          rw [hvc] at sv ov HST
          have t1 := kturn a5 6 6 rfl o5 (by decide) (by decide)
          have t2 := kturn a5 11 11 rfl o5 (by decide) (by decide)
          have t3 := kturn a5 25 25 rfl o5 (by decide) (by decide)
          have t4 := kthree (rotr a5 6) (rotr a5 11) (rotr a5 25)
          rw [show rotr a5 6 ^^^ rotr a5 11 ^^^ rotr a5 25 = bigE a5 from rfl] at t4
          have t5 := kval (bigE a5) (bigE_le o5)
          have t6 := kand a5 a6
          have t7 := knot a5 o5
          have t8 := kand (4294967295 - a5) a7
          have t9 := kxor (a5 &&& a6) ((4294967295 - a5) &&& a7)
          rw [show (a5 &&& a6) ^^^ ((4294967295 - a5) &&& a7) = chW a5 a6 a7 from rfl] at t9
          have t10 := kval (chW a5 a6 a7) (chW_le o5 o6 o7)
          have t11 := ksum a8 (bigE a5) (chW a5 a6 a7) kc vc o8 (bigE_le o5) (chW_le o5 o6 o7) ok ov
          have hone : (a8 + bigE a5 + chW a5 a6 a7 + kc + vc) % 4294967296 = oneV ⟨a1, a2, a3, a4, a5, a6, a7, a8⟩ kc vc := rfl
          obtain ⟨on, hon⟩ : ∃ n, (a8 + bigE a5 + chW a5 a6 a7 + kc + vc) % 4294967296 = n := ⟨_, rfl⟩
          have hon9 : on ≤ 4294967295 := by rw [← hon]; exact lt_M _
          rw [hon] at t11 hone
          obtain ⟨be, hbe⟩ : ∃ n, bigE a5 = n := ⟨_, rfl⟩
          obtain ⟨cw, hcw⟩ : ∃ n, chW a5 a6 a7 = n := ⟨_, rfl⟩
          rw [hbe] at t4 t5 t11
          rw [hcw] at t9 t10 t11
          obtain ⟨e1, he1⟩ : ∃ n, rotr a5 6 = n := ⟨_, rfl⟩
          obtain ⟨e2, he2⟩ : ∃ n, rotr a5 11 = n := ⟨_, rfl⟩
          obtain ⟨e3, he3⟩ : ∃ n, rotr a5 25 = n := ⟨_, rfl⟩
          obtain ⟨f1, hf1⟩ : ∃ n, a5 &&& a6 = n := ⟨_, rfl⟩
          obtain ⟨f2, hf2⟩ : ∃ n, 4294967295 - a5 = n := ⟨_, rfl⟩
          rw [hf2] at t7 t8 t9
          obtain ⟨f3, hf3⟩ : ∃ n, f2 &&& a7 = n := ⟨_, rfl⟩
          rw [he1] at t1 t4
          rw [he2] at t2 t4
          rw [he3] at t3 t4
          rw [hf1] at t6 t9
          rw [hf3] at t8 t9
          have T1 := Lib.hid t1
          have T2 := Lib.hid t2
          have T3 := Lib.hid t3
          have T4 := Lib.hid t4
          have T5 := Lib.hid t5
          have T6 := Lib.hid t6
          have T7 := Lib.hid t7
          have T8 := Lib.hid t8
          have T9 := Lib.hid t9
          have T10 := Lib.hid t10
          have T11 := Lib.hid t11
          have HONE := Lib.hid hone
          have HCQ := Lib.hid C
          have hBQ : Below qW.heap.size qW qW.drew := (Below.refl _ qW).drew
          have BQ := Lib.hid hBQ
          clear hone hon hbe hcw he1 he2 he3 hf1 hf2 hf3 t1 t2 t3 t4 t5 t6 t7 t8 t9 t10 t11 C hBQ hkc hvc ok ov
          go_wp2_with fail
          refine region_anyB (fun w' : World => Below qW.heap.size qW w') [] (by kernel_rfl) ?_
          refine anyB_take (i := 0) (oi := ⟨some 113, _, _, _, _, _⟩) (v := _) rfl (by kernel_rfl) (by kernel_rfl) (by kernel_rfl) (by kernel_rfl) (fun _ _ _ h => h) (Or.inl ⟨by rfl, fun w' hw' => (by clear hw'; go_simp; try with_reducible rfl)⟩) BQ.out ?_
          try simp only [Act.put, List.setIfInBounds_toArray, List.set_cons_zero, List.set_cons_succ]
          refine anyB_take (i := 1) (oi := ⟨some 114, _, _, _, _, _⟩) (v := _) rfl (by kernel_rfl) (by kernel_rfl) (by kernel_rfl) (by kernel_rfl) (fun _ _ _ h => h) (Or.inl ⟨by rfl, fun w' hw' => (by clear hw'; go_simp; try with_reducible rfl)⟩) BQ.out ?_
          try simp only [Act.put, List.setIfInBounds_toArray, List.set_cons_zero, List.set_cons_succ]
          refine anyB_take (i := 2) (oi := ⟨some 115, _, _, _, _, _⟩) (v := _) rfl (by kernel_rfl) (by kernel_rfl) (by kernel_rfl) (by kernel_rfl) (fun _ _ _ h => h) (Or.inl ⟨by rfl, fun w' hw' => (by have e7 := (hw'.cell (p := ⟨gb, 7, none⟩) gl).trans s7; have ek := (hw'.cell (p := ⟨gk, k, none⟩) glk).trans sk; have ev := (hw'.cell (p := ⟨gv, k, none⟩) glv).trans sv; have et := (hw'.cell (p := ⟨w.heap.size, 1, none⟩) glt).trans st; go_simp; try with_reducible rfl)⟩) BQ.out ?_
          try simp only [Act.put, List.setIfInBounds_toArray, List.set_cons_zero, List.set_cons_succ]
          refine anyB_take (i := 3) (oi := ⟨some 116, _, _, _, _, _⟩) (v := _) rfl (by kernel_rfl) (by kernel_rfl) (by kernel_rfl) (by kernel_rfl) (fun _ _ _ h => h) (yieldsIf_load_mid (by rfl) _ _ rfl _ _ rfl (wC a5) _ (fun w' hw' => rangeAt_below Hqw1.out.range hw' (Bo.lt Hqw1.out)) Tryd.underlying128 rfl (wsize a5)) BQ.out ?_
          try simp only [Act.put, List.setIfInBounds_toArray, List.set_cons_zero, List.set_cons_succ]
          refine anyB_take (i := 5) (oi := ⟨some 118, _, _, _, _, _⟩) (v := _) rfl (by kernel_rfl) (by kernel_rfl) (by kernel_rfl) (by kernel_rfl) (fun _ _ _ h => h) (yieldsIf_load_mid (by rfl) _ _ rfl _ _ rfl (wC a5) _ (fun w' hw' => rangeAt_below Hqw1.out.range hw' (Bo.lt Hqw1.out)) Tryd.underlying128 rfl (wsize a5)) BQ.out ?_
          try simp only [Act.put, List.setIfInBounds_toArray, List.set_cons_zero, List.set_cons_succ]
          refine anyB_take (i := 7) (oi := ⟨some 120, _, _, _, _, _⟩) (v := _) rfl (by kernel_rfl) (by kernel_rfl) (by kernel_rfl) (by kernel_rfl) (fun _ _ _ h => h) (yieldsIf_load_mid (by rfl) _ _ rfl _ _ rfl (wC a5) _ (fun w' hw' => rangeAt_below Hqw1.out.range hw' (Bo.lt Hqw1.out)) Tryd.underlying128 rfl (wsize a5)) BQ.out ?_
          try simp only [Act.put, List.setIfInBounds_toArray, List.set_cons_zero, List.set_cons_succ]
          refine anyB_take (i := 11) (oi := ⟨some 124, _, _, _, _, _⟩) (v := _) rfl (by kernel_rfl) (by kernel_rfl) (by kernel_rfl) (by kernel_rfl) (fun _ _ _ h => h) (yieldsIf_load_mid (by rfl) _ _ rfl _ _ rfl (wC a5) _ (fun w' hw' => rangeAt_below Hqw1.out.range hw' (Bo.lt Hqw1.out)) Tryd.underlying128 rfl (wsize a5)) BQ.out ?_
          try simp only [Act.put, List.setIfInBounds_toArray, List.set_cons_zero, List.set_cons_succ]
          refine anyB_take (i := 12) (oi := ⟨some 125, _, _, _, _, _⟩) (v := _) rfl (by kernel_rfl) (by kernel_rfl) (by kernel_rfl) (by kernel_rfl) (fun _ _ _ h => h) (yieldsIf_load_mid (by rfl) _ _ rfl _ _ rfl (wC a6) _ (fun w' hw' => rangeAt_below Hqw2.out.range hw' (Bo.lt Hqw2.out)) Tryd.underlying128 rfl (wsize a6)) BQ.out ?_
          try simp only [Act.put, List.setIfInBounds_toArray, List.set_cons_zero, List.set_cons_succ]
          refine anyB_take (i := 14) (oi := ⟨some 127, _, _, _, _, _⟩) (v := _) rfl (by kernel_rfl) (by kernel_rfl) (by kernel_rfl) (by kernel_rfl) (fun _ _ _ h => h) (yieldsIf_load_mid (by rfl) _ _ rfl _ _ rfl (wC a5) _ (fun w' hw' => rangeAt_below Hqw1.out.range hw' (Bo.lt Hqw1.out)) Tryd.underlying128 rfl (wsize a5)) BQ.out ?_
          try simp only [Act.put, List.setIfInBounds_toArray, List.set_cons_zero, List.set_cons_succ]
          refine anyB_take (i := 16) (oi := ⟨some 129, _, _, _, _, _⟩) (v := _) rfl (by kernel_rfl) (by kernel_rfl) (by kernel_rfl) (by kernel_rfl) (fun _ _ _ h => h) (yieldsIf_load_mid (by rfl) _ _ rfl _ _ rfl (wC a7) _ (fun w' hw' => rangeAt_below Hqw3.out.range hw' (Bo.lt Hqw3.out)) Tryd.underlying128 rfl (wsize a7)) BQ.out ?_
          try simp only [Act.put, List.setIfInBounds_toArray, List.set_cons_zero, List.set_cons_succ]
          refine anyB_take (i := 20) (oi := ⟨some 133, _, _, _, _, _⟩) (v := _) rfl (by kernel_rfl) (by kernel_rfl) (by kernel_rfl) (by kernel_rfl) (fun _ _ _ h => h) (Or.inl ⟨by rfl, fun w' hw' => (by clear hw'; go_simp; try with_reducible rfl)⟩) BQ.out ?_
          try simp only [Act.put, List.setIfInBounds_toArray, List.set_cons_zero, List.set_cons_succ]
          refine anyB_take (i := 21) (oi := ⟨some 134, _, _, _, _, _⟩) (v := _) rfl (by kernel_rfl) (by kernel_rfl) (by kernel_rfl) (by kernel_rfl) (fun _ _ _ h => h) (Or.inl ⟨by rfl, fun w' hw' => (by have e7 := (hw'.cell (p := ⟨gb, 7, none⟩) gl).trans s7; have ek := (hw'.cell (p := ⟨gk, k, none⟩) glk).trans sk; have ev := (hw'.cell (p := ⟨gv, k, none⟩) glv).trans sv; have et := (hw'.cell (p := ⟨w.heap.size, 1, none⟩) glt).trans st; go_simp; try with_reducible rfl)⟩) BQ.out ?_
          try simp only [Act.put, List.setIfInBounds_toArray, List.set_cons_zero, List.set_cons_succ]
          refine anyB_take (i := 22) (oi := ⟨some 135, _, _, _, _, _⟩) (v := _) rfl (by kernel_rfl) (by kernel_rfl) (by kernel_rfl) (by kernel_rfl) (fun _ _ _ h => h) (Or.inl ⟨by rfl, fun w' hw' => (by clear hw'; go_simp; try with_reducible rfl)⟩) BQ.out ?_
          try simp only [Act.put, List.setIfInBounds_toArray, List.set_cons_zero, List.set_cons_succ]
          refine anyB_take (i := 23) (oi := ⟨some 136, _, _, _, _, _⟩) (v := _) rfl (by kernel_rfl) (by kernel_rfl) (by kernel_rfl) (by kernel_rfl) (fun _ _ _ h => h) (Or.inl ⟨by rfl, fun w' hw' => (by clear hw'; go_simp; try with_reducible rfl)⟩) BQ.out ?_
          try simp only [Act.put, List.setIfInBounds_toArray, List.set_cons_zero, List.set_cons_succ]
          refine anyB_take (i := 24) (oi := ⟨some 137, _, _, _, _, _⟩) (v := _) rfl (by kernel_rfl) (by kernel_rfl) (by kernel_rfl) (by kernel_rfl) (fun _ _ _ h => h) (Or.inl ⟨by rfl, fun w' hw' => (by have e7 := (hw'.cell (p := ⟨gb, 7, none⟩) gl).trans s7; have ek := (hw'.cell (p := ⟨gk, k, none⟩) glk).trans sk; have ev := (hw'.cell (p := ⟨gv, k, none⟩) glv).trans sv; have et := (hw'.cell (p := ⟨w.heap.size, 1, none⟩) glt).trans st; go_simp; try with_reducible rfl)⟩) BQ.out ?_
          try simp only [Act.put, List.setIfInBounds_toArray, List.set_cons_zero, List.set_cons_succ]
          refine anyB_take (i := 25) (oi := ⟨some 138, _, _, _, _, _⟩) (v := _) rfl (by kernel_rfl) (by kernel_rfl) (by kernel_rfl) (by kernel_rfl) (fun _ _ _ h => h) (Or.inl ⟨by rfl, fun w' hw' => (by clear hw'; go_simp; try with_reducible rfl)⟩) BQ.out ?_
          try simp only [Act.put, List.setIfInBounds_toArray, List.set_cons_zero, List.set_cons_succ]
          refine anyB_take (i := 26) (oi := ⟨some 139, _, _, _, _, _⟩) (v := _) rfl (by kernel_rfl) (by kernel_rfl) (by kernel_rfl) (by kernel_rfl) (fun _ _ _ h => h) (Or.inl ⟨by rfl, fun w' hw' => (by clear hw'; go_simp; try with_reducible rfl)⟩) BQ.out ?_
          try simp only [Act.put, List.setIfInBounds_toArray, List.set_cons_zero, List.set_cons_succ]
          refine anyB_take (i := 27) (oi := ⟨some 140, _, _, _, _, _⟩) (v := _) rfl (by kernel_rfl) (by kernel_rfl) (by kernel_rfl) (by kernel_rfl) (fun _ _ _ h => h) (Or.inl ⟨by rfl, fun w' hw' => (by clear hw'; go_simp; try with_reducible rfl)⟩) BQ.out ?_
          try simp only [Act.put, List.setIfInBounds_toArray, List.set_cons_zero, List.set_cons_succ]
          refine anyB_take (i := 28) (oi := ⟨some 141, _, _, _, _, _⟩) (v := _) rfl (by kernel_rfl) (by kernel_rfl) (by kernel_rfl) (by kernel_rfl) (fun _ _ _ h => h) (Or.inl ⟨by rfl, fun w' hw' => (by have e7 := (hw'.cell (p := ⟨gb, 7, none⟩) gl).trans s7; have ek := (hw'.cell (p := ⟨gk, k, none⟩) glk).trans sk; have ev := (hw'.cell (p := ⟨gv, k, none⟩) glv).trans sv; have et := (hw'.cell (p := ⟨w.heap.size, 1, none⟩) glt).trans st; go_simp; try with_reducible rfl)⟩) BQ.out ?_
          try simp only [Act.put, List.setIfInBounds_toArray, List.set_cons_zero, List.set_cons_succ]
          refine anyB_keep (i := 4) (o := ⟨some 117, _, _, _, _, _⟩) (by kernel_rfl) rfl (fun K hK => ?_)
          rw [if_pos (by rfl)]
          go_wp2_with (go_at_call 84; (with_reducible refine (T1.out _).mono ?_); rintro e V ⟨rfl, hb⟩; have D1 := Lib.hid (bstep BQ.out hb); clear hb)
          refine hK.out _ _ D1.out ?_
          clear hK K
          try simp only [Act.put, List.setIfInBounds_toArray, List.set_cons_zero, List.set_cons_succ]
          refine anyB_keep (i := 6) (o := ⟨some 119, _, _, _, _, _⟩) (by kernel_rfl) rfl (fun K hK => ?_)
          rw [if_pos (by rfl)]
          go_wp2_with (go_at_call 84; (with_reducible refine (T2.out _).mono ?_); rintro e V ⟨rfl, hb⟩; have D2 := Lib.hid (bstep D1.out hb); clear hb)
          refine hK.out _ _ D2.out ?_
          clear hK K
          try simp only [Act.put, List.setIfInBounds_toArray, List.set_cons_zero, List.set_cons_succ]
          refine anyB_keep (i := 8) (o := ⟨some 121, _, _, _, _, _⟩) (by kernel_rfl) rfl (fun K hK => ?_)
          rw [if_pos (by rfl)]
          go_wp2_with (go_at_call 84; (with_reducible refine (T3.out _).mono ?_); rintro e V ⟨rfl, hb⟩; have D3 := Lib.hid (bstep D2.out hb); clear hb)
          refine hK.out _ _ D3.out ?_
          clear hK K
          try simp only [Act.put, List.setIfInBounds_toArray, List.set_cons_zero, List.set_cons_succ]
          refine anyB_keep (i := 9) (o := ⟨some 122, _, _, _, _, _⟩) (by kernel_rfl) rfl (fun K hK => ?_)
          rw [if_pos (by rfl)]
          go_wp2_with (go_at_call 83; (with_reducible refine (T4.out _).mono ?_); rintro e V ⟨rfl, hb⟩; have D4 := Lib.hid (bstep D3.out hb); clear hb)
          refine hK.out _ _ D4.out ?_
          clear hK K
          try simp only [Act.put, List.setIfInBounds_toArray, List.set_cons_zero, List.set_cons_succ]
          refine anyB_keep (i := 10) (o := ⟨some 123, _, _, _, _, _⟩) (by kernel_rfl) rfl (fun K hK => ?_)
          rw [if_pos (by rfl)]
          go_wp2_with (go_at_call 82; (with_reducible refine (T5.out _).mono ?_); rintro e V ⟨rfl, hb⟩; have D5 := Lib.hid (bstep D4.out hb); clear hb)
          refine hK.out _ _ D5.out ?_
          clear hK K
          try simp only [Act.put, List.setIfInBounds_toArray, List.set_cons_zero, List.set_cons_succ]
          refine anyB_keep (i := 13) (o := ⟨some 126, _, _, _, _, _⟩) (by kernel_rfl) rfl (fun K hK => ?_)
          rw [if_pos (by rfl)]
          go_wp2_with (go_at_call 87; (with_reducible refine (T6.out _).mono ?_); rintro e V ⟨rfl, hb⟩; have D6 := Lib.hid (bstep D5.out hb); clear hb)
          refine hK.out _ _ D6.out ?_
          clear hK K
          try simp only [Act.put, List.setIfInBounds_toArray, List.set_cons_zero, List.set_cons_succ]
          refine anyB_keep (i := 15) (o := ⟨some 128, _, _, _, _, _⟩) (by kernel_rfl) rfl (fun K hK => ?_)
          rw [if_pos (by rfl)]
          go_wp2_with (go_at_call 88; (with_reducible refine (T7.out _).mono ?_); rintro e V ⟨rfl, hb⟩; have D7 := Lib.hid (bstep D6.out hb); clear hb)
          refine hK.out _ _ D7.out ?_
          clear hK K
          try simp only [Act.put, List.setIfInBounds_toArray, List.set_cons_zero, List.set_cons_succ]
          refine anyB_keep (i := 17) (o := ⟨some 130, _, _, _, _, _⟩) (by kernel_rfl) rfl (fun K hK => ?_)
          rw [if_pos (by rfl)]
          go_wp2_with (go_at_call 87; (with_reducible refine (T8.out _).mono ?_); rintro e V ⟨rfl, hb⟩; have D8 := Lib.hid (bstep D7.out hb); clear hb)
          refine hK.out _ _ D8.out ?_
          clear hK K
          try simp only [Act.put, List.setIfInBounds_toArray, List.set_cons_zero, List.set_cons_succ]
          refine anyB_keep (i := 18) (o := ⟨some 131, _, _, _, _, _⟩) (by kernel_rfl) rfl (fun K hK => ?_)
          rw [if_pos (by rfl)]
          go_wp2_with (go_at_call 86; (with_reducible refine (T9.out _).mono ?_); rintro e V ⟨rfl, hb⟩; have D9 := Lib.hid (bstep D8.out hb); clear hb)
          refine hK.out _ _ D9.out ?_
          clear hK K
          try simp only [Act.put, List.setIfInBounds_toArray, List.set_cons_zero, List.set_cons_succ]
          refine anyB_keep (i := 19) (o := ⟨some 132, _, _, _, _, _⟩) (by kernel_rfl) rfl (fun K hK => ?_)
          rw [if_pos (by rfl)]
          go_wp2_with (go_at_call 82; (with_reducible refine (T10.out _).mono ?_); rintro e V ⟨rfl, hb⟩; have D10 := Lib.hid (bstep D9.out hb); clear hb)
          refine hK.out _ _ D10.out ?_
          clear hK K
          try simp only [Act.put, List.setIfInBounds_toArray, List.set_cons_zero, List.set_cons_succ]
          refine anyB_keep (i := 29) (o := ⟨some 142, _, _, _, _, _⟩) (by kernel_rfl) rfl (fun K hK => ?_)
          rw [if_pos (by rfl)]
          go_wp2_with (go_at_call 81; (with_reducible refine (T11.out _).mono ?_); rintro e V ⟨rfl, hb⟩; have D11 := Lib.hid (bstep D10.out hb); clear hb)
          refine hK.out _ _ D11.out ?_
          clear hK K
          try simp only [Act.put, List.setIfInBounds_toArray, List.set_cons_zero, List.set_cons_succ]
          refine anyB_take (i := 30) (oi := ⟨some 19, _, _, _, _, _⟩) (v := _) rfl (by kernel_rfl) (by kernel_rfl) (by kernel_rfl) (by kernel_rfl) (fun _ _ _ h => h) (Or.inl ⟨by rfl, fun w' hw' => (by clear hw'; go_simp; try with_reducible rfl)⟩) D11.out ?_
          try simp only [Act.put, List.setIfInBounds_toArray, List.set_cons_zero, List.set_cons_succ]
          refine anyB_done (by kernel_rfl) ?_ _
          have C := HCQ.out.step D11.out
          have rw1 := ((Hpw1.out.below HqB.out).below D11.out)
          have rw2 := ((Hpw2.out.below HqB.out).below D11.out)
          have rw3 := ((Hpw3.out.below HqB.out).below D11.out)
          obtain ⟨W7, hW7⟩ : ∃ W7, V = W7 := ⟨_, rfl⟩
          subst hW7
          clear s7 gl sk glk sv glv glt st
          have t1 := kturn a1 2 2 rfl o1 (by decide) (by decide)
          have t2 := kturn a1 13 13 rfl o1 (by decide) (by decide)
          have t3 := kturn a1 22 22 rfl o1 (by decide) (by decide)
          have t4 := kthree (rotr a1 2) (rotr a1 13) (rotr a1 22)
          rw [show rotr a1 2 ^^^ rotr a1 13 ^^^ rotr a1 22 = bigA a1 from rfl] at t4
          have t5 := kval (bigA a1) (bigA_le o1)
          have t6 := kand a1 a2
          have t7 := kand a1 a3
          have t8 := kand a2 a3
          have t9 := kthree (a1 &&& a2) (a1 &&& a3) (a2 &&& a3)
          rw [show (a1 &&& a2) ^^^ (a1 &&& a3) ^^^ (a2 &&& a3) = maj a1 a2 a3 from rfl] at t9
          have t10 := kval (maj a1 a2 a3) (maj_le o1 o2 o3)
          have t11 : ∀ w', Calls Tryd.prog 81 #[.int .i64 ((bigA a1 : Nat) : Int), .int .i64 ((maj a1 a2 a3 : Nat) : Int), .int .i64 0, .int .i64 0, .int .i64 0] w' (Ans w' (.int .i64 (((bigA a1 + maj a1 a2 a3 + 0 + 0 + 0) % 4294967296 : Nat) : Int))) := ksum (bigA a1) (maj a1 a2 a3) 0 0 0 (bigA_le o1) (maj_le o1 o2 o3) (by decide) (by decide) (by decide)
          have htwo : (bigA a1 + maj a1 a2 a3 + 0 + 0 + 0) % 4294967296 = twoV ⟨a1, a2, a3, a4, a5, a6, a7, a8⟩ := rfl
          obtain ⟨tw, htw⟩ : ∃ n, (bigA a1 + maj a1 a2 a3 + 0 + 0 + 0) % 4294967296 = n := ⟨_, rfl⟩
          have htw9 : tw ≤ 4294967295 := by rw [← htw]; exact lt_M _
          rw [htw] at t11 htwo
          obtain ⟨ba, hba⟩ : ∃ n, bigA a1 = n := ⟨_, rfl⟩
          obtain ⟨mj, hmj⟩ : ∃ n, maj a1 a2 a3 = n := ⟨_, rfl⟩
          rw [hba] at t4 t5 t11
          rw [hmj] at t9 t10 t11
          obtain ⟨e1, he1⟩ : ∃ n, rotr a1 2 = n := ⟨_, rfl⟩
          obtain ⟨e2, he2⟩ : ∃ n, rotr a1 13 = n := ⟨_, rfl⟩
          obtain ⟨e3, he3⟩ : ∃ n, rotr a1 22 = n := ⟨_, rfl⟩
          obtain ⟨f1, hf1⟩ : ∃ n, a1 &&& a2 = n := ⟨_, rfl⟩
          obtain ⟨f2, hf2⟩ : ∃ n, a1 &&& a3 = n := ⟨_, rfl⟩
          obtain ⟨f3, hf3⟩ : ∃ n, a2 &&& a3 = n := ⟨_, rfl⟩
          rw [he1] at t1 t4
          rw [he2] at t2 t4
          rw [he3] at t3 t4
          rw [hf1] at t6 t9
          rw [hf2] at t7 t9
          rw [hf3] at t8 t9
          have U1 := Lib.hid t1
          have U2 := Lib.hid t2
          have U3 := Lib.hid t3
          have U4 := Lib.hid t4
          have U5 := Lib.hid t5
          have U6 := Lib.hid t6
          have U7 := Lib.hid t7
          have U8 := Lib.hid t8
          have U9 := Lib.hid t9
          have U10 := Lib.hid t10
          have U11 := Lib.hid t11
          have HTWO := Lib.hid htwo
          have RW1 := Lib.hid rw1
          have RW2 := Lib.hid rw2
          have RW3 := Lib.hid rw3
          have HCR := Lib.hid C
          have hBR : Below V.heap.size V V.drew := (Below.refl _ V).drew
          have BR := Lib.hid hBR
          clear htwo htw hba hmj he1 he2 he3 hf1 hf2 hf3 t1 t2 t3 t4 t5 t6 t7 t8 t9 t10 t11 C hBR rw1 rw2 rw3
          clear T1 T2 T3 T4 T5 T6 T7 T8 T9 T10 T11
          obtain ⟨Y, hY⟩ : ∃ Y, V = Y := ⟨_, rfl⟩
          rw [hY] at RW1 RW2 RW3 HCR BR ⊢
          clear hY
          go_wp2_with fail
          refine region_anyB (fun w' : World => Below Y.heap.size Y w') [] (by kernel_rfl) ?_
          refine anyB_take (i := 0) (oi := ⟨some 143, _, _, _, _, _⟩) (v := _) rfl (by kernel_rfl) (by kernel_rfl) (by kernel_rfl) (by kernel_rfl) (fun _ _ _ h => h) (yieldsIf_load_mid (by rfl) _ _ rfl _ _ rfl (wC a1) _ (fun w' hw' => rangeAt_below RW1.out.range hw' (Bo.lt RW1.out)) Tryd.underlying128 rfl (wsize a1)) BR.out ?_
          try simp only [Act.put, List.setIfInBounds_toArray, List.set_cons_zero, List.set_cons_succ]
          refine anyB_take (i := 2) (oi := ⟨some 145, _, _, _, _, _⟩) (v := _) rfl (by kernel_rfl) (by kernel_rfl) (by kernel_rfl) (by kernel_rfl) (fun _ _ _ h => h) (yieldsIf_load_mid (by rfl) _ _ rfl _ _ rfl (wC a1) _ (fun w' hw' => rangeAt_below RW1.out.range hw' (Bo.lt RW1.out)) Tryd.underlying128 rfl (wsize a1)) BR.out ?_
          try simp only [Act.put, List.setIfInBounds_toArray, List.set_cons_zero, List.set_cons_succ]
          refine anyB_take (i := 4) (oi := ⟨some 147, _, _, _, _, _⟩) (v := _) rfl (by kernel_rfl) (by kernel_rfl) (by kernel_rfl) (by kernel_rfl) (fun _ _ _ h => h) (yieldsIf_load_mid (by rfl) _ _ rfl _ _ rfl (wC a1) _ (fun w' hw' => rangeAt_below RW1.out.range hw' (Bo.lt RW1.out)) Tryd.underlying128 rfl (wsize a1)) BR.out ?_
          try simp only [Act.put, List.setIfInBounds_toArray, List.set_cons_zero, List.set_cons_succ]
          refine anyB_take (i := 8) (oi := ⟨some 151, _, _, _, _, _⟩) (v := _) rfl (by kernel_rfl) (by kernel_rfl) (by kernel_rfl) (by kernel_rfl) (fun _ _ _ h => h) (yieldsIf_load_mid (by rfl) _ _ rfl _ _ rfl (wC a1) _ (fun w' hw' => rangeAt_below RW1.out.range hw' (Bo.lt RW1.out)) Tryd.underlying128 rfl (wsize a1)) BR.out ?_
          try simp only [Act.put, List.setIfInBounds_toArray, List.set_cons_zero, List.set_cons_succ]
          refine anyB_take (i := 9) (oi := ⟨some 152, _, _, _, _, _⟩) (v := _) rfl (by kernel_rfl) (by kernel_rfl) (by kernel_rfl) (by kernel_rfl) (fun _ _ _ h => h) (yieldsIf_load_mid (by rfl) _ _ rfl _ _ rfl (wC a2) _ (fun w' hw' => rangeAt_below RW2.out.range hw' (Bo.lt RW2.out)) Tryd.underlying128 rfl (wsize a2)) BR.out ?_
          try simp only [Act.put, List.setIfInBounds_toArray, List.set_cons_zero, List.set_cons_succ]
          refine anyB_take (i := 11) (oi := ⟨some 154, _, _, _, _, _⟩) (v := _) rfl (by kernel_rfl) (by kernel_rfl) (by kernel_rfl) (by kernel_rfl) (fun _ _ _ h => h) (yieldsIf_load_mid (by rfl) _ _ rfl _ _ rfl (wC a1) _ (fun w' hw' => rangeAt_below RW1.out.range hw' (Bo.lt RW1.out)) Tryd.underlying128 rfl (wsize a1)) BR.out ?_
          try simp only [Act.put, List.setIfInBounds_toArray, List.set_cons_zero, List.set_cons_succ]
          refine anyB_take (i := 12) (oi := ⟨some 155, _, _, _, _, _⟩) (v := _) rfl (by kernel_rfl) (by kernel_rfl) (by kernel_rfl) (by kernel_rfl) (fun _ _ _ h => h) (yieldsIf_load_mid (by rfl) _ _ rfl _ _ rfl (wC a3) _ (fun w' hw' => rangeAt_below RW3.out.range hw' (Bo.lt RW3.out)) Tryd.underlying128 rfl (wsize a3)) BR.out ?_
          try simp only [Act.put, List.setIfInBounds_toArray, List.set_cons_zero, List.set_cons_succ]
          refine anyB_take (i := 14) (oi := ⟨some 157, _, _, _, _, _⟩) (v := _) rfl (by kernel_rfl) (by kernel_rfl) (by kernel_rfl) (by kernel_rfl) (fun _ _ _ h => h) (yieldsIf_load_mid (by rfl) _ _ rfl _ _ rfl (wC a2) _ (fun w' hw' => rangeAt_below RW2.out.range hw' (Bo.lt RW2.out)) Tryd.underlying128 rfl (wsize a2)) BR.out ?_
          try simp only [Act.put, List.setIfInBounds_toArray, List.set_cons_zero, List.set_cons_succ]
          refine anyB_take (i := 15) (oi := ⟨some 158, _, _, _, _, _⟩) (v := _) rfl (by kernel_rfl) (by kernel_rfl) (by kernel_rfl) (by kernel_rfl) (fun _ _ _ h => h) (yieldsIf_load_mid (by rfl) _ _ rfl _ _ rfl (wC a3) _ (fun w' hw' => rangeAt_below RW3.out.range hw' (Bo.lt RW3.out)) Tryd.underlying128 rfl (wsize a3)) BR.out ?_
          try simp only [Act.put, List.setIfInBounds_toArray, List.set_cons_zero, List.set_cons_succ]
          refine anyB_keep (i := 1) (o := ⟨some 144, _, _, _, _, _⟩) (by kernel_rfl) rfl (fun K hK => ?_)
          rw [if_pos (by rfl)]
          go_wp2_with (go_at_call 84; (with_reducible refine (U1.out _).mono ?_); rintro e V ⟨rfl, hb⟩; have E1 := Lib.hid (bstep BR.out hb); clear hb)
          refine hK.out _ _ E1.out ?_
          clear hK K
          try simp only [Act.put, List.setIfInBounds_toArray, List.set_cons_zero, List.set_cons_succ]
          refine anyB_keep (i := 3) (o := ⟨some 146, _, _, _, _, _⟩) (by kernel_rfl) rfl (fun K hK => ?_)
          rw [if_pos (by rfl)]
          go_wp2_with (go_at_call 84; (with_reducible refine (U2.out _).mono ?_); rintro e V ⟨rfl, hb⟩; have E2 := Lib.hid (bstep E1.out hb); clear hb)
          refine hK.out _ _ E2.out ?_
          clear hK K
          try simp only [Act.put, List.setIfInBounds_toArray, List.set_cons_zero, List.set_cons_succ]
          refine anyB_keep (i := 5) (o := ⟨some 148, _, _, _, _, _⟩) (by kernel_rfl) rfl (fun K hK => ?_)
          rw [if_pos (by rfl)]
          go_wp2_with (go_at_call 84; (with_reducible refine (U3.out _).mono ?_); rintro e V ⟨rfl, hb⟩; have E3 := Lib.hid (bstep E2.out hb); clear hb)
          refine hK.out _ _ E3.out ?_
          clear hK K
          try simp only [Act.put, List.setIfInBounds_toArray, List.set_cons_zero, List.set_cons_succ]
          refine anyB_keep (i := 6) (o := ⟨some 149, _, _, _, _, _⟩) (by kernel_rfl) rfl (fun K hK => ?_)
          rw [if_pos (by rfl)]
          go_wp2_with (go_at_call 83; (with_reducible refine (U4.out _).mono ?_); rintro e V ⟨rfl, hb⟩; have E4 := Lib.hid (bstep E3.out hb); clear hb)
          refine hK.out _ _ E4.out ?_
          clear hK K
          try simp only [Act.put, List.setIfInBounds_toArray, List.set_cons_zero, List.set_cons_succ]
          refine anyB_keep (i := 7) (o := ⟨some 150, _, _, _, _, _⟩) (by kernel_rfl) rfl (fun K hK => ?_)
          rw [if_pos (by rfl)]
          go_wp2_with (go_at_call 82; (with_reducible refine (U5.out _).mono ?_); rintro e V ⟨rfl, hb⟩; have E5 := Lib.hid (bstep E4.out hb); clear hb)
          refine hK.out _ _ E5.out ?_
          clear hK K
          try simp only [Act.put, List.setIfInBounds_toArray, List.set_cons_zero, List.set_cons_succ]
          refine anyB_keep (i := 10) (o := ⟨some 153, _, _, _, _, _⟩) (by kernel_rfl) rfl (fun K hK => ?_)
          rw [if_pos (by rfl)]
          go_wp2_with (go_at_call 87; (with_reducible refine (U6.out _).mono ?_); rintro e V ⟨rfl, hb⟩; have E6 := Lib.hid (bstep E5.out hb); clear hb)
          refine hK.out _ _ E6.out ?_
          clear hK K
          try simp only [Act.put, List.setIfInBounds_toArray, List.set_cons_zero, List.set_cons_succ]
          refine anyB_keep (i := 13) (o := ⟨some 156, _, _, _, _, _⟩) (by kernel_rfl) rfl (fun K hK => ?_)
          rw [if_pos (by rfl)]
          go_wp2_with (go_at_call 87; (with_reducible refine (U7.out _).mono ?_); rintro e V ⟨rfl, hb⟩; have E7 := Lib.hid (bstep E6.out hb); clear hb)
          refine hK.out _ _ E7.out ?_
          clear hK K
          try simp only [Act.put, List.setIfInBounds_toArray, List.set_cons_zero, List.set_cons_succ]
          refine anyB_keep (i := 16) (o := ⟨some 159, _, _, _, _, _⟩) (by kernel_rfl) rfl (fun K hK => ?_)
          rw [if_pos (by rfl)]
          go_wp2_with (go_at_call 87; (with_reducible refine (U8.out _).mono ?_); rintro e V ⟨rfl, hb⟩; have E8 := Lib.hid (bstep E7.out hb); clear hb)
          refine hK.out _ _ E8.out ?_
          clear hK K
          try simp only [Act.put, List.setIfInBounds_toArray, List.set_cons_zero, List.set_cons_succ]
          refine anyB_keep (i := 17) (o := ⟨some 160, _, _, _, _, _⟩) (by kernel_rfl) rfl (fun K hK => ?_)
          rw [if_pos (by rfl)]
          go_wp2_with (go_at_call 83; (with_reducible refine (U9.out _).mono ?_); rintro e V ⟨rfl, hb⟩; have E9 := Lib.hid (bstep E8.out hb); clear hb)
          refine hK.out _ _ E9.out ?_
          clear hK K
          try simp only [Act.put, List.setIfInBounds_toArray, List.set_cons_zero, List.set_cons_succ]
          refine anyB_keep (i := 18) (o := ⟨some 161, _, _, _, _, _⟩) (by kernel_rfl) rfl (fun K hK => ?_)
          rw [if_pos (by rfl)]
          go_wp2_with (go_at_call 82; (with_reducible refine (U10.out _).mono ?_); rintro e V ⟨rfl, hb⟩; have E10 := Lib.hid (bstep E9.out hb); clear hb)
          refine hK.out _ _ E10.out ?_
          clear hK K
          try simp only [Act.put, List.setIfInBounds_toArray, List.set_cons_zero, List.set_cons_succ]
          refine anyB_keep (i := 19) (o := ⟨some 162, _, _, _, _, _⟩) (by kernel_rfl) rfl (fun K hK => ?_)
          rw [if_pos (by rfl)]
          go_wp2_with (go_at_call 81; (with_reducible refine (U11.out _).mono ?_); rintro e V ⟨rfl, hb⟩; have E11 := Lib.hid (bstep E10.out hb); clear hb)
          refine hK.out _ _ E11.out ?_
          clear hK K
          try simp only [Act.put, List.setIfInBounds_toArray, List.set_cons_zero, List.set_cons_succ]
          refine anyB_take (i := 20) (oi := ⟨some 20, _, _, _, _, _⟩) (v := _) rfl (by kernel_rfl) (by kernel_rfl) (by kernel_rfl) (by kernel_rfl) (fun _ _ _ h => h) (Or.inl ⟨by rfl, fun w' hw' => (by clear hw'; go_simp; try with_reducible rfl)⟩) E11.out ?_
          try simp only [Act.put, List.setIfInBounds_toArray, List.set_cons_zero, List.set_cons_succ]
          refine anyB_done (by kernel_rfl) ?_ _
          have C := HCR.out.step E11.out
          have t1 : ∀ w', Calls Tryd.prog 81 #[.int .i64 (on : Int), .int .i64 (tw : Int), .int .i64 0, .int .i64 0, .int .i64 0] w' (Ans w' (.int .i64 (((on + tw + 0 + 0 + 0) % 4294967296 : Nat) : Int))) := ksum on tw 0 0 0 hon9 htw9 (by decide) (by decide) (by decide)
          have t2 : ∀ w', Calls Tryd.prog 81 #[.int .i64 (a4 : Int), .int .i64 (on : Int), .int .i64 0, .int .i64 0, .int .i64 0] w' (Ans w' (.int .i64 (((a4 + on + 0 + 0 + 0) % 4294967296 : Nat) : Int))) := ksum a4 on 0 0 0 o4 hon9 (by decide) (by decide) (by decide)
          have hst : (mixT KL (spreadW b) h (k + 1)).list = [(on + tw + 0 + 0 + 0) % 4294967296, a1, a2, a3, (a4 + on + 0 + 0 + 0) % 4294967296, a5, a6, a7] := by rw [HST.out, step_list, HONE.out, HTWO.out]
          obtain ⟨n1, hn1⟩ : ∃ n, (on + tw + 0 + 0 + 0) % 4294967296 = n := ⟨_, rfl⟩
          obtain ⟨n5, hn5⟩ : ∃ n, (a4 + on + 0 + 0 + 0) % 4294967296 = n := ⟨_, rfl⟩
          rw [hn1] at t1 hst
          rw [hn5] at t2 hst
          have T1 := Lib.hid t1
          have T2 := Lib.hid t2
          have HSTL := Lib.hid hst
          have HCS := Lib.hid C
          have hBS : Below V.heap.size V V.drew := (Below.refl _ V).drew
          have BS := Lib.hid hBS
          have s0 : V.cell? ⟨gb, 0, none⟩ = some (.int .i64 (a1 : Int)) := C.c 0 (by decide)
          have s1 : V.cell? ⟨gb, 1, none⟩ = some (.int .i64 (a2 : Int)) := C.c 1 (by decide)
          have s2 : V.cell? ⟨gb, 2, none⟩ = some (.int .i64 (a3 : Int)) := C.c 2 (by decide)
          have s3 : V.cell? ⟨gb, 3, none⟩ = some (.int .i64 (a4 : Int)) := C.c 3 (by decide)
          have s4 : V.cell? ⟨gb, 4, none⟩ = some (.int .i64 (a5 : Int)) := C.c 4 (by decide)
          have s5 : V.cell? ⟨gb, 5, none⟩ = some (.int .i64 (a6 : Int)) := C.c 5 (by decide)
          have s6 : V.cell? ⟨gb, 6, none⟩ = some (.int .i64 (a7 : Int)) := C.c 6 (by decide)
          have gl := C.l
          clear t1 t2 hst hn1 hn5 hBS C U1 U2 U3 U4 U5 U6 U7 U8 U9 U10 U11
          obtain ⟨Z, hZ⟩ : ∃ Z, V = Z := ⟨_, rfl⟩
          rw [hZ] at HCS BS s0 s1 s2 s3 s4 s5 s6 gl ⊢
          clear hZ
          go_wp2_with fail
          refine region_anyB (fun w' : World => Below Z.heap.size Z w') [] (by kernel_rfl) ?_
          refine anyB_take (i := 0) (oi := ⟨some 163, _, _, _, _, _⟩) (v := _) rfl (by kernel_rfl) (by kernel_rfl) (by kernel_rfl) (by kernel_rfl) (fun _ _ _ h => h) (Or.inl ⟨by rfl, fun w' hw' => (by clear hw'; go_simp; try with_reducible rfl)⟩) BS.out ?_
          try simp only [Act.put, List.setIfInBounds_toArray, List.set_cons_zero, List.set_cons_succ]
          refine anyB_take (i := 1) (oi := ⟨some 164, _, _, _, _, _⟩) (v := _) rfl (by kernel_rfl) (by kernel_rfl) (by kernel_rfl) (by kernel_rfl) (fun _ _ _ h => h) (Or.inl ⟨by rfl, fun w' hw' => (by clear hw'; go_simp; try with_reducible rfl)⟩) BS.out ?_
          try simp only [Act.put, List.setIfInBounds_toArray, List.set_cons_zero, List.set_cons_succ]
          refine anyB_take (i := 3) (oi := ⟨some 166, _, _, _, _, _⟩) (v := _) rfl (by kernel_rfl) (by kernel_rfl) (by kernel_rfl) (by kernel_rfl) (fun _ _ _ h => h) (Or.inl ⟨by rfl, fun w' hw' => (by clear hw'; go_simp; try with_reducible rfl)⟩) BS.out ?_
          try simp only [Act.put, List.setIfInBounds_toArray, List.set_cons_zero, List.set_cons_succ]
          refine anyB_take (i := 4) (oi := ⟨some 167, _, _, _, _, _⟩) (v := _) rfl (by kernel_rfl) (by kernel_rfl) (by kernel_rfl) (by kernel_rfl) (fun _ _ _ h => h) (Or.inl ⟨by rfl, fun w' hw' => (by clear hw'; go_simp; try with_reducible rfl)⟩) BS.out ?_
          try simp only [Act.put, List.setIfInBounds_toArray, List.set_cons_zero, List.set_cons_succ]
          refine anyB_take (i := 5) (oi := ⟨some 168, _, _, _, _, _⟩) (v := _) rfl (by kernel_rfl) (by kernel_rfl) (by kernel_rfl) (by kernel_rfl) (fun _ _ _ h => h) (Or.inl ⟨by rfl, fun w' hw' => (by have e0 := (hw'.cell (p := ⟨gb, 0, none⟩) gl).trans s0; have e1 := (hw'.cell (p := ⟨gb, 1, none⟩) gl).trans s1; have e2 := (hw'.cell (p := ⟨gb, 2, none⟩) gl).trans s2; have e3 := (hw'.cell (p := ⟨gb, 3, none⟩) gl).trans s3; have e4 := (hw'.cell (p := ⟨gb, 4, none⟩) gl).trans s4; have e5 := (hw'.cell (p := ⟨gb, 5, none⟩) gl).trans s5; have e6 := (hw'.cell (p := ⟨gb, 6, none⟩) gl).trans s6; go_simp; try with_reducible rfl)⟩) BS.out ?_
          try simp only [Act.put, List.setIfInBounds_toArray, List.set_cons_zero, List.set_cons_succ]
          refine anyB_take (i := 6) (oi := ⟨some 169, _, _, _, _, _⟩) (v := _) rfl (by kernel_rfl) (by kernel_rfl) (by kernel_rfl) (by kernel_rfl) (fun _ _ _ h => h) (Or.inl ⟨by rfl, fun w' hw' => (by clear hw'; go_simp; try with_reducible rfl)⟩) BS.out ?_
          try simp only [Act.put, List.setIfInBounds_toArray, List.set_cons_zero, List.set_cons_succ]
          refine anyB_take (i := 7) (oi := ⟨some 170, _, _, _, _, _⟩) (v := _) rfl (by kernel_rfl) (by kernel_rfl) (by kernel_rfl) (by kernel_rfl) (fun _ _ _ h => h) (Or.inl ⟨by rfl, fun w' hw' => (by clear hw'; go_simp; try with_reducible rfl)⟩) BS.out ?_
          try simp only [Act.put, List.setIfInBounds_toArray, List.set_cons_zero, List.set_cons_succ]
          refine anyB_take (i := 8) (oi := ⟨some 171, _, _, _, _, _⟩) (v := _) rfl (by kernel_rfl) (by kernel_rfl) (by kernel_rfl) (by kernel_rfl) (fun _ _ _ h => h) (Or.inl ⟨by rfl, fun w' hw' => (by have e0 := (hw'.cell (p := ⟨gb, 0, none⟩) gl).trans s0; have e1 := (hw'.cell (p := ⟨gb, 1, none⟩) gl).trans s1; have e2 := (hw'.cell (p := ⟨gb, 2, none⟩) gl).trans s2; have e3 := (hw'.cell (p := ⟨gb, 3, none⟩) gl).trans s3; have e4 := (hw'.cell (p := ⟨gb, 4, none⟩) gl).trans s4; have e5 := (hw'.cell (p := ⟨gb, 5, none⟩) gl).trans s5; have e6 := (hw'.cell (p := ⟨gb, 6, none⟩) gl).trans s6; go_simp; try with_reducible rfl)⟩) BS.out ?_
          try simp only [Act.put, List.setIfInBounds_toArray, List.set_cons_zero, List.set_cons_succ]
          refine anyB_take (i := 9) (oi := ⟨some 172, _, _, _, _, _⟩) (v := _) rfl (by kernel_rfl) (by kernel_rfl) (by kernel_rfl) (by kernel_rfl) (fun _ _ _ h => h) (Or.inl ⟨by rfl, fun w' hw' => (by clear hw'; go_simp; try with_reducible rfl)⟩) BS.out ?_
          try simp only [Act.put, List.setIfInBounds_toArray, List.set_cons_zero, List.set_cons_succ]
          refine anyB_take (i := 10) (oi := ⟨some 173, _, _, _, _, _⟩) (v := _) rfl (by kernel_rfl) (by kernel_rfl) (by kernel_rfl) (by kernel_rfl) (fun _ _ _ h => h) (Or.inl ⟨by rfl, fun w' hw' => (by clear hw'; go_simp; try with_reducible rfl)⟩) BS.out ?_
          try simp only [Act.put, List.setIfInBounds_toArray, List.set_cons_zero, List.set_cons_succ]
          refine anyB_take (i := 11) (oi := ⟨some 174, _, _, _, _, _⟩) (v := _) rfl (by kernel_rfl) (by kernel_rfl) (by kernel_rfl) (by kernel_rfl) (fun _ _ _ h => h) (Or.inl ⟨by rfl, fun w' hw' => (by have e0 := (hw'.cell (p := ⟨gb, 0, none⟩) gl).trans s0; have e1 := (hw'.cell (p := ⟨gb, 1, none⟩) gl).trans s1; have e2 := (hw'.cell (p := ⟨gb, 2, none⟩) gl).trans s2; have e3 := (hw'.cell (p := ⟨gb, 3, none⟩) gl).trans s3; have e4 := (hw'.cell (p := ⟨gb, 4, none⟩) gl).trans s4; have e5 := (hw'.cell (p := ⟨gb, 5, none⟩) gl).trans s5; have e6 := (hw'.cell (p := ⟨gb, 6, none⟩) gl).trans s6; go_simp; try with_reducible rfl)⟩) BS.out ?_
          try simp only [Act.put, List.setIfInBounds_toArray, List.set_cons_zero, List.set_cons_succ]
          refine anyB_take (i := 12) (oi := ⟨some 175, _, _, _, _, _⟩) (v := _) rfl (by kernel_rfl) (by kernel_rfl) (by kernel_rfl) (by kernel_rfl) (fun _ _ _ h => h) (Or.inl ⟨by rfl, fun w' hw' => (by clear hw'; go_simp; try with_reducible rfl)⟩) BS.out ?_
          try simp only [Act.put, List.setIfInBounds_toArray, List.set_cons_zero, List.set_cons_succ]
          refine anyB_take (i := 13) (oi := ⟨some 176, _, _, _, _, _⟩) (v := _) rfl (by kernel_rfl) (by kernel_rfl) (by kernel_rfl) (by kernel_rfl) (fun _ _ _ h => h) (Or.inl ⟨by rfl, fun w' hw' => (by clear hw'; go_simp; try with_reducible rfl)⟩) BS.out ?_
          try simp only [Act.put, List.setIfInBounds_toArray, List.set_cons_zero, List.set_cons_succ]
          refine anyB_take (i := 14) (oi := ⟨some 177, _, _, _, _, _⟩) (v := _) rfl (by kernel_rfl) (by kernel_rfl) (by kernel_rfl) (by kernel_rfl) (fun _ _ _ h => h) (Or.inl ⟨by rfl, fun w' hw' => (by have e0 := (hw'.cell (p := ⟨gb, 0, none⟩) gl).trans s0; have e1 := (hw'.cell (p := ⟨gb, 1, none⟩) gl).trans s1; have e2 := (hw'.cell (p := ⟨gb, 2, none⟩) gl).trans s2; have e3 := (hw'.cell (p := ⟨gb, 3, none⟩) gl).trans s3; have e4 := (hw'.cell (p := ⟨gb, 4, none⟩) gl).trans s4; have e5 := (hw'.cell (p := ⟨gb, 5, none⟩) gl).trans s5; have e6 := (hw'.cell (p := ⟨gb, 6, none⟩) gl).trans s6; go_simp; try with_reducible rfl)⟩) BS.out ?_
          try simp only [Act.put, List.setIfInBounds_toArray, List.set_cons_zero, List.set_cons_succ]
          refine anyB_take (i := 15) (oi := ⟨some 178, _, _, _, _, _⟩) (v := _) rfl (by kernel_rfl) (by kernel_rfl) (by kernel_rfl) (by kernel_rfl) (fun _ _ _ h => h) (Or.inl ⟨by rfl, fun w' hw' => (by clear hw'; go_simp; try with_reducible rfl)⟩) BS.out ?_
          try simp only [Act.put, List.setIfInBounds_toArray, List.set_cons_zero, List.set_cons_succ]
          refine anyB_take (i := 17) (oi := ⟨some 180, _, _, _, _, _⟩) (v := _) rfl (by kernel_rfl) (by kernel_rfl) (by kernel_rfl) (by kernel_rfl) (fun _ _ _ h => h) (Or.inl ⟨by rfl, fun w' hw' => (by clear hw'; go_simp; try with_reducible rfl)⟩) BS.out ?_
          try simp only [Act.put, List.setIfInBounds_toArray, List.set_cons_zero, List.set_cons_succ]
          refine anyB_take (i := 18) (oi := ⟨some 181, _, _, _, _, _⟩) (v := _) rfl (by kernel_rfl) (by kernel_rfl) (by kernel_rfl) (by kernel_rfl) (fun _ _ _ h => h) (Or.inl ⟨by rfl, fun w' hw' => (by clear hw'; go_simp; try with_reducible rfl)⟩) BS.out ?_
          try simp only [Act.put, List.setIfInBounds_toArray, List.set_cons_zero, List.set_cons_succ]
          refine anyB_take (i := 19) (oi := ⟨some 182, _, _, _, _, _⟩) (v := _) rfl (by kernel_rfl) (by kernel_rfl) (by kernel_rfl) (by kernel_rfl) (fun _ _ _ h => h) (Or.inl ⟨by rfl, fun w' hw' => (by have e0 := (hw'.cell (p := ⟨gb, 0, none⟩) gl).trans s0; have e1 := (hw'.cell (p := ⟨gb, 1, none⟩) gl).trans s1; have e2 := (hw'.cell (p := ⟨gb, 2, none⟩) gl).trans s2; have e3 := (hw'.cell (p := ⟨gb, 3, none⟩) gl).trans s3; have e4 := (hw'.cell (p := ⟨gb, 4, none⟩) gl).trans s4; have e5 := (hw'.cell (p := ⟨gb, 5, none⟩) gl).trans s5; have e6 := (hw'.cell (p := ⟨gb, 6, none⟩) gl).trans s6; go_simp; try with_reducible rfl)⟩) BS.out ?_
          try simp only [Act.put, List.setIfInBounds_toArray, List.set_cons_zero, List.set_cons_succ]
          refine anyB_take (i := 20) (oi := ⟨some 183, _, _, _, _, _⟩) (v := _) rfl (by kernel_rfl) (by kernel_rfl) (by kernel_rfl) (by kernel_rfl) (fun _ _ _ h => h) (Or.inl ⟨by rfl, fun w' hw' => (by clear hw'; go_simp; try with_reducible rfl)⟩) BS.out ?_
          try simp only [Act.put, List.setIfInBounds_toArray, List.set_cons_zero, List.set_cons_succ]
          refine anyB_take (i := 21) (oi := ⟨some 184, _, _, _, _, _⟩) (v := _) rfl (by kernel_rfl) (by kernel_rfl) (by kernel_rfl) (by kernel_rfl) (fun _ _ _ h => h) (Or.inl ⟨by rfl, fun w' hw' => (by clear hw'; go_simp; try with_reducible rfl)⟩) BS.out ?_
          try simp only [Act.put, List.setIfInBounds_toArray, List.set_cons_zero, List.set_cons_succ]
          refine anyB_take (i := 22) (oi := ⟨some 185, _, _, _, _, _⟩) (v := _) rfl (by kernel_rfl) (by kernel_rfl) (by kernel_rfl) (by kernel_rfl) (fun _ _ _ h => h) (Or.inl ⟨by rfl, fun w' hw' => (by have e0 := (hw'.cell (p := ⟨gb, 0, none⟩) gl).trans s0; have e1 := (hw'.cell (p := ⟨gb, 1, none⟩) gl).trans s1; have e2 := (hw'.cell (p := ⟨gb, 2, none⟩) gl).trans s2; have e3 := (hw'.cell (p := ⟨gb, 3, none⟩) gl).trans s3; have e4 := (hw'.cell (p := ⟨gb, 4, none⟩) gl).trans s4; have e5 := (hw'.cell (p := ⟨gb, 5, none⟩) gl).trans s5; have e6 := (hw'.cell (p := ⟨gb, 6, none⟩) gl).trans s6; go_simp; try with_reducible rfl)⟩) BS.out ?_
          try simp only [Act.put, List.setIfInBounds_toArray, List.set_cons_zero, List.set_cons_succ]
          refine anyB_take (i := 23) (oi := ⟨some 186, _, _, _, _, _⟩) (v := _) rfl (by kernel_rfl) (by kernel_rfl) (by kernel_rfl) (by kernel_rfl) (fun _ _ _ h => h) (Or.inl ⟨by rfl, fun w' hw' => (by clear hw'; go_simp; try with_reducible rfl)⟩) BS.out ?_
          try simp only [Act.put, List.setIfInBounds_toArray, List.set_cons_zero, List.set_cons_succ]
          refine anyB_take (i := 24) (oi := ⟨some 187, _, _, _, _, _⟩) (v := _) rfl (by kernel_rfl) (by kernel_rfl) (by kernel_rfl) (by kernel_rfl) (fun _ _ _ h => h) (Or.inl ⟨by rfl, fun w' hw' => (by clear hw'; go_simp; try with_reducible rfl)⟩) BS.out ?_
          try simp only [Act.put, List.setIfInBounds_toArray, List.set_cons_zero, List.set_cons_succ]
          refine anyB_take (i := 25) (oi := ⟨some 188, _, _, _, _, _⟩) (v := _) rfl (by kernel_rfl) (by kernel_rfl) (by kernel_rfl) (by kernel_rfl) (fun _ _ _ h => h) (Or.inl ⟨by rfl, fun w' hw' => (by have e0 := (hw'.cell (p := ⟨gb, 0, none⟩) gl).trans s0; have e1 := (hw'.cell (p := ⟨gb, 1, none⟩) gl).trans s1; have e2 := (hw'.cell (p := ⟨gb, 2, none⟩) gl).trans s2; have e3 := (hw'.cell (p := ⟨gb, 3, none⟩) gl).trans s3; have e4 := (hw'.cell (p := ⟨gb, 4, none⟩) gl).trans s4; have e5 := (hw'.cell (p := ⟨gb, 5, none⟩) gl).trans s5; have e6 := (hw'.cell (p := ⟨gb, 6, none⟩) gl).trans s6; go_simp; try with_reducible rfl)⟩) BS.out ?_
          try simp only [Act.put, List.setIfInBounds_toArray, List.set_cons_zero, List.set_cons_succ]
          refine anyB_keep (i := 2) (o := ⟨some 165, _, _, _, _, _⟩) (by kernel_rfl) rfl (fun K hK => ?_)
          rw [if_pos (by rfl)]
          go_wp2_with (go_at_call 81; (with_reducible refine (T1.out _).mono ?_); rintro e V ⟨rfl, hb⟩; have F1 := Lib.hid (bstep BS.out hb); clear hb)
          refine hK.out _ _ F1.out ?_
          clear hK K
          try simp only [Act.put, List.setIfInBounds_toArray, List.set_cons_zero, List.set_cons_succ]
          refine anyB_keep (i := 16) (o := ⟨some 179, _, _, _, _, _⟩) (by kernel_rfl) rfl (fun K hK => ?_)
          rw [if_pos (by rfl)]
          go_wp2_with (go_at_call 81; (with_reducible refine (T2.out _).mono ?_); rintro e V ⟨rfl, hb⟩; have F2 := Lib.hid (bstep F1.out hb); clear hb)
          refine hK.out _ _ F2.out ?_
          clear hK K
          try simp only [Act.put, List.setIfInBounds_toArray, List.set_cons_zero, List.set_cons_succ]
          refine anyB_keep (i := 26) (o := ⟨some 189, _, _, _, _, _⟩) (by kernel_rfl) rfl (fun K hK => ?_)
          rw [if_pos (by rfl)]
          have C := HCS.out.step F2.out
          have HCT := Lib.hid C
          clear C
          go_simp
          refine hK.out _ _ (bstep F2.out ((Below.refl _ _).alloc (Nat.le_refl _) _)) ?_
          clear hK K
          try simp only [Act.put, List.setIfInBounds_toArray, List.set_cons_zero, List.set_cons_succ]
          refine anyB_take (i := 27) (oi := ⟨some 11, _, _, _, _, _⟩) (v := _) rfl (by kernel_rfl) (by kernel_rfl) (by kernel_rfl) (by kernel_rfl) (fun _ _ _ h => h) (Or.inl ⟨by rfl, fun w' hw' => (by clear hw'; go_simp; try with_reducible rfl)⟩) (bstep F2.out ((Below.refl _ _).alloc (Nat.le_refl _) _)) ?_
          try simp only [Act.put, List.setIfInBounds_toArray, List.set_cons_zero, List.set_cons_succ]
          refine anyB_done (by kernel_rfl) ?_ _
          have C4 := HCT.out.new n1 a1 a2 a3 n5 a5 a6 a7 HSTL.out 3
          have HC4 := Lib.hid C4
          clear C4 s0 s1 s2 s3 s4 s5 s6 gl
          go_wp2
          go_roundw
          case rel => exact ⟨k + 1, _, _, by omega, by go_num, rfl, HC4⟩
          case measure => simp [intOf]; omega
        · obtain rfl : k = 64 := by omega
          clear hlt hk
          have C := HC.out
          have HL3 : Hid (∀ j, j < 8 → (mixW KL h b).list.getD j 0 = (h.list.getD j 0 + (mixT KL (spreadW b) h 64).list.getD j 0 + 0 + 0 + 0) % 4294967296) := Lib.hid (fun j hj => add_get h _ j hj)
          have HSO := Lib.hid (mixT_ok KL (spreadW b) HOK.out 64)
          obtain ⟨sm, hsm⟩ : ∃ s, mixT KL (spreadW b) h 64 = s := ⟨_, rfl⟩
          rw [hsm] at C HL3 HSO
          obtain ⟨ml, hml⟩ : ∃ l, (mixW KL h b).list = l := ⟨_, rfl⟩
          have hmlen : ml.length = 8 := by rw [← hml, W8.list_length]
          rw [hml] at HL3
          have HML := Lib.hid hml
          obtain ⟨wo, hwo⟩ : ∃ wo : World, wr = wo := ⟨_, rfl⟩
          rw [hwo] at C ⊢
          clear hwo
          rw [show (((64 : Nat) : Int)) = 64 from rfl]
          have HCM := Lib.hid C
          have HLEN := Lib.hid hmlen
          clear hsm hml hmlen C HC
          go_wp2_with fail
          go_loopw [21, 22] (fun v i wr => ∃ k : Nat, k ≤ 8 ∧ i = .int .i64 (k : Int) ∧ Hid (wr.ownsRow wo.heap.size 3 1 v k (intC (ml.take k))) ∧ Hid (Below wo.heap.size wo wr)) (fun _ i _ => 8 - (intOf i).toNat)
          case atStart => exact ⟨0, by omega, rfl, Lib.hid (World.ownsRow_nil _ _ _ _), Lib.hid (Below.refl _ _)⟩
          case round =>
            obtain ⟨k, hk, rfl, HO, HB⟩ := hrel
            have hz := HB.out.size
            by_cases hlt : k < 8
            · have k8 : (k : Int) < 8 := by omega
              have gl := HCM.out.l
              have sg := HCM.out.c k hlt
              have sh : wo.cell? ⟨gh, k, none⟩ = some (.int .i64 ((h.list.getD k 0 : Nat) : Int)) := (HCM.out.m.bel.cell (p := ⟨gh, k, none⟩) hgh).trans (HHH.out k hlt)
              have glh : gh < wo.heap.size := Nat.lt_of_lt_of_le hgh HCM.out.m.bel.size
              have sg2 := (HB.out.cell (p := ⟨gb, k, none⟩) gl).trans sg
              have sh2 := (HB.out.cell (p := ⟨gh, k, none⟩) glh).trans sh
              have hv := HL3.out k hlt
              have o1 := W8.ok_get HOK.out k
              have o2 := W8.ok_get HSO.out k
              obtain ⟨x, hx⟩ : ∃ n, h.list.getD k 0 = n := ⟨_, rfl⟩
              obtain ⟨y, hy⟩ : ∃ n, sm.list.getD k 0 = n := ⟨_, rfl⟩
              rw [hx] at sh2 hv o1
              rw [hy] at sg2 hv o2
              have t1 : ∀ w', Calls Tryd.prog 81 #[.int .i64 (x : Int), .int .i64 (y : Int), .int .i64 0, .int .i64 0, .int .i64 0] w' (Ans w' (.int .i64 (((x + y + 0 + 0 + 0) % 4294967296 : Nat) : Int))) := ksum x y 0 0 0 o1 o2 (by decide) (by decide) (by decide)
              have hrow : intC (ml.take (k + 1)) = intC (ml.take k) ++ [.int .i64 (((x + y + 0 + 0 + 0) % 4294967296 : Nat) : Int)] := by rw [list_take8 ml k (by rw [HLEN.out]; exact hlt), intC_snoc, hv]
              obtain ⟨n, hn⟩ : ∃ n, (x + y + 0 + 0 + 0) % 4294967296 = n := ⟨_, rfl⟩
              rw [hn] at t1 hrow
              have T1 := Lib.hid t1
              have HROW := Lib.hid hrow
              have g1 : gb < wr.heap.size := Nat.lt_of_lt_of_le gl hz
              have g2 : gh < wr.heap.size := Nat.lt_of_lt_of_le glh hz
              have hB0 : Below wr.heap.size wr wr.drew := (Below.refl _ wr).drew
              have B0 := Lib.hid hB0
              clear hx hy hn hv t1 hrow sg sh hB0 o1 o2
              go_wp2_with fail
              refine region_anyB (fun w' : World => Below wr.heap.size wr w') [11, 12] (by kernel_rfl) ?_
              refine anyB_take (i := 0) (oi := ⟨some 194, _, _, _, _, _⟩) (v := _) rfl (by kernel_rfl) (by kernel_rfl) (by kernel_rfl) (by kernel_rfl) (fun _ _ _ h => h) (Or.inl ⟨by rfl, fun w' hw' => (by clear hw'; go_simp; try with_reducible rfl)⟩) B0.out ?_
              try simp only [Act.put, List.setIfInBounds_toArray, List.set_cons_zero, List.set_cons_succ]
              refine anyB_take (i := 1) (oi := ⟨some 195, _, _, _, _, _⟩) (v := _) rfl (by kernel_rfl) (by kernel_rfl) (by kernel_rfl) (by kernel_rfl) (fun _ _ _ h => h) (Or.inl ⟨by rfl, fun w' hw' => (by clear hw'; go_simp; try with_reducible rfl)⟩) B0.out ?_
              try simp only [Act.put, List.setIfInBounds_toArray, List.set_cons_zero, List.set_cons_succ]
              refine anyB_take (i := 2) (oi := ⟨some 196, _, _, _, _, _⟩) (v := _) rfl (by kernel_rfl) (by kernel_rfl) (by kernel_rfl) (by kernel_rfl) (fun _ _ _ h => h) (Or.inl ⟨by rfl, fun w' hw' => (by clear hw'; go_simp; try with_reducible rfl)⟩) B0.out ?_
              try simp only [Act.put, List.setIfInBounds_toArray, List.set_cons_zero, List.set_cons_succ]
              refine anyB_take (i := 3) (oi := ⟨some 197, _, _, _, _, _⟩) (v := _) rfl (by kernel_rfl) (by kernel_rfl) (by kernel_rfl) (by kernel_rfl) (fun _ _ _ h => h) (Or.inl ⟨by rfl, fun w' hw' => (by clear hw'; go_simp; try with_reducible rfl)⟩) B0.out ?_
              try simp only [Act.put, List.setIfInBounds_toArray, List.set_cons_zero, List.set_cons_succ]
              refine anyB_take (i := 4) (oi := ⟨some 198, _, _, _, _, _⟩) (v := _) rfl (by kernel_rfl) (by kernel_rfl) (by kernel_rfl) (by kernel_rfl) (fun _ _ _ h => h) (Or.inl ⟨by rfl, fun w' hw' => (by have e1 := (hw'.cell (p := ⟨gb, k, none⟩) g1).trans sg2; have e2 := (hw'.cell (p := ⟨gh, k, none⟩) g2).trans sh2; go_simp; try with_reducible rfl)⟩) B0.out ?_
              try simp only [Act.put, List.setIfInBounds_toArray, List.set_cons_zero, List.set_cons_succ]
              refine anyB_take (i := 5) (oi := ⟨some 199, _, _, _, _, _⟩) (v := _) rfl (by kernel_rfl) (by kernel_rfl) (by kernel_rfl) (by kernel_rfl) (fun _ _ _ h => h) (Or.inl ⟨by rfl, fun w' hw' => (by clear hw'; go_simp; try with_reducible rfl)⟩) B0.out ?_
              try simp only [Act.put, List.setIfInBounds_toArray, List.set_cons_zero, List.set_cons_succ]
              refine anyB_take (i := 6) (oi := ⟨some 200, _, _, _, _, _⟩) (v := _) rfl (by kernel_rfl) (by kernel_rfl) (by kernel_rfl) (by kernel_rfl) (fun _ _ _ h => h) (Or.inl ⟨by rfl, fun w' hw' => (by clear hw'; go_simp; try with_reducible rfl)⟩) B0.out ?_
              try simp only [Act.put, List.setIfInBounds_toArray, List.set_cons_zero, List.set_cons_succ]
              refine anyB_take (i := 7) (oi := ⟨some 201, _, _, _, _, _⟩) (v := _) rfl (by kernel_rfl) (by kernel_rfl) (by kernel_rfl) (by kernel_rfl) (fun _ _ _ h => h) (Or.inl ⟨by rfl, fun w' hw' => (by clear hw'; go_simp; try with_reducible rfl)⟩) B0.out ?_
              try simp only [Act.put, List.setIfInBounds_toArray, List.set_cons_zero, List.set_cons_succ]
              refine anyB_take (i := 8) (oi := ⟨some 202, _, _, _, _, _⟩) (v := _) rfl (by kernel_rfl) (by kernel_rfl) (by kernel_rfl) (by kernel_rfl) (fun _ _ _ h => h) (Or.inl ⟨by rfl, fun w' hw' => (by have e1 := (hw'.cell (p := ⟨gb, k, none⟩) g1).trans sg2; have e2 := (hw'.cell (p := ⟨gh, k, none⟩) g2).trans sh2; go_simp; try with_reducible rfl)⟩) B0.out ?_
              try simp only [Act.put, List.setIfInBounds_toArray, List.set_cons_zero, List.set_cons_succ]
              refine anyB_keep (i := 9) (o := ⟨some 203, _, _, _, _, _⟩) (by kernel_rfl) rfl (fun K hK => ?_)
              rw [if_pos (by rfl)]
              go_wp2_with (go_at_call 81; (with_reducible refine (T1.out _).mono ?_); rintro e V ⟨rfl, hb⟩; have H1 := Lib.hid (bstep B0.out hb); clear hb)
              refine hK.out _ _ H1.out ?_
              clear hK K
              try simp only [Act.put, List.setIfInBounds_toArray, List.set_cons_zero, List.set_cons_succ]
              refine anyB_keep (i := 10) (o := ⟨some 204, _, _, _, _, _⟩) (by kernel_rfl) rfl (fun K hK => ?_)
              rw [if_pos (by rfl)]
              have OW := Lib.hid (own_below HO.out H1.out (Nat.le_refl _))
              have zV := H1.out.size
              go_simp
              refine hK.out _ _ (bstep H1.out ((Below.refl _ _).alloc (Nat.le_refl _) _)) ?_
              clear hK K
              try simp only [Act.put, List.setIfInBounds_toArray, List.set_cons_zero, List.set_cons_succ]
              refine anyB_last (i := 11) (o := ⟨some 205, _, _, _, _, _⟩) (by kernel_rfl) rfl (by kernel_rfl) (fun K hK => ?_)
              rw [if_pos (by rfl)]
              refine wp_append_own _ _ _ 25 rfl wo.heap.size 3 i0 (.int .i64 0) 1 8 Tryd.underlying25 hi hz0 hz1 hz2 rfl (by decide) _ k _ rfl (OW.out.alloc _) ⟨V.heap.size, 0, none⟩ 1 1 [.int .i64 (n : Int)] rfl rfl (World.news_of_block (cs := #[.int .i64 (n : Int)]) (t := 3) (fr := (0, 0)) (heap_alloc_new V _)) (by simp [Value.oneCell']) (by unfold maxLen; omega) (by omega) (by simp; omega) ?_
              intro v3 w3 hown3 hg3 _
              refine hK.out _ _ ?_
              clear hK K
              try simp only [Act.put, List.setIfInBounds_toArray, List.set_cons_zero, List.set_cons_succ]
              refine anyB_takeW (i := 12) (oi := ⟨some 21, _, _, _, _, _⟩) (v := _) rfl (by kernel_rfl) (by kernel_rfl) (by kernel_rfl) (by kernel_rfl) (fun _ _ _ h => h) (Or.inl ⟨by rfl, fun w' hw' => (by clear hw'; go_simp; try with_reducible rfl)⟩) ?_
              try simp only [Act.put, List.setIfInBounds_toArray, List.set_cons_zero, List.set_cons_succ]
              refine anyB_done (by kernel_rfl) ?_ _
              rw [← HROW.out] at hown3
              have HO3 := Lib.hid hown3
              have hB3 : Below wo.heap.size wo w3 := ((bel_al (bstep HB.out H1.out) (by omega) _).grown hg3 (by simp; omega) (fun g hg => (OW.out.lt g hg).1))
              have HB3 := Lib.hid hB3
              clear hown3 hg3 hB3 sg2 sh2 gl glh g1 g2 zV
              go_wp2
              go_roundw
              case rel => exact ⟨k + 1, by omega, by go_num, HO3, HB3⟩
              case measure => simp [intOf]; omega
            · obtain rfl : k = 8 := by omega
              rw [show (((8 : Nat) : Int)) = 8 from rfl]
              go_wp2
              go_ret
              refine ⟨_, rfl, Joins.ownsRow_le (by rw [HML.out, ← List.take_of_length_le (Nat.le_of_eq HLEN.out)]; exact HO.out) HCM.out.m.bel.size, bstep HCM.out.m.bel HB.out⟩
end Go.Proofs.YtfdeegafdaobdaaDoor
