/- The walk of SealMeans. -/
import Derived.Test.YtnfefkcfifnjnaaDoorSX
import Derived.Test.YtnfefkcfifnjnaaDoorWB
namespace Go.Proofs.YtnfefkcfifnjnaaDoor
open Go.RowKit Go.ChangeShapes
set_option maxRecDepth 100000 in
set_option maxHeartbeats 1000000 in
/-- 'up', a closure of the law. -/
theorem up_any (s : List UInt8) (w : World) (hs : s.length ≤ 8192) :
    Calls Tryd.prog 27 #[.string (bs s)] w fun e w' => e = .returned (.string (bs (padO s))) ∧ Below w.heap.size w w' := by
  obtain ⟨L, hL⟩ : ∃ L, s.length = L := ⟨_, rfl⟩
  obtain ⟨q, hq⟩ : ∃ q, L % 16 = q := ⟨_, rfl⟩
  obtain ⟨m, hm⟩ : ∃ m, (16 - q) % 16 = m := ⟨_, rfl⟩
  have hpad : bs (padO s) = bs s ++ rp 0 m := by unfold padO; rw [hL, hq, hm, bs_append]; rfl
  rw [hpad]
  have hsz : (bs s).size = L := hL
  obtain ⟨S, hS⟩ : ∃ S, bs s = S := ⟨_, rfl⟩
  rw [hS] at hsz ⊢
  have m1 : (L : Int) % 16 = (q : Int) := by omega
  have m2 : (L : Int).tmod 16 = (q : Int) := by rw [Int.tmod_eq_emod_of_nonneg (by omega)]; omega
  have m3 : ((16 : Int) - (q : Int)) % 16 = (m : Int) := by omega
  have m4 : ((16 : Int) - (q : Int)).tmod 16 = (m : Int) := by rw [Int.tmod_eq_emod_of_nonneg (by omega)]; omega
  have hq16 : q < 16 := by omega
  have hm16 : m < 16 := by omega
  have hrp : (rp 0 m).size = m := rp_size _ _
  have hL2 : L ≤ 8192 := by omega
  have H := Lib.hid fun w => zerosQ_any m (m : Int) w rfl (by omega)
  clear hq hm hpad hS hL
  go_enter Tryd.func27, Tryd.ntmps27
  go_wp2_with (go_at_call 28; (with_reducible refine (H.out _).mono ?_); rintro e V ⟨rfl, hb⟩)
  go_ret
  exact ⟨rfl, hb⟩
set_option maxRecDepth 100000 in
set_option maxHeartbeats 1000000 in
/-- 'size', a closure of the law. -/
theorem sizeQ_any (n : Nat) (w : World) (hn : n ≤ 65535) :
    Calls Tryd.prog 29 #[.int .i64 (n : Int)] w fun e w' => e = .returned (.string (bs (octV n 8))) ∧ Below w.heap.size w w' := by
  obtain ⟨a, ha⟩ : ∃ a, n % 256 = a := ⟨_, rfl⟩
  obtain ⟨b, hb⟩ : ∃ b, n / 256 = b := ⟨_, rfl⟩
  have ha2 : a < 256 := by omega
  have hb2 : b < 256 := by omega
  have e1 : (n : Int) % 256 = (a : Int) := by omega
  have e2 : (n : Int) / 256 = (b : Int) := by omega
  have a1 : IntKind.u8.wrap (n : Int) = (a : Int) := by rw [IntKind.wrap_u8']; omega
  have a2 : IntKind.u8.wrap (b : Int) = (b : Int) := by rw [IntKind.wrap_u8']; omega
  have a3 : (b : Int) % 256 = (b : Int) := by omega
  have hov : octV n 8 = [UInt8.ofNat a, UInt8.ofNat b, 0, 0, 0, 0, 0, 0] := by
    have z : ∀ i, 2 ≤ i → n / 256 ^ i % 256 = 0 := fun i hi => by
      rw [Nat.div_eq_of_lt (Nat.lt_of_lt_of_le (show n < 256 ^ 2 by omega) (Nat.pow_le_pow_right (by decide) hi))]
    simp only [octV, List.range_succ, List.range_zero, List.nil_append, List.cons_append, List.map_cons, List.map_nil, z 2 (by omega), z 3 (by omega), z 4 (by omega), z 5 (by omega), z 6 (by omega), z 7 (by omega), Nat.pow_zero, Nat.div_one, Nat.pow_one, ha, hb, Nat.mod_eq_of_lt hb2]
    rfl
  have hcv : ∀ W : World, (convert 25 9 (.slice (some ⟨W.heap.size, 0, none⟩) 8 8)).run Tryd.prog (W.alloc (.cells #[.int .u8 (a : Int), .int .u8 (b : Int), .int .u8 0, .int .u8 0, .int .u8 0, .int .u8 0, .int .u8 0, .int .u8 0] 5)) = .ok (.string (bs (octV n 8))) (W.alloc (.cells #[.int .u8 (a : Int), .int .u8 (b : Int), .int .u8 0, .int .u8 0, .int .u8 0, .int .u8 0, .int .u8 0, .int .u8 0] 5)) := fun W => by
    rw [hov]
    refine run_convert_bytes_back (P := Tryd.prog) _ 25 9 5 ⟨W.heap.size, 0, none⟩ 8 [UInt8.ofNat a, UInt8.ofNat b, 0, 0, 0, 0, 0, 0] Tryd.underlying25 Tryd.underlying5 Tryd.underlying9 fun j hj => ?_
    have hadd : (⟨W.heap.size, 0, none⟩ : Addr).add j = ⟨W.heap.size, j, none⟩ := by unfold Addr.add; split <;> simp_all
    rw [hadd, cell_of_row _ _ j _ 5 (0, 0) (heap_alloc_new W _)]
    match j, hj with
    | 0, _ => simp; omega
    | 1, _ => simp; omega
    | 2, _ | 3, _ | 4, _ | 5, _ | 6, _ | 7, _ => rfl
  clear hov ha hb
  go_enter Tryd.func29, Tryd.ntmps29
  go_wp2
  go_ret
  exact ⟨rfl, (Below.refl _ w).alloc (Nat.le_refl _) _⟩

set_option maxRecDepth 1000000 in
set_option maxHeartbeats 8000000 in
theorem means_true (s1 s2 s3 s4 : ByteArray) (w : World) (hD : Digits w) (_h1 : s1.size ≤ maxLen) (_h2 : s2.size ≤ maxLen) (_h3 : s3.size ≤ maxLen) (_h4 : s4.size ≤ maxLen) :
    Calls Tryd.prog 6 #[.string s1, .string s2, .string s3, .string s4] w fun e w' => e = .returned (.bool true) ∧ Below w.heap.size w w' := by
  have K0 := Wk.start hD
  unfold maxLen at _h1 _h2 _h3 _h4
  obtain ⟨m1, z1, hz1, hl1, i1, j1⟩ := cut_m s1 32 32 rfl
  obtain ⟨m2, z2, hz2, hl2, i2, j2⟩ := cut_m s2 12 12 rfl
  obtain ⟨m3, e, hz3, hl3, i3, j3⟩ := cut_m s3 100 100 rfl
  obtain ⟨m4, p, hz4, hl4, i4, j4⟩ := cut_m s4 200 200 rfl
  obtain ⟨k, hk⟩ : ∃ k, sizL z1 32 = k := ⟨_, rfl⟩
  obtain ⟨n, hn⟩ : ∃ k, sizL z2 12 = k := ⟨_, rfl⟩
  have hkl : k.length = 32 := by rw [← hk, sizL_length]
  have hnl : n.length = 12 := by rw [← hn, sizL_length]
  have q1 : ∀ w, Calls Tryd.prog 14 #[.string (s1.extract 0 m1), .int .i64 32] w fun e w' => e = .returned (.string (bs k)) ∧ Below w.heap.size w w' := fun w => by
    rw [← hk, hz1]; exact sized_any z1 32 w (by decide) (by omega)
  have q2 : ∀ w, Calls Tryd.prog 14 #[.string (s2.extract 0 m2), .int .i64 12] w fun e w' => e = .returned (.string (bs n)) ∧ Below w.heap.size w w' := fun w => by
    rw [← hn, hz2]; exact sized_any z2 12 w (by decide) (by omega)
  obtain ⟨A, hA⟩ : ∃ A, appO k n 1 p = A := ⟨_, rfl⟩
  obtain ⟨T, hT⟩ : ∃ T, tagO (bkO k n) (covO e A) = T := ⟨_, rfl⟩
  have hAl : A.length = p.length := by rw [← hA, appO_length]
  have hTl : T.length = 16 := by rw [← hT, tagO_length]
  have hbox : sealO k n e p = A ++ T := by unfold sealO; rw [hA, hT]
  have q3 : ∀ w, Calls Tryd.prog 20 #[.string (bs k), .string (bs n), .string (bs e), .string (bs p)] w fun r w' => r = .returned (.tuple #[.string (bs (A ++ T)), .int .i64 0]) ∧ Below w.heap.size w w' := fun w => by
    rw [← hbox]; exact seal_ok k n e p w hkl hnl (by omega) (by omega)
  have q4 : ∀ w, Calls Tryd.prog 26 #[.string (bs k), .string (bs n), .int .i64 0] w fun r w' => r = .returned (.tuple #[.string (bs (blockO k n 0)), .int .i64 0]) ∧ Below w.heap.size w w' := fun w => block_ok k n 0 w hkl hnl (by decide)
  have q5 : ∀ w, Calls Tryd.prog 27 #[.string (bs e)] w fun r w' => r = .returned (.string (bs (padO e))) ∧ Below w.heap.size w w' := fun w => up_any e w (by omega)
  have q6 : ∀ w, Calls Tryd.prog 27 #[.string (bs A)] w fun r w' => r = .returned (.string (bs (padO A))) ∧ Below w.heap.size w w' := fun w => up_any A w (by omega)
  have q7 : ∀ w, Calls Tryd.prog 29 #[.int .i64 ((bs e).size : Int)] w fun r w' => r = .returned (.string (bs (octV e.length 8))) ∧ Below w.heap.size w w' := fun w => sizeQ_any e.length w (by omega)
  obtain ⟨L, hL⟩ : ∃ L, p.length = L := ⟨_, rfl⟩
  have q8 : ∀ w, Calls Tryd.prog 29 #[.int .i64 (L : Int)] w fun r w' => r = .returned (.string (bs (octV A.length 8))) ∧ Below w.heap.size w w' := fun w => by
    have := sizeQ_any L w (by omega)
    rw [hAl, hL]
    exact this
  have hcov : bs (padO e) ++ bs (padO A) ++ bs (octV e.length 8) ++ bs (octV A.length 8) = bs (covO e A) := by
    rw [← bs_append, ← bs_append, ← bs_append, covO, List.append_assoc (padO e ++ padO A)]
  have q9 : ∀ w, Calls Tryd.prog 16 #[.string (bs (bkO k n)), .string (bs (padO e) ++ bs (padO A) ++ bs (octV e.length 8) ++ bs (octV A.length 8))] w fun r w' => r = .returned (.tuple #[.string (bs T), .int .i64 0]) ∧ Below w.heap.size w w' := fun w => by
    rw [hcov, ← hT]; exact tag_ok _ _ w (bkO_length k n) (by have := covO_length e A; omega)
  have hBl : (A ++ T).length = L + 16 := by rw [List.length_append]; omega
  have sp : (bs p).size = L := hL
  have sB : (bs (A ++ T)).size = L + 16 := by rw [bs_size]; exact hBl
  have sO : (bs (blockO k n 0)).size = 64 := by rw [bs_size, blockO_length]
  have t1 : (bs (padO e)).size ≤ 300 := by rw [bs_size]; have := padO_length e; omega
  have t2 : (bs (padO A)).size ≤ 300 := by rw [bs_size]; have := padO_length A; omega
  have t3 : (bs (octV e.length 8)).size = 8 := by rw [bs_size, octV_length]
  have t4 : (bs (octV A.length 8)).size = 8 := by rw [bs_size, octV_length]
  have hsl : ∀ wx : World, (Instr.slice 9 (.string (bs (A ++ T))) none (some (.int .i64 (L : Int))) none).run Tryd.prog wx = .ok (.string (bs A)) wx := fun wx => by
    have := run_slice_string_h (P := Tryd.prog) (w := wx) (t := 9) (s := bs (A ++ T)) Tryd.underlying9 .i64 (L : Int) (by omega) (by rw [bs_size, hBl]; omega)
    rw [this, show ((L : Int)).toNat = A.length by omega, bs_ext_l]
  have hsm : ∀ wx : World, (Instr.slice 9 (.string (bs (A ++ T))) (some (.int .i64 (L : Int))) none none).run Tryd.prog wx = .ok (.string (bs T)) wx := fun wx => by
    have := run_slice_string_l (P := Tryd.prog) (w := wx) 9 (s := bs (A ++ T)) Tryd.underlying9 .i64 (L : Int) (by omega) (by rw [bs_size, hBl]; omega)
    rw [this, show ((L : Int)).toNat = A.length by omega, bs_size, List.length_append, hTl, bs_ext_r A T hTl]
  have hso : ∀ wx : World, (Instr.slice 9 (.string (bs (blockO k n 0))) none (some (.int .i64 32)) none).run Tryd.prog wx = .ok (.string (bs (bkO k n))) wx := fun wx => by
    have := run_slice_string_h (P := Tryd.prog) (w := wx) (t := 9) (s := bs (blockO k n 0)) Tryd.underlying9 .i64 32 (by decide) (by rw [bs_size, blockO_length]; decide)
    rw [this, ext_bs, bs_data, List.drop_zero]; rfl
  have hL200 : L ≤ 200 := by omega
  have e3 : s3.extract 0 m3 = bs e := hz3
  have e4 : s4.extract 0 m4 = bs p := hz4
  obtain ⟨KK, hKK⟩ : ∃ Y : ByteArray, bs k = Y := ⟨_, rfl⟩
  obtain ⟨NN', hNN⟩ : ∃ Y : ByteArray, bs n = Y := ⟨_, rfl⟩
  obtain ⟨EE, hEE⟩ : ∃ Y : ByteArray, bs e = Y := ⟨_, rfl⟩
  obtain ⟨PP, hPP⟩ : ∃ Y : ByteArray, bs p = Y := ⟨_, rfl⟩
  obtain ⟨AA, hAA⟩ : ∃ Y : ByteArray, bs A = Y := ⟨_, rfl⟩
  obtain ⟨TT, hTT⟩ : ∃ Y : ByteArray, bs T = Y := ⟨_, rfl⟩
  obtain ⟨BB, hBB⟩ : ∃ Y : ByteArray, bs (A ++ T) = Y := ⟨_, rfl⟩
  obtain ⟨OO, hOO⟩ : ∃ Y : ByteArray, bs (blockO k n 0) = Y := ⟨_, rfl⟩
  obtain ⟨OK, hOK⟩ : ∃ Y : ByteArray, bs (bkO k n) = Y := ⟨_, rfl⟩
  obtain ⟨U1, hU1⟩ : ∃ Y : ByteArray, bs (padO e) = Y := ⟨_, rfl⟩
  obtain ⟨U2, hU2⟩ : ∃ Y : ByteArray, bs (padO A) = Y := ⟨_, rfl⟩
  obtain ⟨C1, hC1⟩ : ∃ Y : ByteArray, bs (octV e.length 8) = Y := ⟨_, rfl⟩
  obtain ⟨C2, hC2⟩ : ∃ Y : ByteArray, bs (octV A.length 8) = Y := ⟨_, rfl⟩
  rw [hKK] at q1 q3 q4
  rw [hNN] at q2 q3 q4
  rw [hEE] at q3 q5 q7 e3
  rw [hPP] at q3 e4 sp
  rw [hAA] at q6 hsl
  rw [hTT] at q9 hsm
  rw [hBB] at q3 sB hsl hsm
  rw [hOO] at q4 sO hso
  rw [hOK] at q9 hso
  rw [hU1] at q5 q9 t1
  rw [hU2] at q6 q9 t2
  rw [hC1] at q7 q9 t3
  rw [hC2] at q8 q9 t4
  have Q1 := Lib.hid q1
  have Q2 := Lib.hid q2
  have Q3 := Lib.hid q3
  have Q4 := Lib.hid q4
  have Q5 := Lib.hid q5
  have Q6 := Lib.hid q6
  have Q7 := Lib.hid q7
  have Q8 := Lib.hid q8
  have Q9 := Lib.hid q9
  have E3 := Lib.hid e3
  have E4 := Lib.hid e4
  have HSL := Lib.hid hsl
  have HSM := Lib.hid hsm
  have HSO := Lib.hid hso
  clear q1 q2 q3 q4 q5 q6 q7 q8 q9 hBl hsl hsm hso hbox hA hT hAl hTl hcov hKK hNN hEE hPP hAA hTT hBB hOO hOK hU1 hU2 hC1 hC2 hk hn hkl hnl hz1 hz2 hz3 hz4 hl1 hl2 hl3 hl4 hL hD e3 e4
  go_enter Tryd.func6, Tryd.ntmps6
  go_wp2_with fail
  refine (worksQ_true _ K0.d).mono ?_
  rintro e W1 ⟨rfl, hb⟩
  have K1 := K0.step hb
  clear hb K0
  go_upto_region 3 with fail
  go_cut [0, 1, 2, 3] (fun a0 a1 a2 a3 wx => a0 = .string KK ∧ a1 = .string NN' ∧ a2 = .string EE ∧ a3 = .string PP ∧ Wk w wx [])
  case first =>
    have e3 := E3.out
    have e4 := E4.out
    refine region_anyC (fun _ => True) (fun _ => True) [] (by kernel_rfl) ?_
    refine anyC_takeS (i := 0) (oi := ⟨some 17, _, _, _, _, _⟩) (v := _) rfl (by kernel_rfl) (by kernel_rfl) (by kernel_rfl) (by kernel_rfl) (fun _ _ _ h => h) (Or.inl ⟨by rfl, fun w' hw' => (by clear hw'; go_simp; try with_reducible rfl)⟩) trivial (fun _ => trivial) ?_
    try simp only [Act.put, List.setIfInBounds_toArray, List.set_cons_zero, List.set_cons_succ]
    refine anyC_takeS (i := 1) (oi := ⟨some 18, _, _, _, _, _⟩) (v := _) rfl (by kernel_rfl) (by kernel_rfl) (by kernel_rfl) (by kernel_rfl) (fun _ _ _ h => h) (Or.inl ⟨by rfl, fun w' hw' => (by clear hw'; go_simp; try with_reducible rfl)⟩) trivial (fun _ => trivial) ?_
    try simp only [Act.put, List.setIfInBounds_toArray, List.set_cons_zero, List.set_cons_succ]
    refine anyC_takeS (i := 2) (oi := ⟨some 19, _, _, _, _, _⟩) (v := _) rfl (by kernel_rfl) (by kernel_rfl) (by kernel_rfl) (by kernel_rfl) (fun _ _ _ h => h) (Or.inl ⟨by rfl, fun w' hw' => (by clear hw'; go_simp; try with_reducible rfl)⟩) trivial (fun _ => trivial) ?_
    try simp only [Act.put, List.setIfInBounds_toArray, List.set_cons_zero, List.set_cons_succ]
    refine anyC_takeS (i := 3) (oi := ⟨some 20, _, _, _, _, _⟩) (v := _) rfl (by kernel_rfl) (by kernel_rfl) (by kernel_rfl) (by kernel_rfl) (fun _ _ _ h => h) (Or.inl ⟨by rfl, fun w' hw' => (by clear hw'; go_simp; try with_reducible rfl)⟩) trivial (fun _ => trivial) ?_
    try simp only [Act.put, List.setIfInBounds_toArray, List.set_cons_zero, List.set_cons_succ]
    refine anyC_takeS (i := 4) (oi := ⟨some 21, _, _, _, _, _⟩) (v := _) rfl (by kernel_rfl) (by kernel_rfl) (by kernel_rfl) (by kernel_rfl) (fun _ _ _ h => h) (Or.inl ⟨by rfl, fun w' hw' => (by clear hw'; go_simp; try with_reducible rfl)⟩) trivial (fun _ => trivial) ?_
    try simp only [Act.put, List.setIfInBounds_toArray, List.set_cons_zero, List.set_cons_succ]
    refine anyC_takeS (i := 6) (oi := ⟨some 23, _, _, _, _, _⟩) (v := _) rfl (by kernel_rfl) (by kernel_rfl) (by kernel_rfl) (by kernel_rfl) (fun _ _ _ h => h) (Or.inl ⟨by rfl, fun w' hw' => (by clear hw'; go_simp; try with_reducible rfl)⟩) trivial (fun _ => trivial) ?_
    try simp only [Act.put, List.setIfInBounds_toArray, List.set_cons_zero, List.set_cons_succ]
    refine anyC_takeS (i := 7) (oi := ⟨some 24, _, _, _, _, _⟩) (v := _) rfl (by kernel_rfl) (by kernel_rfl) (by kernel_rfl) (by kernel_rfl) (fun _ _ _ h => h) (Or.inl ⟨by rfl, fun w' hw' => (by clear hw'; go_simp; try with_reducible rfl)⟩) trivial (fun _ => trivial) ?_
    try simp only [Act.put, List.setIfInBounds_toArray, List.set_cons_zero, List.set_cons_succ]
    refine anyC_takeS (i := 8) (oi := ⟨some 25, _, _, _, _, _⟩) (v := _) rfl (by kernel_rfl) (by kernel_rfl) (by kernel_rfl) (by kernel_rfl) (fun _ _ _ h => h) (Or.inl ⟨by rfl, fun w' hw' => (by clear hw'; go_simp; try with_reducible rfl)⟩) trivial (fun _ => trivial) ?_
    try simp only [Act.put, List.setIfInBounds_toArray, List.set_cons_zero, List.set_cons_succ]
    refine anyC_takeS (i := 9) (oi := ⟨some 26, _, _, _, _, _⟩) (v := _) rfl (by kernel_rfl) (by kernel_rfl) (by kernel_rfl) (by kernel_rfl) (fun _ _ _ h => h) (Or.inl ⟨by rfl, fun w' hw' => (by clear hw'; go_simp; try with_reducible rfl)⟩) trivial (fun _ => trivial) ?_
    try simp only [Act.put, List.setIfInBounds_toArray, List.set_cons_zero, List.set_cons_succ]
    refine anyC_takeS (i := 10) (oi := ⟨some 27, _, _, _, _, _⟩) (v := _) rfl (by kernel_rfl) (by kernel_rfl) (by kernel_rfl) (by kernel_rfl) (fun _ _ _ h => h) (Or.inl ⟨by rfl, fun w' hw' => (by clear hw'; go_simp; try with_reducible rfl)⟩) trivial (fun _ => trivial) ?_
    try simp only [Act.put, List.setIfInBounds_toArray, List.set_cons_zero, List.set_cons_succ]
    refine anyC_takeS (i := 12) (oi := ⟨some 29, _, _, _, _, _⟩) (v := _) rfl (by kernel_rfl) (by kernel_rfl) (by kernel_rfl) (by kernel_rfl) (fun _ _ _ h => h) (Or.inl ⟨by rfl, fun w' hw' => (by clear hw'; go_simp; try with_reducible rfl)⟩) trivial (fun _ => trivial) ?_
    try simp only [Act.put, List.setIfInBounds_toArray, List.set_cons_zero, List.set_cons_succ]
    refine anyC_takeS (i := 13) (oi := ⟨some 30, _, _, _, _, _⟩) (v := _) rfl (by kernel_rfl) (by kernel_rfl) (by kernel_rfl) (by kernel_rfl) (fun _ _ _ h => h) (Or.inl ⟨by rfl, fun w' hw' => (by clear hw'; go_simp; try with_reducible rfl)⟩) trivial (fun _ => trivial) ?_
    try simp only [Act.put, List.setIfInBounds_toArray, List.set_cons_zero, List.set_cons_succ]
    refine anyC_takeS (i := 14) (oi := ⟨some 31, _, _, _, _, _⟩) (v := _) rfl (by kernel_rfl) (by kernel_rfl) (by kernel_rfl) (by kernel_rfl) (fun _ _ _ h => h) (Or.inl ⟨by rfl, fun w' hw' => (by clear hw'; go_simp; try with_reducible rfl)⟩) trivial (fun _ => trivial) ?_
    try simp only [Act.put, List.setIfInBounds_toArray, List.set_cons_zero, List.set_cons_succ]
    refine anyC_takeS (i := 15) (oi := ⟨some 32, _, _, _, _, _⟩) (v := _) rfl (by kernel_rfl) (by kernel_rfl) (by kernel_rfl) (by kernel_rfl) (fun _ _ _ h => h) (Or.inl ⟨by rfl, fun w' hw' => (by clear hw'; go_simp; try with_reducible rfl)⟩) trivial (fun _ => trivial) ?_
    try simp only [Act.put, List.setIfInBounds_toArray, List.set_cons_zero, List.set_cons_succ]
    refine anyC_takeS (i := 16) (oi := ⟨some 33, _, _, _, _, _⟩) (v := _) rfl (by kernel_rfl) (by kernel_rfl) (by kernel_rfl) (by kernel_rfl) (fun _ _ _ h => h) (Or.inl ⟨by rfl, fun w' hw' => (by clear hw'; go_simp; try with_reducible rfl)⟩) trivial (fun _ => trivial) ?_
    try simp only [Act.put, List.setIfInBounds_toArray, List.set_cons_zero, List.set_cons_succ]
    refine anyC_takeS (i := 17) (oi := ⟨some 34, _, _, _, _, _⟩) (v := _) rfl (by kernel_rfl) (by kernel_rfl) (by kernel_rfl) (by kernel_rfl) (fun _ _ _ h => h) (Or.inl ⟨by rfl, fun w' hw' => (by clear hw'; go_simp; try with_reducible rfl)⟩) trivial (fun _ => trivial) ?_
    try simp only [Act.put, List.setIfInBounds_toArray, List.set_cons_zero, List.set_cons_succ]
    refine anyC_takeS (i := 18) (oi := ⟨some 35, _, _, _, _, _⟩) (v := _) rfl (by kernel_rfl) (by kernel_rfl) (by kernel_rfl) (by kernel_rfl) (fun _ _ _ h => h) (Or.inl ⟨by rfl, fun w' hw' => (by clear hw'; go_simp; try with_reducible rfl)⟩) trivial (fun _ => trivial) ?_
    try simp only [Act.put, List.setIfInBounds_toArray, List.set_cons_zero, List.set_cons_succ]
    refine anyC_takeS (i := 19) (oi := ⟨some 36, _, _, _, _, _⟩) (v := _) rfl (by kernel_rfl) (by kernel_rfl) (by kernel_rfl) (by kernel_rfl) (fun _ _ _ h => h) (Or.inl ⟨by rfl, fun w' hw' => (by clear hw'; go_simp; try with_reducible rfl)⟩) trivial (fun _ => trivial) ?_
    try simp only [Act.put, List.setIfInBounds_toArray, List.set_cons_zero, List.set_cons_succ]
    refine anyC_takeS (i := 20) (oi := ⟨some 37, _, _, _, _, _⟩) (v := _) rfl (by kernel_rfl) (by kernel_rfl) (by kernel_rfl) (by kernel_rfl) (fun _ _ _ h => h) (Or.inl ⟨by rfl, fun w' hw' => (by clear hw'; go_simp; try with_reducible rfl)⟩) trivial (fun _ => trivial) ?_
    try simp only [Act.put, List.setIfInBounds_toArray, List.set_cons_zero, List.set_cons_succ]
    refine anyC_takeS (i := 21) (oi := ⟨some 38, _, _, _, _, _⟩) (v := _) rfl (by kernel_rfl) (by kernel_rfl) (by kernel_rfl) (by kernel_rfl) (fun _ _ _ h => h) (Or.inl ⟨by rfl, fun w' hw' => (by clear hw'; go_simp; try with_reducible rfl)⟩) trivial (fun _ => trivial) ?_
    try simp only [Act.put, List.setIfInBounds_toArray, List.set_cons_zero, List.set_cons_succ]
    refine anyC_keep (i := 5) (o := ⟨some 22, _, _, _, _, _⟩) (by kernel_rfl) rfl (fun K hK => ?_)
    rw [if_pos (by rfl)]
    go_wp2_with (go_at_call 14; (with_reducible refine (Q1.out _).mono ?_); rintro e V0 ⟨rfl, hb⟩)
    have KA := (K1.drew).step hb
    refine hK.out _ _ ⟨trivial, fun _ => trivial⟩ ?_
    clear hK K hb
    try simp only [Act.put, List.setIfInBounds_toArray, List.set_cons_zero, List.set_cons_succ]
    refine anyC_keep (i := 11) (o := ⟨some 28, _, _, _, _, _⟩) (by kernel_rfl) rfl (fun K hK => ?_)
    rw [if_pos (by rfl)]
    go_wp2_with (go_at_call 14; (with_reducible refine (Q2.out _).mono ?_); rintro e V1 ⟨rfl, hb⟩)
    have KB := KA.step hb
    refine hK.out _ _ ⟨trivial, fun _ => trivial⟩ ?_
    clear hK K hb
    try simp only [Act.put, List.setIfInBounds_toArray, List.set_cons_zero, List.set_cons_succ]
    refine anyC_takeS (i := 22) (oi := ⟨some 0, _, _, _, _, _⟩) (v := _) rfl (by kernel_rfl) (by kernel_rfl) (by kernel_rfl) (by kernel_rfl) (fun _ _ _ h => h) (Or.inl ⟨by rfl, fun w' hw' => (by clear hw'; go_simp; try with_reducible rfl)⟩) trivial (fun _ => trivial) ?_
    try simp only [Act.put, List.setIfInBounds_toArray, List.set_cons_zero]
    refine anyC_takeS (i := 23) (oi := ⟨some 1, _, _, _, _, _⟩) (v := _) rfl (by kernel_rfl) (by kernel_rfl) (by kernel_rfl) (by kernel_rfl) (fun _ _ _ h => h) (Or.inl ⟨by rfl, fun w' hw' => (by clear hw'; go_simp; try with_reducible rfl)⟩) trivial (fun _ => trivial) ?_
    try simp only [Act.put, List.setIfInBounds_toArray, List.set_cons_zero, List.set_cons_succ]
    refine anyC_takeS (i := 24) (oi := ⟨some 2, _, _, _, _, _⟩) (v := _) rfl (by kernel_rfl) (by kernel_rfl) (by kernel_rfl) (by kernel_rfl) (fun _ _ _ h => h) (Or.inl ⟨by rfl, fun w' hw' => (by clear hw'; go_simp; try with_reducible rfl)⟩) trivial (fun _ => trivial) ?_
    try simp only [Act.put, List.setIfInBounds_toArray, List.set_cons_zero, List.set_cons_succ]
    refine anyC_takeS (i := 25) (oi := ⟨some 3, _, _, _, _, _⟩) (v := _) rfl (by kernel_rfl) (by kernel_rfl) (by kernel_rfl) (by kernel_rfl) (fun _ _ _ h => h) (Or.inl ⟨by rfl, fun w' hw' => (by clear hw'; go_simp; try with_reducible rfl)⟩) trivial (fun _ => trivial) ?_
    try simp only [Act.put, List.setIfInBounds_toArray, List.set_cons_zero, List.set_cons_succ]
    refine anyC_done (by kernel_rfl) ?_ _
    go_wp2_with fail
    go_meet
    exact ⟨rfl, rfl, rfl, rfl, KB⟩
  case rest =>
    obtain ⟨rfl, rfl, rfl, rfl, K2⟩ := hcut
    clear K1
    go_upto_region 10 with (first
      | (go_at_call 20; (with_reducible refine (Q3.out _).mono ?_); rintro e V ⟨rfl, hb⟩; have K3 := Wk.step K2 hb; clear hb)
      | (go_at_call 26; (with_reducible refine (Q4.out _).mono ?_); rintro e V ⟨rfl, hb⟩; have K4 := Wk.step K3 hb; clear hb))
    have hsl := HSL.out
    have hsm := HSM.out
    have hso := HSO.out
    have c1 : ∀ wx : World, (Op.stringOp .add U1 U2).run Tryd.prog wx = .ok (.string (U1 ++ U2)) wx := fun wx => run_string_add wx U1 U2 (by omega) (by omega)
    have c2 : ∀ wx : World, (Op.stringOp .add (U1 ++ U2) C1).run Tryd.prog wx = .ok (.string (U1 ++ U2 ++ C1)) wx := fun wx => run_string_add wx _ C1 (by rw [ByteArray.size_append]; omega) (by omega)
    have c3 : ∀ wx : World, (Op.stringOp .add (U1 ++ U2 ++ C1) C2).run Tryd.prog wx = .ok (.string (U1 ++ U2 ++ C1 ++ C2)) wx := fun wx => run_string_add wx _ C2 (by rw [ByteArray.size_append, ByteArray.size_append]; omega) (by omega)
    clear K2 K3 t1 t2 t3 t4
    go_region_held3 (fun _ => True)
      (first | trivial)
      (first
      | (go_at_call 24; (with_reducible refine (sameQ_any _ _).mono ?_); rintro e X ⟨rfl, rfl⟩)
      | (go_at_call 27; (first | ((with_reducible refine (Q5.out _).mono ?_); rintro e V ⟨rfl, hb⟩; (repeat (with_reducible replace hb := bel_of_drew hb)); obtain ⟨K5, hp5, hz5⟩ := Wk.cell1 K4 hb; clear hb) | ((with_reducible refine (Q6.out _).mono ?_); rintro e V ⟨rfl, hb⟩; obtain ⟨K6, hp6, hz6⟩ := Wk.keep1 K5 hp5 hz5 hb; clear hb)))
      | (go_at_call 29; (first | ((with_reducible refine (Q7.out _).mono ?_); rintro e V ⟨rfl, hb⟩; obtain ⟨K7, hp7, hz7⟩ := Wk.keep1 K6 hp6 hz6 hb; clear hb) | ((with_reducible refine (Q8.out _).mono ?_); rintro e V ⟨rfl, hb⟩; obtain ⟨K8, hp8, hz8⟩ := Wk.keep1 K7 hp7 hz7 hb; clear hb)))
      | (go_at_call 16; (with_reducible refine (Q9.out _).mono ?_); rintro e V ⟨rfl, hb⟩; obtain ⟨K9, hp9, hz9⟩ := Wk.keep1 K8 hp8 hz8 hb; clear hb)
      | (go_at_call 52; (with_reducible refine (sameQ1_yes _ _ _ hp9).mono ?_); rintro e V ⟨rfl, rfl⟩))
    all_goals go_wp2_with fail
    all_goals go_ret
    all_goals exact ⟨rfl, K9.b⟩
end Go.Proofs.YtnfefkcfifnjnaaDoor
