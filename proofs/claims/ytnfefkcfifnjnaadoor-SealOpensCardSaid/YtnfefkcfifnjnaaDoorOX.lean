/- The walk of SealOpens. -/
import Derived.Test.YtnfefkcfifnjnaaDoorSX
import Derived.Test.YtnfefkcfifnjnaaDoorWB
namespace Go.Proofs.YtnfefkcfifnjnaaDoor
open Go.RowKit Go.ChangeShapes
theorem appO_get (k n : List UInt8) (c : Nat) (s : List UInt8) (i : Nat) (h : i < s.length) : (appO k n c s).getD i 0 = s.getD i 0 ^^^ strB k n c i := by simp [appO, appN, List.getD_eq_getElem?_getD, h]
theorem appO_back (k n : List UInt8) (c : Nat) (s : List UInt8) : appO k n c (appO k n c s) = s := by
  apply list_ext_getD
  · rw [appO_length, appO_length]
  · intro i hi
    rw [appO_length, appO_length] at hi
    rw [appO_get _ _ _ _ _ (by rw [appO_length]; exact hi), appO_get _ _ _ _ _ hi, UInt8.xor_assoc, UInt8.xor_self, UInt8.xor_zero]
theorem xor_ne (x : UInt8) (c : Nat) (h0 : c ≠ 0) (h1 : c < 256) : x ^^^ UInt8.ofNat c ≠ x := fun e => by
  have e2 : x ^^^ (x ^^^ UInt8.ofNat c) = x ^^^ x := by rw [e]
  rw [← UInt8.xor_assoc, UInt8.xor_self, UInt8.zero_xor] at e2
  have e3 := congrArg UInt8.toNat e2
  rw [UInt8.toNat_ofNat_of_lt' (show c < 256 from h1)] at e3
  exact h0 e3
theorem set_ne (l : List UInt8) (r : Nat) (x : UInt8) (hr : r < l.length) (hx : x ≠ l.getD r 0) : l.set r x ≠ l := fun e => by
  have := congrArg (fun l => l.getD r 0) e
  simp only [List.getD_eq_getElem?_getD, List.getElem?_set_self hr] at this
  exact hx (by rw [List.getD_eq_getElem?_getD]; exact this)
theorem Oc.alloc {w : World} {g : Nat} {l : List UInt8} (h : Oc w g l) (hg : g < w.heap.size) (o : Obj) : Oc (w.alloc o) g l := h.below ((Below.refl _ _).alloc (Nat.le_refl _) o) hg
set_option maxRecDepth 1000000 in
set_option maxHeartbeats 8000000 in
theorem opens_true (s1 s2 s3 s4 : ByteArray) (a c : Nat) (w : World) (hD : Digits w) (_h1 : s1.size ≤ maxLen) (_h2 : s2.size ≤ maxLen) (_h3 : s3.size ≤ maxLen) (_h4 : s4.size ≤ maxLen) (ha : a ≤ 255) (hc : c ≤ 255) :
    Calls Tryd.prog 5 #[.string s1, .string s2, .string s3, .string s4, .int .u8 (a : Int), .int .u8 (c : Int)] w fun e w' => e = .returned (.bool true) ∧ Below w.heap.size w w' := by
  have K0 := Wk.start hD
  unfold maxLen at _h1 _h2 _h3 _h4
  obtain ⟨m1, z1, hz1, hl1, i1, j1⟩ := cut_m s1 32 32 rfl
  obtain ⟨m2, z2, hz2, hl2, i2, j2⟩ := cut_m s2 12 12 rfl
  obtain ⟨m3, e, hz3, hl3, i3, j3⟩ := cut_m s3 100 100 rfl
  obtain ⟨m4, p, hz4, hl4, i4, j4⟩ := cut_m s4 200 200 rfl
  obtain ⟨k, hk⟩ : ∃ k, sizL z1 32 = k := ⟨_, rfl⟩
  obtain ⟨n, hn⟩ : ∃ k, sizL z2 12 = k := ⟨_, rfl⟩
  have hkl : k.length = 32 := by rw [← hk, sizL_length]
  have hnl : n.length = 12 := by rw [← hn, sizL_length]
  have q1 : ∀ w, Calls Tryd.prog 14 #[.string (s1.extract 0 m1), .int .i64 32] w fun e w' => e = .returned (.string (bs k)) ∧ Below w.heap.size w w' := fun w => by
    rw [← hk, hz1]; exact sized_any z1 32 w (by decide) (by omega)
  have q2 : ∀ w, Calls Tryd.prog 14 #[.string (s2.extract 0 m2), .int .i64 12] w fun e w' => e = .returned (.string (bs n)) ∧ Below w.heap.size w w' := fun w => by
    rw [← hn, hz2]; exact sized_any z2 12 w (by decide) (by omega)
  obtain ⟨A, hA⟩ : ∃ A, appO k n 1 p = A := ⟨_, rfl⟩
  obtain ⟨T, hT⟩ : ∃ T, tagO (bkO k n) (covO e A) = T := ⟨_, rfl⟩
  have hAl : A.length = p.length := by rw [← hA, appO_length]
  have hTl : T.length = 16 := by rw [← hT, tagO_length]
  have hbox : sealO k n e p = A ++ T := by unfold sealO; rw [hA, hT]
  have q3 : ∀ w, Calls Tryd.prog 20 #[.string (bs k), .string (bs n), .string (bs e), .string (bs p)] w fun r w' => r = .returned (.tuple #[.string (bs (A ++ T)), .int .i64 0]) ∧ Below w.heap.size w w' := fun w => by
    rw [← hbox]; exact seal_ok k n e p w hkl hnl (by omega) (by omega)
  have q4 : ∀ w, Calls Tryd.prog 23 #[.string (bs k), .string (bs n), .int .i64 1, .string (bs p)] w fun r w' => r = .returned (.tuple #[.string (bs A), .int .i64 0]) ∧ Below w.heap.size w w' := fun w => by
    rw [← hA]; exact apply_ok k n 1 p w hkl hnl (by decide) (by omega) (by omega)
  have q5 : ∀ w, Calls Tryd.prog 22 #[.string (bs k), .string (bs n), .string (bs e), .string (bs (A ++ T))] w fun r w' => r = .returned (.tuple #[.string (bs p), .int .i64 0]) ∧ Below w.heap.size w w' := fun w => by
    have h := open_raw k n e A T w hkl hnl (by omega) (by omega) hTl true (by rw [hT]; simp)
    rw [← hA, appO_back, hA] at h
    exact h
  obtain ⟨r, hr⟩ : ∃ r, a % 16 = r := ⟨_, rfl⟩
  have hr16 : r < 16 := by omega
  obtain ⟨L, hL⟩ : ∃ L, p.length = L := ⟨_, rfl⟩
  obtain ⟨x, hx⟩ : ∃ x, T.getD r 0 = x := ⟨_, rfl⟩
  obtain ⟨v, hv⟩ : ∃ v, x ^^^ UInt8.ofNat c = v := ⟨_, rfl⟩
  obtain ⟨X, hX⟩ : ∃ X, T.set r v = X := ⟨_, rfl⟩
  have hXl : X.length = 16 := by rw [← hX, List.length_set]; exact hTl
  have hset : (A ++ T).set (L + r) v = A ++ X := by
    rw [List.set_append_right _ _ (by omega), show L + r - A.length = r by omega, hX]
  have hget : (A ++ T).getD (L + r) 0 = x := by
    rw [List.getD_eq_getElem?_getD, List.getElem?_append_right (by omega), show L + r - A.length = r by omega, ← List.getD_eq_getElem?_getD, hx]
  have q6 : c ≠ 0 → ∀ w, Calls Tryd.prog 22 #[.string (bs k), .string (bs n), .string (bs e), .string (bs (A ++ X))] w fun r w' => r = .returned (.tuple #[.string ⟨#[]⟩, .int .i64 9]) ∧ Below w.heap.size w w' := fun hc0 w => by
    have hne : X ≠ T := by rw [← hX]; exact set_ne T r _ (by omega) (by rw [hx, ← hv]; exact xor_ne x c hc0 (by omega))
    exact open_raw k n e A X w hkl hnl (by omega) (by omega) hXl false (by rw [hT]; simp [hne])
  have hxor : bits .xor .u8 (x.toNat : Int) (c : Int) = (v.toNat : Int) := by
    have := u8_xor x (UInt8.ofNat c)
    rw [UInt8.toNat_ofNat_of_lt' (show c < 256 by omega), hv] at this
    exact this
  have hBl : (A ++ T).length = L + 16 := by rw [List.length_append]; omega
  have sA : (bs A).size = L := by rw [bs_size]; omega
  have sp : (bs p).size = L := hL
  have sB : (bs (A ++ T)).size = L + 16 := by rw [bs_size]; exact hBl
  have hsl : ∀ wx : World, (Instr.slice 9 (.string (bs (A ++ T))) none (some (.int .i64 (L : Int))) none).run Tryd.prog wx = .ok (.string (bs A)) wx := fun wx => by
    have := run_slice_string_h (P := Tryd.prog) (w := wx) (t := 9) (s := bs (A ++ T)) Tryd.underlying9 .i64 (L : Int) (by omega) (by rw [bs_size, hBl]; omega)
    rw [this, show ((L : Int)).toNat = A.length by omega, bs_ext_l]
  have hL200 : L ≤ 200 := by omega
  have e3 : s3.extract 0 m3 = bs e := hz3
  have e4 : s4.extract 0 m4 = bs p := hz4
  have hbm := fun (w : World) => bytes_made (bs (A ++ T)) w
  rw [sB, bs_data] at hbm
  obtain ⟨KK, hKK⟩ : ∃ Y : ByteArray, bs k = Y := ⟨_, rfl⟩
  obtain ⟨NN', hNN⟩ : ∃ Y : ByteArray, bs n = Y := ⟨_, rfl⟩
  obtain ⟨EE, hEE⟩ : ∃ Y : ByteArray, bs e = Y := ⟨_, rfl⟩
  obtain ⟨PP, hPP⟩ : ∃ Y : ByteArray, bs p = Y := ⟨_, rfl⟩
  obtain ⟨AA, hAA⟩ : ∃ Y : ByteArray, bs A = Y := ⟨_, rfl⟩
  obtain ⟨BB, hBB⟩ : ∃ Y : ByteArray, bs (A ++ T) = Y := ⟨_, rfl⟩
  obtain ⟨CC, hCC⟩ : ∃ Y : ByteArray, bs (A ++ X) = Y := ⟨_, rfl⟩
  rw [hKK] at q1 q3 q4 q5 q6
  rw [hNN] at q2 q3 q4 q5 q6
  rw [hEE] at q3 q5 q6 e3
  rw [hPP] at q3 q4 q5 e4 sp
  rw [hAA] at q4 sA hsl
  rw [hBB] at q3 q5 sB hsl hbm
  rw [hCC] at q6
  have Q1 := Lib.hid q1
  have Q2 := Lib.hid q2
  have Q3 := Lib.hid q3
  have Q4 := Lib.hid q4
  have Q5 := Lib.hid q5
  have Q6 := Lib.hid q6
  have HBM := Lib.hid hbm
  have E3 := Lib.hid e3
  have E4 := Lib.hid e4
  have HSET := Lib.hid hset
  have HGET := Lib.hid hget
  have HCC := Lib.hid hCC
  have HBL := Lib.hid hBl
  have HAL := Lib.hid (show (A ++ X).length = L + 16 by rw [List.length_append]; omega)
  have HR := Lib.hid hr
  have HSL := Lib.hid hsl
  have HXO := Lib.hid hxor
  clear hv q1 q2 q3 q4 q5 q6 hbm hset hget hBl hr hsl hbox hA hT hAl hTl hX hXl hx hKK hNN hEE hPP hAA hBB hCC hk hn hkl hnl hz1 hz2 hz3 hz4 hl1 hl2 hl3 hl4 hL hD e3 e4 hxor
  go_enter Tryd.func5, Tryd.ntmps5
  go_wp2_with fail
  refine (worksQ_true _ K0.d).mono ?_
  rintro e W1 ⟨rfl, hb⟩
  have K1 := K0.step hb
  clear hb K0
  go_upto_region 3 with fail
  go_cut [0, 1, 2, 3] (fun a0 a1 a2 a3 wx => a0 = .string KK ∧ a1 = .string NN' ∧ a2 = .string EE ∧ a3 = .string PP ∧ Wk w wx [])
  case first =>
    have e3 := E3.out
    have e4 := E4.out
    refine region_anyC (fun _ => True) (fun _ => True) [] (by kernel_rfl) ?_
    refine anyC_takeS (i := 0) (oi := ⟨some 20, _, _, _, _, _⟩) (v := _) rfl (by kernel_rfl) (by kernel_rfl) (by kernel_rfl) (by kernel_rfl) (fun _ _ _ h => h) (Or.inl ⟨by rfl, fun w' hw' => (by clear hw'; go_simp; try with_reducible rfl)⟩) trivial (fun _ => trivial) ?_
    try simp only [Act.put, List.setIfInBounds_toArray, List.set_cons_zero, List.set_cons_succ]
    refine anyC_takeS (i := 1) (oi := ⟨some 21, _, _, _, _, _⟩) (v := _) rfl (by kernel_rfl) (by kernel_rfl) (by kernel_rfl) (by kernel_rfl) (fun _ _ _ h => h) (Or.inl ⟨by rfl, fun w' hw' => (by clear hw'; go_simp; try with_reducible rfl)⟩) trivial (fun _ => trivial) ?_
    try simp only [Act.put, List.setIfInBounds_toArray, List.set_cons_zero, List.set_cons_succ]
    refine anyC_takeS (i := 2) (oi := ⟨some 22, _, _, _, _, _⟩) (v := _) rfl (by kernel_rfl) (by kernel_rfl) (by kernel_rfl) (by kernel_rfl) (fun _ _ _ h => h) (Or.inl ⟨by rfl, fun w' hw' => (by clear hw'; go_simp; try with_reducible rfl)⟩) trivial (fun _ => trivial) ?_
    try simp only [Act.put, List.setIfInBounds_toArray, List.set_cons_zero, List.set_cons_succ]
    refine anyC_takeS (i := 3) (oi := ⟨some 23, _, _, _, _, _⟩) (v := _) rfl (by kernel_rfl) (by kernel_rfl) (by kernel_rfl) (by kernel_rfl) (fun _ _ _ h => h) (Or.inl ⟨by rfl, fun w' hw' => (by clear hw'; go_simp; try with_reducible rfl)⟩) trivial (fun _ => trivial) ?_
    try simp only [Act.put, List.setIfInBounds_toArray, List.set_cons_zero, List.set_cons_succ]
    refine anyC_takeS (i := 4) (oi := ⟨some 24, _, _, _, _, _⟩) (v := _) rfl (by kernel_rfl) (by kernel_rfl) (by kernel_rfl) (by kernel_rfl) (fun _ _ _ h => h) (Or.inl ⟨by rfl, fun w' hw' => (by clear hw'; go_simp; try with_reducible rfl)⟩) trivial (fun _ => trivial) ?_
    try simp only [Act.put, List.setIfInBounds_toArray, List.set_cons_zero, List.set_cons_succ]
    refine anyC_takeS (i := 6) (oi := ⟨some 26, _, _, _, _, _⟩) (v := _) rfl (by kernel_rfl) (by kernel_rfl) (by kernel_rfl) (by kernel_rfl) (fun _ _ _ h => h) (Or.inl ⟨by rfl, fun w' hw' => (by clear hw'; go_simp; try with_reducible rfl)⟩) trivial (fun _ => trivial) ?_
    try simp only [Act.put, List.setIfInBounds_toArray, List.set_cons_zero, List.set_cons_succ]
    refine anyC_takeS (i := 7) (oi := ⟨some 27, _, _, _, _, _⟩) (v := _) rfl (by kernel_rfl) (by kernel_rfl) (by kernel_rfl) (by kernel_rfl) (fun _ _ _ h => h) (Or.inl ⟨by rfl, fun w' hw' => (by clear hw'; go_simp; try with_reducible rfl)⟩) trivial (fun _ => trivial) ?_
    try simp only [Act.put, List.setIfInBounds_toArray, List.set_cons_zero, List.set_cons_succ]
    refine anyC_takeS (i := 8) (oi := ⟨some 28, _, _, _, _, _⟩) (v := _) rfl (by kernel_rfl) (by kernel_rfl) (by kernel_rfl) (by kernel_rfl) (fun _ _ _ h => h) (Or.inl ⟨by rfl, fun w' hw' => (by clear hw'; go_simp; try with_reducible rfl)⟩) trivial (fun _ => trivial) ?_
    try simp only [Act.put, List.setIfInBounds_toArray, List.set_cons_zero, List.set_cons_succ]
    refine anyC_takeS (i := 9) (oi := ⟨some 29, _, _, _, _, _⟩) (v := _) rfl (by kernel_rfl) (by kernel_rfl) (by kernel_rfl) (by kernel_rfl) (fun _ _ _ h => h) (Or.inl ⟨by rfl, fun w' hw' => (by clear hw'; go_simp; try with_reducible rfl)⟩) trivial (fun _ => trivial) ?_
    try simp only [Act.put, List.setIfInBounds_toArray, List.set_cons_zero, List.set_cons_succ]
    refine anyC_takeS (i := 10) (oi := ⟨some 30, _, _, _, _, _⟩) (v := _) rfl (by kernel_rfl) (by kernel_rfl) (by kernel_rfl) (by kernel_rfl) (fun _ _ _ h => h) (Or.inl ⟨by rfl, fun w' hw' => (by clear hw'; go_simp; try with_reducible rfl)⟩) trivial (fun _ => trivial) ?_
    try simp only [Act.put, List.setIfInBounds_toArray, List.set_cons_zero, List.set_cons_succ]
    refine anyC_takeS (i := 12) (oi := ⟨some 32, _, _, _, _, _⟩) (v := _) rfl (by kernel_rfl) (by kernel_rfl) (by kernel_rfl) (by kernel_rfl) (fun _ _ _ h => h) (Or.inl ⟨by rfl, fun w' hw' => (by clear hw'; go_simp; try with_reducible rfl)⟩) trivial (fun _ => trivial) ?_
    try simp only [Act.put, List.setIfInBounds_toArray, List.set_cons_zero, List.set_cons_succ]
    refine anyC_takeS (i := 13) (oi := ⟨some 33, _, _, _, _, _⟩) (v := _) rfl (by kernel_rfl) (by kernel_rfl) (by kernel_rfl) (by kernel_rfl) (fun _ _ _ h => h) (Or.inl ⟨by rfl, fun w' hw' => (by clear hw'; go_simp; try with_reducible rfl)⟩) trivial (fun _ => trivial) ?_
    try simp only [Act.put, List.setIfInBounds_toArray, List.set_cons_zero, List.set_cons_succ]
    refine anyC_takeS (i := 14) (oi := ⟨some 34, _, _, _, _, _⟩) (v := _) rfl (by kernel_rfl) (by kernel_rfl) (by kernel_rfl) (by kernel_rfl) (fun _ _ _ h => h) (Or.inl ⟨by rfl, fun w' hw' => (by clear hw'; go_simp; try with_reducible rfl)⟩) trivial (fun _ => trivial) ?_
    try simp only [Act.put, List.setIfInBounds_toArray, List.set_cons_zero, List.set_cons_succ]
    refine anyC_takeS (i := 15) (oi := ⟨some 35, _, _, _, _, _⟩) (v := _) rfl (by kernel_rfl) (by kernel_rfl) (by kernel_rfl) (by kernel_rfl) (fun _ _ _ h => h) (Or.inl ⟨by rfl, fun w' hw' => (by clear hw'; go_simp; try with_reducible rfl)⟩) trivial (fun _ => trivial) ?_
    try simp only [Act.put, List.setIfInBounds_toArray, List.set_cons_zero, List.set_cons_succ]
    refine anyC_takeS (i := 16) (oi := ⟨some 36, _, _, _, _, _⟩) (v := _) rfl (by kernel_rfl) (by kernel_rfl) (by kernel_rfl) (by kernel_rfl) (fun _ _ _ h => h) (Or.inl ⟨by rfl, fun w' hw' => (by clear hw'; go_simp; try with_reducible rfl)⟩) trivial (fun _ => trivial) ?_
    try simp only [Act.put, List.setIfInBounds_toArray, List.set_cons_zero, List.set_cons_succ]
    refine anyC_takeS (i := 17) (oi := ⟨some 37, _, _, _, _, _⟩) (v := _) rfl (by kernel_rfl) (by kernel_rfl) (by kernel_rfl) (by kernel_rfl) (fun _ _ _ h => h) (Or.inl ⟨by rfl, fun w' hw' => (by clear hw'; go_simp; try with_reducible rfl)⟩) trivial (fun _ => trivial) ?_
    try simp only [Act.put, List.setIfInBounds_toArray, List.set_cons_zero, List.set_cons_succ]
    refine anyC_takeS (i := 18) (oi := ⟨some 38, _, _, _, _, _⟩) (v := _) rfl (by kernel_rfl) (by kernel_rfl) (by kernel_rfl) (by kernel_rfl) (fun _ _ _ h => h) (Or.inl ⟨by rfl, fun w' hw' => (by clear hw'; go_simp; try with_reducible rfl)⟩) trivial (fun _ => trivial) ?_
    try simp only [Act.put, List.setIfInBounds_toArray, List.set_cons_zero, List.set_cons_succ]
    refine anyC_takeS (i := 19) (oi := ⟨some 39, _, _, _, _, _⟩) (v := _) rfl (by kernel_rfl) (by kernel_rfl) (by kernel_rfl) (by kernel_rfl) (fun _ _ _ h => h) (Or.inl ⟨by rfl, fun w' hw' => (by clear hw'; go_simp; try with_reducible rfl)⟩) trivial (fun _ => trivial) ?_
    try simp only [Act.put, List.setIfInBounds_toArray, List.set_cons_zero, List.set_cons_succ]
    refine anyC_takeS (i := 20) (oi := ⟨some 40, _, _, _, _, _⟩) (v := _) rfl (by kernel_rfl) (by kernel_rfl) (by kernel_rfl) (by kernel_rfl) (fun _ _ _ h => h) (Or.inl ⟨by rfl, fun w' hw' => (by clear hw'; go_simp; try with_reducible rfl)⟩) trivial (fun _ => trivial) ?_
    try simp only [Act.put, List.setIfInBounds_toArray, List.set_cons_zero, List.set_cons_succ]
    refine anyC_takeS (i := 21) (oi := ⟨some 41, _, _, _, _, _⟩) (v := _) rfl (by kernel_rfl) (by kernel_rfl) (by kernel_rfl) (by kernel_rfl) (fun _ _ _ h => h) (Or.inl ⟨by rfl, fun w' hw' => (by clear hw'; go_simp; try with_reducible rfl)⟩) trivial (fun _ => trivial) ?_
    try simp only [Act.put, List.setIfInBounds_toArray, List.set_cons_zero, List.set_cons_succ]
    refine anyC_keep (i := 5) (o := ⟨some 25, _, _, _, _, _⟩) (by kernel_rfl) rfl (fun K hK => ?_)
    rw [if_pos (by rfl)]
    go_wp2_with (go_at_call 14; (with_reducible refine (Q1.out _).mono ?_); rintro e V0 ⟨rfl, hb⟩)
    have KA := (K1.drew).step hb
    refine hK.out _ _ ⟨trivial, fun _ => trivial⟩ ?_
    clear hK K hb
    try simp only [Act.put, List.setIfInBounds_toArray, List.set_cons_zero, List.set_cons_succ]
    refine anyC_keep (i := 11) (o := ⟨some 31, _, _, _, _, _⟩) (by kernel_rfl) rfl (fun K hK => ?_)
    rw [if_pos (by rfl)]
    go_wp2_with (go_at_call 14; (with_reducible refine (Q2.out _).mono ?_); rintro e V1 ⟨rfl, hb⟩)
    have KB := KA.step hb
    refine hK.out _ _ ⟨trivial, fun _ => trivial⟩ ?_
    clear hK K hb
    try simp only [Act.put, List.setIfInBounds_toArray, List.set_cons_zero, List.set_cons_succ]
    refine anyC_takeS (i := 22) (oi := ⟨some 0, _, _, _, _, _⟩) (v := _) rfl (by kernel_rfl) (by kernel_rfl) (by kernel_rfl) (by kernel_rfl) (fun _ _ _ h => h) (Or.inl ⟨by rfl, fun w' hw' => (by clear hw'; go_simp; try with_reducible rfl)⟩) trivial (fun _ => trivial) ?_
    try simp only [Act.put, List.setIfInBounds_toArray, List.set_cons_zero]
    refine anyC_takeS (i := 23) (oi := ⟨some 1, _, _, _, _, _⟩) (v := _) rfl (by kernel_rfl) (by kernel_rfl) (by kernel_rfl) (by kernel_rfl) (fun _ _ _ h => h) (Or.inl ⟨by rfl, fun w' hw' => (by clear hw'; go_simp; try with_reducible rfl)⟩) trivial (fun _ => trivial) ?_
    try simp only [Act.put, List.setIfInBounds_toArray, List.set_cons_zero, List.set_cons_succ]
    refine anyC_takeS (i := 24) (oi := ⟨some 2, _, _, _, _, _⟩) (v := _) rfl (by kernel_rfl) (by kernel_rfl) (by kernel_rfl) (by kernel_rfl) (fun _ _ _ h => h) (Or.inl ⟨by rfl, fun w' hw' => (by clear hw'; go_simp; try with_reducible rfl)⟩) trivial (fun _ => trivial) ?_
    try simp only [Act.put, List.setIfInBounds_toArray, List.set_cons_zero, List.set_cons_succ]
    refine anyC_takeS (i := 25) (oi := ⟨some 3, _, _, _, _, _⟩) (v := _) rfl (by kernel_rfl) (by kernel_rfl) (by kernel_rfl) (by kernel_rfl) (fun _ _ _ h => h) (Or.inl ⟨by rfl, fun w' hw' => (by clear hw'; go_simp; try with_reducible rfl)⟩) trivial (fun _ => trivial) ?_
    try simp only [Act.put, List.setIfInBounds_toArray, List.set_cons_zero, List.set_cons_succ]
    refine anyC_done (by kernel_rfl) ?_ _
    go_wp2_with fail
    go_meet
    exact ⟨rfl, rfl, rfl, rfl, KB⟩
  case rest =>
    obtain ⟨rfl, rfl, rfl, rfl, K2⟩ := hcut
    clear K1
    go_upto_region 6 with (first
      | (go_at_call 20; (with_reducible refine (Q3.out _).mono ?_); rintro e V ⟨rfl, hb⟩; have K3 := Wk.step K2 hb; clear hb)
      | (go_at_call 23; (with_reducible refine (Q4.out _).mono ?_); rintro e V ⟨rfl, hb⟩; have K4 := Wk.step K3 hb; clear hb))
    have hsl := HSL.out
    clear K2 K3
    go_cut [91] (fun a91 wx => a91 = .bool false ∧ Wk w wx [])
    case first =>
      go_wp2_with (first
        | (go_at_call 24; (with_reducible refine (sameQ_any _ _).mono ?_); rintro e X ⟨rfl, rfl⟩)
        | (go_at_call 22; (with_reducible refine (Q5.out _).mono ?_); rintro e V ⟨rfl, hb⟩; (repeat (with_reducible replace hb := bel_of_drew hb)); obtain ⟨K5, hp5, hz5⟩ := Wk.cell1 K4 hb; clear hb)
        | (go_at_call 52; (with_reducible refine (sameQ1_yes _ _ _ hp5).mono ?_); rintro e V ⟨rfl, rfl⟩))
      go_meet
      exact ⟨rfl, K5⟩
    case rest =>
      obtain ⟨rfl, K6⟩ := hcut
      clear K4 hsl
      by_cases hc0 : c = 0
      · subst hc0
        go_wp2
        go_ret
        exact ⟨rfl, K6.b⟩
      · have hc1 : (c : Int) ≠ 0 := by omega
        have HC0 := Lib.hid hc0
        clear hc0
        obtain ⟨cap, W2, hcap, hconv, hO2, hB2, hz2⟩ := HBM.out wc
        have HO2 := Lib.hid hO2
        have HB2 := Lib.hid hB2
        clear hO2 hB2
        go_upto_region 11 with fail
        obtain ⟨G, hG⟩ : ∃ G, wc.heap.size = G := ⟨_, rfl⟩
        rw [hG] at HO2 hz2 ⊢
        have hr0 := HR.out
        obtain ⟨c1, f1⟩ := HO2.out (L + r) (by rw [HBL.out]; omega)
        rw [HGET.out] at c1
        have m1 : (a : Int) % 16 = (r : Int) := by omega
        have m2 : (a : Int).tmod 16 = (r : Int) := by rw [Int.tmod_eq_emod_of_nonneg (by omega)]; omega
        have m3 : IntKind.u8.wrap (r : Int) = (r : Int) := by rw [IntKind.wrap_u8']; omega
        have m4 : IntKind.i64.wrap (r : Int) = (r : Int) := IntWalk.i64_in _ (by omega)
        have m5 : IntKind.i64.wrap ((L : Int) + (r : Int)) = (L : Int) + (r : Int) := IntWalk.i64_in _ (by omega)
        have m6 : (L : Int) + (r : Int) < (L : Int) + 16 := by omega
        have m7 : (0 : Int) ≤ (L : Int) + (r : Int) := by omega
        have m8 : ((L : Int) + (r : Int)).toNat = L + r := by omega
        have hxo := HXO.out
        have hO3 := HO2.out.set (L + r) v
        rw [HSET.out] at hO3
        have HO3 := Lib.hid hO3
        have hB3 : Below wc.heap.size wc (W2.setCell ⟨G, L + r, none⟩ (by8 v)) := HB2.out.setCell (by show wc.heap.size ≤ G; omega) _
        have HB3 := Lib.hid hB3
        have HK7 := Lib.hid (K6.step hB3)
        clear hO3 hB3 hconv HO2 HB2 hr0
        go_upto_region 12 with fail
        clear c1 f1 m1 m2 m3 m4 m5 m6 m7 m8 hxo
        have hGz : G < (W2.setCell ⟨G, L + r, none⟩ (by8 v)).heap.size := by simp; omega
        generalize W2.setCell { block := G, off := L + r } (Value.int IntKind.u8 ↑v.toNat) = W5 at HO3 HK7 HB3 hGz ⊢
        have hcv : ∀ W : World, Oc W G (A ++ X) → (convert 25 9 (.slice (some ⟨G, 0, none⟩) (L + 16) cap)).run Tryd.prog W = .ok (.string CC) W := fun W hO => by
          have := run_convert_bytes_back (P := Tryd.prog) W 25 9 5 ⟨G, 0, none⟩ cap (A ++ X) Tryd.underlying25 Tryd.underlying5 Tryd.underlying9 fun j hj => by
            have hadd : (⟨G, 0, none⟩ : Addr).add j = ⟨G, j, none⟩ := by unfold Addr.add; split <;> simp_all
            rw [hadd, (hO j hj).1, List.getD_eq_getElem?_getD, List.getElem?_eq_getElem hj]; rfl
          rw [HAL.out] at this
          rw [← HCC.out]
          exact this
        have o1 : Oc W5.drew G (A ++ X) := HO3.out
        have q6 := Lib.hid (Q6.out HC0.out)
        have K8 := HK7.out
        clear HO3 HK7 HB3
        go_region_held3 (fun w' => Oc w' G (A ++ X))
          (first | (with_reducible assumption) | exact o3 | exact o2 | exact o1)
          (first
          | (go_at_call 25; (with_reducible refine (failsQ_any _ _).mono ?_); rintro e X ⟨rfl, rfl⟩; have o2 := Oc.alloc o1 hGz (.cells #[.int .i64 9] 28))
          | (go_at_call 22; (with_reducible refine (q6.out _).mono ?_); rintro e V ⟨rfl, hb⟩; have o3 := Oc.below o2 hb (Nat.lt_of_lt_of_le hGz (by simp)); (repeat (with_reducible replace hb := bel_of_drew hb)); obtain ⟨K9, hp9, hz9⟩ := Wk.cell1 K8 hb; clear hb)
          | (go_at_call 53; (with_reducible refine (failsQ1_yes _ _ _ hp9).mono ?_); rintro e V ⟨rfl, rfl⟩))
        all_goals go_wp2_with fail
        all_goals go_ret
        all_goals exact ⟨rfl, K9.b⟩
end Go.Proofs.YtnfefkcfifnjnaaDoor
