/- The walk of CurveShares. -/
import Derived.Test.YtbadiljligcenaaDoorGN
import Derived.Test.YtbadiljligcenaaDoorFU
namespace Go.Proofs.YtbadiljligcenaaDoor
open Go.RowKit Go.Shelf
theorem octV_digits (n : Nat) : ∀ R : Nat, (∀ i, i < n → R / 256 ^ i % 256 = 0) → R % 256 ^ n = 0 := by
  induction n with
  | zero => intro R _; rw [Nat.pow_zero, Nat.mod_one]
  | succ n ih =>
    intro R h
    have h1 := ih R (fun i hi => h i (by omega))
    have h2 := h n (by omega)
    rw [Nat.pow_succ, Nat.mod_mul, h1, h2]
    simp
theorem octV_ne (R : Nat) (hR : R < pC) (h : R ≠ 0) : bs (octV R 32) ≠ bs (List.replicate 32 0) := by
  intro e
  have e2 : octV R 32 = List.replicate 32 0 := by
    have := congrArg (fun b : ByteArray => b.data.toList) e
    simpa [bs_data] using this
  apply h
  have hd : R % 256 ^ 32 = 0 := octV_digits 32 R (fun i hi => by
    have h1 : (octV R 32)[i]? = some (0 : UInt8) := by rw [e2, List.getElem?_replicate, if_pos hi]
    unfold octV at h1
    simp only [List.getElem?_map, List.getElem?_range hi, Option.map_some, Option.some.injEq] at h1
    have h2 := congrArg UInt8.toNat h1
    rwa [UInt8.toNat_ofNat_of_lt' (by show _ < 256; omega)] at h2)
  rwa [Nat.mod_eq_of_lt (by have : pC < 256 ^ 32 := (by decide); omega)] at hd
theorem octV_0 : bs (octV 0 32) = bs (List.replicate 32 0) := by decide
theorem zeros32 (W : World) : (convert 32 9 (.slice (some ⟨W.heap.size, 0, none⟩) 32 32)).run Tryd.prog (W.alloc (.cells B32 5)) = .ok (.string (bs (List.replicate 32 0))) (W.alloc (.cells B32 5)) := by
  have hrow : (W.alloc (.cells B32 5)).heap[W.heap.size]? = some (.cells (byC (List.replicate 32 0)).toArray 5 (0, 0)) := heap_alloc_new W _
  have h := string_of_oc (cap := 32) (oc_row hrow)
  exact h
theorem shN_lt (a u : List UInt8) : shN a u < pC := muN_lt _ _
set_option maxRecDepth 100000 in
set_option maxHeartbeats 8000000 in
theorem shares_true (S U : ByteArray) (w : World) (hD : Digits w) (hs : S.size ≤ maxLen) (hu : U.size ≤ maxLen) :
    Calls Tryd.prog 4 #[.string S, .string U] w fun e w' => e = .returned (.bool true) ∧ Below w.heap.size w w' := by
  unfold maxLen at hs hu
  have K0 := Wk.start hD
  have HT : Hid True := Lib.hid trivial
  have HDD := Lib.hid hD
  obtain ⟨m1, z1, hz1, _, hmin1, hms1⟩ := cut_m S 32 32 rfl
  obtain ⟨m2, z2, hz2, _, hmin2, hms2⟩ := cut_m U 32 32 rfl
  have hsl1 := fun w => cut_run S m1 z1 hz1 hms1 w
  have hsl2 := fun w => cut_run U m2 z2 hz2 hms2 w
  have HZ1 := Lib.hid (fun W => sized_any z1 W)
  have HZ2 := Lib.hid (fun W => sized_any z2 W)
  have HLa := Lib.hid (And.intro (szL_length z1) (szL_length z2))
  generalize szL z1 = a at HZ1 HLa
  generalize szL z2 = u at HZ2 HLa
  have HRES : Hid (∀ W : World, Calls Tryd.prog 18 #[.string (bs a), .string (bs u)] W fun e w' => e = .returned (.string (bs (octV (shN a u) 32))) ∧ Below W.heap.size W w') :=
    Lib.hid (fun W => result_any a u (num u % two255 % pC) W HLa.out.1 HLa.out.2 (Nat.mod_mod _ _).symm (by have : num u % two255 % pC < pC := Nat.mod_lt _ (by decide); omega))
  have HSH := Lib.hid (fun W => Shared_yes a u W HLa.out.1 HLa.out.2)
  have HLT := Lib.hid (shN_lt a u)
  generalize shN a u = R at HRES HSH HLT
  have hmk := make32
  have hz32 := zeros32
  obtain ⟨A, hA⟩ : ∃ A, bs a = A := ⟨_, rfl⟩
  obtain ⟨UU, hUU⟩ : ∃ A, bs u = A := ⟨_, rfl⟩
  rw [hA] at HZ1 HRES HSH
  rw [hUU] at HZ2 HRES HSH
  clear hD hs hu hz1 hz2 hA hUU
  go_enter Tryd.func4, Tryd.ntmps4
  go_wp2_with (go_at_call 11; (with_reducible refine (works_true _ K0.d).mono ?_); rintro e V ⟨rfl, hb⟩; with_reducible replace K0 := Wk.step K0 hb; clear hb)
  refine region_anyC (fun _ => True) (fun w' => True) [] (by kernel_rfl) ?_
  refine anyC_takeS (i := 0) (oi := ⟨some 12, _, _, _, _, _⟩) (v := _) rfl (by kernel_rfl) (by kernel_rfl) (by kernel_rfl) (by kernel_rfl) (fun _ _ _ h => h) (Or.inl ⟨by rfl, fun w' hw' => (by clear hw'; go_simp; try with_reducible rfl)⟩) trivial (fun _ => HT.out) ?_
  try simp only [Act.put, List.setIfInBounds_toArray, List.set_cons_zero, List.set_cons_succ]
  refine anyC_takeS (i := 1) (oi := ⟨some 13, _, _, _, _, _⟩) (v := _) rfl (by kernel_rfl) (by kernel_rfl) (by kernel_rfl) (by kernel_rfl) (fun _ _ _ h => h) (Or.inl ⟨by rfl, fun w' hw' => (by clear hw'; go_simp; try with_reducible rfl)⟩) trivial (fun _ => HT.out) ?_
  try simp only [Act.put, List.setIfInBounds_toArray, List.set_cons_zero, List.set_cons_succ]
  refine anyC_takeS (i := 2) (oi := ⟨some 14, _, _, _, _, _⟩) (v := _) rfl (by kernel_rfl) (by kernel_rfl) (by kernel_rfl) (by kernel_rfl) (fun _ _ _ h => h) (Or.inl ⟨by rfl, fun w' hw' => (by clear hw'; go_simp; try with_reducible rfl)⟩) trivial (fun _ => HT.out) ?_
  try simp only [Act.put, List.setIfInBounds_toArray, List.set_cons_zero, List.set_cons_succ]
  refine anyC_takeS (i := 3) (oi := ⟨some 15, _, _, _, _, _⟩) (v := _) rfl (by kernel_rfl) (by kernel_rfl) (by kernel_rfl) (by kernel_rfl) (fun _ _ _ h => h) (Or.inl ⟨by rfl, fun w' hw' => (by clear hw'; go_simp; try with_reducible rfl)⟩) trivial (fun _ => HT.out) ?_
  try simp only [Act.put, List.setIfInBounds_toArray, List.set_cons_zero, List.set_cons_succ]
  refine anyC_takeS (i := 4) (oi := ⟨some 16, _, _, _, _, _⟩) (v := _) rfl (by kernel_rfl) (by kernel_rfl) (by kernel_rfl) (by kernel_rfl) (fun _ _ _ h => h) (Or.inl ⟨by rfl, fun w' hw' => (by clear hw'; go_simp; try with_reducible rfl)⟩) trivial (fun _ => HT.out) ?_
  try simp only [Act.put, List.setIfInBounds_toArray, List.set_cons_zero, List.set_cons_succ]
  refine anyC_takeS (i := 6) (oi := ⟨some 18, _, _, _, _, _⟩) (v := _) rfl (by kernel_rfl) (by kernel_rfl) (by kernel_rfl) (by kernel_rfl) (fun _ _ _ h => h) (Or.inl ⟨by rfl, fun w' hw' => (by clear hw'; go_simp; try with_reducible rfl)⟩) trivial (fun _ => HT.out) ?_
  try simp only [Act.put, List.setIfInBounds_toArray, List.set_cons_zero, List.set_cons_succ]
  refine anyC_takeS (i := 7) (oi := ⟨some 19, _, _, _, _, _⟩) (v := _) rfl (by kernel_rfl) (by kernel_rfl) (by kernel_rfl) (by kernel_rfl) (fun _ _ _ h => h) (Or.inl ⟨by rfl, fun w' hw' => (by clear hw'; go_simp; try with_reducible rfl)⟩) trivial (fun _ => HT.out) ?_
  try simp only [Act.put, List.setIfInBounds_toArray, List.set_cons_zero, List.set_cons_succ]
  refine anyC_takeS (i := 8) (oi := ⟨some 20, _, _, _, _, _⟩) (v := _) rfl (by kernel_rfl) (by kernel_rfl) (by kernel_rfl) (by kernel_rfl) (fun _ _ _ h => h) (Or.inl ⟨by rfl, fun w' hw' => (by clear hw'; go_simp; try with_reducible rfl)⟩) trivial (fun _ => HT.out) ?_
  try simp only [Act.put, List.setIfInBounds_toArray, List.set_cons_zero, List.set_cons_succ]
  refine anyC_takeS (i := 9) (oi := ⟨some 21, _, _, _, _, _⟩) (v := _) rfl (by kernel_rfl) (by kernel_rfl) (by kernel_rfl) (by kernel_rfl) (fun _ _ _ h => h) (Or.inl ⟨by rfl, fun w' hw' => (by clear hw'; go_simp; try with_reducible rfl)⟩) trivial (fun _ => HT.out) ?_
  try simp only [Act.put, List.setIfInBounds_toArray, List.set_cons_zero, List.set_cons_succ]
  refine anyC_takeS (i := 10) (oi := ⟨some 22, _, _, _, _, _⟩) (v := _) rfl (by kernel_rfl) (by kernel_rfl) (by kernel_rfl) (by kernel_rfl) (fun _ _ _ h => h) (Or.inl ⟨by rfl, fun w' hw' => (by clear hw'; go_simp; try with_reducible rfl)⟩) trivial (fun _ => HT.out) ?_
  try simp only [Act.put, List.setIfInBounds_toArray, List.set_cons_zero, List.set_cons_succ]
  refine anyC_keep (i := 5) (o := ⟨some 17, _, _, _, _, _⟩) (by kernel_rfl) rfl (fun K hK => ?_)
  rw [if_pos (by rfl)]
  go_wp2_with fail
  (with_reducible refine (HZ1.out _).mono ?_)
  rintro e V1 ⟨rfl, hb⟩
  have K0 := Wk.step K0 (bel_of_drew hb)
  clear hb
  refine hK.out _ _ ⟨trivial, (fun _ => HT.out)⟩ ?_
  clear hK K
  try simp only [Act.put, List.setIfInBounds_toArray, List.set_cons_zero, List.set_cons_succ]
  refine anyC_keep (i := 11) (o := ⟨some 23, _, _, _, _, _⟩) (by kernel_rfl) rfl (fun K hK => ?_)
  rw [if_pos (by rfl)]
  go_wp2_with fail
  (with_reducible refine (HZ2.out _).mono ?_)
  rintro e V2 ⟨rfl, hb⟩
  have K0 := Wk.step K0 hb
  clear hb
  refine hK.out _ _ ⟨trivial, (fun _ => HT.out)⟩ ?_
  clear hK K
  try simp only [Act.put, List.setIfInBounds_toArray, List.set_cons_zero, List.set_cons_succ]
  refine anyC_takeS (i := 12) (oi := ⟨some 5, _, _, _, _, _⟩) (v := _) rfl (by kernel_rfl) (by kernel_rfl) (by kernel_rfl) (by kernel_rfl) (fun _ _ _ h => h) (Or.inl ⟨by rfl, fun w' hw' => (by clear hw'; go_simp; try with_reducible rfl)⟩) trivial (fun _ => HT.out) ?_
  try simp only [Act.put, List.setIfInBounds_toArray, List.set_cons_zero, List.set_cons_succ]
  refine anyC_takeS (i := 13) (oi := ⟨some 6, _, _, _, _, _⟩) (v := _) rfl (by kernel_rfl) (by kernel_rfl) (by kernel_rfl) (by kernel_rfl) (fun _ _ _ h => h) (Or.inl ⟨by rfl, fun w' hw' => (by clear hw'; go_simp; try with_reducible rfl)⟩) trivial (fun _ => HT.out) ?_
  try simp only [Act.put, List.setIfInBounds_toArray, List.set_cons_zero, List.set_cons_succ]
  refine anyC_done (by kernel_rfl) ?_ _
  clear hsl1 hsl2 hmin1 hmin2 hms1 hms2
  by_cases hR0 : R = 0
  · subst hR0
    rw [octV_0] at HRES
    rw [show shRes 0 = #[.string ⟨#[]⟩, .int .i64 2] from rfl] at HSH
    obtain ⟨ZS, hZS⟩ : ∃ ZS, bs (List.replicate 32 0) = ZS := ⟨_, rfl⟩
    simp only [hZS] at hz32
    rw [hZS] at HRES
    clear hZS
    have tt : (ZS.toList == ZS.toList) = true := beq_self_eq_true _
    go_wp2_with fail
    (with_reducible refine (HRES.out _).mono ?_)
    rintro e V3 ⟨rfl, hb⟩
    have K0 := Wk.step K0 hb
    clear hb
    go_wp2_with fail
    (with_reducible refine (HSH.out _).mono ?_)
    rintro e V4 ⟨rfl, hb⟩
    have K0 := Wk.step K0 hb
    clear hb
    go_wp2_with fail
    (with_reducible refine (told_no ZS _).mono ?_)
    rintro e V5 ⟨rfl, rfl⟩
    go_wp2
    go_ret
    exact ⟨rfl, K0.b.alloc K0.b.size _⟩
  · have hne := octV_ne R HLT.out hR0
    rw [show shRes R = #[.string (bs (octV R 32)), .int .i64 0] from if_neg hR0] at HSH
    obtain ⟨ZS, hZS⟩ : ∃ ZS, bs (List.replicate 32 0) = ZS := ⟨_, rfl⟩
    obtain ⟨WS, hWS⟩ : ∃ WS, bs (octV R 32) = WS := ⟨_, rfl⟩
    simp only [hZS] at hz32
    rw [hZS, hWS] at hne
    rw [hWS] at HRES HSH
    clear hZS hWS hR0
    have tt : (WS.toList == ZS.toList) = false := beq_false_of_ne (fun e => hne (by rw [Lib.toList_data, Lib.toList_data] at e; rw [← Lib.mk_data WS, ← Lib.mk_data ZS, e]))
    clear hne
    go_wp2_with fail
    (with_reducible refine (HRES.out _).mono ?_)
    rintro e V3 ⟨rfl, hb⟩
    have K0 := Wk.step K0 hb
    clear hb
    go_wp2_with fail
    (with_reducible refine (HSH.out _).mono ?_)
    rintro e V4 ⟨rfl, hb⟩
    have K0 := Wk.step K0 hb
    clear hb
    go_wp2_with fail
    (with_reducible refine (told_yes WS _).mono ?_)
    rintro e V5 ⟨rfl, rfl⟩
    go_wp2
    go_ret
    exact ⟨rfl, K0.b.alloc K0.b.size _⟩
end Go.Proofs.YtbadiljligcenaaDoor
