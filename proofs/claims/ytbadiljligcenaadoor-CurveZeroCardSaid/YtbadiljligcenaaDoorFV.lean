/- The walk of CurveSame. -/
import Derived.Test.YtbadiljligcenaaDoorFU
namespace Go.Proofs.YtbadiljligcenaaDoor
open Go.RowKit Go.Shelf
theorem ofInt_8 (x : UInt8) : (BitVec.ofInt 8 (x.toNat : Int)).toNat = x.toNat := by
  rw [BitVec.ofInt_natCast, BitVec.toNat_ofNat, Nat.mod_eq_of_lt (by simpa using x.toNat_lt)]
theorem c_xor8 (x y : UInt8) : bits .xor .u8 (x.toNat : Int) (y.toNat : Int) = ((x ^^^ y).toNat : Int) := by
  show IntKind.u8.wrap ((BitVec.ofInt 8 (x.toNat : Int) ^^^ BitVec.ofInt 8 (y.toNat : Int)).toNat : Int) = _
  rw [BitVec.toNat_xor, ofInt_8, ofInt_8, UInt8.toNat_xor, IntKind.wrap_u8]
  have h := (x ^^^ y).toNat_lt
  rw [UInt8.toNat_xor] at h
  omega
theorem low_and (x : UInt8) (k : Nat) (hk : k < 8) : (x ^^^ UInt8.ofNat k) &&& 248 = x &&& 248 := by
  have h := List.all_eq_true.1 (show (List.range 256).all (fun n => (List.range 8).all fun k => (UInt8.ofNat n ^^^ UInt8.ofNat k) &&& 248 == UInt8.ofNat n &&& 248) = true by decide +kernel) x.toNat (List.mem_range.2 x.toNat_lt)
  have h2 := List.all_eq_true.1 h k (List.mem_range.2 hk)
  rw [UInt8.ofNat_toNat] at h2
  exact eq_of_beq h2
theorem high_and (x : UInt8) (k : Nat) (hk : k < 4) : ((x ^^^ UInt8.ofNat (k * 64)) &&& 127) ||| 64 = (x &&& 127) ||| 64 := by
  have h := List.all_eq_true.1 (show (List.range 256).all (fun n => (List.range 4).all fun k => ((UInt8.ofNat n ^^^ UInt8.ofNat (k * 64)) &&& 127) ||| 64 == (UInt8.ofNat n &&& 127) ||| 64) = true by decide +kernel) x.toNat (List.mem_range.2 x.toNat_lt)
  have h2 := List.all_eq_true.1 h k (List.mem_range.2 hk)
  rw [UInt8.ofNat_toNat] at h2
  exact eq_of_beq h2
theorem and_and (x : UInt8) : (x &&& 248) &&& 248 = x &&& 248 ∧ ((((x &&& 127) ||| 64) &&& 127) ||| 64) = (x &&& 127) ||| 64 := by
  have h := List.all_eq_true.1 (show (List.range 256).all (fun n => ((UInt8.ofNat n &&& 248) &&& 248 == UInt8.ofNat n &&& 248) && ((((UInt8.ofNat n &&& 127) ||| 64) &&& 127) ||| 64 == (UInt8.ofNat n &&& 127) ||| 64)) = true by decide +kernel) x.toNat (List.mem_range.2 x.toNat_lt)
  rw [UInt8.ofNat_toNat, Bool.and_eq_true] at h
  exact ⟨eq_of_beq h.1, eq_of_beq h.2⟩
theorem top_mod (x : UInt8) : (x ^^^ 128).toNat % 128 = x.toNat % 128 := by
  have h := List.all_eq_true.1 (show (List.range 256).all (fun n => (UInt8.ofNat n ^^^ 128).toNat % 128 == (UInt8.ofNat n).toNat % 128) = true by decide +kernel) x.toNat (List.mem_range.2 x.toNat_lt)
  rw [UInt8.ofNat_toNat] at h
  exact eq_of_beq h
theorem getD_set8 (l : List UInt8) (i j : Nat) (x : UInt8) (h : i < l.length) : (l.set i x).getD j 0 = if i = j then x else l.getD j 0 := by
  simp only [List.getD_eq_getElem?_getD, List.getElem?_set]
  by_cases e : i = j
  · subst e; simp [h]
  · simp [e]
/-- The secret with bits that do not matter turned around. -/
def otL (a : List UInt8) (k m : Nat) : List UInt8 := (a.set 0 (a.getD 0 0 ^^^ UInt8.ofNat k)).set 31 (a.getD 31 0 ^^^ UInt8.ofNat (m * 64))
theorem otL_length (a : List UInt8) (k m : Nat) : (otL a k m).length = a.length := by simp [otL]
theorem clN_getD (s : List UInt8) (h : s.length = 32) (j : Nat) : (clN s).getD j 0 = if 31 = j then (s.getD 31 0 &&& 127) ||| 64 else if 0 = j then s.getD 0 0 &&& 248 else s.getD j 0 := by
  unfold clN
  rw [getD_set8 _ _ _ _ (by rw [List.length_set]; omega)]
  by_cases h1 : 31 = j
  · rw [if_pos h1, if_pos h1]
  · rw [if_neg h1, if_neg h1, getD_set8 _ _ _ _ (by omega)]
theorem clN_other (a : List UInt8) (h : a.length = 32) (k m : Nat) (hk : k < 8) (hm : m < 4) : clN (otL a k m) = clN a := by
  refine list_ext_getD (by rw [clN_length, clN_length, otL_length]) fun i _ => ?_
  have hg : ∀ j, (otL a k m).getD j 0 = if 31 = j then a.getD 31 0 ^^^ UInt8.ofNat (m * 64) else if 0 = j then a.getD 0 0 ^^^ UInt8.ofNat k else a.getD j 0 := fun j => by
    unfold otL
    rw [getD_set8 _ _ _ _ (by rw [List.length_set]; omega)]
    by_cases h1 : 31 = j
    · rw [if_pos h1, if_pos h1]
    · rw [if_neg h1, if_neg h1, getD_set8 _ _ _ _ (by omega)]
  have hg31 : (otL a k m).getD 31 0 = a.getD 31 0 ^^^ UInt8.ofNat (m * 64) := (hg 31).trans (if_pos rfl)
  have hg0 : (otL a k m).getD 0 0 = a.getD 0 0 ^^^ UInt8.ofNat k := (hg 0).trans ((if_neg (by decide)).trans (if_pos rfl))
  rw [clN_getD _ (by rw [otL_length]; exact h), clN_getD _ h, hg31, hg0, hg i]
  by_cases h1 : 31 = i
  · simp only [if_pos h1]; exact high_and _ _ hm
  · simp only [if_neg h1]
    by_cases h2 : 0 = i
    · simp only [if_pos h2]; exact low_and _ _ hk
    · simp only [if_neg h2]
theorem clN_twice (a : List UInt8) (h : a.length = 32) : clN (clN a) = clN a := by
  refine list_ext_getD (by rw [clN_length, clN_length]) fun i _ => ?_
  have hg31 : (clN a).getD 31 0 = (a.getD 31 0 &&& 127) ||| 64 := (clN_getD a h 31).trans (if_pos rfl)
  have hg0 : (clN a).getD 0 0 = a.getD 0 0 &&& 248 := (clN_getD a h 0).trans ((if_neg (by decide)).trans (if_pos rfl))
  rw [clN_getD _ (by rw [clN_length]; exact h), hg31, hg0, clN_getD _ h i]
  by_cases h1 : 31 = i
  · simp only [if_pos h1]; exact (and_and _).2
  · simp only [if_neg h1]
    by_cases h2 : 0 = i
    · simp only [if_pos h2]; exact (and_and _).1
    · simp only [if_neg h2]
theorem num_top (u : List UInt8) (h : u.length = 32) : num u = num (u.take 31) + 256 ^ 31 * (u.getD 31 0).toNat := by
  have h1 := num_take u 31 (by omega)
  rwa [List.take_of_length_le (by omega)] at h1
theorem num_flip (u : List UInt8) (h : u.length = 32) : num (u.set 31 (u.getD 31 0 ^^^ 128)) % two255 = num u % two255 := by
  have h1 := num_top u h
  have h2 := num_top (u.set 31 (u.getD 31 0 ^^^ 128)) (by rw [List.length_set]; exact h)
  rw [List.take_set_of_le (by omega), getD_set8 _ _ _ _ (by omega), if_pos rfl] at h2
  have h3 := top_mod (u.getD 31 0)
  rw [h1, h2]
  generalize num (u.take 31) = n
  generalize (u.getD 31 0 ^^^ 128).toNat = x at h3
  generalize (u.getD 31 0).toNat = y at h3
  have e : two255 = 256 ^ 31 * 128 := by decide
  obtain ⟨p, hp⟩ : ∃ p, (256 : Nat) ^ 31 = p := ⟨_, rfl⟩
  rw [e, hp]
  have hx := Nat.div_add_mod x 128
  have hy := Nat.div_add_mod y 128
  rw [← hx, ← hy, h3, Nat.mul_add, Nat.mul_add, ← Nat.mul_assoc, ← Nat.mul_assoc]
  have f : ∀ q, (n + (p * 128 * q + p * (y % 128))) % (p * 128) = (n + p * (y % 128)) % (p * 128) := fun q => by
    rw [show n + (p * 128 * q + p * (y % 128)) = n + p * (y % 128) + p * 128 * q by omega, Nat.add_mul_mod_self_left]
  rw [f, f]
theorem shN_same (a u : List UInt8) (k m : Nat) (ha : a.length = 32) (hu : u.length = 32) (hk : k < 8) (hm : m < 4) (b : Bool) : shN (otL a k m) (if b then u.set 31 (u.getD 31 0 ^^^ 128) else u) = shN a u := by
  unfold shN resN
  rw [clN_other a ha k m hk hm]
  cases b
  · rfl
  · simp only [if_true]; rw [num_flip u hu]
theorem shRes_two (r : Nat) : ∃ (X : ByteArray) (E : Int), shRes r = #[.string X, .int .i64 E] := by
  by_cases h : r = 0
  · exact ⟨_, _, if_pos h⟩
  · exact ⟨_, _, if_neg h⟩
theorem Wk.set0 {w W : World} (h : Wk w W []) (hD : Digits w) {g i : Nat} (hg : w.heap.size ≤ g) (v : Value) : Wk w (W.setCell ⟨g, i, none⟩ v) [] :=
  have hb := h.b.setCell (p := ⟨g, i, none⟩) hg v
  ⟨hb, hD.below hb, fun _ h => absurd h List.not_mem_nil⟩
set_option maxRecDepth 100000 in
set_option maxHeartbeats 8000000 in
theorem same_true (S U : ByteArray) (L : Nat) (b : Bool) (w : World) (hD : Digits w) (hs : S.size ≤ maxLen) (hu : U.size ≤ maxLen) (hL : L ≤ 255) :
    Calls Tryd.prog 8 #[.string S, .string U, .int .u8 (L : Int), .bool b] w fun e w' => e = .returned (.bool true) ∧ Below w.heap.size w w' := by
  unfold maxLen at hs hu
  have K0 := Wk.start hD
  have HT : Hid True := Lib.hid trivial
  have HDD := Lib.hid hD
  obtain ⟨m1, z1, hz1, _, hmin1, hms1⟩ := cut_m S 32 32 rfl
  obtain ⟨m2, z2, hz2, _, hmin2, hms2⟩ := cut_m U 32 32 rfl
  have hsl1 := fun w => cut_run S m1 z1 hz1 hms1 w
  have hsl2 := fun w => cut_run U m2 z2 hz2 hms2 w
  have HZ1 := Lib.hid (fun W => sized_any z1 W)
  have HZ2 := Lib.hid (fun W => sized_any z2 W)
  have HLa := Lib.hid (And.intro (szL_length z1) (szL_length z2))
  generalize szL z1 = a at HZ1 HLa
  generalize szL z2 = u at HZ2 HLa
  have HCl := Lib.hid (fun W => Clamp_yes a W HLa.out.1)
  have HCl2 := Lib.hid (fun W => Clamp_yes (clN a) W (by rw [clN_length]; exact HLa.out.1))
  rw [clN_twice a HLa.out.1] at HCl2
  have hcs : (bs (clN a)).size = 32 := by rw [bs_size, clN_length]; exact HLa.out.1
  obtain ⟨A, hA⟩ : ∃ A, bs a = A := ⟨_, rfl⟩
  obtain ⟨C, hC⟩ : ∃ A, bs (clN a) = A := ⟨_, rfl⟩
  obtain ⟨UU, hUU⟩ : ∃ A, bs u = A := ⟨_, rfl⟩
  rw [hA] at HZ1 HCl
  rw [hC] at HCl HCl2 hcs
  rw [hUU] at HZ2
  have HAU := Lib.hid (And.intro hA hUU)
  have HC := Lib.hid hC
  clear hD hs hu hz1 hz2 hA hC hUU
  go_enter Tryd.func8, Tryd.ntmps8
  go_wp2_with (go_at_call 11; (with_reducible refine (works_true _ K0.d).mono ?_); rintro e V ⟨rfl, hb⟩; with_reducible replace K0 := Wk.step K0 hb; clear hb)
  refine region_anyC (fun _ => True) (fun w' => True) [] (by kernel_rfl) ?_
  refine anyC_takeS (i := 0) (oi := ⟨some 25, _, _, _, _, _⟩) (v := _) rfl (by kernel_rfl) (by kernel_rfl) (by kernel_rfl) (by kernel_rfl) (fun _ _ _ h => h) (Or.inl ⟨by rfl, fun w' hw' => (by clear hw'; go_simp; try with_reducible rfl)⟩) trivial (fun _ => HT.out) ?_
  try simp only [Act.put, List.setIfInBounds_toArray, List.set_cons_zero, List.set_cons_succ]
  refine anyC_takeS (i := 1) (oi := ⟨some 26, _, _, _, _, _⟩) (v := _) rfl (by kernel_rfl) (by kernel_rfl) (by kernel_rfl) (by kernel_rfl) (fun _ _ _ h => h) (Or.inl ⟨by rfl, fun w' hw' => (by clear hw'; go_simp; try with_reducible rfl)⟩) trivial (fun _ => HT.out) ?_
  try simp only [Act.put, List.setIfInBounds_toArray, List.set_cons_zero, List.set_cons_succ]
  refine anyC_takeS (i := 2) (oi := ⟨some 27, _, _, _, _, _⟩) (v := _) rfl (by kernel_rfl) (by kernel_rfl) (by kernel_rfl) (by kernel_rfl) (fun _ _ _ h => h) (Or.inl ⟨by rfl, fun w' hw' => (by clear hw'; go_simp; try with_reducible rfl)⟩) trivial (fun _ => HT.out) ?_
  try simp only [Act.put, List.setIfInBounds_toArray, List.set_cons_zero, List.set_cons_succ]
  refine anyC_takeS (i := 3) (oi := ⟨some 28, _, _, _, _, _⟩) (v := _) rfl (by kernel_rfl) (by kernel_rfl) (by kernel_rfl) (by kernel_rfl) (fun _ _ _ h => h) (Or.inl ⟨by rfl, fun w' hw' => (by clear hw'; go_simp; try with_reducible rfl)⟩) trivial (fun _ => HT.out) ?_
  try simp only [Act.put, List.setIfInBounds_toArray, List.set_cons_zero, List.set_cons_succ]
  refine anyC_takeS (i := 4) (oi := ⟨some 29, _, _, _, _, _⟩) (v := _) rfl (by kernel_rfl) (by kernel_rfl) (by kernel_rfl) (by kernel_rfl) (fun _ _ _ h => h) (Or.inl ⟨by rfl, fun w' hw' => (by clear hw'; go_simp; try with_reducible rfl)⟩) trivial (fun _ => HT.out) ?_
  try simp only [Act.put, List.setIfInBounds_toArray, List.set_cons_zero, List.set_cons_succ]
  refine anyC_takeS (i := 6) (oi := ⟨some 31, _, _, _, _, _⟩) (v := _) rfl (by kernel_rfl) (by kernel_rfl) (by kernel_rfl) (by kernel_rfl) (fun _ _ _ h => h) (Or.inl ⟨by rfl, fun w' hw' => (by clear hw'; go_simp; try with_reducible rfl)⟩) trivial (fun _ => HT.out) ?_
  try simp only [Act.put, List.setIfInBounds_toArray, List.set_cons_zero, List.set_cons_succ]
  refine anyC_takeS (i := 7) (oi := ⟨some 32, _, _, _, _, _⟩) (v := _) rfl (by kernel_rfl) (by kernel_rfl) (by kernel_rfl) (by kernel_rfl) (fun _ _ _ h => h) (Or.inl ⟨by rfl, fun w' hw' => (by clear hw'; go_simp; try with_reducible rfl)⟩) trivial (fun _ => HT.out) ?_
  try simp only [Act.put, List.setIfInBounds_toArray, List.set_cons_zero, List.set_cons_succ]
  refine anyC_takeS (i := 8) (oi := ⟨some 33, _, _, _, _, _⟩) (v := _) rfl (by kernel_rfl) (by kernel_rfl) (by kernel_rfl) (by kernel_rfl) (fun _ _ _ h => h) (Or.inl ⟨by rfl, fun w' hw' => (by clear hw'; go_simp; try with_reducible rfl)⟩) trivial (fun _ => HT.out) ?_
  try simp only [Act.put, List.setIfInBounds_toArray, List.set_cons_zero, List.set_cons_succ]
  refine anyC_takeS (i := 9) (oi := ⟨some 34, _, _, _, _, _⟩) (v := _) rfl (by kernel_rfl) (by kernel_rfl) (by kernel_rfl) (by kernel_rfl) (fun _ _ _ h => h) (Or.inl ⟨by rfl, fun w' hw' => (by clear hw'; go_simp; try with_reducible rfl)⟩) trivial (fun _ => HT.out) ?_
  try simp only [Act.put, List.setIfInBounds_toArray, List.set_cons_zero, List.set_cons_succ]
  refine anyC_takeS (i := 10) (oi := ⟨some 35, _, _, _, _, _⟩) (v := _) rfl (by kernel_rfl) (by kernel_rfl) (by kernel_rfl) (by kernel_rfl) (fun _ _ _ h => h) (Or.inl ⟨by rfl, fun w' hw' => (by clear hw'; go_simp; try with_reducible rfl)⟩) trivial (fun _ => HT.out) ?_
  try simp only [Act.put, List.setIfInBounds_toArray, List.set_cons_zero, List.set_cons_succ]
  refine anyC_keep (i := 5) (o := ⟨some 30, _, _, _, _, _⟩) (by kernel_rfl) rfl (fun K hK => ?_)
  rw [if_pos (by rfl)]
  go_wp2_with fail
  (with_reducible refine (HZ1.out _).mono ?_)
  rintro e V1 ⟨rfl, hb⟩
  have K0 := Wk.step K0 (bel_of_drew hb)
  clear hb
  refine hK.out _ _ ⟨trivial, (fun _ => HT.out)⟩ ?_
  clear hK K
  try simp only [Act.put, List.setIfInBounds_toArray, List.set_cons_zero, List.set_cons_succ]
  refine anyC_keep (i := 11) (o := ⟨some 36, _, _, _, _, _⟩) (by kernel_rfl) rfl (fun K hK => ?_)
  rw [if_pos (by rfl)]
  go_wp2_with fail
  (with_reducible refine (HZ2.out _).mono ?_)
  rintro e V2 ⟨rfl, hb⟩
  have K0 := Wk.step K0 hb
  clear hb
  refine hK.out _ _ ⟨trivial, (fun _ => HT.out)⟩ ?_
  clear hK K
  try simp only [Act.put, List.setIfInBounds_toArray, List.set_cons_zero, List.set_cons_succ]
  refine anyC_takeS (i := 12) (oi := ⟨some 9, _, _, _, _, _⟩) (v := _) rfl (by kernel_rfl) (by kernel_rfl) (by kernel_rfl) (by kernel_rfl) (fun _ _ _ h => h) (Or.inl ⟨by rfl, fun w' hw' => (by clear hw'; go_simp; try with_reducible rfl)⟩) trivial (fun _ => HT.out) ?_
  try simp only [Act.put, List.setIfInBounds_toArray, List.set_cons_zero, List.set_cons_succ]
  refine anyC_takeS (i := 13) (oi := ⟨some 10, _, _, _, _, _⟩) (v := _) rfl (by kernel_rfl) (by kernel_rfl) (by kernel_rfl) (by kernel_rfl) (fun _ _ _ h => h) (Or.inl ⟨by rfl, fun w' hw' => (by clear hw'; go_simp; try with_reducible rfl)⟩) trivial (fun _ => HT.out) ?_
  try simp only [Act.put, List.setIfInBounds_toArray, List.set_cons_zero, List.set_cons_succ]
  refine anyC_done (by kernel_rfl) ?_ _
  go_upto_region 7 with (go_at_call 13; (with_reducible refine (HCl.out _).mono ?_); rintro e V3 ⟨rfl, hb⟩; with_reducible replace K0 := Wk.step K0 hb; clear hb)
  obtain ⟨cap1, W1, hcap1, hconv1, hO1, hB1, hw1⟩ := bytes_made A V3
  obtain ⟨cap2, W2, hcap2, hconv2, hO2, hB2, hw2⟩ := bytes_made UU W1
  have hsA : A.size = 32 := by rw [← HAU.out.1, bs_size]; exact HLa.out.1
  have hsU : UU.size = 32 := by rw [← HAU.out.2, bs_size]; exact HLa.out.2
  rw [hsA] at hcap1 hconv1
  rw [hsU] at hcap2 hconv2
  rw [← HAU.out.1, bs_data] at hO1
  rw [← HAU.out.2, bs_data] at hO2
  have K1 := Wk.step (Wk.step K0 hB1) hB2
  have hO1 := hO1.below hB2 (by omega)
  have hzV : w.heap.size ≤ V3.heap.size := K0.b.size
  obtain ⟨g1, hg1⟩ : ∃ g, V3.heap.size = g := ⟨_, rfl⟩
  obtain ⟨g2, hg2⟩ : ∃ g, W1.heap.size = g := ⟨_, rfl⟩
  have hg12 : g1 < g2 := by omega
  have hg2W : g2 < W2.heap.size := by omega
  rw [hg1] at hO1 hconv1 hzV
  rw [hg2] at hO2 hconv2
  have hl0 : (0 : Nat) < a.length := by rw [HLa.out.1]; decide
  have hl1 : (31 : Nat) < a.length := by rw [HLa.out.1]; decide
  have hl2 : (31 : Nat) < u.length := by rw [HLa.out.2]; decide
  have hP1 := hO1.set 0 (a.getD 0 0 ^^^ UInt8.ofNat (L % 8))
  have hP2 := hP1.set 31 (a.getD 31 0 ^^^ UInt8.ofNat (L / 8 % 4 * 64))
  have hQ1 := hO2.other (a := ⟨g1, 0, none⟩) (show g2 ≠ g1 by omega) (by8 (a.getD 0 0 ^^^ UInt8.ofNat (L % 8)))
  have hQ2 := hQ1.other (a := ⟨g1, 31, none⟩) (show g2 ≠ g1 by omega) (by8 (a.getD 31 0 ^^^ UInt8.ofNat (L / 8 % 4 * 64)))
  have hQ3 := hQ2.set 31 (u.getD 31 0 ^^^ 128)
  have hP3 := hP2.other (a := ⟨g2, 31, none⟩) (show g1 ≠ g2 by omega) (by8 (u.getD 31 0 ^^^ 128))
  obtain ⟨c0, f0⟩ := hO1 0 hl0
  obtain ⟨c1, f1⟩ := hP1 31 (by rw [List.length_set]; exact hl1)
  obtain ⟨c2, f2⟩ := hQ2 31 hl2
  rw [show (a.set 0 (a.getD 0 0 ^^^ UInt8.ofNat (L % 8))).getD 31 0 = a.getD 31 0 by rw [List.getD_eq_getElem?_getD, List.getElem?_set_ne (by decide), List.getD_eq_getElem?_getD]] at c1
  change Oc _ g1 (otL a (L % 8) (L / 8 % 4)) at hP2
  change Oc _ g1 (otL a (L % 8) (L / 8 % 4)) at hP3
  have KN1 := ((K1.set0 HDD.out hzV (i := 0) (by8 (a.getD 0 0 ^^^ UInt8.ofNat (L % 8)))).set0 HDD.out hzV (i := 31) (by8 (a.getD 31 0 ^^^ UInt8.ofNat (L / 8 % 4 * 64))))
  have KN2 := KN1.set0 HDD.out (show w.heap.size ≤ g2 by omega) (i := 31) (by8 (u.getD 31 0 ^^^ 128))
  have hx0 : bits .xor .u8 ((a.getD 0 0).toNat : Int) ((L : Int) % 8) = ((a.getD 0 0 ^^^ UInt8.ofNat (L % 8)).toNat : Int) := by
    rw [← c_xor8, UInt8.toNat_ofNat_of_lt' (by show L % 8 < 256; omega)]; rfl
  have hx1 : bits .xor .u8 ((a.getD 31 0).toNat : Int) ((L : Int) / 8 % 4 * 64) = ((a.getD 31 0 ^^^ UInt8.ofNat (L / 8 % 4 * 64)).toNat : Int) := by
    rw [← c_xor8, UInt8.toNat_ofNat_of_lt' (by show L / 8 % 4 * 64 < 256; omega)]; rfl
  have hx2 : bits .xor .u8 ((u.getD 31 0).toNat : Int) 128 = ((u.getD 31 0 ^^^ 128).toNat : Int) := by
    rw [← c_xor8]; rfl
  have HG1 := Lib.hid (And.intro hP2 (And.intro hQ2 KN1))
  have HG2 := Lib.hid (And.intro hP3 (And.intro hQ3 KN2))
  clear hP1 hP2 hP3 hQ1 hQ2 hQ3 KN1 KN2 hO1 hO2 hB1 hB2 hw1 hw2 hg1 hg2 hzV K0 K1 hl0 hl1 hl2
  have hne : g1 ≠ g2 := by omega
  obtain ⟨r0, hr0⟩ : ∃ x, a.getD 0 0 ^^^ UInt8.ofNat (L % 8) = x := ⟨_, rfl⟩
  obtain ⟨r1, hr1⟩ : ∃ x, a.getD 31 0 ^^^ UInt8.ofNat (L / 8 % 4 * 64) = x := ⟨_, rfl⟩
  obtain ⟨r2, hr2⟩ : ∃ x, u.getD 31 0 ^^^ 128 = x := ⟨_, rfl⟩
  rw [hr0] at hx0 c1 f1 c2 f2 HG1 HG2
  rw [hr1] at hx1 c2 f2 HG1 HG2
  rw [hr2] at hx2 HG2
  have HR2 := Lib.hid hr2
  clear hr0 hr1 hr2
  generalize a.getD 0 0 = x0 at c0 hx0
  generalize a.getD 31 0 = x1 at c1 hx1
  generalize u.getD 31 0 = x2 at c2 hx2
  go_upto_region 8 with fail
  clear hconv1 hconv2
  cases b
  · go_upto_region 12 with fail
    clear c0 f0 c1 f1 c2 f2 hx0 hx1 hx2
    obtain ⟨hp, hq, K4⟩ := HG1.out
    generalize ((W2.setCell ⟨g1, 0, none⟩ (by8 r0)).setCell ⟨g1, 31, none⟩ (by8 r1)) = W3 at hp hq K4 ⊢
    have hzg : g1 < W3.heap.size ∧ g2 < W3.heap.size := ⟨World.block_lt_of_cell? W3 ⟨g1, 0, none⟩ (hp 0 (by rw [otL_length, HLa.out.1]; decide)).1, World.block_lt_of_cell? W3 ⟨g2, 0, none⟩ (hq 0 (by rw [HLa.out.2]; decide)).1⟩
    have hcv := string_of_oc (cap := cap1) hp
    rw [otL_length, HLa.out.1] at hcv
    have HC3 := Lib.hid (fun W => Clamp_yes (otL a (L % 8) (L / 8 % 4)) W (by rw [otL_length]; exact HLa.out.1))
    rw [clN_other a HLa.out.1 _ _ (by omega) (by omega), HC.out] at HC3
    have HS2 := Lib.hid (fun W => Shared_yes (otL a (L % 8) (L / 8 % 4)) u W (by rw [otL_length]; exact HLa.out.1) (by exact HLa.out.2))
    have hsame := shN_same a u (L % 8) (L / 8 % 4) HLa.out.1 HLa.out.2 (by omega) (by omega) false
    simp only [if_false, Bool.false_eq_true] at hsame
    rw [hsame] at HS2
    have HS1 := Lib.hid (fun W => Shared_yes a u W HLa.out.1 HLa.out.2)
    rw [HAU.out.1, HAU.out.2] at HS1
    obtain ⟨X, E, hXE⟩ := shRes_two (shN a u)
    rw [hXE] at HS1 HS2
    have hl2 : u.length = 32 := by exact HLa.out.2
    have hl1 : (otL a (L % 8) (L / 8 % 4)).length = 32 := by rw [otL_length]; exact HLa.out.1
    have HP := Lib.hid (And.intro hp (And.intro hq hzg))
    generalize u = u2 at HS2 HP hl2
    generalize otL a (L % 8) (L / 8 % 4) = a2 at HS2 HP hl1 HC3 hcv
    clear hp hq hzg hsame hXE
    have HL2 := Lib.hid (And.intro hl1 hl2)
    obtain ⟨A2, hA2⟩ : ∃ A2, bs a2 = A2 := ⟨_, rfl⟩
    obtain ⟨U2, hU2⟩ : ∃ A2, bs u2 = A2 := ⟨_, rfl⟩
    rw [hA2] at HC3 HS2 hcv
    rw [hU2] at HS2
    have HE2 := Lib.hid (And.intro hA2 hU2)
    clear hA2 hU2 hl1 hl2
    go_wp2_with fail
    (with_reducible refine (HC3.out _).mono ?_)
    rintro e W4 ⟨rfl, hb⟩
    have HP4 := Lib.hid (And.intro (HP.out.1.below hb HP.out.2.2.1) (And.intro (HP.out.2.1.below hb HP.out.2.2.2) (And.intro (Nat.lt_of_lt_of_le HP.out.2.2.1 hb.size) (Nat.lt_of_lt_of_le HP.out.2.2.2 hb.size))))
    have K5 := Wk.step K4 hb
    clear hb HP hcv K4
    go_wp2_with fail
    (with_reducible refine (HCl2.out _).mono ?_)
    rintro e W5 ⟨rfl, hb⟩
    have HP5 := Lib.hid (And.intro (HP4.out.1.below hb HP4.out.2.2.1) (And.intro (HP4.out.2.1.below hb HP4.out.2.2.2) (And.intro (Nat.lt_of_lt_of_le HP4.out.2.2.1 hb.size) (Nat.lt_of_lt_of_le HP4.out.2.2.2 hb.size))))
    have K6 := Wk.step K5 hb
    clear hb HP4 K5
    go_wp2_with fail
    (with_reducible refine (HS1.out _).mono ?_)
    rintro e W6 ⟨rfl, hb⟩
    have hp6 := HP5.out.1.below hb HP5.out.2.2.1
    have hq6 := HP5.out.2.1.below hb HP5.out.2.2.2
    have K7 := Wk.step K6 hb
    have hcv1 := string_of_oc (cap := cap1) hp6
    have hcv2 := string_of_oc (cap := cap2) hq6
    rw [HL2.out.1, HE2.out.1] at hcv1
    rw [HL2.out.2, HE2.out.2] at hcv2
    clear hb HP5 K6 hp6 hq6
    go_wp2_with fail
    (with_reducible refine (HS2.out _).mono ?_)
    rintro e W7 ⟨rfl, hb⟩
    have K8 := Wk.step K7 hb
    clear hb K7 hcv1 hcv2
    have tt : (E == E) = true := beq_self_eq_true _
    go_wp2
    go_ret
    exact ⟨rfl, K8.b⟩
  · go_upto_region 12 with fail
    clear c0 f0 c1 f1 c2 f2 hx0 hx1 hx2
    obtain ⟨hp, hq, K4⟩ := HG2.out
    generalize (((W2.setCell ⟨g1, 0, none⟩ (by8 r0)).setCell ⟨g1, 31, none⟩ (by8 r1)).setCell ⟨g2, 31, none⟩ (by8 r2)) = W3 at hp hq K4 ⊢
    have hzg : g1 < W3.heap.size ∧ g2 < W3.heap.size := ⟨World.block_lt_of_cell? W3 ⟨g1, 0, none⟩ (hp 0 (by rw [otL_length, HLa.out.1]; decide)).1, World.block_lt_of_cell? W3 ⟨g2, 0, none⟩ (hq 0 (by rw [List.length_set, HLa.out.2]; decide)).1⟩
    have hcv := string_of_oc (cap := cap1) hp
    rw [otL_length, HLa.out.1] at hcv
    have HC3 := Lib.hid (fun W => Clamp_yes (otL a (L % 8) (L / 8 % 4)) W (by rw [otL_length]; exact HLa.out.1))
    rw [clN_other a HLa.out.1 _ _ (by omega) (by omega), HC.out] at HC3
    have HS2 := Lib.hid (fun W => Shared_yes (otL a (L % 8) (L / 8 % 4)) (u.set 31 r2) W (by rw [otL_length]; exact HLa.out.1) (by rw [List.length_set]; exact HLa.out.2))
    have hsame := shN_same a u (L % 8) (L / 8 % 4) HLa.out.1 HLa.out.2 (by omega) (by omega) true
    simp only [if_true, HR2.out] at hsame
    rw [hsame] at HS2
    have HS1 := Lib.hid (fun W => Shared_yes a u W HLa.out.1 HLa.out.2)
    rw [HAU.out.1, HAU.out.2] at HS1
    obtain ⟨X, E, hXE⟩ := shRes_two (shN a u)
    rw [hXE] at HS1 HS2
    have hl2 : (u.set 31 r2).length = 32 := by rw [List.length_set]; exact HLa.out.2
    have hl1 : (otL a (L % 8) (L / 8 % 4)).length = 32 := by rw [otL_length]; exact HLa.out.1
    have HP := Lib.hid (And.intro hp (And.intro hq hzg))
    generalize (u.set 31 r2) = u2 at HS2 HP hl2
    generalize otL a (L % 8) (L / 8 % 4) = a2 at HS2 HP hl1 HC3 hcv
    clear hp hq hzg hsame hXE
    have HL2 := Lib.hid (And.intro hl1 hl2)
    obtain ⟨A2, hA2⟩ : ∃ A2, bs a2 = A2 := ⟨_, rfl⟩
    obtain ⟨U2, hU2⟩ : ∃ A2, bs u2 = A2 := ⟨_, rfl⟩
    rw [hA2] at HC3 HS2 hcv
    rw [hU2] at HS2
    have HE2 := Lib.hid (And.intro hA2 hU2)
    clear hA2 hU2 hl1 hl2
    go_wp2_with fail
    (with_reducible refine (HC3.out _).mono ?_)
    rintro e W4 ⟨rfl, hb⟩
    have HP4 := Lib.hid (And.intro (HP.out.1.below hb HP.out.2.2.1) (And.intro (HP.out.2.1.below hb HP.out.2.2.2) (And.intro (Nat.lt_of_lt_of_le HP.out.2.2.1 hb.size) (Nat.lt_of_lt_of_le HP.out.2.2.2 hb.size))))
    have K5 := Wk.step K4 hb
    clear hb HP hcv K4
    go_wp2_with fail
    (with_reducible refine (HCl2.out _).mono ?_)
    rintro e W5 ⟨rfl, hb⟩
    have HP5 := Lib.hid (And.intro (HP4.out.1.below hb HP4.out.2.2.1) (And.intro (HP4.out.2.1.below hb HP4.out.2.2.2) (And.intro (Nat.lt_of_lt_of_le HP4.out.2.2.1 hb.size) (Nat.lt_of_lt_of_le HP4.out.2.2.2 hb.size))))
    have K6 := Wk.step K5 hb
    clear hb HP4 K5
    go_wp2_with fail
    (with_reducible refine (HS1.out _).mono ?_)
    rintro e W6 ⟨rfl, hb⟩
    have hp6 := HP5.out.1.below hb HP5.out.2.2.1
    have hq6 := HP5.out.2.1.below hb HP5.out.2.2.2
    have K7 := Wk.step K6 hb
    have hcv1 := string_of_oc (cap := cap1) hp6
    have hcv2 := string_of_oc (cap := cap2) hq6
    rw [HL2.out.1, HE2.out.1] at hcv1
    rw [HL2.out.2, HE2.out.2] at hcv2
    clear hb HP5 K6 hp6 hq6
    go_wp2_with fail
    (with_reducible refine (HS2.out _).mono ?_)
    rintro e W7 ⟨rfl, hb⟩
    have K8 := Wk.step K7 hb
    clear hb K7 hcv1 hcv2
    have tt : (E == E) = true := beq_self_eq_true _
    go_wp2
    go_ret
    exact ⟨rfl, K8.b⟩
end Go.Proofs.YtbadiljligcenaaDoor
