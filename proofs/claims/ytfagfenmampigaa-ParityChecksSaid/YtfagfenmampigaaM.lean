/- Contracts of Join. -/
import Derived.Test.YtfagfenmampigaaL
import Derived.Test.YtfagfenmampigaaE
namespace Go.Proofs.Ytfagfenmampigaa
open Go.RowKit Go.ChangeShapes
theorem ofInt_64 {a : Nat} (h : a ≤ 4294967295) : (BitVec.ofInt 64 (a : Int)).toNat = a := by
  rw [BitVec.ofInt_natCast, BitVec.toNat_ofNat, Nat.mod_eq_of_lt (by omega)]
theorem i64_xor {a b : Nat} (ha : isW a) (hb : isW b) : bits .xor .i64 (a : Int) (b : Int) = ((a ^^^ b : Nat) : Int) := by
  have h := isW_xor ha hb
  unfold isW at ha hb h
  show IntKind.i64.wrap ((BitVec.ofInt 64 (a : Int) ^^^ BitVec.ofInt 64 (b : Int)).toNat : Int) = _
  rw [BitVec.toNat_xor, ofInt_64 ha, ofInt_64 hb]
  exact IntWalk.i64_in _ (by omega)
theorem join_W {c a b : Nat} (hc : isW c) (ha : isW a) (hb : isW b) (n : Nat) : isW (joinN c a b n) := isW_xor (nst_W hc ha _) hb
set_option maxRecDepth 100000 in
set_option maxHeartbeats 2000000 in
theorem join_kind (kind x y n : Int) (w : World) (h : badK kind) : Calls Try.prog 19 #[.int .i64 kind, .int .i64 x, .int .i64 y, .int .i64 n] w fun e w' => e = .returned (.tuple #[.int .i64 0, .int .i64 2]) ∧ w' = w := by
  have HK := Lib.hid (const_no kind w h.1 h.2)
  clear h
  go_enter Try.func19, Try.ntmps19
  go_wp2_with ((go_at_call 32; (with_reducible refine HK.out.mono ?_); rintro e w' ⟨rfl, rfl⟩))
  go_ret2
  exact ⟨rfl, rfl⟩
set_option maxRecDepth 100000 in
set_option maxHeartbeats 2000000 in
theorem join_a (b : Bool) (x y n : Int) (w : World) (h : badC x) : Calls Try.prog 19 #[kV b, .int .i64 x, .int .i64 y, .int .i64 n] w fun e w' => e = .returned (.tuple #[.int .i64 0, .int .i64 2]) ∧ w' = w := by
  have HK := Lib.hid (const_k b w)
  generalize kC b = c at HK
  generalize (if b then (2 : Int) else 1) = kind at HK ⊢
  have HA := Lib.hid (check_no x w h)
  clear h
  go_enter Try.func19, Try.ntmps19
  go_wp2_with (first | (go_at_call 32; (with_reducible refine HK.out.mono ?_); rintro e w' ⟨rfl, rfl⟩) | (go_at_call 33; (with_reducible refine HA.out.mono ?_); rintro e w' ⟨rfl, rfl⟩))
  go_ret2
  exact ⟨rfl, rfl⟩
set_option maxRecDepth 100000 in
set_option maxHeartbeats 2000000 in
theorem join_b (b : Bool) (x y n : Int) (w : World) (h1 : 0 ≤ x) (h2 : x ≤ 4294967295) (h : badC y) : Calls Try.prog 19 #[kV b, .int .i64 x, .int .i64 y, .int .i64 n] w fun e w' => e = .returned (.tuple #[.int .i64 0, .int .i64 2]) ∧ w' = w := by
  have HK := Lib.hid (const_k b w)
  generalize kC b = c at HK
  generalize (if b then (2 : Int) else 1) = kind at HK ⊢
  have HA := Lib.hid (check_yes x w h1 h2)
  have HB := Lib.hid (check_no y w h)
  clear h
  go_enter Try.func19, Try.ntmps19
  go_wp2_with (first | (go_at_call 32; (with_reducible refine HK.out.mono ?_); rintro e w' ⟨rfl, rfl⟩) | (go_at_call 33; (with_reducible refine HA.out.mono ?_); rintro e w' ⟨rfl, rfl⟩) | (go_at_call 33; (with_reducible refine HB.out.mono ?_); rintro e w' ⟨rfl, rfl⟩))
  go_ret2
  exact ⟨rfl, rfl⟩
set_option maxRecDepth 100000 in
set_option maxHeartbeats 2000000 in
theorem join_lo (b : Bool) (x y n : Int) (w : World) (h1 : 0 ≤ x) (h2 : x ≤ 4294967295) (h3 : 0 ≤ y) (h4 : y ≤ 4294967295) (h : n < 0) : Calls Try.prog 19 #[kV b, .int .i64 x, .int .i64 y, .int .i64 n] w fun e w' => e = .returned (.tuple #[.int .i64 0, .int .i64 2]) ∧ w' = w := by
  have HK := Lib.hid (const_k b w)
  generalize kC b = c at HK
  generalize (if b then (2 : Int) else 1) = kind at HK ⊢
  have HA := Lib.hid (check_yes x w h1 h2)
  have HB := Lib.hid (check_yes y w h3 h4)
  have hd : decide (n < 0) = true := by simpa using h
  go_enter Try.func19, Try.ntmps19
  go_wp2_with (first | (go_at_call 32; (with_reducible refine HK.out.mono ?_); rintro e w' ⟨rfl, rfl⟩) | (go_at_call 33; (with_reducible refine HA.out.mono ?_); rintro e w' ⟨rfl, rfl⟩) | (go_at_call 33; (with_reducible refine HB.out.mono ?_); rintro e w' ⟨rfl, rfl⟩))
  go_ret2
  exact ⟨rfl, rfl⟩
set_option maxRecDepth 100000 in
set_option maxHeartbeats 2000000 in
theorem join_hi (b : Bool) (x y n : Int) (w : World) (h1 : 0 ≤ x) (h2 : x ≤ 4294967295) (h3 : 0 ≤ y) (h4 : y ≤ 4294967295) (h : 1073741824 < n) : Calls Try.prog 19 #[kV b, .int .i64 x, .int .i64 y, .int .i64 n] w fun e w' => e = .returned (.tuple #[.int .i64 0, .int .i64 2]) ∧ w' = w := by
  have HK := Lib.hid (const_k b w)
  generalize kC b = c at HK
  generalize (if b then (2 : Int) else 1) = kind at HK ⊢
  have HA := Lib.hid (check_yes x w h1 h2)
  have HB := Lib.hid (check_yes y w h3 h4)
  have hd : decide (n < 0) = false := by simp; omega
  have hd2 : decide (1073741824 < n) = true := by simpa using h
  go_enter Try.func19, Try.ntmps19
  go_wp2_with (first | (go_at_call 32; (with_reducible refine HK.out.mono ?_); rintro e w' ⟨rfl, rfl⟩) | (go_at_call 33; (with_reducible refine HA.out.mono ?_); rintro e w' ⟨rfl, rfl⟩) | (go_at_call 33; (with_reducible refine HB.out.mono ?_); rintro e w' ⟨rfl, rfl⟩))
  go_ret2
  exact ⟨rfl, rfl⟩
set_option maxRecDepth 100000 in
set_option maxHeartbeats 2000000 in
theorem join_z (b : Bool) (x y : Int) (w : World) (h1 : 0 ≤ x) (h2 : x ≤ 4294967295) (h3 : 0 ≤ y) (h4 : y ≤ 4294967295) (h : y ≠ 0) : Calls Try.prog 19 #[kV b, .int .i64 x, .int .i64 y, .int .i64 0] w fun e w' => e = .returned (.tuple #[.int .i64 0, .int .i64 2]) ∧ w' = w := by
  have HK := Lib.hid (const_k b w)
  generalize kC b = c at HK
  generalize (if b then (2 : Int) else 1) = kind at HK ⊢
  have HA := Lib.hid (check_yes x w h1 h2)
  have HB := Lib.hid (check_yes y w h3 h4)
  have hd : (y != 0) = true := by simpa using h
  have hd2 : (y == 0) = false := by simpa using h
  have hd3 : decide (y = 0) = false := by simpa using h
  go_enter Try.func19, Try.ntmps19
  go_wp2_with (first | (go_at_call 32; (with_reducible refine HK.out.mono ?_); rintro e w' ⟨rfl, rfl⟩) | (go_at_call 33; (with_reducible refine HA.out.mono ?_); rintro e w' ⟨rfl, rfl⟩) | (go_at_call 33; (with_reducible refine HB.out.mono ?_); rintro e w' ⟨rfl, rfl⟩))
  go_ret2
  exact ⟨rfl, rfl⟩
set_option maxRecDepth 100000 in
set_option maxHeartbeats 4000000 in
theorem join_yes (b : Bool) (x y n : Nat) (w : World) (hx : x ≤ 4294967295) (hy : y ≤ 4294967295) (hn : n ≤ 1073741824) (h0 : n = 0 → y = 0) :
    Calls Try.prog 19 #[kV b, .int .i64 (x : Int), .int .i64 (y : Int), .int .i64 (n : Int)] w fun e w' => e = .returned (.tuple #[.int .i64 ((joinN (kC b) x y n : Nat) : Int), .int .i64 0]) ∧ Below w.heap.size w w' := by
  have HK := Lib.hid (const_k b w)
  have HA := Lib.hid (check_yes (x : Int) w (by omega) (by omega))
  have HB := Lib.hid (check_yes (y : Int) w (by omega) (by omega))
  have HS := Lib.hid (fun W => steps_any (kC b) W (kC_W b))
  have HZ := Lib.hid (fun g W (hT : Lar W g 94 (tab (kC b))) => zeros_any (kC b) x n g W (kC_W b) hx hn hT)
  have hmW := nst_W (kC_W b) hx (8 * n)
  have hj : joinN (kC b) x y n = nst (kC b) (8 * n) x ^^^ y := rfl
  have hxr := i64_xor hmW hy
  generalize nst (kC b) (8 * n) x = m at HZ hmW hj hxr
  have HJ := Lib.hid hj
  generalize hjn : joinN (kC b) x y n = jn at HJ ⊢
  generalize kC b = c at HK HS HZ
  generalize (if b then (2 : Int) else 1) = kind at HK ⊢
  have hcv : IntKind.u32.wrap (x : Int) = (x : Int) := u32_back hx
  unfold isW at hmW
  have hcv2 : IntKind.i64.wrap (m : Int) = (m : Int) := IntWalk.i64_in _ (by omega)
  have hd1 : decide ((n : Int) < 0) = false := decide_eq_false (by omega)
  have hd2 : decide (1073741824 < (n : Int)) = false := decide_eq_false (by omega)
  clear hjn hj
  by_cases hz : n = 0
  · have hy0 := h0 hz
    subst hz
    subst hy0
    clear h0
    have HB := Lib.hid (check_yes 0 w (by decide) (by decide))
    have HZ : Hid (∀ g W, Lar W g 94 (tab c) → Calls Try.prog 40 #[.pointer (some ⟨g, 0, none⟩), ld x, .int .i64 0] W fun e w' => e = .returned (ld m) ∧ Below W.heap.size W w') := Lib.hid (fun g W h => HZ.out g W h)
    have hxr0 : bits .xor .i64 (m : Int) 0 = ((m ^^^ 0 : Nat) : Int) := hxr
    clear hxr
    go_enter Try.func19, Try.ntmps19
    go_wp2_with (first | (go_at_call 32; (with_reducible refine HK.out.mono ?_); rintro e w' ⟨rfl, rfl⟩) | (go_at_call 33; (with_reducible refine HA.out.mono ?_); rintro e w' ⟨rfl, rfl⟩) | (go_at_call 33; (with_reducible refine HB.out.mono ?_); rintro e w' ⟨rfl, rfl⟩))
    (with_reducible refine (HS.out _).mono ?_)
    rintro e w1 ⟨rfl, hT, hb⟩
    have HT := Lib.hid hT
    have HBl := Lib.hid hb
    clear hT hb
    go_wp2_with fail
    (with_reducible refine (HZ.out _ _ HT.out).mono ?_)
    rintro e w2 ⟨rfl, hb⟩
    have HB2 := Lib.hid (bstep HBl.out hb)
    clear hb
    go_wp2_with fail
    go_ret2
    exact ⟨by rw [HJ.out, Nat.xor_zero]; rfl, HB2.out⟩
  · have hd4 : decide ((n : Int) = 0) = false := decide_eq_false (by omega)
    have hd3 : ((n : Int) == 0) = false := hd4
    have hd5 : (n : Int) ≠ 0 := by omega
    clear h0 hz
    go_enter Try.func19, Try.ntmps19
    go_wp2_with (first | (go_at_call 32; (with_reducible refine HK.out.mono ?_); rintro e w' ⟨rfl, rfl⟩) | (go_at_call 33; (with_reducible refine HA.out.mono ?_); rintro e w' ⟨rfl, rfl⟩) | (go_at_call 33; (with_reducible refine HB.out.mono ?_); rintro e w' ⟨rfl, rfl⟩))
    (with_reducible refine (HS.out _).mono ?_)
    rintro e w1 ⟨rfl, hT, hb⟩
    have HT := Lib.hid hT
    have HBl := Lib.hid hb
    clear hT hb
    go_wp2_with fail
    (with_reducible refine (HZ.out _ _ HT.out).mono ?_)
    rintro e w2 ⟨rfl, hb⟩
    have HB2 := Lib.hid (bstep HBl.out hb)
    clear hb
    go_wp2_with fail
    go_ret2
    exact ⟨by rw [HJ.out]; rfl, HB2.out⟩
end Go.Proofs.Ytfagfenmampigaa
