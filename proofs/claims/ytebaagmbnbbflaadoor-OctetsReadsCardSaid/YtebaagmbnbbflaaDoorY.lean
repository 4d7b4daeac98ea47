/- OctetsWrites returns true. -/
import Derived.Test.YtebaagmbnbbflaaDoorL
import Derived.Test.YtebaagmbnbbflaaDoorX
namespace Go.Proofs.YtebaagmbnbbflaaDoor
open Go.RowKit Go.ChangeShapes

theorem idx47 (a0 a1 a2 : Int) (j : Nat) (hj : j < 3) : ∃ X : Int, ∀ w : World, (Instr.index 47 (.agg #[.int .i64 a0, .int .i64 a1, .int .i64 a2]) (.int .i64 (j : Int))).run Tryd.prog w = .ok (.int .i64 X) w := by
  match j, hj with
  | 0, _ => exact ⟨a0, fun w => by kernel_rfl⟩
  | 1, _ => exact ⟨a1, fun w => by kernel_rfl⟩
  | 2, _ => exact ⟨a2, fun w => by kernel_rfl⟩
  | n + 3, h => exact absurd h (by omega)

theorem put_I_big (n v : Int) (w : World) (h1 : 1 ≤ n) (h7 : n ≤ 7) (h0 : 0 ≤ v) (hv : v ≤ 9223372036854775807) (hb : ¬ v.toNat < 256 ^ n.toNat) :
    Calls Tryd.prog 23 #[.int .i64 n, .int .i64 v] w fun e w' => e = .returned (.tuple #[.string ByteArray.empty, .int .i64 6]) ∧ w = w' := by
  obtain ⟨a, rfl⟩ := Int.eq_ofNat_of_zero_le (show 0 ≤ n by omega)
  obtain ⟨b, rfl⟩ := Int.eq_ofNat_of_zero_le h0
  exact put_big a b w (by omega) (by omega) (by omega) (by simpa using hb)
theorem put_I_ok (n v : Int) (w : World) (P : ByteArray) (h1 : 1 ≤ n) (h7 : n ≤ 7) (h0 : 0 ≤ v) (hv : v ≤ 9223372036854775807) (hb : v.toNat < 256 ^ n.toNat) (hP : (⟨(beB n.toNat v.toNat).toArray⟩ : ByteArray) = P) :
    Calls Tryd.prog 23 #[.int .i64 n, .int .i64 v] w fun e w' => e = .returned (.tuple #[.string P, .int .i64 0]) ∧ Below w.heap.size w w' := by
  obtain ⟨a, rfl⟩ := Int.eq_ofNat_of_zero_le (show 0 ≤ n by omega)
  obtain ⟨b, rfl⟩ := Int.eq_ofNat_of_zero_le h0
  subst hP
  exact put_ok a b w (by omega) (by omega) (by omega) (by simpa using hb)
theorem fits_I (n v : Int) (r : Bool) (w : World) (h1 : 1 ≤ n) (h7 : n ≤ 7) (h0 : 0 ≤ v) (hv : v ≤ 9223372036854775807) (hr : decide (v.toNat < 256 ^ n.toNat) = r) :
    Calls Tryd.prog 24 #[.int .i64 n, .int .i64 v] w fun e w' => e = .returned (.bool r) ∧ w = w' := by
  obtain ⟨a, rfl⟩ := Int.eq_ofNat_of_zero_le (show 0 ≤ n by omega)
  obtain ⟨b, rfl⟩ := Int.eq_ofNat_of_zero_le h0
  subst hr
  exact refFits_any a b w (by omega) (by omega)
theorem refPut_I (n v : Int) (w : World) (P : ByteArray) (h1 : 1 ≤ n) (h7 : n ≤ 7) (h0 : 0 ≤ v) (hv : v ≤ 9223372036854775807) (hP : (⟨(beB n.toNat v.toNat).toArray⟩ : ByteArray) = P) :
    Calls Tryd.prog 25 #[.int .i64 n, .int .i64 v] w fun e w' => e = .returned (.string P) ∧ Below w.heap.size w w' := by
  obtain ⟨a, rfl⟩ := Int.eq_ofNat_of_zero_le (show 0 ≤ n by omega)
  obtain ⟨b, rfl⟩ := Int.eq_ofNat_of_zero_le h0
  subst hP
  exact refPut_any a b w (by omega) (by omega)
theorem upTo_nat {z u : Int} (hu : unitB u = true) : upTo z u = z + ((upTo z u - z).toNat : Nat) := by
  have := upTo_bounds (n := z) hu
  omega
theorem pad_I (z : ByteArray) (u : Int) (w : World) (Q : ByteArray) (hz : z.size ≤ 300) (hu : unitB u = true) (hQ : z ++ (⟨(Lib.repeatL [0] (upTo z.size u - z.size).toNat).toArray⟩ : ByteArray) = Q) :
    Calls Tryd.prog 26 #[.string z, .int .i64 u] w fun e w' => e = .returned (.tuple #[.string Q, .int .i64 0]) ∧ Below w.heap.size w w' := by
  subst hQ
  exact pad_ok z u _ w (by omega) hu (upTo_nat hu)
theorem refPad_I (z : ByteArray) (u : Int) (w : World) (Q : ByteArray) (hz : z.size ≤ 300) (hu : unitB u = true) (hQ : z ++ (⟨(Lib.repeatL [0] (upTo z.size u - z.size).toNat).toArray⟩ : ByteArray) = Q) :
    Calls Tryd.prog 27 #[.string z, .int .i64 u] w fun e w' => e = .returned (.string Q) ∧ Below w.heap.size w w' := by
  subst hQ
  exact refPad_any z u _ w (by omega) hu (upTo_nat hu)
theorem unit_is (n : Int) (r : Bool) (w : World) (h : unitB n = r) : Calls Tryd.prog 18 #[.int .i64 n] w fun e w' => e = .returned (.bool r) ∧ w = w' := by
  subst h; exact refUnit_any n w
theorem cut_size (s : ByteArray) : (s.extract 0 (min (s.size : Int) 300).toNat).size ≤ 300 := by
  rw [ByteArray.size_extract]; omega

set_option maxRecDepth 100000 in
set_option maxHeartbeats 8000000 in
theorem writes_true (n v k : Int) (s : ByteArray) (w : World) (hD : Digits w) (hs : s.size ≤ maxLen) (hv0 : -9223372036854775808 ≤ v) (hv1 : v ≤ 9223372036854775807) (hk0 : 0 ≤ k) (hk1 : k ≤ 255) :
    Calls Tryd.prog 4 #[.int .i64 n, .int .i64 v, .string s, .int .u8 k] w fun e w' => e = .returned (.bool true) ∧ Below w.heap.size w w' := by
  have HD := Lib.hid hD
  clear hD
  have hcs := cut_size s
  unfold maxLen at hs
  go_enter Tryd.func4, Tryd.ntmps4
  go_wp2_with (go_at_call 10; refine (works_true _ HD.out).mono ?_; rintro e W1 ⟨rfl, hB1⟩)
  generalize s.extract 0 (min (s.size : Int) 300).toNat = z at hcs ⊢
  go_loopw [31] (fun i wr => ∃ j : Nat, j ≤ 3 ∧ i = .int .i64 j ∧ Below w.heap.size w wr) (fun i _ => 3 - (intOf i).toNat)
  case atStart => exact ⟨0, by omega, rfl, hB1⟩
  case round =>
    obtain ⟨j, hj, rfl, hB⟩ := hrel
    by_cases hlt : j < 3
    · obtain ⟨X, hidx⟩ := idx47 n (k % 9) (wrap64 (2 ^ (k % 4).toNat)) j hlt
      by_cases x1 : 1 ≤ X
      · by_cases x7 : X ≤ 7
        · by_cases v0 : 0 ≤ v
          · have t1 : decide (X < 1) = false := by simp; omega
            have t2 : decide (7 < X) = false := by simp; omega
            have t3 : decide (v < 0) = false := by simp; omega
            by_cases hb : v.toNat < 256 ^ X.toNat
            · have HOK := Lib.hid hb
              obtain ⟨P, hP⟩ : ∃ P, (⟨(beB X.toNat v.toNat).toArray⟩ : ByteArray) = P := ⟨_, rfl⟩
              have HP := Lib.hid hP
              clear hb hP
              cases hu : unitB X
              · have HU := Lib.hid hu
                clear hu
                go_wp2_with (first | (go_at_call 23; refine (put_I_ok X v _ P x1 x7 v0 hv1 HOK.out HP.out).mono ?_; rintro e w2 ⟨rfl, h2⟩; have B2 := bstep hB h2; clear h2) | (go_at_call 24; refine (fits_I X v true _ x1 x7 v0 hv1 (decide_eq_true HOK.out)).mono ?_; rintro e w3 ⟨rfl, rfl⟩) | (go_at_call 25; refine (refPut_I X v _ P x1 x7 v0 hv1 HP.out).mono ?_; rintro e w4 ⟨rfl, h4⟩; have B4 := bstep B2 h4; clear h4) | (go_at_call 18; refine (unit_is X false _ HU.out).mono ?_; rintro e w5 ⟨rfl, rfl⟩) | (go_at_call 26; refine (pad_bad z X _ HU.out).mono ?_; rintro e w6 ⟨rfl, rfl⟩))
                go_roundw
                case rel => exact ⟨j + 1, by omega, by go_num, B4⟩
                case measure => simp [intOf]; omega
              · have HU := Lib.hid hu
                clear hu
                obtain ⟨Q, hQ⟩ : ∃ Q, z ++ (⟨(Lib.repeatL [0] (upTo z.size X - z.size).toNat).toArray⟩ : ByteArray) = Q := ⟨_, rfl⟩
                have HQ := Lib.hid hQ
                clear hQ
                go_wp2_with (first | (go_at_call 23; refine (put_I_ok X v _ P x1 x7 v0 hv1 HOK.out HP.out).mono ?_; rintro e w2 ⟨rfl, h2⟩; have B2 := bstep hB h2; clear h2) | (go_at_call 24; refine (fits_I X v true _ x1 x7 v0 hv1 (decide_eq_true HOK.out)).mono ?_; rintro e w3 ⟨rfl, rfl⟩) | (go_at_call 25; refine (refPut_I X v _ P x1 x7 v0 hv1 HP.out).mono ?_; rintro e w4 ⟨rfl, h4⟩; have B4 := bstep B2 h4; clear h4) | (go_at_call 18; refine (unit_is X true _ HU.out).mono ?_; rintro e w5 ⟨rfl, rfl⟩) | (go_at_call 26; refine (pad_I z X _ Q hcs HU.out HQ.out).mono ?_; rintro e w6 ⟨rfl, h6⟩; have B6 := bstep B4 h6; clear h6) | (go_at_call 27; refine (refPad_I z X _ Q hcs HU.out HQ.out).mono ?_; rintro e w7 ⟨rfl, h7⟩; have B7 := bstep B6 h7; clear h7))
                go_roundw
                case rel => exact ⟨j + 1, by omega, by go_num, B7⟩
                case measure => simp [intOf]; omega
            · have HBIG := Lib.hid hb
              clear hb
              cases hu : unitB X
              · have HU := Lib.hid hu
                clear hu
                go_wp2_with (first | (go_at_call 23; refine (put_I_big X v _ x1 x7 v0 hv1 HBIG.out).mono ?_; rintro e w2 ⟨rfl, rfl⟩) | (go_at_call 24; refine (fits_I X v false _ x1 x7 v0 hv1 (decide_eq_false HBIG.out)).mono ?_; rintro e w2 ⟨rfl, rfl⟩) | (go_at_call 18; refine (unit_is X false _ HU.out).mono ?_; rintro e w5 ⟨rfl, rfl⟩) | (go_at_call 26; refine (pad_bad z X _ HU.out).mono ?_; rintro e w6 ⟨rfl, rfl⟩))
                go_roundw
                case rel => exact ⟨j + 1, by omega, by go_num, hB⟩
                case measure => simp [intOf]; omega
              · have HU := Lib.hid hu
                clear hu
                obtain ⟨Q, hQ⟩ : ∃ Q, z ++ (⟨(Lib.repeatL [0] (upTo z.size X - z.size).toNat).toArray⟩ : ByteArray) = Q := ⟨_, rfl⟩
                have HQ := Lib.hid hQ
                clear hQ
                go_wp2_with (first | (go_at_call 23; refine (put_I_big X v _ x1 x7 v0 hv1 HBIG.out).mono ?_; rintro e w2 ⟨rfl, rfl⟩) | (go_at_call 24; refine (fits_I X v false _ x1 x7 v0 hv1 (decide_eq_false HBIG.out)).mono ?_; rintro e w2 ⟨rfl, rfl⟩) | (go_at_call 18; refine (unit_is X true _ HU.out).mono ?_; rintro e w5 ⟨rfl, rfl⟩) | (go_at_call 26; refine (pad_I z X _ Q hcs HU.out HQ.out).mono ?_; rintro e w6 ⟨rfl, h6⟩; have B6 := bstep hB h6; clear h6) | (go_at_call 27; refine (refPad_I z X _ Q hcs HU.out HQ.out).mono ?_; rintro e w7 ⟨rfl, h7⟩; have B7 := bstep B6 h7; clear h7))
                go_roundw
                case rel => exact ⟨j + 1, by omega, by go_num, B7⟩
                case measure => simp [intOf]; omega
          · have HBAD := Lib.hid (show X < 1 ∨ 7 < X ∨ v < 0 by omega)
            have t1 : decide (X < 1) = false := by simp; omega
            have t2 : decide (7 < X) = false := by simp; omega
            have t3 : decide (v < 0) = true := by simp; omega
            cases hu : unitB X
            · have HU := Lib.hid hu
              clear hu
              go_wp2_with (first | (go_at_call 23; refine (put_bad X v _ HBAD.out).mono ?_; rintro e w2 ⟨rfl, rfl⟩) | (go_at_call 18; refine (unit_is X false _ HU.out).mono ?_; rintro e w5 ⟨rfl, rfl⟩) | (go_at_call 26; refine (pad_bad z X _ HU.out).mono ?_; rintro e w6 ⟨rfl, rfl⟩))
              go_roundw
              case rel => exact ⟨j + 1, by omega, by go_num, hB⟩
              case measure => simp [intOf]; omega
            · have HU := Lib.hid hu
              clear hu
              obtain ⟨Q, hQ⟩ : ∃ Q, z ++ (⟨(Lib.repeatL [0] (upTo z.size X - z.size).toNat).toArray⟩ : ByteArray) = Q := ⟨_, rfl⟩
              have HQ := Lib.hid hQ
              clear hQ
              go_wp2_with (first | (go_at_call 23; refine (put_bad X v _ HBAD.out).mono ?_; rintro e w2 ⟨rfl, rfl⟩) | (go_at_call 18; refine (unit_is X true _ HU.out).mono ?_; rintro e w5 ⟨rfl, rfl⟩) | (go_at_call 26; refine (pad_I z X _ Q hcs HU.out HQ.out).mono ?_; rintro e w6 ⟨rfl, h6⟩; have B6 := bstep hB h6; clear h6) | (go_at_call 27; refine (refPad_I z X _ Q hcs HU.out HQ.out).mono ?_; rintro e w7 ⟨rfl, h7⟩; have B7 := bstep B6 h7; clear h7))
              go_roundw
              case rel => exact ⟨j + 1, by omega, by go_num, B7⟩
              case measure => simp [intOf]; omega
        · have HBAD := Lib.hid (show X < 1 ∨ 7 < X ∨ v < 0 by omega)
          have t1 : decide (X < 1) = false := by simp; omega
          have t2 : decide (7 < X) = true := by simp; omega
          cases hu : unitB X
          · have HU := Lib.hid hu
            clear hu
            go_wp2_with (first | (go_at_call 23; refine (put_bad X v _ HBAD.out).mono ?_; rintro e w2 ⟨rfl, rfl⟩) | (go_at_call 18; refine (unit_is X false _ HU.out).mono ?_; rintro e w5 ⟨rfl, rfl⟩) | (go_at_call 26; refine (pad_bad z X _ HU.out).mono ?_; rintro e w6 ⟨rfl, rfl⟩))
            go_roundw
            case rel => exact ⟨j + 1, by omega, by go_num, hB⟩
            case measure => simp [intOf]; omega
          · have HU := Lib.hid hu
            clear hu
            obtain ⟨Q, hQ⟩ : ∃ Q, z ++ (⟨(Lib.repeatL [0] (upTo z.size X - z.size).toNat).toArray⟩ : ByteArray) = Q := ⟨_, rfl⟩
            have HQ := Lib.hid hQ
            clear hQ
            go_wp2_with (first | (go_at_call 23; refine (put_bad X v _ HBAD.out).mono ?_; rintro e w2 ⟨rfl, rfl⟩) | (go_at_call 18; refine (unit_is X true _ HU.out).mono ?_; rintro e w5 ⟨rfl, rfl⟩) | (go_at_call 26; refine (pad_I z X _ Q hcs HU.out HQ.out).mono ?_; rintro e w6 ⟨rfl, h6⟩; have B6 := bstep hB h6; clear h6) | (go_at_call 27; refine (refPad_I z X _ Q hcs HU.out HQ.out).mono ?_; rintro e w7 ⟨rfl, h7⟩; have B7 := bstep B6 h7; clear h7))
            go_roundw
            case rel => exact ⟨j + 1, by omega, by go_num, B7⟩
            case measure => simp [intOf]; omega
      · have HBAD := Lib.hid (show X < 1 ∨ 7 < X ∨ v < 0 by omega)
        have t1 : decide (X < 1) = true := by simp; omega
        cases hu : unitB X
        · have HU := Lib.hid hu
          clear hu
          go_wp2_with (first | (go_at_call 23; refine (put_bad X v _ HBAD.out).mono ?_; rintro e w2 ⟨rfl, rfl⟩) | (go_at_call 18; refine (unit_is X false _ HU.out).mono ?_; rintro e w5 ⟨rfl, rfl⟩) | (go_at_call 26; refine (pad_bad z X _ HU.out).mono ?_; rintro e w6 ⟨rfl, rfl⟩))
          go_roundw
          case rel => exact ⟨j + 1, by omega, by go_num, hB⟩
          case measure => simp [intOf]; omega
        · have HU := Lib.hid hu
          clear hu
          obtain ⟨Q, hQ⟩ : ∃ Q, z ++ (⟨(Lib.repeatL [0] (upTo z.size X - z.size).toNat).toArray⟩ : ByteArray) = Q := ⟨_, rfl⟩
          have HQ := Lib.hid hQ
          clear hQ
          go_wp2_with (first | (go_at_call 23; refine (put_bad X v _ HBAD.out).mono ?_; rintro e w2 ⟨rfl, rfl⟩) | (go_at_call 18; refine (unit_is X true _ HU.out).mono ?_; rintro e w5 ⟨rfl, rfl⟩) | (go_at_call 26; refine (pad_I z X _ Q hcs HU.out HQ.out).mono ?_; rintro e w6 ⟨rfl, h6⟩; have B6 := bstep hB h6; clear h6) | (go_at_call 27; refine (refPad_I z X _ Q hcs HU.out HQ.out).mono ?_; rintro e w7 ⟨rfl, h7⟩; have B7 := bstep B6 h7; clear h7))
          go_roundw
          case rel => exact ⟨j + 1, by omega, by go_num, B7⟩
          case measure => simp [intOf]; omega
    · go_wp2
      go_ret
      exact ⟨rfl, hB⟩
end Go.Proofs.YtebaagmbnbbflaaDoor
