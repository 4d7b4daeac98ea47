/- Contracts of constantOf, isCheck, eightSteps. -/
import Derived.Test.YtfagfenmampigaaB
import Derived.Test.YtfagfenmampigaaW
namespace Go.Proofs.Ytfagfenmampigaa
open Go.RowKit Go.ChangeShapes
/-- The kinds' constants. -/
def kC (b : Bool) : Nat := if b then 2197175160 else 3988292384
theorem kC_lo (b : Bool) : 2147483648 ≤ kC b := by cases b <;> decide
theorem kC_lt (b : Bool) : kC b < 4294967296 := by cases b <;> decide
theorem kC_W (b : Bool) : isW (kC b) := by cases b <;> (unfold isW; decide)
abbrev kV (b : Bool) : Value := .int .i64 (if b then 2 else 1)
set_option maxRecDepth 100000 in
theorem const_k (b : Bool) (w : World) : Calls Try.prog 32 #[kV b] w fun e w' => e = .returned (.tuple #[ld (kC b), .bool true]) ∧ w' = w := by
  cases b with
  | false =>
    show Calls Try.prog 32 #[.int .i64 1] w fun e w' => e = .returned (.tuple #[.int .u32 3988292384, .bool true]) ∧ w' = w
    go_enter Try.func32, Try.ntmps32
    go_wp2
    go_ret2
    exact ⟨rfl, rfl⟩
  | true =>
    show Calls Try.prog 32 #[.int .i64 2] w fun e w' => e = .returned (.tuple #[.int .u32 2197175160, .bool true]) ∧ w' = w
    go_enter Try.func32, Try.ntmps32
    go_wp2
    go_ret2
    exact ⟨rfl, rfl⟩
set_option maxRecDepth 100000 in
theorem const_no (k : Int) (w : World) (h1 : k ≠ 1) (h2 : k ≠ 2) : Calls Try.prog 32 #[.int .i64 k] w fun e w' => e = .returned (.tuple #[.int .u32 0, .bool false]) ∧ w' = w := by
  have e1 : (k == 1) = false := by simpa using h1
  have e2 : (k == 2) = false := by simpa using h2
  have e3 : decide (k = 1) = false := by simpa using h1
  have e4 : decide (k = 2) = false := by simpa using h2
  go_enter Try.func32, Try.ntmps32
  go_wp2
  go_ret2
  exact ⟨rfl, rfl⟩
set_option maxRecDepth 100000 in
theorem check_yes (n : Int) (w : World) (h1 : 0 ≤ n) (h2 : n ≤ 4294967295) : Calls Try.prog 33 #[.int .i64 n] w fun e w' => e = .returned (.bool true) ∧ w' = w := by
  go_enter Try.func33, Try.ntmps33
  go_wp2
  go_ret
  exact ⟨by show Ending.returned (.bool (decide (n < 4294967296))) = _; rw [decide_eq_true (by omega)], rfl⟩
set_option maxRecDepth 100000 in
theorem check_no (n : Int) (w : World) (h : n < 0 ∨ 4294967295 < n) : Calls Try.prog 33 #[.int .i64 n] w fun e w' => e = .returned (.bool false) ∧ w' = w := by
  by_cases h0 : n < 0
  · have hd : decide (0 ≤ n) = false := by simpa using h0
    go_enter Try.func33, Try.ntmps33
    go_wp2
    go_ret
    exact ⟨rfl, rfl⟩
  · have h1 : 0 ≤ n := by omega
    have h2 : 4294967296 ≤ n := by omega
    clear h h0
    go_enter Try.func33, Try.ntmps33
    go_wp2
    go_ret
    exact ⟨by show Ending.returned (.bool (decide (n < 4294967296))) = _; rw [decide_eq_false (by omega)], rfl⟩
theorem nst_W {c n : Nat} (hc : isW c) (hn : isW n) (k : Nat) : isW (nst c k n) := isW_of_lt (nst_lt (lt_of_isW hc) k (lt_of_isW hn))
theorem stp_W {c n : Nat} (hc : isW c) (hn : isW n) : isW (stp c n) := isW_of_lt (stp_lt (lt_of_isW hc) (lt_of_isW hn))
set_option maxRecDepth 100000 in
set_option maxHeartbeats 2000000 in
theorem eight_any (n c : Nat) (w : World) (hn : isW n) (hc : isW c) : Calls Try.prog 51 #[ld n, ld c] w fun e w' => e = .returned (ld (e8 c n)) ∧ w = w' := by
  have HW := Lib.hid (fun k => nst_W hc hn k)
  have HX := Lib.hid (fun a (h : isW a) => u32_xor h hc)
  have HE := Lib.hid (show e8 c n = nst c 8 n from rfl)
  have h0 : nst c 0 n = n := rfl
  have H0 := Lib.hid h0
  clear h0 hn hc
  go_enter Try.func51, Try.ntmps51
  go_wp2
  go_loop [0, 5, 6] (fun a _ i => ∃ k : Nat, k ≤ 8 ∧ i = .int .i64 k ∧ a = ld (nst c k n)) (fun _ _ i => 8 - (intOf i).toNat)
  case atStart => exact ⟨0, by omega, rfl, by rw [H0.out]⟩
  case round =>
    obtain ⟨k, hk, rfl, rfl⟩ := hrel
    have hw := HW.out k
    have hs := nst_succ c k n
    generalize hxx : nst c k n = x at hw hs ⊢
    have HXX := Lib.hid hxx
    clear hxx
    have HS := Lib.hid hs
    obtain ⟨y, hy⟩ : ∃ y, x / 2 = y := ⟨_, rfl⟩
    have q1 : (x : Int) / 2 = (y : Int) := by omega
    have q2 : (x : Int).tdiv 2 = (y : Int) := by rw [Int.tdiv_eq_ediv_of_nonneg (by omega)]; omega
    have hyw : isW y := by unfold isW at hw ⊢; omega
    have hx := HX.out y hyw
    unfold isW at hw hyw
    by_cases hlt : k < 8
    · rcases Nat.mod_two_eq_zero_or_one x with hp | hp
      · have r1 : (x : Int) % 2 = 0 := by omega
        have r2 : (x : Int).tmod 2 = 0 := by rw [Int.tmod_eq_emod_of_nonneg (by omega)]; omega
        have HV := Lib.hid (show nst c (k + 1) n = y by rw [HS.out]; unfold stp; rw [if_neg (by omega), hy])
        clear hs hy hp hx
        go_wp2
        go_round
        case rel => exact ⟨k + 1, by omega, by go_num, by rw [HV.out]⟩
        case measure => simp [intOf]; omega
      · have r1 : (x : Int) % 2 = 1 := by omega
        have r2 : (x : Int).tmod 2 = 1 := by rw [Int.tmod_eq_emod_of_nonneg (by omega)]; omega
        have HV := Lib.hid (show nst c (k + 1) n = y ^^^ c by rw [HS.out]; unfold stp; rw [if_pos hp, hy])
        clear hs hy hp
        go_wp2
        go_round
        case rel => exact ⟨k + 1, by omega, by go_num, by rw [HV.out]⟩
        case measure => simp [intOf]; omega
    · obtain rfl : k = 8 := by omega
      clear hs hy hx q1 q2
      go_wp2
      go_ret
      exact ⟨by rw [HE.out, HXX.out]; rfl, rfl⟩
end Go.Proofs.Ytfagfenmampigaa
