/- The reference: half, Join, Right. -/
import Derived.Test.YtfagfenmampigaaX
namespace Go.Proofs.Ytfagfenmampigaa
open Go.RowKit Go.ChangeShapes
set_option maxRecDepth 100000 in
theorem half_any (b : Bool) (n : Nat) (w : World) (hn : isW n) : Calls Try.prog 41 #[kV b, .int .i64 (n : Int)] w fun e w' => e = .returned (.int .i64 ((stp (kC b) n : Nat) : Int)) ∧ w' = w := by
  have hW : isW (n / 2) := by unfold isW at hn ⊢; omega
  have hx := i64_xor hW (kC_W b)
  have hW2 : n ≤ 4294967295 := hn
  obtain ⟨q, hq⟩ : ∃ q, n / 2 = q := ⟨_, rfl⟩
  have hqi : (n : Int) / 2 = (q : Int) := by omega
  by_cases hr : n % 2 = 1
  · have hri : (n : Int) % 2 = 1 := by omega
    have hs : stp (kC b) n = q ^^^ kC b := by unfold stp; rw [if_pos hr, hq]
    rw [hs]
    rw [hq] at hx
    cases b
    · have hx2 : bits .xor .i64 (q : Int) 3988292384 = ((q ^^^ kC false : Nat) : Int) := hx
      clear hx hs hq
      generalize q ^^^ kC false = z at hx2 ⊢
      go_enter Try.func41, Try.ntmps41
      go_wp2
      go_ret
      exact ⟨rfl, rfl⟩
    · have hx2 : bits .xor .i64 (q : Int) 2197175160 = ((q ^^^ kC true : Nat) : Int) := hx
      clear hx hs hq
      generalize q ^^^ kC true = z at hx2 ⊢
      go_enter Try.func41, Try.ntmps41
      go_wp2
      go_ret
      exact ⟨rfl, rfl⟩
  · have hri : (n : Int) % 2 = 0 := by omega
    have hs : stp (kC b) n = q := by unfold stp; rw [if_neg hr, hq]
    rw [hs]
    clear hx hs hq
    cases b
    · go_enter Try.func41, Try.ntmps41
      go_wp2
      go_ret
      exact ⟨rfl, rfl⟩
    · go_enter Try.func41, Try.ntmps41
      go_wp2
      go_ret
      exact ⟨rfl, rfl⟩
set_option maxRecDepth 100000 in
set_option maxHeartbeats 2000000 in
theorem rJoin_any (b : Bool) (x y n : Nat) (w : World) (hx : isW x) (hy : isW y) (hn : n ≤ 2000) : Calls Try.prog 20 #[kV b, .int .i64 (x : Int), .int .i64 (y : Int), .int .i64 (n : Int)] w fun e w' => e = .returned (.int .i64 ((joinN (kC b) x y n : Nat) : Int)) ∧ w' = w := by
  have HW := Lib.hid (fun k => nst_W (kC_W b) hx k)
  have HH := Lib.hid (fun m W (h : isW m) => half_any b m W h)
  have hxr := i64_xor (nst_W (kC_W b) hx (8 * n)) hy
  have hj : joinN (kC b) x y n = nst (kC b) (8 * n) x ^^^ y := rfl
  have HJ := Lib.hid (And.intro hxr hj)
  have HS := Lib.hid (fun k => nst_succ (kC b) k x)
  clear hx hy hxr hj
  generalize joinN (kC b) x y n = jn at HJ ⊢
  generalize kC b = c at HW HH HJ HS
  have hn8 : (8 : Int) * (n : Int) ≤ 16000 := by omega
  generalize (if b then (2 : Int) else 1) = kind at HH ⊢
  go_enter Try.func20, Try.ntmps20
  go_wp2
  go_loopw [1, 9] (fun a i wr => ∃ k : Nat, k ≤ 8 * n ∧ i = .int .i64 (k : Int) ∧ a = .int .i64 ((nst c k x : Nat) : Int) ∧ w = wr) (fun _ i _ => 8 * n - (intOf i).toNat)
  case atStart => exact ⟨0, by omega, rfl, rfl, rfl⟩
  case round =>
    obtain ⟨k, hk, rfl, rfl, rfl⟩ := hrel
    by_cases hlt : k < 8 * n
    · have hki : (k : Int) < 8 * (n : Int) := by omega
      have HHk := Lib.hid (HH.out (nst c k x) w (HW.out k))
      rw [← HS.out k] at HHk
      generalize nst c k x = m at HHk
      generalize hm2 : nst c (k + 1) x = m2 at HHk
      have HM := Lib.hid hm2
      clear hm2
      go_wp2_with (go_at_call 41; (with_reducible refine HHk.out.mono ?_); rintro e w' ⟨rfl, rfl⟩)
      go_roundw
      case rel => exact ⟨k + 1, by omega, by go_num, by rw [HM.out], by first | rfl | trivial⟩
      case measure => simp [intOf]; omega
    · obtain rfl : k = 8 * n := by omega
      have hki : ((8 * n : Nat) : Int) = 8 * (n : Int) := by omega
      have hlast := HJ.out.1
      have HJJ := Lib.hid HJ.out.2
      clear HJ
      generalize nst c (8 * n) x = m at hlast HJJ
      rw [hki]
      go_wp2
      go_ret
      exact ⟨by rw [HJJ.out]; rfl, rfl⟩
theorem right_yes (b : Bool) (crc : Int) (w : World) (h1 : 0 ≤ crc) (h2 : crc ≤ 4294967295) : Calls Try.prog 15 #[kV b, .int .i64 crc] w fun e w' => e = .returned (.bool true) ∧ w' = w := by
  cases b
  · go_enter Try.func15, Try.ntmps15
    go_wp2
    go_ret
    exact ⟨rfl, rfl⟩
  · go_enter Try.func15, Try.ntmps15
    go_wp2
    go_ret
    exact ⟨rfl, rfl⟩
theorem right_kind (kind crc : Int) (w : World) (h : badK kind) : Calls Try.prog 15 #[.int .i64 kind, .int .i64 crc] w fun e w' => e = .returned (.bool false) ∧ w' = w := by
  have h1 : (kind == 1) = false := beq_false_of_ne h.1
  have h2 : (kind == 2) = false := beq_false_of_ne h.2
  go_enter Try.func15, Try.ntmps15
  go_wp2
  go_ret
  exact ⟨rfl, rfl⟩
theorem right_crc (b : Bool) (crc : Int) (w : World) (h : badC crc) : Calls Try.prog 15 #[kV b, .int .i64 crc] w fun e w' => e = .returned (.bool false) ∧ w' = w := by
  rcases h with h | h
  · have h1 : ¬ (0 ≤ crc) := by omega
    cases b
    · go_enter Try.func15, Try.ntmps15
      go_wp2
      go_ret
      exact ⟨rfl, rfl⟩
    · go_enter Try.func15, Try.ntmps15
      go_wp2
      go_ret
      exact ⟨rfl, rfl⟩
  · have h1 : ¬ (crc ≤ 4294967295) := by omega
    have h0 : 0 ≤ crc := by omega
    cases b
    · go_enter Try.func15, Try.ntmps15
      go_wp2
      go_ret
      exact ⟨rfl, rfl⟩
    · go_enter Try.func15, Try.ntmps15
      go_wp2
      go_ret
      exact ⟨rfl, rfl⟩
end Go.Proofs.Ytfagfenmampigaa
