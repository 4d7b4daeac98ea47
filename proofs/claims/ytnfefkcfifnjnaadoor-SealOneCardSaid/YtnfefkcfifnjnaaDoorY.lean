/- Contracts of the checks and of Block. -/
import Derived.Test.YtnfefkcfifnjnaaDoorX
namespace Go.Proofs.YtnfefkcfifnjnaaDoor
open Go.RowKit Go.ChangeShapes

/-- A key, a nonce and a counter. -/
def good (s t : ByteArray) (c : Int) : Bool := decide (s.size = 32 ∧ t.size = 12 ∧ 0 ≤ c ∧ c ≤ 4294967295)
set_option maxRecDepth 100000 in
set_option maxHeartbeats 1000000 in
theorem verify_yes (s t : ByteArray) (c : Int) (w : World) (hg : good s t c = true) :
    Calls Tryd.prog 49 #[.string s, .string t, .int .i64 c] w fun e w' => e = .returned (.int .i64 0) ∧ w = w' := by
  obtain ⟨h1, h2, h3, h4⟩ := of_decide_eq_true hg
  clear hg
  go_enter Tryd.func49, Tryd.ntmps49
  go_wp2
  go_ret
  exact ⟨rfl, rfl⟩
set_option maxRecDepth 100000 in
set_option maxHeartbeats 1000000 in
theorem verify_no (s t : ByteArray) (c : Int) (w : World) (hg : good s t c = false) :
    Calls Tryd.prog 49 #[.string s, .string t, .int .i64 c] w fun e w' => e = .returned (.int .i64 2) ∧ w = w' := by
  have h := of_decide_eq_false hg
  clear hg
  by_cases h1 : s.size = 32
  · by_cases h2 : t.size = 12
    · by_cases h3 : c < 0
      · clear h
        go_enter Tryd.func49, Tryd.ntmps49
        go_wp2
        go_ret
        exact ⟨rfl, rfl⟩
      · have h4 : 4294967295 < c := by omega
        have h5 : 0 ≤ c := by omega
        clear h
        go_enter Tryd.func49, Tryd.ntmps49
        go_wp2
        go_ret
        exact ⟨rfl, rfl⟩
    · clear h
      have b2 : ((t.size : Int) != 12) = true := by simp; omega
      go_enter Tryd.func49, Tryd.ntmps49
      go_wp2
      go_ret
      exact ⟨rfl, rfl⟩
  · clear h
    have b1 : ((s.size : Int) != 32) = true := by simp; omega
    go_enter Tryd.func49, Tryd.ntmps49
    go_wp2
    go_ret
    exact ⟨rfl, rfl⟩
set_option maxRecDepth 100000 in
set_option maxHeartbeats 1000000 in
theorem block_no (s t : ByteArray) (c : Int) (w : World) (hg : good s t c = false) :
    Calls Tryd.prog 26 #[.string s, .string t, .int .i64 c] w fun e w' => e = .returned (.tuple #[.string ⟨#[]⟩, .int .i64 2]) ∧ w = w' := by
  have HV := Lib.hid fun w => verify_no s t c w hg
  clear hg
  go_enter Tryd.func26, Tryd.ntmps26
  go_wp2_with (go_at_call 49; (with_reducible refine (HV.out _).mono ?_); rintro e V ⟨rfl, rfl⟩)
  go_ret2
  exact ⟨rfl, rfl⟩
theorem bs_out (s : ByteArray) : ∃ l, s = bs l ∧ l.length = s.size := ⟨s.data.toList, rfl, rfl⟩
set_option maxRecDepth 100000 in
set_option maxHeartbeats 1000000 in
theorem block_ok (k n : List UInt8) (c : Nat) (w : World) (hk : k.length = 32) (hn : n.length = 12) (hc : c ≤ 4294967295) :
    Calls Tryd.prog 26 #[.string (bs k), .string (bs n), .int .i64 (c : Int)] w fun e w' => e = .returned (.tuple #[.string (bs (blockO k n c)), .int .i64 0]) ∧ Below w.heap.size w w' := by
  have HV := Lib.hid fun w => verify_yes (bs k) (bs n) (c : Int) w (decide_eq_true ⟨by rw [bs_size, hk], by rw [bs_size, hn], by omega, by omega⟩)
  have HB := Lib.hid fun w => begin_any k n c w hk hn hc
  have HK := Lib.hid fun w => block_any (beginW k n c) w (beginW_length k n c) (beginW_all k n hc)
  clear hk hn
  go_enter Tryd.func26, Tryd.ntmps26
  go_wp2_with (first | (go_at_call 49; (with_reducible refine (HV.out _).mono ?_); rintro e V ⟨rfl, rfl⟩) | (go_at_call 51; (with_reducible refine (HB.out _).mono ?_); rintro e w1 ⟨rfl, hb1⟩) | (go_at_call 54; (with_reducible refine (HK.out _).mono ?_); rintro e w2 ⟨rfl, hb2⟩))
  go_ret2
  exact ⟨rfl, hb1.trans (hb2.mono hb1.size)⟩
end Go.Proofs.YtnfefkcfifnjnaaDoor
