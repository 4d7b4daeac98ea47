/- Contracts of Take, Uint and Skip. -/
import Derived.Test.YtebaagmbnbbflaaDoorD
namespace Go.Proofs.YtebaagmbnbbflaaDoor
open Go.RowKit Go.ChangeShapes

set_option maxHeartbeats 400000 in
theorem take_bad (s : ByteArray) (a n : Int) (w : World) (hs : s.size ≤ maxLen) (h : a < 0 ∨ (s.size : Int) < a) :
    Calls Tryd.prog 15 #[.agg #[.string s, .int .i64 a], .int .i64 n] w fun e w' => e = .returned (.tuple #[.string ByteArray.empty, .agg #[.string ByteArray.empty, .int .i64 0], .int .i64 2]) ∧ Below w.heap.size w w' := by
  have H := Lib.hid h
  clear h
  go_enter Tryd.func15, Tryd.ntmps15
  go_wp2_with (first | (go_at_call 43; refine (verify_no _ _ _ hs H.out).mono ?_; rintro e w1 ⟨rfl, hbw1⟩; obtain ⟨hcw1, hfw1⟩ := bcell hbw1; have hzw1 := hbw1.size; (try simp at hzw1); have hl0w1 : w.heap.size < w1.heap.size := (by omega); have hl1w1 : w.heap.size + 1 < w1.heap.size := (by omega); have hBw1 : Below w.heap.size w w1 := Below.trans (by go_grown) (hbw1.mono (by go_size)); clear hbw1))
  refine bodyPost_ret (v := .tuple #[.string ByteArray.empty, .agg #[.string ByteArray.empty, .int .i64 0], .int .i64 2]) (by simp [results, Tryd.results15, go_sem, *]; try rfl) rfl ⟨rfl, by go_grown⟩

set_option maxHeartbeats 400000 in
theorem take_neg (s : ByteArray) (a n : Int) (w : World) (hs : s.size ≤ maxLen) (h0 : 0 ≤ a) (h1 : a ≤ s.size) (hn : n < 0) :
    Calls Tryd.prog 15 #[.agg #[.string s, .int .i64 a], .int .i64 n] w fun e w' => e = .returned (.tuple #[.string ByteArray.empty, .agg #[.string ByteArray.empty, .int .i64 0], .int .i64 2]) ∧ Below w.heap.size w w' := by
  go_enter Tryd.func15, Tryd.ntmps15
  go_wp2_with (first | (go_at_call 43; refine (verify_yes _ _ _ hs h0 h1).mono ?_; rintro e w1 ⟨rfl, hbw1⟩; obtain ⟨hcw1, hfw1⟩ := bcell hbw1; have hzw1 := hbw1.size; (try simp at hzw1); have hl0w1 : w.heap.size < w1.heap.size := (by omega); have hl1w1 : w.heap.size + 1 < w1.heap.size := (by omega); have hBw1 : Below w.heap.size w w1 := Below.trans (by go_grown) (hbw1.mono (by go_size)); clear hbw1))
  refine bodyPost_ret (v := .tuple #[.string ByteArray.empty, .agg #[.string ByteArray.empty, .int .i64 0], .int .i64 2]) (by simp [results, Tryd.results15, go_sem, *]; try rfl) rfl ⟨rfl, by go_grown⟩

set_option maxHeartbeats 400000 in
theorem take_short (s : ByteArray) (a n : Int) (w : World) (hs : s.size ≤ maxLen) (h0 : 0 ≤ a) (h1 : a ≤ s.size) (hn : 0 ≤ n) (h2 : s.size - a < n) :
    Calls Tryd.prog 15 #[.agg #[.string s, .int .i64 a], .int .i64 n] w fun e w' => e = .returned (.tuple #[.string ByteArray.empty, .agg #[.string ByteArray.empty, .int .i64 0], .int .i64 7]) ∧ Below w.heap.size w w' := by
  have b1 : decide (n < 0) = false := by simp; omega
  go_enter Tryd.func15, Tryd.ntmps15
  go_wp2_with (first | (go_at_call 43; refine (verify_yes _ _ _ hs h0 h1).mono ?_; rintro e w1 ⟨rfl, hbw1⟩; obtain ⟨hcw1, hfw1⟩ := bcell hbw1; have hzw1 := hbw1.size; (try simp at hzw1); have hl0w1 : w.heap.size < w1.heap.size := (by omega); have hl1w1 : w.heap.size + 1 < w1.heap.size := (by omega); have hBw1 : Below w.heap.size w w1 := Below.trans (by go_grown) (hbw1.mono (by go_size)); clear hbw1) | (go_at_call 45; refine (read_str_short _ _ _ _ hs h0 h1 h2).mono ?_; rintro e w2 ⟨rfl, hbw2⟩; obtain ⟨hcw2, hfw2⟩ := bcell hbw2; have hzw2 := hbw2.size; (try simp at hzw2); have hl0w2 : w.heap.size < w2.heap.size := (by omega); have hl1w2 : w.heap.size + 1 < w2.heap.size := (by omega); have hl2w2 : w1.heap.size < w2.heap.size := (by omega); have hBw2 : Below w.heap.size w w2 := Below.trans (by go_grown) (hbw2.mono (by go_size)); clear hbw2))
  refine bodyPost_ret (v := .tuple #[.string ByteArray.empty, .agg #[.string ByteArray.empty, .int .i64 0], .int .i64 7]) (by simp [results, Tryd.results15, go_sem, *]; try rfl) rfl ⟨rfl, by go_grown⟩

set_option maxHeartbeats 400000 in
theorem take_ok (s : ByteArray) (a n : Nat) (w : World) (hs : s.size ≤ maxLen)  (h2 : a + n ≤ s.size) :
    Calls Tryd.prog 15 #[.agg #[.string s, .int .i64 (a : Int)], .int .i64 (n : Int)] w fun e w' => e = .returned (.tuple #[.string (s.extract a (a + n)), .agg #[.string s, .int .i64 (a + n : Nat)], .int .i64 0]) ∧ Below w.heap.size w w' := by
  have b1 : decide ((n : Int) < 0) = false := by simp
  have h0 : (0 : Int) ≤ a := by omega
  have h1 : (a : Int) ≤ s.size := by omega
  go_enter Tryd.func15, Tryd.ntmps15
  go_wp2_with (first | (go_at_call 43; refine (verify_yes _ _ _ hs h0 h1).mono ?_; rintro e w1 ⟨rfl, hbw1⟩; obtain ⟨hcw1, hfw1⟩ := bcell hbw1; have hzw1 := hbw1.size; (try simp at hzw1); have hl0w1 : w.heap.size < w1.heap.size := (by omega); have hl1w1 : w.heap.size + 1 < w1.heap.size := (by omega); have hBw1 : Below w.heap.size w w1 := Below.trans (by go_grown) (hbw1.mono (by go_size)); clear hbw1) | (go_at_call 45; refine (read_str_ok _ _ _ _ hs h2).mono ?_; rintro e w2 ⟨rfl, hbw2⟩; obtain ⟨hcw2, hfw2⟩ := bcell hbw2; have hzw2 := hbw2.size; (try simp at hzw2); have hl0w2 : w.heap.size < w2.heap.size := (by omega); have hl1w2 : w.heap.size + 1 < w2.heap.size := (by omega); have hl2w2 : w1.heap.size < w2.heap.size := (by omega); have hBw2 : Below w.heap.size w w2 := Below.trans (by go_grown) (hbw2.mono (by go_size)); clear hbw2))
  refine bodyPost_ret (v := .tuple #[.string (s.extract a (a + n)), .agg #[.string s, .int .i64 (a + n : Nat)], .int .i64 0]) (by simp [results, Tryd.results15, go_sem, *]; try rfl) rfl ⟨rfl, by go_grown⟩

set_option maxHeartbeats 400000 in
theorem uint_bad (s : ByteArray) (a n : Int) (w : World) (hs : s.size ≤ maxLen) (h : a < 0 ∨ (s.size : Int) < a) :
    Calls Tryd.prog 16 #[.agg #[.string s, .int .i64 a], .int .i64 n] w fun e w' => e = .returned (.tuple #[.int .i64 0, .agg #[.string ByteArray.empty, .int .i64 0], .int .i64 2]) ∧ Below w.heap.size w w' := by
  have H := Lib.hid h
  clear h
  go_enter Tryd.func16, Tryd.ntmps16
  go_wp2_with (first | (go_at_call 43; refine (verify_no _ _ _ hs H.out).mono ?_; rintro e w1 ⟨rfl, hbw1⟩; obtain ⟨hcw1, hfw1⟩ := bcell hbw1; have hzw1 := hbw1.size; (try simp at hzw1); have hl0w1 : w.heap.size < w1.heap.size := (by omega); have hl1w1 : w.heap.size + 1 < w1.heap.size := (by omega); have hBw1 : Below w.heap.size w w1 := Below.trans (by go_grown) (hbw1.mono (by go_size)); clear hbw1))
  refine bodyPost_ret (v := .tuple #[.int .i64 0, .agg #[.string ByteArray.empty, .int .i64 0], .int .i64 2]) (by simp [results, Tryd.results16, go_sem, *]; try rfl) rfl ⟨rfl, by go_grown⟩

set_option maxHeartbeats 400000 in
theorem uint_neg (s : ByteArray) (a n : Int) (w : World) (hs : s.size ≤ maxLen) (h0 : 0 ≤ a) (h1 : a ≤ s.size) (hn : n < 1 ∨ 7 < n) :
    Calls Tryd.prog 16 #[.agg #[.string s, .int .i64 a], .int .i64 n] w fun e w' => e = .returned (.tuple #[.int .i64 0, .agg #[.string ByteArray.empty, .int .i64 0], .int .i64 2]) ∧ Below w.heap.size w w' := by
  by_cases hl : n < 1
  · clear hn
    go_enter Tryd.func16, Tryd.ntmps16
    go_wp2_with (first | (go_at_call 43; refine (verify_yes _ _ _ hs h0 h1).mono ?_; rintro e w1 ⟨rfl, hbw1⟩; obtain ⟨hcw1, hfw1⟩ := bcell hbw1; have hzw1 := hbw1.size; (try simp at hzw1); have hl0w1 : w.heap.size < w1.heap.size := (by omega); have hl1w1 : w.heap.size + 1 < w1.heap.size := (by omega); have hBw1 : Below w.heap.size w w1 := Below.trans (by go_grown) (hbw1.mono (by go_size)); clear hbw1))
    refine bodyPost_ret (v := .tuple #[.int .i64 0, .agg #[.string ByteArray.empty, .int .i64 0], .int .i64 2]) (by simp [results, Tryd.results16, go_sem, *]; try rfl) rfl ⟨rfl, by go_grown⟩
  · have hm : 7 < n := by omega
    have b1 : decide (n < 1) = false := by simp; omega
    clear hn
    go_enter Tryd.func16, Tryd.ntmps16
    go_wp2_with (first | (go_at_call 43; refine (verify_yes _ _ _ hs h0 h1).mono ?_; rintro e w1 ⟨rfl, hbw1⟩; obtain ⟨hcw1, hfw1⟩ := bcell hbw1; have hzw1 := hbw1.size; (try simp at hzw1); have hl0w1 : w.heap.size < w1.heap.size := (by omega); have hl1w1 : w.heap.size + 1 < w1.heap.size := (by omega); have hBw1 : Below w.heap.size w w1 := Below.trans (by go_grown) (hbw1.mono (by go_size)); clear hbw1))
    refine bodyPost_ret (v := .tuple #[.int .i64 0, .agg #[.string ByteArray.empty, .int .i64 0], .int .i64 2]) (by simp [results, Tryd.results16, go_sem, *]; try rfl) rfl ⟨rfl, by go_grown⟩

set_option maxHeartbeats 400000 in
theorem uint_short (s : ByteArray) (a n : Int) (w : World) (hs : s.size ≤ maxLen) (h0 : 0 ≤ a) (h1 : a ≤ s.size) (hn : 1 ≤ n) (h7 : n ≤ 7) (h2 : s.size - a < n) :
    Calls Tryd.prog 16 #[.agg #[.string s, .int .i64 a], .int .i64 n] w fun e w' => e = .returned (.tuple #[.int .i64 0, .agg #[.string ByteArray.empty, .int .i64 0], .int .i64 7]) ∧ Below w.heap.size w w' := by
  have b1 : decide (n < 1) = false := by simp; omega
  have b2 : decide (7 < n) = false := by simp; omega
  go_enter Tryd.func16, Tryd.ntmps16
  go_wp2_with (first | (go_at_call 43; refine (verify_yes _ _ _ hs h0 h1).mono ?_; rintro e w1 ⟨rfl, hbw1⟩; obtain ⟨hcw1, hfw1⟩ := bcell hbw1; have hzw1 := hbw1.size; (try simp at hzw1); have hl0w1 : w.heap.size < w1.heap.size := (by omega); have hl1w1 : w.heap.size + 1 < w1.heap.size := (by omega); have hBw1 : Below w.heap.size w w1 := Below.trans (by go_grown) (hbw1.mono (by go_size)); clear hbw1) | (go_at_call 47; refine (read_int_short _ _ _ _ hs h0 h1 h2).mono ?_; rintro e w2 ⟨rfl, hbw2⟩; obtain ⟨hcw2, hfw2⟩ := bcell hbw2; have hzw2 := hbw2.size; (try simp at hzw2); have hl0w2 : w.heap.size < w2.heap.size := (by omega); have hl1w2 : w.heap.size + 1 < w2.heap.size := (by omega); have hl2w2 : w1.heap.size < w2.heap.size := (by omega); have hBw2 : Below w.heap.size w w2 := Below.trans (by go_grown) (hbw2.mono (by go_size)); clear hbw2))
  refine bodyPost_ret (v := .tuple #[.int .i64 0, .agg #[.string ByteArray.empty, .int .i64 0], .int .i64 7]) (by simp [results, Tryd.results16, go_sem, *]; try rfl) rfl ⟨rfl, by go_grown⟩

set_option maxHeartbeats 400000 in
theorem uint_ok (s : ByteArray) (a n : Nat) (w : World) (hs : s.size ≤ maxLen) (hn : 1 ≤ n) (h7 : n ≤ 7) (h2 : a + n ≤ s.size) :
    Calls Tryd.prog 16 #[.agg #[.string s, .int .i64 (a : Int)], .int .i64 (n : Int)] w fun e w' => e = .returned (.tuple #[.int .i64 (beN (s.extract a (a + n)).data.toList), .agg #[.string s, .int .i64 (a + n : Nat)], .int .i64 0]) ∧ Below w.heap.size w w' := by
  have b1 : decide ((n : Int) < 1) = false := by simp; omega
  have b2 : decide (7 < (n : Int)) = false := by simp; omega
  have h0 : (0 : Int) ≤ a := by omega
  have h1 : (a : Int) ≤ s.size := by omega
  go_enter Tryd.func16, Tryd.ntmps16
  go_wp2_with (first | (go_at_call 43; refine (verify_yes _ _ _ hs h0 h1).mono ?_; rintro e w1 ⟨rfl, hbw1⟩; obtain ⟨hcw1, hfw1⟩ := bcell hbw1; have hzw1 := hbw1.size; (try simp at hzw1); have hl0w1 : w.heap.size < w1.heap.size := (by omega); have hl1w1 : w.heap.size + 1 < w1.heap.size := (by omega); have hBw1 : Below w.heap.size w w1 := Below.trans (by go_grown) (hbw1.mono (by go_size)); clear hbw1) | (go_at_call 47; refine (read_int_ok _ _ _ _ hs h2 h7).mono ?_; rintro e w2 ⟨rfl, hbw2⟩; obtain ⟨hcw2, hfw2⟩ := bcell hbw2; have hzw2 := hbw2.size; (try simp at hzw2); have hl0w2 : w.heap.size < w2.heap.size := (by omega); have hl1w2 : w.heap.size + 1 < w2.heap.size := (by omega); have hl2w2 : w1.heap.size < w2.heap.size := (by omega); have hBw2 : Below w.heap.size w w2 := Below.trans (by go_grown) (hbw2.mono (by go_size)); clear hbw2))
  refine bodyPost_ret (v := .tuple #[.int .i64 (beN (s.extract a (a + n)).data.toList), .agg #[.string s, .int .i64 (a + n : Nat)], .int .i64 0]) (by simp [results, Tryd.results16, go_sem, *]; try rfl) rfl ⟨rfl, by go_grown⟩

set_option maxHeartbeats 400000 in
theorem skip_bad (s : ByteArray) (a u : Int) (w : World) (hs : s.size ≤ maxLen) (h : a < 0 ∨ (s.size : Int) < a) :
    Calls Tryd.prog 17 #[.agg #[.string s, .int .i64 a], .int .i64 u] w fun e w' => e = .returned (.tuple #[.agg #[.string ByteArray.empty, .int .i64 0], .int .i64 2]) ∧ Below w.heap.size w w' := by
  have H := Lib.hid h
  clear h
  go_enter Tryd.func17, Tryd.ntmps17
  go_wp2_with (first | (go_at_call 43; refine (verify_no _ _ _ hs H.out).mono ?_; rintro e w1 ⟨rfl, hbw1⟩; obtain ⟨hcw1, hfw1⟩ := bcell hbw1; have hzw1 := hbw1.size; (try simp at hzw1); have hl0w1 : w.heap.size < w1.heap.size := (by omega); have hl1w1 : w.heap.size + 1 < w1.heap.size := (by omega); have hBw1 : Below w.heap.size w w1 := Below.trans (by go_grown) (hbw1.mono (by go_size)); clear hbw1))
  refine bodyPost_ret (v := .tuple #[.agg #[.string ByteArray.empty, .int .i64 0], .int .i64 2]) (by simp [results, Tryd.results17, go_sem, *]; try rfl) rfl ⟨rfl, by go_grown⟩

set_option maxHeartbeats 400000 in
theorem skip_unit (s : ByteArray) (a u : Int) (w : World) (hs : s.size ≤ maxLen) (h0 : 0 ≤ a) (h1 : a ≤ s.size) (hu : unitB u = false) :
    Calls Tryd.prog 17 #[.agg #[.string s, .int .i64 a], .int .i64 u] w fun e w' => e = .returned (.tuple #[.agg #[.string ByteArray.empty, .int .i64 0], .int .i64 2]) ∧ Below w.heap.size w w' := by
  go_enter Tryd.func17, Tryd.ntmps17
  go_wp2_with (first | (go_at_call 43; refine (verify_yes _ _ _ hs h0 h1).mono ?_; rintro e w1 ⟨rfl, hbw1⟩; obtain ⟨hcw1, hfw1⟩ := bcell hbw1; have hzw1 := hbw1.size; (try simp at hzw1); have hl0w1 : w.heap.size < w1.heap.size := (by omega); have hl1w1 : w.heap.size + 1 < w1.heap.size := (by omega); have hBw1 : Below w.heap.size w w1 := Below.trans (by go_grown) (hbw1.mono (by go_size)); clear hbw1) | (go_at_call 49; refine (isUnit_any _ _).mono ?_; rintro e w2 ⟨rfl, rfl⟩))
  refine bodyPost_ret (v := .tuple #[.agg #[.string ByteArray.empty, .int .i64 0], .int .i64 2]) (by simp [results, Tryd.results17, go_sem, *]; try rfl) rfl ⟨rfl, by go_grown⟩

set_option maxHeartbeats 400000 in
theorem skip_short (s : ByteArray) (a u : Int) (w : World) (hs : s.size ≤ 4611686018427387904) (h0 : 0 ≤ a) (h1 : a ≤ s.size) (hu : unitB u = true) (h2 : (s.size : Int) < upTo a u) :
    Calls Tryd.prog 17 #[.agg #[.string s, .int .i64 a], .int .i64 u] w fun e w' => e = .returned (.tuple #[.agg #[.string ByteArray.empty, .int .i64 0], .int .i64 7]) ∧ Below w.heap.size w w' := by
  have hm : s.size ≤ maxLen := by unfold maxLen; omega
  go_enter Tryd.func17, Tryd.ntmps17
  go_wp2_with (first | (go_at_call 43; refine (verify_yes _ _ _ hm h0 h1).mono ?_; rintro e w1 ⟨rfl, hbw1⟩; obtain ⟨hcw1, hfw1⟩ := bcell hbw1; have hzw1 := hbw1.size; (try simp at hzw1); have hl0w1 : w.heap.size < w1.heap.size := (by omega); have hl1w1 : w.heap.size + 1 < w1.heap.size := (by omega); have hBw1 : Below w.heap.size w w1 := Below.trans (by go_grown) (hbw1.mono (by go_size)); clear hbw1) | (go_at_call 49; refine (isUnit_any _ _).mono ?_; rintro e w2 ⟨rfl, rfl⟩) | (go_at_call 50; refine (roundUp_any _ _ _ h0 (by omega) hu).mono ?_; rintro e w3 ⟨rfl, rfl⟩))
  refine bodyPost_ret (v := .tuple #[.agg #[.string ByteArray.empty, .int .i64 0], .int .i64 7]) (by simp [results, Tryd.results17, go_sem, *]; try rfl) rfl ⟨rfl, by go_grown⟩

set_option maxHeartbeats 400000 in
theorem skip_ok (s : ByteArray) (a u : Int) (w : World) (hs : s.size ≤ 4611686018427387904) (h0 : 0 ≤ a) (h1 : a ≤ s.size) (hu : unitB u = true) (h2 : upTo a u ≤ s.size) :
    Calls Tryd.prog 17 #[.agg #[.string s, .int .i64 a], .int .i64 u] w fun e w' => e = .returned (.tuple #[.agg #[.string s, .int .i64 (upTo a u)], .int .i64 0]) ∧ Below w.heap.size w w' := by
  have hm : s.size ≤ maxLen := by unfold maxLen; omega
  go_enter Tryd.func17, Tryd.ntmps17
  go_wp2_with (first | (go_at_call 43; refine (verify_yes _ _ _ hm h0 h1).mono ?_; rintro e w1 ⟨rfl, hbw1⟩; obtain ⟨hcw1, hfw1⟩ := bcell hbw1; have hzw1 := hbw1.size; (try simp at hzw1); have hl0w1 : w.heap.size < w1.heap.size := (by omega); have hl1w1 : w.heap.size + 1 < w1.heap.size := (by omega); have hBw1 : Below w.heap.size w w1 := Below.trans (by go_grown) (hbw1.mono (by go_size)); clear hbw1) | (go_at_call 49; refine (isUnit_any _ _).mono ?_; rintro e w2 ⟨rfl, rfl⟩) | (go_at_call 50; refine (roundUp_any _ _ _ h0 (by omega) hu).mono ?_; rintro e w3 ⟨rfl, rfl⟩))
  refine bodyPost_ret (v := .tuple #[.agg #[.string s, .int .i64 (upTo a u)], .int .i64 0]) (by simp [results, Tryd.results17, go_sem, *]; try rfl) rfl ⟨rfl, by go_grown⟩
end Go.Proofs.YtebaagmbnbbflaaDoor
