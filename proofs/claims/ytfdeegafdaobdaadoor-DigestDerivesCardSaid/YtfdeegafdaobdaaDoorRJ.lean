/- Contracts of what the laws with the reference share: cut, over, told, Right. -/
import Derived.Test.YtfdeegafdaobdaaDoorKX
namespace Go.Proofs.YtfdeegafdaobdaaDoor
open Go.RowKit Go.ChangeShapes

set_option maxHeartbeats 400000 in
theorem lawcut_any (s : ByteArray) (w : World) (hs : s.size ≤ 9223372036854775807) :
    Calls Tryd.prog 11 #[.string s] w fun e w' => e = .returned (.string (s.extract 0 (min (s.size : Int) 300).toNat)) ∧ w = w' := by
  go_enter Tryd.func11, Tryd.ntmps11
  go_wp2
  go_ret
  exact ⟨rfl, rfl⟩
theorem lawcut_bs (s : ByteArray) (hs : s.size ≤ 9223372036854775807) : ∃ z : List UInt8, z.length ≤ 300 ∧ ∀ w, Calls Tryd.prog 11 #[.string s] w fun e w' => e = .returned (.string (bs z)) ∧ w = w' := by
  obtain ⟨z, hz, hl⟩ := cut_list s 300
  refine ⟨z, hl, fun w => ?_⟩
  have h := lawcut_any s w hs
  rw [show ((300 : Nat) : Int) = 300 from rfl] at hz
  rw [hz] at h
  exact h
set_option maxHeartbeats 400000 in
theorem told_no (no : Int) (want : ByteArray) (w : World) (h : no ≠ 0) :
    Calls Tryd.prog 17 #[.string ByteArray.empty, .int .i64 no, .int .i64 no, .string want] w fun e w' => e = .returned (.bool true) ∧ w = w' := by
  have b1 : (no != 0) = true := by simp [h]
  go_enter Tryd.func17, Tryd.ntmps17
  go_wp2
  all_goals go_ret
  all_goals exact ⟨ret_b (by simp), rfl⟩
set_option maxHeartbeats 400000 in
theorem told_yes (s : ByteArray) (w : World) :
    Calls Tryd.prog 17 #[.string s, .int .i64 0, .int .i64 0, .string s] w fun e w' => e = .returned (.bool true) ∧ w = w' := by
  go_enter Tryd.func17, Tryd.ntmps17
  go_wp2
  all_goals go_ret
  all_goals exact ⟨ret_b (by simp), rfl⟩
/-- What over tells. -/
def ovr (l : List ByteArray) : Int := if lng l = true then 3 else 0
set_option maxRecDepth 100000 in
set_option maxHeartbeats 1000000 in
theorem over_any (l : List ByteArray) (n g : Nat) (w : World) (hn : l.length = n) (hn9 : n ≤ 9) (hc : ∀ j, j < n → w.cell? ⟨g, j, none⟩ = some (.string (l.getD j ByteArray.empty))) (hs : ∀ j, j < n → (l.getD j ByteArray.empty).size ≤ 140737488351232) :
    Calls Tryd.prog 14 #[.slice (some ⟨g, 0, none⟩) n n] w fun e w' => e = .returned (.int .i64 (ovr l)) ∧ w = w' := by
  have HC := Lib.hid hc
  have HS := Lib.hid hs
  have HN := Lib.hid hn
  clear hc hs hn
  go_enter Tryd.func14, Tryd.ntmps14
  go_wp2
  go_loop [7] (fun i => ∃ k : Nat, k ≤ n ∧ i = .int .i64 k ∧ Hid (lng (l.take k) = false)) (fun i => 9 - (intOf i).toNat)
  case atStart => exact ⟨0, Nat.zero_le _, rfl, rfl⟩
  case round =>
    obtain ⟨k, hk, rfl, HL⟩ := hrel
    by_cases hlt : k < n
    · have c0 := HC.out k hlt
      have s0 := HS.out k hlt
      have ht : lng (l.take (k + 1)) = decide (4096 < (l.getD k ByteArray.empty).size) := by
        rw [List.take_succ_eq_append_getElem (by rw [HN.out]; exact hlt), lng_snoc, HL.out, Bool.false_or, List.getD_eq_getElem?_getD, List.getElem?_eq_getElem (by rw [HN.out]; exact hlt)]; rfl
      obtain ⟨s, hss⟩ : ∃ s, l.getD k ByteArray.empty = s := ⟨_, rfl⟩
      rw [hss] at c0 s0 ht
      have HT := Lib.hid ht
      have HSS := Lib.hid hss
      clear ht hss
      by_cases h : 4096 < s.size
      · go_wp2
        go_ret
        refine ⟨ret_i ?_, rfl⟩
        have h1 : lng (l.take (k + 1)) = true := by rw [HT.out]; exact decide_eq_true h
        have h2 : lng l = true := by
          rw [← List.take_append_drop (k + 1) l]
          unfold lng at h1 ⊢
          rw [List.any_append, h1, Bool.true_or]
        unfold ovr; rw [if_pos h2]
      · go_wp2
        go_round
        case rel => exact ⟨k + 1, by omega, by go_num, Lib.hid (by rw [HT.out]; exact decide_eq_false h)⟩
        case measure => simp [intOf]; omega
    · obtain rfl : k = n := by omega
      go_wp2
      go_ret
      exact ⟨ret_i (by have := HL.out; rw [List.take_of_length_le (by rw [HN.out]; exact Nat.le_refl _)] at this; unfold ovr; rw [if_neg (by rw [this]; decide)]), rfl⟩
set_option maxRecDepth 100000 in
set_option maxHeartbeats 1000000 in
theorem right_yes (s : W8) (t : ByteArray) (n : Int) (w : World) (_ht : t.size ≤ 140737488351232) (h : okH t n) :
    Calls Tryd.prog 24 #[hsV s t n] w fun e w' => e = .returned (.bool true) ∧ Below w.heap.size w w' := by
  obtain ⟨h0, h1, h2⟩ := h
  have t3 : ((t.size : Int) == n % 64) = true := by simp [h2]
  clear h2
  go_enter Tryd.func24, Tryd.ntmps24
  go_wp2
  all_goals go_ret
  all_goals exact ⟨rfl, by go_grown⟩
set_option maxRecDepth 100000 in
set_option maxHeartbeats 1000000 in
theorem right_no (s : W8) (t : ByteArray) (n : Int) (w : World) (_ht : t.size ≤ 140737488351232) (h : ¬ okH t n) :
    Calls Tryd.prog 24 #[hsV s t n] w fun e w' => e = .returned (.bool false) ∧ Below w.heap.size w w' := by
  by_cases h0 : n < 0
  · clear h
    go_enter Tryd.func24, Tryd.ntmps24
    go_wp2
    all_goals go_ret
    all_goals exact ⟨rfl, by go_grown⟩
  · have p0 : 0 ≤ n := by omega
    by_cases h1 : 1099511627776 < n
    · clear h h0
      go_enter Tryd.func24, Tryd.ntmps24
      go_wp2
      all_goals go_ret
      all_goals exact ⟨rfl, by go_grown⟩
    · have p1 : n ≤ 1099511627776 := by omega
      have h2 : (t.size : Int) ≠ n % 64 := fun e => h ⟨by omega, by omega, e⟩
      have t3 : ((t.size : Int) == n % 64) = false := by simp [h2]
      clear h h0 h1 h2
      go_enter Tryd.func24, Tryd.ntmps24
      go_wp2
      all_goals go_ret
      all_goals exact ⟨rfl, by go_grown⟩
end Go.Proofs.YtfdeegafdaobdaaDoor
