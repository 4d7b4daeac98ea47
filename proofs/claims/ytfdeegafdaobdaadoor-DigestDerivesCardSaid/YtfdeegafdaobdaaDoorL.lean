/- Contracts of isLong, Check and verify. -/
import Derived.Test.YtfdeegafdaobdaaDoorJ
namespace Go.Proofs.YtfdeegafdaobdaaDoor
open Go.RowKit Go.ChangeShapes

/-- Whether one of some strings is too long. -/
def lng (l : List ByteArray) : Bool := l.any fun s => decide (4096 < s.size)
theorem lng_snoc (l : List ByteArray) (s : ByteArray) : lng (l ++ [s]) = (lng l || decide (4096 < s.size)) := by simp [lng]
set_option maxRecDepth 100000 in
set_option maxHeartbeats 1000000 in
theorem isLong_any (l : List ByteArray) (n g : Nat) (w : World) (hn : l.length = n) (hn9 : n ≤ 9) (hc : ∀ j, j < n → w.cell? ⟨g, j, none⟩ = some (.string (l.getD j ByteArray.empty))) (hs : ∀ j, j < n → (l.getD j ByteArray.empty).size ≤ 140737488351232) :
    Calls Tryd.prog 36 #[.slice (some ⟨g, 0, none⟩) n n] w fun e w' => e = .returned (.bool (lng l)) ∧ w = w' := by
  have HC := Lib.hid hc
  have HS := Lib.hid hs
  have HN := Lib.hid hn
  clear hc hs hn
  go_enter Tryd.func36, Tryd.ntmps36
  go_wp2
  go_loop [7] (fun i => ∃ k : Nat, k ≤ n ∧ i = .int .i64 k ∧ Hid (lng (l.take k) = false)) (fun i => 9 - (intOf i).toNat)
  case atStart => exact ⟨0, Nat.zero_le _, rfl, rfl⟩
  case round =>
    obtain ⟨k, hk, rfl, HL⟩ := hrel
    by_cases hlt : k < n
    · have c0 := HC.out k hlt
      have s0 := HS.out k hlt
      have ht : lng (l.take (k + 1)) = decide (4096 < (l.getD k ByteArray.empty).size) := by
        rw [List.take_succ_eq_append_getElem (by rw [HN.out]; exact hlt), lng_snoc, HL.out, Bool.false_or, List.getD_eq_getElem?_getD, List.getElem?_eq_getElem (by rw [HN.out]; exact hlt)]; rfl
      obtain ⟨s, hss⟩ : ∃ s, l.getD k ByteArray.empty = s := ⟨_, rfl⟩
      rw [hss] at c0 s0 ht
      have HT := Lib.hid ht
      have HSS := Lib.hid hss
      clear ht hss
      by_cases h : 4096 < s.size
      · go_wp2
        go_ret
        refine ⟨ret_b ?_, rfl⟩
        have h1 : lng (l.take (k + 1)) = true := by rw [HT.out]; exact decide_eq_true h
        have h2 : lng l = true := by
          rw [← List.take_append_drop (k + 1) l]
          unfold lng at h1 ⊢
          rw [List.any_append, h1, Bool.true_or]
        exact h2.symm
      · go_wp2
        go_round
        case rel => exact ⟨k + 1, by omega, by go_num, Lib.hid (by rw [HT.out]; exact decide_eq_false h)⟩
        case measure => simp [intOf]; omega
    · obtain rfl : k = n := by omega
      go_wp2
      go_ret
      exact ⟨ret_b (by have := HL.out; rw [List.take_of_length_le (by rw [HN.out]; exact Nat.le_refl _)] at this; exact this.symm), rfl⟩
/-- Whether a digest that is being made is valid. -/
def okH (t : ByteArray) (n : Int) : Prop := 0 ≤ n ∧ n ≤ 1099511627776 ∧ (t.size : Int) = n % 64
set_option maxRecDepth 100000 in
set_option maxHeartbeats 1000000 in
theorem check_yes (s : W8) (t : ByteArray) (n : Int) (w : World) (_ht : t.size ≤ 140737488351232) (h : okH t n) :
    Calls Tryd.prog 27 #[hsV s t n] w fun e w' => e = .returned (.int .i64 0) ∧ Below w.heap.size w w' := by
  obtain ⟨h0, h1, h2⟩ := h
  have t1 : decide (n < 0) = false := by simp; omega
  have t2 : decide (1099511627776 < n) = false := by simp; omega
  have t3 : ((t.size : Int) != n % 64) = false := by simp [h2]
  clear h2
  go_enter Tryd.func27, Tryd.ntmps27
  go_wp2
  go_ret
  exact ⟨rfl, by go_grown⟩
set_option maxRecDepth 100000 in
set_option maxHeartbeats 1000000 in
theorem check_no (s : W8) (t : ByteArray) (n : Int) (w : World) (_ht : t.size ≤ 140737488351232) (h : ¬ okH t n) :
    Calls Tryd.prog 27 #[hsV s t n] w fun e w' => e = .returned (.int .i64 2) ∧ Below w.heap.size w w' := by
  by_cases h0 : n < 0
  · have t1 : decide (n < 0) = true := by simp; omega
    clear h
    go_enter Tryd.func27, Tryd.ntmps27
    go_wp2
    all_goals go_ret
    all_goals exact ⟨rfl, by go_grown⟩
  · have t1 : decide (n < 0) = false := by simp; omega
    have p0 : 0 ≤ n := by omega
    by_cases h1 : 1099511627776 < n
    · have t2 : decide (1099511627776 < n) = true := by simp; omega
      clear h h0
      go_enter Tryd.func27, Tryd.ntmps27
      go_wp2
      all_goals go_ret
      all_goals exact ⟨rfl, by go_grown⟩
    · have t2 : decide (1099511627776 < n) = false := by simp; omega
      have p1 : n ≤ 1099511627776 := by omega
      have h2 : (t.size : Int) ≠ n % 64 := fun e => h ⟨by omega, by omega, e⟩
      have t3 : ((t.size : Int) != n % 64) = true := by simp [h2]
      clear h h0 h1 h2
      go_enter Tryd.func27, Tryd.ntmps27
      go_wp2
      all_goals go_ret
      all_goals exact ⟨rfl, by go_grown⟩
/-- What verify leaves where the digest is valid. -/
def Verified (s : W8) (t : ByteArray) (n : Int) (w : World) (e : Ending) (w' : World) : Prop := ∃ kb, e = .returned (.tuple #[mkV s t n kb, .int .i64 0]) ∧ Arr w' kb 103 KL ∧ w.heap.size ≤ kb ∧ Below w.heap.size w w'
set_option maxRecDepth 100000 in
set_option maxHeartbeats 1000000 in
theorem verify_ok (s : W8) (t : ByteArray) (n : Int) (w : World) (ht : t.size ≤ 140737488351232) (h : okH t n) :
    Calls Tryd.prog 51 #[hsV s t n] w (Verified s t n w) := by
  have hk := fun w => check_yes s t n w ht h
  clear h
  go_enter Tryd.func51, Tryd.ntmps51
  go_wp2_with (first | (go_at_call 27; (with_reducible refine (hk _).mono ?_); rintro e w1 ⟨rfl, hb1⟩; obtain ⟨hc1, hf1⟩ := bcell hb1; have hz1 := hb1.size; (try simp at hz1)) | (go_at_call 59; (with_reducible refine (cubes_any _).mono ?_); rintro e w2 ⟨rfl, hb2⟩; obtain ⟨hc2, hf2⟩ := bcell hb2; have hz2 := hb2.size; have y1 : w.heap.size < w2.heap.size := (by omega); have y2 : w.heap.size + 1 < w2.heap.size := (by omega); have y3 : w.heap.size < w1.heap.size := (by omega); have y4 : w.heap.size + 1 < w1.heap.size := (by omega)) | (refine store_new rfl 103 _ _ rfl KL rfl rfl 103 _ (by rw [size103]; rfl) rfl ?_; intro w3 hA hb3 hz3; obtain ⟨hc3, hf3⟩ := bcell hb3; have y5 : w.heap.size < w3.heap.size := (by omega); have y6 : w.heap.size + 1 < w3.heap.size := (by omega)))
  have hB1 : Below w.heap.size w w1 := Below.trans (by go_grown) (hb1.mono (by simp; omega))
  have hB2 := hB1.trans (hb2.mono (by omega))
  have hB3 := hB2.trans (hb3.mono (by omega))
  have hA4 : Arr (put11 w3 (w.heap.size + 1) s t n w2.heap.size) w2.heap.size 103 KL := (put11_heap _ _ _ _ _ _ _ (by omega)).trans hA
  have HA4 := Lib.hid hA4
  have y7 : w.heap.size ≤ w2.heap.size := by omega
  clear hz1 hz2 hz3 hA hA4 hk
  exact bodyPost_ret (v := .tuple #[mkV s t n w2.heap.size, .int .i64 0]) (by simp [results, Tryd.results51, go_sem, *]; try rfl) rfl ⟨w2.heap.size, rfl, HA4.out, y7, by go_grown⟩
/-- The empty digest that is being made, without constants. -/
abbrev nkV : Value := .agg #[.int .u32 0, .int .u32 0, .int .u32 0, .int .u32 0, .int .u32 0, .int .u32 0, .int .u32 0, .int .u32 0, .string ByteArray.empty, .int .i64 0, .pointer none]
set_option maxRecDepth 100000 in
set_option maxHeartbeats 1000000 in
theorem verify_no (s : W8) (t : ByteArray) (n : Int) (w : World) (ht : t.size ≤ 140737488351232) (h : ¬ okH t n) :
    Calls Tryd.prog 51 #[hsV s t n] w fun e w' => e = .returned (.tuple #[nkV, .int .i64 2]) ∧ Below w.heap.size w w' := by
  have hk := fun w => check_no s t n w ht h
  clear h
  go_enter Tryd.func51, Tryd.ntmps51
  go_wp2_with (first | (go_at_call 27; (with_reducible refine (hk _).mono ?_); rintro e w1 ⟨rfl, hb1⟩; obtain ⟨hc1, hf1⟩ := bcell hb1; have hz1 := hb1.size; (try simp at hz1); have y3 : w.heap.size < w1.heap.size := (by omega); have y4 : w.heap.size + 1 < w1.heap.size := (by omega)))
  have hB1 : Below w.heap.size w w1 := Below.trans (by go_grown) (hb1.mono (by simp; omega))
  clear hz1 hk
  exact bodyPost_ret (v := .tuple #[nkV, .int .i64 2]) (by simp [results, Tryd.results51, go_sem, *]; try rfl) rfl ⟨rfl, by go_grown⟩
end Go.Proofs.YtfdeegafdaobdaaDoor
