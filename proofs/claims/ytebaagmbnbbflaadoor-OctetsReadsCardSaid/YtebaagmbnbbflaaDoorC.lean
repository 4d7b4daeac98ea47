/- Contracts of Take and what it calls. -/
import Derived.Test.YtebaagmbnbbflaaDoorB
import Derived.StillTailTactics
import Derived.Lib.Hide
namespace Go.Proofs.YtebaagmbnbbflaaDoor
open Go.RowKit Go.ChangeShapes
theorem build_str (s : ByteArray) (w : World) : Calls Tryd.prog 46 #[.string s] w fun e w' => e = .returned (.string s) ∧ w = w' := by
  go_enter Tryd.func46, Tryd.ntmps46
  go_wp2
  go_ret
  exact ⟨rfl, rfl⟩

set_option maxHeartbeats 400000 in
theorem read_str_short (s : ByteArray) (a n : Int) (w : World) (hs : s.size ≤ maxLen) (h0 : 0 ≤ a) (h1 : a ≤ s.size) (h2 : s.size - a < n) :
    Calls Tryd.prog 45 #[.agg #[.string s, .int .i64 a], .int .i64 n, .func (.func 46) #[] #[]] w fun e w' => e = .returned (.tuple #[.string ByteArray.empty, .agg #[.string ByteArray.empty, .int .i64 0], .int .i64 7]) ∧ Below w.heap.size w w' := by
  go_enter Tryd.func45, Tryd.ntmps45
  go_wp2_with (go_at_call 44; refine (left44_any _ _ _ (by assumption) (by omega) (by omega)).mono ?_; rintro e w1 ⟨rfl, hb⟩; obtain ⟨hc, hf⟩ := bcell hb; have hz := hb.size)
  have hB : Below w.heap.size w w1 := Below.trans (by go_grown) (hb.mono (by simp; omega))
  exact bodyPost_ret (v := .tuple #[.string ByteArray.empty, .agg #[.string ByteArray.empty, .int .i64 0], .int .i64 7]) (by simp [results, Tryd.results45, go_sem, hc]; rfl) rfl ⟨rfl, by go_grown⟩

set_option maxRecDepth 100000 in
set_option maxHeartbeats 400000 in
theorem read_str_ok (s : ByteArray) (a n : Nat) (w : World) (_hs : s.size ≤ maxLen) (h2 : a + n ≤ s.size) :
    Calls Tryd.prog 45 #[.agg #[.string s, .int .i64 a], .int .i64 n, .func (.func 46) #[] #[]] w fun e w' => e = .returned (.tuple #[.string (s.extract a (a + n)), .agg #[.string s, .int .i64 (a + n : Nat)], .int .i64 0]) ∧ Below w.heap.size w w' := by
  have hs := _hs
  unfold maxLen at hs
  have hsl : ∀ wx : World, (Instr.slice 9 (.string s) (some (.int .i64 (a : Int))) (some (.int .i64 ((a : Int) + (n : Int)))) none).run Tryd.prog wx = .ok (.string (s.extract a (a + n))) wx := fun wx => by
    have := run_slice_string (P := Tryd.prog) (w := wx) 9 (s := s) .i64 .i64 (a : Int) ((a : Int) + (n : Int)) Tryd.underlying9 (by omega) (by omega) (by omega)
    rw [this]
    rw [show ((a : Int) + (n : Int)).toNat = a + n from by omega, Int.toNat_natCast]
  go_enter Tryd.func45, Tryd.ntmps45
  go_wp2_with (go_at_call 44; refine (left44_any _ _ _ (by assumption) (by omega) (by omega)).mono ?_; rintro e w1 ⟨rfl, hb⟩; obtain ⟨hc, hf⟩ := bcell hb; have hz := hb.size)
  have hB : Below w.heap.size w w1 := Below.trans (by go_grown) (hb.mono (by simp; omega))
  go_still_tail 16, (by kernel_rfl)
  still_call ((build_str _ _).mono fun _ _ h => ⟨h.1, h.2.symm⟩)
  repeat still_step
  refine wpStill_nil ?_
  change wpList _ _ _ _ _ w1.drew
  have hB2 : Below w.heap.size w w1.drew := hB.drew
  go_wp2
  refine bodyPost_ret (v := .tuple #[.string (s.extract a (a + n)), .agg #[.string s, .int .i64 ((a : Int) + (n : Int))], .int .i64 0]) (by simp [results, Tryd.results45, go_sem, hc]) rfl ⟨by rw [Int.natCast_add], by go_grown⟩
theorem or_step (l : List UInt8) (c : UInt8) (v : Nat) (hv : beN l = v) (hb : v < 256 ^ 6) : bits .or .i64 ((v : Int) * 256) (wrap64 (c.toNat : Int)) = ((beN (l ++ [c]) : Nat) : Int) := by
  have hc := c.toNat_lt
  rw [beN_snoc, hv, IntWalk.wrap64_in _ ⟨by omega, by omega⟩, ← i64_or_byte v c.toNat (by omega) (by omega), Int.natCast_mul]
  rfl
set_option maxHeartbeats 400000 in
theorem build_int (s : ByteArray) (w : World) (hs : s.size ≤ 7) :
    Calls Tryd.prog 48 #[.string s] w fun e w' => e = .returned (.int .i64 (beN s.data.toList)) ∧ w = w' := by
  go_enter Tryd.func48, Tryd.ntmps48
  go_wp2
  go_loop [3, 7] (fun v i => ∃ k : Nat, k ≤ s.size ∧ i = .int .i64 k ∧ v = .int .i64 (beN (s.data.toList.take k) : Nat)) (fun _ i => s.size - (intOf i).toNat)
  case atStart => exact ⟨0, Nat.zero_le _, rfl, rfl⟩
  case round =>
    obtain ⟨k, hk, rfl, rfl⟩ := hrel
    by_cases hlt : k < s.size
    · have hl := beN_lt (s.data.toList.take k)
      have hb : beN (s.data.toList.take k) < 256 ^ 6 := Nat.lt_of_lt_of_le hl (Nat.pow_le_pow_right (by decide) (by simp; omega))
      have HS : Hid (∀ v : Nat, beN (s.data.toList.take k) = v → v < 256 ^ 6 → bits .or .i64 ((v : Int) * 256) (wrap64 (s[k].toNat : Int)) = ((beN (s.data.toList.take (k + 1)) : Nat) : Int)) := by
        rw [take_snoc s k hlt]; exact fun v hv hb => or_step _ _ v hv hb
      generalize hv : beN (s.data.toList.take k) = v at hb hl ⊢
      have HV := Lib.hid hv
      clear hv hl
      go_wp2
      go_round
      case rel => exact ⟨k + 1, by omega, by go_num, by rw [HS.out v HV.out hb]⟩
      case measure => simp [intOf]; omega
    · go_wp2
      go_ret
      exact ⟨ret_i (by rw [List.take_of_length_le (by simp; omega)]), rfl⟩
set_option maxHeartbeats 400000 in
theorem read_int_short (s : ByteArray) (a n : Int) (w : World) (hs : s.size ≤ maxLen) (h0 : 0 ≤ a) (h1 : a ≤ s.size) (h2 : s.size - a < n) :
    Calls Tryd.prog 47 #[.agg #[.string s, .int .i64 a], .int .i64 n, .func (.func 48) #[] #[]] w fun e w' => e = .returned (.tuple #[.int .i64 0, .agg #[.string ByteArray.empty, .int .i64 0], .int .i64 7]) ∧ Below w.heap.size w w' := by
  go_enter Tryd.func47, Tryd.ntmps47
  go_wp2_with (go_at_call 44; refine (left44_any _ _ _ (by assumption) (by omega) (by omega)).mono ?_; rintro e w1 ⟨rfl, hb⟩; obtain ⟨hc, hf⟩ := bcell hb; have hz := hb.size)
  have hB : Below w.heap.size w w1 := Below.trans (by go_grown) (hb.mono (by simp; omega))
  exact bodyPost_ret (v := .tuple #[.int .i64 0, .agg #[.string ByteArray.empty, .int .i64 0], .int .i64 7]) (by simp [results, Tryd.results47, go_sem, hc]; rfl) rfl ⟨rfl, by go_grown⟩

set_option maxRecDepth 100000 in
set_option maxHeartbeats 400000 in
theorem read_int_ok (s : ByteArray) (a n : Nat) (w : World) (_hs : s.size ≤ maxLen) (h2 : a + n ≤ s.size) (h7 : n ≤ 7) :
    Calls Tryd.prog 47 #[.agg #[.string s, .int .i64 a], .int .i64 n, .func (.func 48) #[] #[]] w fun e w' => e = .returned (.tuple #[.int .i64 (beN (s.extract a (a + n)).data.toList), .agg #[.string s, .int .i64 (a + n : Nat)], .int .i64 0]) ∧ Below w.heap.size w w' := by
  have hs := _hs
  unfold maxLen at hs
  have hsl : ∀ wx : World, (Instr.slice 9 (.string s) (some (.int .i64 (a : Int))) (some (.int .i64 ((a : Int) + (n : Int)))) none).run Tryd.prog wx = .ok (.string (s.extract a (a + n))) wx := fun wx => by
    have := run_slice_string (P := Tryd.prog) (w := wx) 9 (s := s) .i64 .i64 (a : Int) ((a : Int) + (n : Int)) Tryd.underlying9 (by omega) (by omega) (by omega)
    rw [this]
    rw [show ((a : Int) + (n : Int)).toNat = a + n from by omega, Int.toNat_natCast]
  go_enter Tryd.func47, Tryd.ntmps47
  go_wp2_with (go_at_call 44; refine (left44_any _ _ _ (by assumption) (by omega) (by omega)).mono ?_; rintro e w1 ⟨rfl, hb⟩; obtain ⟨hc, hf⟩ := bcell hb; have hz := hb.size)
  have hB : Below w.heap.size w w1 := Below.trans (by go_grown) (hb.mono (by simp; omega))
  go_still_tail 16, (by kernel_rfl)
  still_call ((build_int _ _ (by simp; omega)).mono fun _ _ h => ⟨h.1, h.2.symm⟩)
  repeat still_step
  refine wpStill_nil ?_
  change wpList _ _ _ _ _ w1.drew
  have hB2 : Below w.heap.size w w1.drew := hB.drew
  go_wp2
  refine bodyPost_ret (v := .tuple #[.int .i64 (beN (s.extract a (a + n)).data.toList), .agg #[.string s, .int .i64 ((a : Int) + (n : Int))], .int .i64 0]) (by simp [results, Tryd.results47, go_sem, hc]) rfl ⟨by rw [Int.natCast_add], by go_grown⟩
end Go.Proofs.YtebaagmbnbbflaaDoor
