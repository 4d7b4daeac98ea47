/- Contracts of the reference's functions for reading. -/
import Derived.Test.YtebaagmbnbbflaaDoorE
import Derived.Test.YtebaagmbnbbflaaDoorX
namespace Go.Proofs.YtebaagmbnbbflaaDoor
open Go.RowKit Go.ChangeShapes

set_option maxHeartbeats 400000 in
theorem refRight_yes (s : ByteArray) (a : Int) (w : World) (_hs : s.size ≤ maxLen) (h0 : 0 ≤ a) (h1 : a ≤ s.size) :
    Calls Tryd.prog 11 #[.agg #[.string s, .int .i64 a]] w fun e w' => e = .returned (.bool true) ∧ Below w.heap.size w w' := by
  have t1 : decide (0 ≤ a) = true := by simp; omega
  go_enter Tryd.func11, Tryd.ntmps11
  go_wp2
  go_ret
  exact ⟨ret_b (by simp), by go_grown⟩

set_option maxHeartbeats 400000 in
theorem refRight_no (s : ByteArray) (a : Int) (w : World) (_hs : s.size ≤ maxLen) (h : a < 0 ∨ (s.size : Int) < a) :
    Calls Tryd.prog 11 #[.agg #[.string s, .int .i64 a]] w fun e w' => e = .returned (.bool false) ∧ Below w.heap.size w w' := by
  by_cases h0 : 0 ≤ a
  · have t1 : decide (0 ≤ a) = true := by simp; omega
    have h1 : (s.size : Int) < a := by omega
    clear h
    go_enter Tryd.func11, Tryd.ntmps11
    go_wp2
    go_ret
    exact ⟨ret_b (by simp; omega), by go_grown⟩
  · have t1 : decide (0 ≤ a) = false := by simp; omega
    clear h
    go_enter Tryd.func11, Tryd.ntmps11
    go_wp2
    go_ret
    exact ⟨rfl, by go_grown⟩

set_option maxHeartbeats 400000 in
theorem refLeft_any (s : ByteArray) (a : Int) (w : World) (_hs : s.size ≤ maxLen) (h0 : 0 ≤ a) (h1 : a ≤ s.size) :
    Calls Tryd.prog 12 #[.agg #[.string s, .int .i64 a]] w fun e w' => e = .returned (.int .i64 (s.size - a)) ∧ Below w.heap.size w w' := by
  unfold maxLen at _hs
  go_enter Tryd.func12, Tryd.ntmps12
  go_wp2
  go_ret
  exact ⟨rfl, by go_grown⟩

set_option maxHeartbeats 400000 in
theorem refNone_any (w : World) :
    Calls Tryd.prog 21 #[] w fun e w' => e = .returned (.agg #[.string ByteArray.empty, .int .i64 0]) ∧ Below w.heap.size w w' := by
  go_enter Tryd.func21, Tryd.ntmps21
  go_wp2
  go_returns
  exact ⟨rfl, by go_grown⟩

set_option maxHeartbeats 400000 in
theorem refNumber_any (s : ByteArray) (w : World) (hs : s.size ≤ 7) :
    Calls Tryd.prog 22 #[.string s] w fun e w' => e = .returned (.int .i64 (beN s.data.toList)) ∧ w = w' := by
  go_enter Tryd.func22, Tryd.ntmps22
  go_wp2
  go_loop [3, 4] (fun v i => ∃ k : Nat, k ≤ s.size ∧ i = .int .i64 k ∧ v = .int .i64 (beN (s.data.toList.take k) : Nat)) (fun _ i => s.size - (intOf i).toNat)
  case atStart => exact ⟨0, Nat.zero_le _, rfl, rfl⟩
  case round =>
    obtain ⟨k, hk, rfl, rfl⟩ := hrel
    by_cases hlt : k < s.size
    · have hl := beN_lt (s.data.toList.take k)
      have hb : beN (s.data.toList.take k) < 256 ^ 6 := Nat.lt_of_lt_of_le hl (Nat.pow_le_pow_right (by decide) (by simp; omega))
      have ea := idx_run s k (k : Int) rfl hlt
      have hcb := tAt_lt s k
      have HS : Hid (beN (s.data.toList.take (k + 1)) = beN (s.data.toList.take k) * 256 + tAt s k) := by
        rw [take_snoc s k hlt, beN_snoc, tAt_eq s k hlt]; exact rfl
      generalize hv : beN (s.data.toList.take k) = v at hb hl HS ⊢
      have HV := Lib.hid hv
      generalize tAt s k = c at ea hcb HS
      clear hv hl
      go_wp2
      go_round
      case rel => exact ⟨k + 1, by omega, by go_num, by rw [HS.out]; go_num⟩
      case measure => simp [intOf]; omega
    · go_wp2
      go_ret
      exact ⟨ret_i (by rw [List.take_of_length_le (by simp; omega)]), rfl⟩

set_option maxRecDepth 100000 in
set_option maxHeartbeats 400000 in
theorem refTake_ok (s : ByteArray) (a n : Nat) (w : World) (_hs : s.size ≤ maxLen) (h2 : a + n ≤ s.size) :
    Calls Tryd.prog 20 #[.agg #[.string s, .int .i64 a], .int .i64 n] w fun e w' => e = .returned (.tuple #[.string (s.extract a (a + n)), .agg #[.string s, .int .i64 (a + n : Nat)]]) ∧ Below w.heap.size w w' := by
  have hs := _hs
  unfold maxLen at hs
  have hsl : ∀ wx : World, (Instr.slice 9 (.string s) (some (.int .i64 (a : Int))) (some (.int .i64 ((a : Int) + (n : Int)))) none).run Tryd.prog wx = .ok (.string (s.extract a (a + n))) wx := fun wx => by
    have := run_slice_string (P := Tryd.prog) (w := wx) 9 (s := s) .i64 .i64 (a : Int) ((a : Int) + (n : Int)) Tryd.underlying9 (by omega) (by omega) (by omega)
    rw [this]
    rw [show ((a : Int) + (n : Int)).toNat = a + n from by omega, Int.toNat_natCast]
  have hw : IntKind.i64.wrap ((a : Int) + (n : Int)) = (a : Int) + (n : Int) := IntWalk.i64_in _ ⟨by omega, by omega⟩
  go_enter Tryd.func20, Tryd.ntmps20
  go_wp2
  have c1 : ((w.alloc (Obj.cells #[.string s, .int .i64 (a : Int)] 23)).alloc (Obj.cells #[.string ⟨#[]⟩, .int .i64 0] 23)).cell? ⟨w.heap.size, 0, none⟩ = some (.string s) := by simp
  have c2 : ((w.alloc (Obj.cells #[.string s, .int .i64 (a : Int)] 23)).alloc (Obj.cells #[.string ⟨#[]⟩, .int .i64 0] 23)).cell? ⟨w.heap.size, 1, none⟩ = some (.int .i64 (a : Int)) := by simp
  have c3 : ((w.alloc (Obj.cells #[.string s, .int .i64 (a : Int)] 23)).alloc (Obj.cells #[.string ⟨#[]⟩, .int .i64 0] 23)).cell? ⟨w.heap.size + 1, 0, none⟩ = some (.string ⟨#[]⟩) := by rw [World.cell?_alloc_at _ _ _ _ (by simp)]; rfl
  have c4 : ((w.alloc (Obj.cells #[.string s, .int .i64 (a : Int)] 23)).alloc (Obj.cells #[.string ⟨#[]⟩, .int .i64 0] 23)).cell? ⟨w.heap.size + 1, 1, none⟩ = some (.int .i64 0) := by rw [World.cell?_alloc_at _ _ _ _ (by simp)]; rfl
  have f3 : ((w.alloc (Obj.cells #[.string s, .int .i64 (a : Int)] 23)).alloc (Obj.cells #[.string ⟨#[]⟩, .int .i64 0] 23)).frozen? ⟨w.heap.size + 1, 0, none⟩ = false := World.frozen?_alloc_at _ _ _ _ (by simp)
  have f4 : ((w.alloc (Obj.cells #[.string s, .int .i64 (a : Int)] 23)).alloc (Obj.cells #[.string ⟨#[]⟩, .int .i64 0] 23)).frozen? ⟨w.heap.size + 1, 1, none⟩ = false := World.frozen?_alloc_at _ _ _ _ (by simp)
  have hB : Below w.heap.size w ((w.alloc (Obj.cells #[.string s, .int .i64 (a : Int)] 23)).alloc (Obj.cells #[.string ⟨#[]⟩, .int .i64 0] 23)) := by go_grown
  generalize ((w.alloc (Obj.cells #[.string s, .int .i64 (a : Int)] 23)).alloc (Obj.cells #[.string ⟨#[]⟩, .int .i64 0] 23)) = w1 at c1 c2 c3 c4 f3 f4 hB ⊢
  go_still_tail 17, (by kernel_rfl)
  change wpList _ _ _ _ _ w1.drew
  go_wp2
  refine bodyPost_ret (v := .tuple #[.string (s.extract a (a + n)), .agg #[.string s, .int .i64 ((a : Int) + (n : Int))]]) (by simp [results, Tryd.results20, go_sem, *]) rfl ⟨by rw [Int.natCast_add], by go_grown⟩
end Go.Proofs.YtebaagmbnbbflaaDoor
