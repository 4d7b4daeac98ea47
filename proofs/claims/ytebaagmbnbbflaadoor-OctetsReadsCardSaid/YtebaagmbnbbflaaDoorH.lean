/- Contracts of Put. -/
import Derived.Test.YtebaagmbnbbflaaDoorG
namespace Go.Proofs.YtebaagmbnbbflaaDoor
open Go.RowKit Go.ChangeShapes

set_option maxRecDepth 100000 in
set_option maxHeartbeats 1000000 in
theorem put_big (n v : Nat) (w : World) (h1 : 1 ≤ n) (h7 : n ≤ 7) (hv : v ≤ 9223372036854775807) (hb : 256 ^ n ≤ v) :
    Calls Tryd.prog 23 #[.int .i64 n, .int .i64 v] w fun e w' => e = .returned (.tuple #[.string ByteArray.empty, .int .i64 6]) ∧ w = w' := by
  have t := big_yes hb
  clear hb
  go_enter Tryd.func23, Tryd.ntmps23
  go_wp2
  go_ret2
  exact ⟨rfl, rfl⟩

set_option maxRecDepth 100000 in
set_option maxHeartbeats 1000000 in
theorem put_bad (n v : Int) (w : World) (h : n < 1 ∨ 7 < n ∨ v < 0) :
    Calls Tryd.prog 23 #[.int .i64 n, .int .i64 v] w fun e w' => e = .returned (.tuple #[.string ByteArray.empty, .int .i64 2]) ∧ w = w' := by
  by_cases h1 : n < 1
  · clear h
    go_enter Tryd.func23, Tryd.ntmps23
    go_wp2
    go_ret2
    exact ⟨rfl, rfl⟩
  · have b1 : decide (n < 1) = false := by simp; omega
    by_cases h2 : 7 < n
    · clear h
      go_enter Tryd.func23, Tryd.ntmps23
      go_wp2
      go_ret2
      exact ⟨rfl, rfl⟩
    · have b2 : decide (7 < n) = false := by simp; omega
      have h3 : v < 0 := by omega
      clear h
      go_enter Tryd.func23, Tryd.ntmps23
      go_wp2
      go_ret2
      exact ⟨rfl, rfl⟩

set_option maxRecDepth 100000 in
set_option maxHeartbeats 1000000 in
theorem put_ok (n v : Nat) (w : World) (h1 : 1 ≤ n) (h7 : n ≤ 7) (hv : v ≤ 9223372036854775807) (hb : v < 256 ^ n) :
    Calls Tryd.prog 23 #[.int .i64 n, .int .i64 v] w fun e w' => e = .returned (.tuple #[.string ⟨(beB n v).toArray⟩, .int .i64 0]) ∧ Below w.heap.size w w' := by
  have t := big_no hb
  obtain ⟨i0, hi, hz0, hz1, hz2⟩ := info_parts info5
  clear hb
  go_enter Tryd.func23, Tryd.ntmps23
  go_wp2_with (first | (at_make; refine wpList_make_full _ rfl _ _ 56 rfl w.heap.size 5 i0 (.int .u8 0) 1 Tryd.underlying56 hi hz0 hz1 .i64 .i64 _ _ n rfl rfl ?_ ?_ ?_ ?_ ?_ ?_; rfl; rfl; rw [hz2]; omega; (unfold maxLen; omega); omega; intro w1 hown1 hg1))
  have hB1 : Below w.heap.size w w1 := (Below.refl _ _).grown hg1 (Nat.le_refl _) (by simp)
  have hr0 : (madeCells (Value.int .u8 0).cells (n * 1)).toList = byC (rowB n v 0) := by
    rw [rowB_zero, Nat.mul_one]
    simp [madeCells, Value.cells, Nat.mod_one, List.map_const']
  rw [hr0] at hown1
  clear hr0
  go_loopw [26] (fun i wr => ∃ k : Nat, k ≤ n ∧ i = .int .i64 k ∧ wr.ownsRow w.heap.size 5 1 (.slice (some ⟨w.heap.size, 0, none⟩) n n) n (byC (rowB n v k)) ∧ Below w.heap.size w wr) (fun i _ => n - (intOf i).toNat)
  case atStart => exact ⟨0, Nat.zero_le _, rfl, hown1, hB1⟩
  case round =>
    obtain ⟨k, hk, rfl, hown, hB⟩ := hrel
    have hz := hB.size
    by_cases hlt : k < n
    · have hlen : (byC (rowB n v k)).length = n := by rw [byC_length, rowB_length]
      have hcell := (hown.cellAt (n - 1 - k) (by omega)).trans (List.getElem?_eq_getElem (by omega))
      have hfr := hown.frozenAt (n - 1 - k)
      have hst := (hown.stored (n - 1 - k) (.int .u8 ((v / 256 ^ k % 256 : Nat) : Int))).1
      rw [rowB_step n v k hlt] at hst
      have hby := byte_8 v k
      have HBY := Lib.hid hby
      have HST := Lib.hid hst
      generalize (byC (rowB n v k))[n - 1 - k] = old at hcell
      have hB2 := hB.setCell (p := ⟨w.heap.size, n - 1 - k, none⟩) (Nat.le_refl _) (.int .u8 ((v / 256 ^ k % 256 : Nat) : Int))
      clear hown hst hlen
      go_wp2
      go_roundw
      case rel =>
        have e : ((v / 256 ^ k % 256 : Nat) : Int) = (v : Int) / 256 ^ k % 256 := by simp
        rw [← e]
        exact ⟨k + 1, by omega, by go_num, HST.out, hB2⟩
      case measure => simp [intOf]; omega
    · obtain rfl : k = n := by omega
      have hcv := string_of_own (w := wr) (l := beB k v) (by rw [beB_length, ← rowB_all]; exact hown)
      clear hown
      go_wp2
      go_ret2
      exact ⟨rfl, hB⟩
end Go.Proofs.YtebaagmbnbbflaaDoor
