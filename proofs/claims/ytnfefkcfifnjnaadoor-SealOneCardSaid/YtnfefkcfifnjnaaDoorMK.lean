/- Contracts of count, split, Tag. -/
import Derived.Test.YtnfefkcfifnjnaaDoorMJ
import Derived.Test.YtnfefkcfifnjnaaDoorZD
namespace Go.Proofs.YtnfefkcfifnjnaaDoor
open Go.RowKit Go.ChangeShapes
set_option maxRecDepth 100000 in
set_option maxHeartbeats 4000000 in
theorem count_any (n : Nat) (w : World) (hn : n ≤ 140737488355328) :
    Calls Tryd.prog 77 #[.int .i64 (n : Int)] w fun e w' => e = .returned (.string (bs (octV n 8))) ∧ Below w.heap.size w w' := by
  go_enter Tryd.func77, Tryd.ntmps77
  go_wp2
  go_loopw [5] (fun i wr => ∃ k : Nat, k ≤ 8 ∧ i = .int .i64 k ∧ Hid (wr.heap[w.heap.size]? = some (.cells ((byC (octV n k)) ++ List.replicate (8 - k) (Value.int .u8 0)).toArray 132 (0, 0))) ∧ Hid (Below w.heap.size w wr)) (fun i _ => 8 - (intOf i).toNat)
  case atStart => exact ⟨0, by omega, rfl, Lib.hid (heap_alloc_new _ _), Lib.hid ((Below.refl _ _).alloc (Nat.le_refl _) _)⟩
  case round =>
    obtain ⟨k, hk, rfl, HC, HB⟩ := hrel
    by_cases hlt : k < 8
    · have cf := frozen_of_row wr w.heap.size k _ 132 HC.out
      have cc : wr.cell? ⟨w.heap.size, k, none⟩ = some (.int .u8 0) := by
        rw [cell_of_row wr w.heap.size k _ 132 (0, 0) HC.out, List.getElem?_toArray, List.getElem?_append_right (by rw [byC_length, octV_length]; omega), byC_length, octV_length, Nat.sub_self, List.getElem?_replicate, if_pos (by omega)]
      obtain ⟨y, hy⟩ : ∃ y, n / 256 ^ k % 256 = y := ⟨_, rfl⟩
      have hy2 : y < 256 := by rw [← hy]; exact Nat.mod_lt _ (by decide)
      have hst := heap_setCell_same wr w.heap.size k _ 132 (.int .u8 (y : Int)) HC.out
      have hst2 : ((byC (octV n k)) ++ List.replicate (8 - k) (Value.int .u8 0)).toArray.setIfInBounds k (Value.int .u8 (y : Int)) = ((byC (octV n (k + 1))) ++ List.replicate (8 - (k + 1)) (Value.int .u8 0)).toArray := by
        rw [List.setIfInBounds_toArray, List.set_append_right _ _ (by rw [byC_length, octV_length]; exact Nat.le_refl _), byC_length, octV_length, Nat.sub_self, show 8 - k = (8 - (k + 1)) + 1 by omega, List.replicate_succ, List.set_cons_zero, octV_succ, ← byC_append, List.append_assoc, hy]
        have : ((UInt8.ofNat y).toNat : Int) = (y : Int) := by rw [UInt8.toNat_ofNat']; omega
        simp [byC]; omega
      rw [hst2] at hst
      have HST := Lib.hid hst
      obtain ⟨z, hz⟩ : ∃ z, n / 2 ^ (8 * k) = z := ⟨_, rfl⟩
      have hz1 : (n : Int) / 2 ^ (8 * k) = (z : Int) := by rw [← hz]; simp
      have hz2 : z ≤ 140737488355328 := by rw [← hz]; exact Nat.le_trans (Nat.div_le_self _ _) hn
      have hz3 : z % 256 = y := by rw [← hz, ← hy, show (256 : Nat) = 2 ^ 8 from rfl, ← Nat.pow_mul]
      have a1 : (n : Int) / 2 ^ (8 * k) % 256 = (y : Int) := by rw [hz1]; omega
      have HB2 := Lib.hid (HB.out.setCell (p := ⟨w.heap.size, k, none⟩) (Nat.le_refl _) (.int .u8 (y : Int)))
      clear hst hst2 hy hz hz1 hz2 hz3 hy2
      go_wp2
      go_roundw
      case rel => exact ⟨k + 1, by omega, by go_num, HST, HB2⟩
      case measure => simp [intOf]; omega
    · obtain rfl : k = 8 := by omega
      have hcv := run_convert_bytes_back (P := Tryd.prog) wr 25 9 5 ⟨w.heap.size, 0, none⟩ 8 (octV n 8) Tryd.underlying25 Tryd.underlying5 Tryd.underlying9 fun j hj => by
        have hadd : (⟨w.heap.size, 0, none⟩ : Addr).add j = ⟨w.heap.size, j, none⟩ := by unfold Addr.add; split <;> simp_all
        rw [hadd, cell_of_row wr w.heap.size j _ 132 (0, 0) HC.out, List.getElem?_toArray, List.getElem?_append_left (by rw [byC_length]; exact hj), byC_get hj]
      rw [octV_length] at hcv
      go_wp2
      go_ret
      exact ⟨rfl, HB.out⟩
set_option maxRecDepth 100000 in
set_option maxHeartbeats 1000000 in
theorem tag_arg (k s : ByteArray) (w : World) (hk : k.size ≠ 32) :
    Calls Tryd.prog 16 #[.string k, .string s] w fun e w' => e = .returned (.tuple #[.string ⟨#[]⟩, .int .i64 2]) ∧ w = w' := by
  have b1 : ((k.size : Int) != 32) = true := by simp; omega
  go_enter Tryd.func16, Tryd.ntmps16
  go_wp2
  go_ret2
  exact ⟨rfl, rfl⟩
set_option maxRecDepth 100000 in
set_option maxHeartbeats 1000000 in
theorem tag_long (k s : ByteArray) (w : World) (hk : k.size = 32) (hs : 4096 < s.size) :
    Calls Tryd.prog 16 #[.string k, .string s] w fun e w' => e = .returned (.tuple #[.string ⟨#[]⟩, .int .i64 3]) ∧ w = w' := by
  go_enter Tryd.func16, Tryd.ntmps16
  go_wp2
  go_ret2
  exact ⟨rfl, rfl⟩
set_option maxRecDepth 100000 in
set_option maxHeartbeats 1000000 in
theorem tag_ok (k s : List UInt8) (w : World) (hk : k.length = 32) (hs : s.length ≤ 4096) :
    Calls Tryd.prog 16 #[.string (bs k), .string (bs s)] w fun e w' => e = .returned (.tuple #[.string (bs (tagO k s)), .int .i64 0]) ∧ Below w.heap.size w w' := by
  have H := Lib.hid fun w => tagOf_any k s w hk (by omega)
  have h1 : (bs k).size = 32 := hk
  have h2 : (bs s).size ≤ 4096 := hs
  go_enter Tryd.func16, Tryd.ntmps16
  go_wp2_with (go_at_call 42; (with_reducible refine (H.out _).mono ?_); rintro e w1 ⟨rfl, hb1⟩)
  go_ret2
  exact ⟨rfl, hb1⟩
end Go.Proofs.YtnfefkcfifnjnaaDoor
