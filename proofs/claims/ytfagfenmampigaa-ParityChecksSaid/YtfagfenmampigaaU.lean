/- The reference: rows of bits. -/
import Derived.Test.YtfagfenmampigaaT
import Derived.Test.YtfagfenmampigaaPC
namespace Go.Proofs.Ytfagfenmampigaa
open Go.RowKit Go.ChangeShapes
/-- Bits, as a row's cells. -/
def boC (l : List Bool) : List Value := l.map Value.bool
theorem boC_snoc (l : List Bool) (b : Bool) : boC (l ++ [b]) = boC l ++ [.bool b] := by simp [boC]
theorem boC_length (l : List Bool) : (boC l).length = l.length := by simp [boC]
theorem info4 : (Try.prog.info? 4).map (fun i => (i.zero, i.size, i.bytes)) = some (some (.bool false), 1, 1) := by kernel_rfl
theorem bitsL_succ (x n : Nat) : bitsL x (n + 1) = bitsL x n ++ [x / 2 ^ n % 2 == 1] := by simp [bitsL, List.range_succ]
set_option maxRecDepth 100000 in
set_option maxHeartbeats 4000000 in
theorem coef_any (n : Nat) (w : World) (hn : n ≤ 4294967295) : Calls Try.prog 37 #[.int .i64 (n : Int)] w fun e w' => (∃ v, e = .returned v ∧ w'.ownsRow w.heap.size 4 1 v 32 (boC (bitsL n 32))) ∧ Below w.heap.size w w' := by
  obtain ⟨i0, hi, hz0, hz1, hz2⟩ := info_parts info4
  go_enter Try.func37, Try.ntmps37
  go_wp2
  go_loopw [0, 3, 4] (fun s0 v i wr => ∃ k : Nat, k ≤ 32 ∧ i = .int .i64 (k : Int) ∧ s0 = .int .i64 ((n / 2 ^ k : Nat) : Int) ∧ Hid (wr.ownsRow w.heap.size 4 1 v k (boC (bitsL n k)) ∧ Below w.heap.size w wr)) (fun _ _ i _ => 32 - (intOf i).toNat)
  case atStart => exact ⟨0, by omega, rfl, by simp, Lib.hid ⟨World.ownsRow_nil _ _ _ _, Below.refl _ _⟩⟩
  case round =>
    obtain ⟨k, hk, rfl, rfl, HO⟩ := hrel
    by_cases hlt : k < 32
    · have hki : (k : Int) < 32 := by omega
      obtain ⟨q, hq⟩ : ∃ q, n / 2 ^ k = q := ⟨_, rfl⟩
      have hq2 : n / 2 ^ (k + 1) = q / 2 := by rw [Nat.pow_succ, ← Nat.div_div_eq_div_mul, hq]
      have hqn : q ≤ 4294967295 := by rw [← hq]; exact Nat.le_trans (Nat.div_le_self _ _) hn
      rw [hq]
      by_cases hr : q % 2 = 1
      · skip
        have hbit : bitsL n (k + 1) = bitsL n k ++ [true] := by rw [bitsL_succ, hq, show (q % 2 == 1) = true by rw [hr]; rfl]
        have hri : (q : Int) % 2 = 1 := by omega
        clear hq
        go_wp2_with (first | (at_builtin; refine wpList_append_own _ rfl _ _ 78 rfl w.heap.size 4 i0 (.bool false) 1 1 Try.underlying78 hi hz0 hz1 hz2 rfl (by decide) _ k _ rfl (HO.out.1.alloc _) ⟨wr.heap.size, 0, none⟩ 1 1 [.bool true] rfl rfl ?_ ?_ ?_ ?_ ?_ ?_; exact World.news_of_block (cs := #[.bool true]) (t := 4) (fr := (0, 0)) (heap_alloc_new wr _); (simp [Value.oneCell']); (unfold maxLen; omega); omega; (have := HO.out.2.size; simp; omega); intro v2 w3 hown3 hg3 _))
        have hown4 : w3.ownsRow w.heap.size 4 1 v2 (k + 1) (boC (bitsL n (k + 1))) := by rw [hbit, boC_snoc]; exact hown3
        have hB3 : Below w.heap.size w w3 := (HO.out.2.alloc HO.out.2.size _).grown hg3 (by have := HO.out.2.size; simp; omega) (fun g hg => by have := (HO.out.1.lt g hg).1; omega)
        have HO3 := Lib.hid (And.intro hown4 hB3)
        clear hown3 hown4 hg3 hB3 HO hbit
        go_wp2
        go_roundw
        case rel => exact ⟨k + 1, by omega, by go_num, by rw [hq2]; rfl, HO3⟩
        case measure => simp [intOf]; omega
      · skip
        have hbit : bitsL n (k + 1) = bitsL n k ++ [false] := by rw [bitsL_succ, hq, show (q % 2 == 1) = false by exact beq_false_of_ne hr]
        have hri : (q : Int) % 2 = 0 := by omega
        clear hq
        go_wp2_with (first | (at_builtin; refine wpList_append_own _ rfl _ _ 78 rfl w.heap.size 4 i0 (.bool false) 1 1 Try.underlying78 hi hz0 hz1 hz2 rfl (by decide) _ k _ rfl (HO.out.1.alloc _) ⟨wr.heap.size, 0, none⟩ 1 1 [.bool false] rfl rfl ?_ ?_ ?_ ?_ ?_ ?_; exact World.news_of_block (cs := #[.bool false]) (t := 4) (fr := (0, 0)) (heap_alloc_new wr _); (simp [Value.oneCell']); (unfold maxLen; omega); omega; (have := HO.out.2.size; simp; omega); intro v2 w3 hown3 hg3 _))
        have hown4 : w3.ownsRow w.heap.size 4 1 v2 (k + 1) (boC (bitsL n (k + 1))) := by rw [hbit, boC_snoc]; exact hown3
        have hB3 : Below w.heap.size w w3 := (HO.out.2.alloc HO.out.2.size _).grown hg3 (by have := HO.out.2.size; simp; omega) (fun g hg => by have := (HO.out.1.lt g hg).1; omega)
        have HO3 := Lib.hid (And.intro hown4 hB3)
        clear hown3 hown4 hg3 hB3 HO hbit
        go_wp2
        go_roundw
        case rel => exact ⟨k + 1, by omega, by go_num, by rw [hq2]; rfl, HO3⟩
        case measure => simp [intOf]; omega
    · obtain rfl : k = 32 := by omega
      obtain ⟨hown, hB⟩ := HO.out
      have HB := Lib.hid hB
      have HOW := Lib.hid hown
      clear hown hB HO
      go_wp2
      go_ret
      exact ⟨⟨_, rfl, HOW.out⟩, HB.out⟩
theorem bitsS_take (s : List UInt8) (j k : Nat) (hj : j < s.length) (hk : k < 8) : (bitsS s).take (8 * j + k + 1) = (bitsS s).take (8 * j + k) ++ [(s.getD j 0).toNat / 2 ^ k % 2 == 1] := by
  induction s generalizing j with
  | nil => simp at hj
  | cons b s ih =>
    have hb : bitsS (b :: s) = bitsL b.toNat 8 ++ bitsS s := rfl
    cases j with
    | zero =>
      have h1 : k < (bitsL b.toNat 8).length := by rw [bitsL_length]; exact hk
      rw [hb, Nat.mul_zero, Nat.zero_add, List.take_append_of_le_length (by omega), List.take_append_of_le_length (by omega), List.take_succ_eq_append_getElem h1]
      simp [bitsL]
    | succ j =>
      have hl := bitsL_length b.toNat 8
      have e : ∀ m, (bitsL b.toNat 8 ++ bitsS s).take (8 + m) = bitsL b.toNat 8 ++ (bitsS s).take m := fun m => by
        rw [List.take_append, List.take_of_length_le (by omega), hl, Nat.add_sub_cancel_left]
      rw [hb, show 8 * (j + 1) + k + 1 = 8 + (8 * j + k + 1) by omega, show 8 * (j + 1) + k = 8 + (8 * j + k) by omega, e, e, ih j (by simpa using hj), List.append_assoc]
      rfl
theorem and8_one {y : Nat} (h : y < 256) (k : Nat) : bits .and .u8 ((y : Int) / 2 ^ k) 1 = ((y / 2 ^ k % 2 : Nat) : Int) := by
  have h2 : y / 2 ^ k < 256 := Nat.lt_of_le_of_lt (Nat.div_le_self _ _) h
  have e : ((y : Int) / 2 ^ k) = ((y / 2 ^ k : Nat) : Int) := by simp
  rw [e]
  generalize y / 2 ^ k = q at h2
  show IntKind.u8.wrap ((BitVec.ofInt 8 (q : Int) &&& BitVec.ofInt 8 1).toNat : Int) = _
  rw [BitVec.toNat_and, BitVec.ofInt_natCast, BitVec.toNat_ofNat, Nat.mod_eq_of_lt (by simpa using h2), show (BitVec.ofInt 8 1).toNat = 1 by decide, Nat.and_one_is_mod, IntKind.wrap_u8]
  omega
set_option maxRecDepth 100000 in
set_option maxHeartbeats 4000000 in
theorem bits_any (s : List UInt8) (w : World) (hs : s.length ≤ 4096) : Calls Try.prog 36 #[.string (bs s)] w fun e w' => (∃ v, e = .returned v ∧ w'.ownsRow w.heap.size 4 1 v (8 * s.length) (boC (bitsS s))) ∧ Below w.heap.size w w' := by
  obtain ⟨i0, hi, hz0, hz1, hz2⟩ := info_parts info4
  have hsz : (bs s).size = s.length := bs_size s
  have hgt : ∀ j (h : j < (bs s).size), (bs s)[j] = s.getD j 0 := fun j h => bs_idx _ _ h
  have hall : (bitsS s).take (8 * s.length) = bitsS s := List.take_of_length_le (by rw [bitsS_length]; exact Nat.le_refl _)
  have HALL := Lib.hid hall
  obtain ⟨S, hS⟩ : ∃ S, bs s = S := ⟨_, rfl⟩
  rw [hS] at hsz
  have HG : Hid (∀ j (h : j < S.size), S[j] = s.getD j 0) := Lib.hid (by rw [← hS]; exact hgt)
  rw [hS]
  clear hgt hall hS
  go_enter Try.func36, Try.ntmps36
  go_wp2
  go_loopw [3, 4] (fun v i wr => ∃ j : Nat, j ≤ s.length ∧ i = .int .i64 (j : Int) ∧ Hid (wr.ownsRow w.heap.size 4 1 v (8 * j) (boC ((bitsS s).take (8 * j))) ∧ Below w.heap.size w wr)) (fun _ i _ => s.length - (intOf i).toNat)
  case atStart => exact ⟨0, by omega, rfl, Lib.hid ⟨World.ownsRow_nil _ _ _ _, Below.refl _ _⟩⟩
  case round =>
    obtain ⟨j, hj, rfl, HO1⟩ := hrel
    by_cases hjl : j < s.length
    · have hji : (j : Int) < (S.size : Int) := by omega
      go_wp2
      go_loopw [3, 5] (fun v i wx => ∃ k : Nat, k ≤ 8 ∧ i = .int .i64 (k : Int) ∧ Hid (wx.ownsRow w.heap.size 4 1 v (8 * j + k) (boC ((bitsS s).take (8 * j + k))) ∧ Below w.heap.size w wx)) (fun _ i _ => 8 - (intOf i).toNat)
      case atStart => exact ⟨0, by omega, rfl, HO1⟩
      case round =>
        clear HO1
        obtain ⟨k, hk, rfl, HO⟩ := hrel
        rename_i wr _
        by_cases hlt : k < 8
        · have hki : (k : Int) < 8 := by omega
          have hjs : j < S.size := by omega
          have hy0 := HG.out j hjs
          obtain ⟨y, hy⟩ : ∃ y, (s.getD j 0).toNat = y := ⟨_, rfl⟩
          have hSy : (S[j]).toNat = y := by rw [hy0]; exact hy
          have hy256 : y < 256 := by rw [← hy]; exact (s.getD j 0).toNat_lt
          have hand0 := and8_one hy256 k
          clear hy0

          by_cases hr : y / 2 ^ k % 2 = 1
          · skip
            have hbit : ((bitsS s).take (8 * j + k)) ++ [true] = (bitsS s).take (8 * j + (k + 1)) := by rw [show 8 * j + (k + 1) = 8 * j + k + 1 by omega, bitsS_take s j k hjl (by omega), hy]; rw [show (y / 2 ^ k % 2 == 1) = true by rw [hr]; rfl]
            have hand : bits .and .u8 ((y : Int) / 2 ^ k) 1 = 1 := by rw [hand0]; rw [hr]; rfl
            clear hand0
            go_wp2_with (first | (at_builtin; refine wpList_append_own _ rfl _ _ 78 rfl w.heap.size 4 i0 (.bool false) 1 1 Try.underlying78 hi hz0 hz1 hz2 rfl (by decide) _ (8 * j + k) _ rfl (HO.out.1.alloc _) ⟨wr.heap.size, 0, none⟩ 1 1 [.bool true] rfl rfl ?_ ?_ ?_ ?_ ?_ ?_; exact World.news_of_block (cs := #[.bool true]) (t := 4) (fr := (0, 0)) (heap_alloc_new wr _); (simp [Value.oneCell']); (unfold maxLen; omega); omega; (have := HO.out.2.size; simp; omega); intro v2 w3 hown3 hg3 _))
            have hown4 : w3.ownsRow w.heap.size 4 1 v2 (8 * j + (k + 1)) (boC ((bitsS s).take (8 * j + (k + 1)))) := by rw [← hbit, boC_snoc]; exact hown3
            have hB3 : Below w.heap.size w w3 := (HO.out.2.alloc HO.out.2.size _).grown hg3 (by have := HO.out.2.size; simp; omega) (fun g hg => by have := (HO.out.1.lt g hg).1; omega)
            have HO3 := Lib.hid (And.intro hown4 hB3)
            clear hown3 hown4 hg3 hB3 HO hbit
            go_wp2
            go_roundw
            case rel => exact ⟨k + 1, by omega, by go_num, HO3⟩
            case measure => simp [intOf]; omega
          · skip
            have hbit : ((bitsS s).take (8 * j + k)) ++ [false] = (bitsS s).take (8 * j + (k + 1)) := by rw [show 8 * j + (k + 1) = 8 * j + k + 1 by omega, bitsS_take s j k hjl (by omega), hy]; rw [show (y / 2 ^ k % 2 == 1) = false from beq_false_of_ne hr]
            have hand : bits .and .u8 ((y : Int) / 2 ^ k) 1 = 0 := by rw [hand0]; omega
            clear hand0
            go_wp2_with (first | (at_builtin; refine wpList_append_own _ rfl _ _ 78 rfl w.heap.size 4 i0 (.bool false) 1 1 Try.underlying78 hi hz0 hz1 hz2 rfl (by decide) _ (8 * j + k) _ rfl (HO.out.1.alloc _) ⟨wr.heap.size, 0, none⟩ 1 1 [.bool false] rfl rfl ?_ ?_ ?_ ?_ ?_ ?_; exact World.news_of_block (cs := #[.bool false]) (t := 4) (fr := (0, 0)) (heap_alloc_new wr _); (simp [Value.oneCell']); (unfold maxLen; omega); omega; (have := HO.out.2.size; simp; omega); intro v2 w3 hown3 hg3 _))
            have hown4 : w3.ownsRow w.heap.size 4 1 v2 (8 * j + (k + 1)) (boC ((bitsS s).take (8 * j + (k + 1)))) := by rw [← hbit, boC_snoc]; exact hown3
            have hB3 : Below w.heap.size w w3 := (HO.out.2.alloc HO.out.2.size _).grown hg3 (by have := HO.out.2.size; simp; omega) (fun g hg => by have := (HO.out.1.lt g hg).1; omega)
            have HO3 := Lib.hid (And.intro hown4 hB3)
            clear hown3 hown4 hg3 hB3 HO hbit
            go_wp2
            go_roundw
            case rel => exact ⟨k + 1, by omega, by go_num, HO3⟩
            case measure => simp [intOf]; omega
        · obtain rfl : k = 8 := by omega
          have HO2 : Hid (wr.ownsRow w.heap.size 4 1 u3 (8 * (j + 1)) (boC ((bitsS s).take (8 * (j + 1)))) ∧ Below w.heap.size w wr) := HO
          go_wp2
          go_roundw
          case rel => exact ⟨j + 1, by omega, by go_num, HO2⟩
          case measure => simp [intOf]; omega
    · obtain rfl : j = s.length := by omega
      obtain ⟨hown, hB⟩ := HO1.out
      rw [HALL.out] at hown
      have HB := Lib.hid hB
      have HOW := Lib.hid hown
      have hji : ¬ ((s.length : Nat) : Int) < (S.size : Int) := by omega
      clear hown hB HO1
      go_wp2
      go_ret
      exact ⟨⟨_, rfl, HOW.out⟩, HB.out⟩
end Go.Proofs.Ytfagfenmampigaa
