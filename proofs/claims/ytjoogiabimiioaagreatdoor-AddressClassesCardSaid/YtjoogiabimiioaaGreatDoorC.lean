/- Contracts of Within, Family and Check. -/
import Derived.Test.YtjoogiabimiioaaGreatDoorA
namespace Go.Proofs.YtjoogiabimiioaaGreatDoor
open Go.RowKit Go.ChangeShapes
theorem host_size {S : ByteArray} (h : hostB S = true) : S.size = 4 ∨ S.size = 16 := by
  unfold hostB at h
  rw [Bool.or_eq_true, beq_iff_eq, beq_iff_eq] at h
  exact h
set_option maxRecDepth 100000 in
set_option maxHeartbeats 4000000 in
theorem Within_yes (S P : ByteArray) (n : Nat) (w : World) (hS : hostB S = true) (hP : hostB P = true) (hn : n ≤ 8 * P.size) :
    Calls Tryz.prog 28 #[.string S, .string P, .int .i64 (n : Int)] w fun e w' => e = .returned (.tuple #[.bool (wiB S P n), .int .i64 0]) ∧ Below w.heap.size w w' := by
  have hs := host_size hS
  have hp := host_size hP
  have HW := Lib.hid (fun W => within_any S P n W hn (by omega) (by omega))
  have n0 : (0 : Int) ≤ (n : Int) := by omega
  have n1 : ¬ (8 * (P.size : Int) < (n : Int)) := by omega
  have n2 : (n : Int) ≤ 8 * (P.size : Int) := by omega
  have h1 := fun W => isHost_any S W
  have h2 := fun W => isHost_any P W
  rw [hS] at h1
  rw [hP] at h2
  have H1 := Lib.hid h1
  have H2 := Lib.hid h2
  generalize wiB S P n = b at HW ⊢
  clear hS hP hs h1 h2
  go_enter Tryz.func28, Tryz.ntmps28
  go_wp2_with fail
  (with_reducible refine (H1.out _).mono ?_)
  rintro e V ⟨rfl, rfl⟩
  go_wp2_with fail
  (with_reducible refine (H2.out _).mono ?_)
  rintro e V ⟨rfl, rfl⟩
  go_wp2_with fail
  (with_reducible refine (HW.out _).mono ?_)
  rintro e V ⟨rfl, hb⟩
  go_wp2
  go_ret2
  exact ⟨rfl, hb⟩
set_option maxRecDepth 100000 in
set_option maxHeartbeats 4000000 in
theorem Within_no (S P : ByteArray) (n : Int) (w : World) (hlo : -9223372036854775808 ≤ n) (hhi : n ≤ 9223372036854775807) (hPs : P.size ≤ 1000) (h : hostB S = false ∨ hostB P = false ∨ n < 0 ∨ 8 * (P.size : Int) < n) :
    Calls Tryz.prog 28 #[.string S, .string P, .int .i64 n] w fun e w' => e = .returned (.tuple #[.bool false, .int .i64 2]) ∧ Below w.heap.size w w' := by
  have h1 := fun W => isHost_any S W
  have h2 := fun W => isHost_any P W
  by_cases hS : hostB S = true
  · rw [hS] at h1
    by_cases hP : hostB P = true
    · rw [hP] at h2
      have H1 := Lib.hid h1
      have H2 := Lib.hid h2
      have hh : n < 0 ∨ 8 * (P.size : Int) < n := by
        rcases h with h | h | h
        · rw [hS] at h; cases h
        · rw [hP] at h; cases h
        · exact h
      clear h h1 h2 hS hP
      by_cases hn : n < 0
      · have hn2 : ¬ (0 : Int) ≤ n := by omega
        go_enter Tryz.func28, Tryz.ntmps28
        go_wp2_with fail
        (with_reducible refine (H1.out _).mono ?_)
        rintro e V ⟨rfl, rfl⟩
        go_wp2_with fail
        (with_reducible refine (H2.out _).mono ?_)
        rintro e V ⟨rfl, rfl⟩
        go_wp2
        go_ret2
        exact ⟨rfl, Below.refl _ _⟩
      · have hn2 : (0 : Int) ≤ n := by omega
        have hn3 : 8 * (P.size : Int) < n := by omega
        clear hh
        go_enter Tryz.func28, Tryz.ntmps28
        go_wp2_with fail
        (with_reducible refine (H1.out _).mono ?_)
        rintro e V ⟨rfl, rfl⟩
        go_wp2_with fail
        (with_reducible refine (H2.out _).mono ?_)
        rintro e V ⟨rfl, rfl⟩
        go_wp2
        go_ret2
        exact ⟨rfl, Below.refl _ _⟩
    · rw [Bool.not_eq_true] at hP
      rw [hP] at h2
      have H1 := Lib.hid h1
      have H2 := Lib.hid h2
      clear h h1 h2 hS hP
      go_enter Tryz.func28, Tryz.ntmps28
      go_wp2_with fail
      (with_reducible refine (H1.out _).mono ?_)
      rintro e V ⟨rfl, rfl⟩
      go_wp2_with fail
      (with_reducible refine (H2.out _).mono ?_)
      rintro e V ⟨rfl, rfl⟩
      go_wp2
      go_ret2
      exact ⟨rfl, Below.refl _ _⟩
  · rw [Bool.not_eq_true] at hS
    rw [hS] at h1
    have H1 := Lib.hid h1
    clear h h1 h2 hS
    go_enter Tryz.func28, Tryz.ntmps28
    go_wp2_with fail
    (with_reducible refine (H1.out _).mono ?_)
    rintro e V ⟨rfl, rfl⟩
    go_wp2
    go_ret2
    exact ⟨rfl, Below.refl _ _⟩
/-- What Family answers. -/
def famT (S : ByteArray) : Value := if S.size = 4 then .tuple #[.int .i64 1, .int .i64 0] else if S.size = 16 then .tuple #[.int .i64 2, .int .i64 0] else .tuple #[.int .i64 0, .int .i64 2]
set_option maxRecDepth 100000 in
set_option maxHeartbeats 4000000 in
theorem Family_any (S : ByteArray) (w : World) : Calls Tryz.prog 21 #[.string S] w fun e w' => e = .returned (famT S) ∧ w' = w := by
  unfold famT
  by_cases h4 : S.size = 4
  · have e1 : (S.size : Int) = 4 := by omega
    rw [if_pos h4]
    go_enter Tryz.func21, Tryz.ntmps21
    go_wp2
    go_ret2
    exact ⟨rfl, rfl⟩
  · have e1 : ((S.size : Int) == 4) = false := beq_false_of_ne (by omega)
    have e2 : ¬ (S.size : Int) = 4 := by omega
    have e5 : ((4 : Int) == (S.size : Int)) = false := beq_false_of_ne (by omega)
    rw [if_neg h4]
    by_cases h16 : S.size = 16
    · have e3 : (S.size : Int) = 16 := by omega
      rw [if_pos h16]
      clear e1 e2 e5
      go_enter Tryz.func21, Tryz.ntmps21
      go_wp2
      go_ret2
      exact ⟨rfl, rfl⟩
    · have e3 : ((S.size : Int) == 16) = false := beq_false_of_ne (by omega)
      have e4 : ¬ (S.size : Int) = 16 := by omega
      have e6 : ((16 : Int) == (S.size : Int)) = false := beq_false_of_ne (by omega)
      rw [if_neg h16]
      go_enter Tryz.func21, Tryz.ntmps21
      go_wp2
      go_ret2
      exact ⟨rfl, rfl⟩
/-- Is an address valid? -/
def adB (H : ByteArray) (p : Int) : Bool := hostB H && decide (0 ≤ p ∧ p ≤ 65535)
set_option maxRecDepth 100000 in
set_option maxHeartbeats 4000000 in
theorem Check_any (H : ByteArray) (p : Int) (w : World) : Calls Tryz.prog 16 #[.agg #[.string H, .int .i64 p]] w fun e w' => e = .returned (.int .i64 (if adB H p then 0 else 2)) ∧ Below w.heap.size w w' := by
  have h1 := fun W => isHost_any H W
  unfold adB
  have hrow : (w.alloc (.cells #[.string H, .int .i64 p] 23)).heap[w.heap.size]? = some (.cells #[.string H, .int .i64 p] 23 (0, 0)) := heap_alloc_new w _
  have c0 := cell_of_row _ w.heap.size 0 _ 23 (0, 0) hrow
  have c1 := cell_of_row _ w.heap.size 1 _ 23 (0, 0) hrow
  have hB : Below w.heap.size w (w.alloc (.cells #[.string H, .int .i64 p] 23)) := (Below.refl _ w).alloc (Nat.le_refl _) _
  have HB := Lib.hid hB
  clear hrow hB
  by_cases hS : hostB H = true
  · rw [hS, Bool.true_and]
    rw [hS] at h1
    have H1 := Lib.hid h1
    by_cases hn : p < 0
    · have hn2 : ¬ (0 : Int) ≤ p := by omega
      rw [if_neg (by simp; omega)]
      go_enter Tryz.func16, Tryz.ntmps16
      go_wp2_with fail
      (with_reducible refine (H1.out _).mono ?_)
      rintro e V ⟨rfl, rfl⟩
      go_wp2
      go_ret
      exact ⟨rfl, HB.out⟩
    · have hn2 : (0 : Int) ≤ p := by omega
      by_cases hm : p ≤ 65535
      · have hm2 : ¬ (65535 : Int) < p := by omega
        rw [if_pos (by simp; omega)]
        go_enter Tryz.func16, Tryz.ntmps16
        go_wp2_with fail
        (with_reducible refine (H1.out _).mono ?_)
        rintro e V ⟨rfl, rfl⟩
        go_wp2
        go_ret
        exact ⟨rfl, HB.out⟩
      · have hm2 : (65535 : Int) < p := by omega
        rw [if_neg (by simp; omega)]
        go_enter Tryz.func16, Tryz.ntmps16
        go_wp2_with fail
        (with_reducible refine (H1.out _).mono ?_)
        rintro e V ⟨rfl, rfl⟩
        go_wp2
        go_ret
        exact ⟨rfl, HB.out⟩
  · rw [Bool.not_eq_true] at hS
    rw [hS, Bool.false_and]
    rw [hS] at h1
    have H1 := Lib.hid h1
    rw [if_neg (by decide)]
    go_enter Tryz.func16, Tryz.ntmps16
    go_wp2_with fail
    (with_reducible refine (H1.out _).mono ?_)
    rintro e V ⟨rfl, rfl⟩
    go_wp2
    go_ret
    exact ⟨rfl, HB.out⟩
end Go.Proofs.YtjoogiabimiioaaGreatDoor
