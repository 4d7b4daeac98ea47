/- Contracts of apply, matrixOf, twice, powers. -/
import Derived.Test.YtfagfenmampigaaD
import Derived.Test.YtfagfenmampigaaZS
namespace Go.Proofs.Ytfagfenmampigaa
open Go.RowKit Go.ChangeShapes
/-- A matrix, of which the first k places are filled. -/
def matK (f : Nat → Nat) (k : Nat) : List Nat := (List.range 32).map fun i => if i < k then f (2 ^ i) else 0
theorem matK_length (f : Nat → Nat) (k : Nat) : (matK f k).length = 32 := by simp [matK]
theorem matK_set (f : Nat → Nat) (k : Nat) (_h : k < 32) : (matK f k).set k (f (2 ^ k)) = matK f (k + 1) := by
  apply List.ext_getElem (by simp [matK])
  intro i h1 h2
  simp only [matK, List.getElem_set, List.getElem_map, List.getElem_range]
  by_cases e : k = i
  · subst e; rw [if_pos rfl, if_pos (by omega)]
  · rw [if_neg e]
    by_cases h3 : i < k
    · rw [if_pos h3, if_pos (by omega)]
    · rw [if_neg h3, if_neg (by omega)]
theorem matK_zero (f : Nat → Nat) : matK f 0 = List.replicate 32 0 := by
  apply List.ext_getElem (by rw [matK_length, List.length_replicate])
  intro i h1 h2
  simp only [matK, List.getElem_map, List.getElem_range, List.getElem_replicate]
  rw [if_neg (by omega)]
theorem matK_full (f : Nat → Nat) : matK f 32 = mat f := by
  unfold matK mat
  apply List.map_congr_left
  intro i hi
  rw [if_pos (List.mem_range.1 hi)]
def Z32 : Array Value := lsC (List.replicate 32 0)
theorem zero101 (w : World) : (zeroValue 101).run Try.prog w = .ok (.agg Z32) w := by kernel_rfl
theorem Z32_mat (f : Nat → Nat) : Z32 = lsC (matK f 0) := by rw [matK_zero]; rfl
theorem size101 : (Try.prog.info? 101).map (·.size) = some 32 := by kernel_rfl
theorem p32 {k : Nat} (h : k < 32) : isW (2 ^ k) := isW_of_lt (Nat.pow_lt_pow_right (by decide) h)
theorem idx101 (w : World) (l : List Nat) (i : Nat) (hl : l.length = 32) (hi : i < 32) : (Instr.index 101 (.agg (lsC l)) (.int .i64 (i : Int))).run Try.prog w = .ok (ld (l.getD i 0)) w :=
  run_index_ls w 101 23 32 l .i64 i Try.underlying101 hl hi (by kernel_rfl) (by kernel_rfl)
set_option maxRecDepth 100000 in
set_option maxHeartbeats 4000000 in
theorem apply_any (f : Nat → Nat) (n : Nat) (w : World) (hf : Lin f) (hW : ∀ x, isW x → isW (f x)) (hn : isW n) :
    Calls Try.prog 60 #[.agg (lsC (mat f)), ld n] w fun e w' => e = .returned (ld (f n)) ∧ Below w.heap.size w w' := by
  have HI := Lib.hid (fun i W (h : i < 32) => idx101 W (mat f) i (mat_length f) h)
  have HG := Lib.hid (fun i (h : i < 32) => mat_get f (b := i) h)
  have HS := Lib.hid (fun k => lin_step hf n k)
  have HX := Lib.hid (fun x y (hx : isW x) (hy : isW y) => u32_xor hx hy)
  have HW := Lib.hid hW
  have h0 := Lar.new w 101 (mat f)
  have hB : Below w.heap.size w (w.alloc (.cells (lsC (mat f)) 101)) := by go_grown
  have H0 := Lib.hid h0
  have HB := Lib.hid hB
  have HSZ := Lib.hid (show (lsC (mat f)).size = 32 by rw [lsC_size, mat_length])
  have HN := Lib.hid (show n % 2 ^ 32 = n from Nat.mod_eq_of_lt (lt_of_isW hn))
  have HM0 := Lib.hid (show f (n % 2 ^ 0) = 0 ∧ n / 2 ^ 0 = n by rw [Nat.pow_zero, Nat.mod_one, Nat.div_one]; exact ⟨hf.zero, rfl⟩)
  have HDW := Lib.hid (fun k => show isW (n / 2 ^ k) from Nat.le_trans (Nat.div_le_self _ _) hn)
  have HMW := Lib.hid (fun k => show isW (f (n % 2 ^ k)) from hW _ (Nat.le_trans (Nat.mod_le _ _) hn))
  have HD := Lib.hid (fun k => show n / 2 ^ (k + 1) = n / 2 ^ k / 2 by rw [Nat.pow_succ, Nat.div_div_eq_div_mul])
  clear h0 hB hf hW hn
  go_enter Try.func60, Try.ntmps60
  go_upto_region 1 with fail
  generalize World.alloc w _ = V at H0 HB ⊢
  go_wp2_with (refine wpList_load_row rfl 101 _ rfl w.heap.size rfl 101 (lsC (mat f)) (0, 0) _ H0.out Try.underlying101 rfl (by rw [size101, HSZ.out]) ?_)
  go_loop [1, 5, 7, 9] (fun a s _ i => ∃ k : Nat, k ≤ 32 ∧ i = .int .i64 (k : Int) ∧ a = ld (n / 2 ^ k) ∧ s = ld (f (n % 2 ^ k))) (fun _ _ _ i => 32 - (intOf i).toNat)
  case atStart => exact ⟨0, by omega, rfl, by rw [HM0.out.2], by rw [HM0.out.1]; rfl⟩
  case round =>
    obtain ⟨k, hk, rfl, rfl, rfl⟩ := hrel
    by_cases hlt : k < 32
    · have hi := fun W => HI.out k W hlt
      rw [HG.out k hlt] at hi
      have hs := HS.out k
      have hd := HD.out k
      have hdw := HDW.out k
      have hmw := HMW.out k
      have hcw := HW.out _ (p32 hlt)
      generalize n / 2 ^ k = x at hs hd hdw ⊢
      generalize f (n % 2 ^ k) = s at hs hmw ⊢
      generalize f (2 ^ k) = c at hi hs hcw
      generalize lsC (mat f) = M at hi ⊢
      obtain ⟨y, hy⟩ : ∃ y, x / 2 = y := ⟨_, rfl⟩
      have q1 : (x : Int) / 2 = (y : Int) := by omega
      rw [hy] at hd
      have HDD := Lib.hid hd
      have hx := HX.out _ _ hmw hcw
      unfold isW at hdw hmw hcw
      have hki : (k : Int) < 32 := by omega
      rcases Nat.mod_two_eq_zero_or_one x with hp | hp
      · have r1 : (x : Int) % 2 = 0 := by omega
        rw [if_neg (by omega)] at hs
        have HSS := Lib.hid hs
        clear hs hy hp hd hx
        go_wp2
        go_round
        case rel => exact ⟨k + 1, by omega, by go_num, by rw [HDD.out], by rw [HSS.out]⟩
        case measure => simp [intOf]; omega
      · have r1 : (x : Int) % 2 = 1 := by omega
        rw [if_pos hp] at hs
        have HSS := Lib.hid hs
        clear hs hy hp hd
        go_wp2
        go_round
        case rel => exact ⟨k + 1, by omega, by go_num, by rw [HDD.out], by rw [HSS.out]⟩
        case measure => simp [intOf]; omega
    · obtain rfl : k = 32 := by omega
      rw [HN.out]
      generalize lsC (mat f) = M
      generalize n / 2 ^ 32 = x
      go_wp2
      go_ret
      exact ⟨rfl, HB.out⟩
end Go.Proofs.Ytfagfenmampigaa
