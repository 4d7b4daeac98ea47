/- The longest run of zeros. -/
import Derived.Test.YtjoogiabimiioaaGreatDoorH
namespace Go.Proofs.YtjoogiabimiioaaGreatDoor
open Go.RowKit Go.ChangeShapes
/-- One group more: where the run begins, where it has ended, and how long the present one is. -/
def lrS (st : Nat × Nat × Nat) (i n : Nat) : Nat × Nat × Nat :=
  if n ≠ 0 then (st.1, st.2.1, 0) else if 1 < st.2.2 + 1 ∧ st.2.1 - st.1 < st.2.2 + 1 then (i - st.2.2, i + 1, st.2.2 + 1) else (st.1, st.2.1, st.2.2 + 1)
def lrK (l : List Nat) : Nat → Nat × Nat × Nat
  | 0 => (0, 0, 0)
  | k + 1 => lrS (lrK l k) k (l.getD k 0)
theorem lrK_le (l : List Nat) : ∀ k, (lrK l k).1 ≤ (lrK l k).2.1 ∧ (lrK l k).2.1 ≤ k ∧ (lrK l k).2.2 ≤ k
  | 0 => ⟨Nat.le_refl _, Nat.le_refl _, Nat.le_refl _⟩
  | k + 1 => by
    obtain ⟨h1, h2, h3⟩ := lrK_le l k
    rw [lrK]
    unfold lrS
    split
    · exact ⟨h1, by simp only; omega, by simp only; omega⟩
    · split
      · exact ⟨by simp only; omega, by simp only; omega, by simp only; omega⟩
      · exact ⟨h1, by simp only; omega, by simp only; omega⟩
theorem idx_gs (l : List Nat) (hl : l.length = 8) (i : Nat) (hi : i < 8) (w : World) : (Instr.index 120 (.agg (gsC l)) (.int .i64 (i : Int))).run Tryz.prog w = .ok (g16 (l.getD i 0)) w := by
  have h8 : i = 0 ∨ i = 1 ∨ i = 2 ∨ i = 3 ∨ i = 4 ∨ i = 5 ∨ i = 6 ∨ i = 7 := by omega
  match l, hl with
  | [a, b, c, d, e, f, g, h], _ => rcases h8 with rfl | rfl | rfl | rfl | rfl | rfl | rfl | rfl <;> (show _ = _; kernel_rfl)
set_option maxRecDepth 100000 in
set_option maxHeartbeats 8000000 in
theorem longestRun_any (l : List Nat) (w : World) (hl : l.length = 8) (_ : ∀ x ∈ l, x < 65536) :
    Calls Tryz.prog 103 #[.agg (gsC l)] w fun e w' => e = .returned (.tuple #[.int .i64 ((lrK l 8).1 : Int), .int .i64 ((lrK l 8).2.1 : Int)]) ∧ Below w.heap.size w w' := by
  have HG := Lib.hid (Gr.new w l)
  have HB := Lib.hid ((Below.refl w.heap.size w).alloc (Nat.le_refl _) (.cells (gsC l) 120))
  have HI := Lib.hid (fun i hi W => idx_gs l hl i hi W)
  have HL := Lib.hid hl
  clear hl
  go_enter Tryz.func103, Tryz.ntmps103
  go_upto_region 2 with fail
  generalize hV : World.alloc w _ = V at HG HB ⊢
  clear hV
  go_upto_region 3 with (refine wpList_load_row rfl 120 _ rfl w.heap.size rfl 120 (gsC l) (0, 0) _ HG.out Tryz.underlying120 rfl (by rw [size120, gsC_size, HL.out]) ?_)
  go_loopw [2, 3, 4, 5, 6, 8] (fun a b c _ _ i wr => ∃ k : Nat, k ≤ 8 ∧ i = .int .i64 (k : Int) ∧ a = .int .i64 ((lrK l k).1 : Int) ∧ b = .int .i64 ((lrK l k).2.1 : Int) ∧ c = .int .i64 ((lrK l k).2.2 : Int) ∧ V = wr) (fun _ _ _ _ _ i _ => 8 - (intOf i).toNat)
  case atStart => exact ⟨0, by omega, rfl, rfl, rfl, rfl, rfl⟩
  case round =>
    obtain ⟨k, hk, rfl, rfl, rfl, rfl, rfl⟩ := hrel
    by_cases hlt : k < 8
    · have hki : (k : Int) < 8 := by omega
      have hle := lrK_le l k
      have hnx : lrK l (k + 1) = lrS (lrK l k) k (l.getD k 0) := rfl
      have hix := fun W => HI.out k hlt W
      obtain ⟨n, hn⟩ : ∃ n, l.getD k 0 = n := ⟨_, rfl⟩
      simp only [hn] at hix
      rw [hn] at hnx
      generalize lrK l k = st at hle hnx ⊢
      obtain ⟨f, b, c⟩ := st
      simp only at hle hnx ⊢
      have HN := Lib.hid hnx
      clear hnx hn
      unfold lrS at HN
      by_cases hn0 : n = 0
      · have hn1 : (n : Int) = 0 := by omega
        rw [if_neg (by simpa using hn0)] at HN
        simp only at HN
        have hc1 : IntKind.i64.wrap ((c : Int) + 1) = (c : Int) + 1 := IntWalk.i64_in _ (by omega)
        by_cases h1 : 1 < c + 1
        · have h1i : (1 : Int) < (c : Int) + 1 := by omega
          by_cases h2 : b - f < c + 1
          · have h2i : (b : Int) - (f : Int) < (c : Int) + 1 := by omega
            rw [if_pos ⟨h1, h2⟩] at HN
            have hd : (k : Int) + 1 - ((c : Int) + 1) = ((k - c : Nat) : Int) := by omega
            go_wp2
            go_roundw
            case rel => exact ⟨k + 1, by omega, by go_num, by rw [HN.out], by rw [HN.out]; rfl, by rw [HN.out]; rfl, trivial⟩
            case measure => simp [intOf]; omega
          · have h2i : ¬ (b : Int) - (f : Int) < (c : Int) + 1 := by omega
            rw [if_neg (by omega)] at HN
            go_wp2
            go_roundw
            case rel => exact ⟨k + 1, by omega, by go_num, by rw [HN.out], by rw [HN.out], by rw [HN.out]; rfl, trivial⟩
            case measure => simp [intOf]; omega
        · have h1i : ¬ (1 : Int) < (c : Int) + 1 := by omega
          rw [if_neg (by omega)] at HN
          go_wp2
          go_roundw
          case rel => exact ⟨k + 1, by omega, by go_num, by rw [HN.out], by rw [HN.out], by rw [HN.out]; rfl, trivial⟩
          case measure => simp [intOf]; omega
      · have hn1 : ¬ (n : Int) = 0 := by omega
        have hn2 : ((n : Int) != 0) = true := bne_iff_ne.2 hn1
        have hn3 : ((n : Int) == 0) = false := beq_false_of_ne hn1
        rw [if_pos hn0] at HN
        go_wp2
        go_roundw
        case rel => exact ⟨k + 1, by omega, by go_num, by rw [HN.out], by rw [HN.out], by rw [HN.out]; rfl, trivial⟩
        case measure => simp [intOf]; omega
    · obtain rfl : k = 8 := by omega
      go_wp2
      go_ret2
      exact ⟨rfl, HB.out⟩
end Go.Proofs.YtjoogiabimiioaaGreatDoor
