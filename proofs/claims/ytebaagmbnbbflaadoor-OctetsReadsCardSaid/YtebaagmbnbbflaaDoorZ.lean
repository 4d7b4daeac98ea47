/- Contracts of the reference's functions for hexadecimal texts. -/
import Derived.Test.YtebaagmbnbbflaaDoorJ
import Derived.Test.YtebaagmbnbbflaaDoorX
namespace Go.Proofs.YtebaagmbnbbflaaDoor
open Go.RowKit Go.ChangeShapes

/-- The digits, as the reference's constant string. -/
def hexS : ByteArray := ⟨#[48, 49, 50, 51, 52, 53, 54, 55, 56, 57, 97, 98, 99, 100, 101, 102]⟩
theorem hexS_at (i : Nat) (hi : i < 16) : (tAt hexS i : Int) = dg i := by
  match i, hi with
  | 0, _ | 1, _ | 2, _ | 3, _ | 4, _ | 5, _ | 6, _ | 7, _ | 8, _ | 9, _ | 10, _ | 11, _ | 12, _ | 13, _ | 14, _ | 15, _ => rfl
  | n + 16, h => exact absurd h (by omega)
theorem hexS_run (i : Nat) (x : Int) (hx : x = (i : Int)) (hi : i < 16) (w : World) : (Instr.index 9 (.string ⟨#[48, 49, 50, 51, 52, 53, 54, 55, 56, 57, 97, 98, 99, 100, 101, 102]⟩) (.int .u8 x)).run Tryd.prog w = .ok (.int .u8 (dg i)) w := by
  subst hx
  rw [← hexS_at i hi]
  have h := run_index_string w 9 hexS .u8 (i : Int) Tryd.underlying9
  rw [dif_pos ⟨by omega, by show (i : Int) < 16; omega⟩] at h
  simp only [Int.toNat_natCast] at h
  rw [tAt_eq hexS i (by show i < 16; exact hi)] at h
  exact h

set_option maxRecDepth 100000 in
set_option maxHeartbeats 1000000 in
theorem refHex_any (s : ByteArray) (w : World) (hs : s.size ≤ 70368744177664) :
    Calls Tryd.prog 28 #[.string s] w fun e w' => e = .returned (.string ⟨(hexL s.data.toList).toArray⟩) ∧ Below w.heap.size w w' := by
  obtain ⟨i0, hi, hz0, hz1, hz2⟩ := info_parts info5
  go_enter Tryd.func28, Tryd.ntmps28
  go_wp2_with (first | (at_make; refine wpList_make_own _ rfl _ _ 56 rfl w.heap.size 5 i0 (.int .u8 0) 1 Tryd.underlying56 hi hz0 hz1 .i64 .i64 _ (2 * s.size) rfl rfl ?_ ?_ ?_ ?_ ?_; omega; rw [hz2]; omega; (unfold maxLen; omega); omega; intro w1 hown1 hg1))
  have hB1 : Below w.heap.size w w1 := (Below.refl _ _).grown hg1 (Nat.le_refl _) (by simp)
  go_loopw [3, 4] (fun v i wr => ∃ k : Nat, k ≤ s.size ∧ i = .int .i64 k ∧ wr.ownsRow w.heap.size 5 1 v (2 * k) (byC (hexL (s.data.toList.take k))) ∧ Below w.heap.size w wr) (fun _ i _ => s.size - (intOf i).toNat)
  case atStart => exact ⟨0, Nat.zero_le _, rfl, hown1, hB1⟩
  case round =>
    obtain ⟨k, hk, rfl, hown, hB⟩ := hrel
    have hz := hB.size
    by_cases hlt : k < s.size
    · have ea := idx_run s k (k : Int) rfl hlt
      have hta := (tAt_eq s k hlt)
      have HTA := Lib.hid hta
      have hcb := tAt_lt s k
      generalize tAt s k = n at ea hcb HTA
      have e1 := hexS_run (n / 16) ((n : Int) / 16) (by omega) (by omega)
      have e2 := hexS_run (n % 16) ((n : Int) % 16) (by omega) (by omega)
      have w1' : IntKind.u8.wrap ((n : Int) / 16) = (n : Int) / 16 := IntWalk.u8_in _ ⟨by omega, by omega⟩
      have w2' : (n : Int).tmod 16 = (n : Int) % 16 := Int.tmod_eq_emod_of_nonneg (by omega)
      have w3' : IntKind.u8.wrap ((n : Int) % 16) = (n : Int) % 16 := IntWalk.u8_in _ ⟨by omega, by omega⟩
      clear hta
      go_wp2
      go_region_held3 (fun _ => True)
        (first | trivial)
        ((refine step_append_lies _ (by rfl) _ _ _ (by rfl) w.heap.size 5 i0 _ 1 1 Tryd.underlying56 hi hz0 hz1 hz2 rfl (by omega) _ (2 * k) _ (by rfl) ((hown.alloc _).drew) ⟨wr.heap.size, 0, none⟩ 2 2 [.int .u8 (dg (n / 16)), .int .u8 (dg (n % 16))] (by rfl) (by rfl) (World.news_of_block (cs := #[.int .u8 (dg (n / 16)), .int .u8 (dg (n % 16))]) (t := 5) (fr := (0, 0)) (heap_alloc_new wr _)) (by simp [Value.oneCell']) (by omega) (by unfold maxLen; omega) (by omega) (by simp; omega) (wr.heap.size + 1) (by simp) ?_; intro gg cap w2 hown2 hgrow hat hlt2))
      all_goals
        have hBn : Below w.heap.size w w2 := ((hB.alloc hz _).drew).grown hgrow (by go_size) (fun g hg => (hown.lt g hg).1)
        have hrow : byC (hexL (s.data.toList.take k)) ++ [.int .u8 (dg (n / 16)), .int .u8 (dg (n % 16))] = byC (hexL (s.data.toList.take (k + 1))) := by
          rw [take_snoc s k hlt, hexL_snoc, ← byC_append, HTA.out]
          simp only [byC, List.map_cons, List.map_nil]
          rw [dgB_toNat (by omega), dgB_toNat (by omega)]
        have HROW := Lib.hid hrow
        clear hrow hown hgrow
        try go_wp2
        go_roundw
        case rel => exact ⟨k + 1, by omega, by go_num, by rw [← HROW.out]; exact hown2, hBn⟩
        case measure => simp [intOf]; omega
    · have hcv := string_of_own (w := wr) (l := hexL (s.data.toList.take k)) (by rw [hexL_length, List.length_take, Nat.min_eq_left (by simp; omega)]; exact hown)
      have hl : s.data.toList.take k = s.data.toList := List.take_of_length_le (by simp; omega)
      have HL := Lib.hid hl
      clear hl
      go_wp2
      go_ret
      exact ⟨by rw [HL.out]; rfl, hB⟩

set_option maxHeartbeats 400000 in
theorem refDigit_yes (c : Int) (w : World) (h0 : 0 ≤ c) (h1 : c ≤ 255) (h : isDg c = true) :
    Calls Tryd.prog 54 #[.int .u8 c] w fun e w' => e = .returned (.int .i64 (vlDg c)) ∧ w = w' := by
  have hv : vlDg c = if c ≤ 57 then c - 48 else c - 87 := rfl
  rcases (isDg_iff c).1 h with ⟨a, b⟩ | ⟨a, b⟩
  · rw [if_pos (by omega)] at hv
    rw [hv]
    clear hv h
    go_enter Tryd.func54, Tryd.ntmps54
    go_wp2
    go_ret
    exact ⟨ret_i (by omega), rfl⟩
  · rw [if_neg (by omega)] at hv
    rw [hv]
    clear hv h
    have t1 : decide (c ≤ 57) = false := by simp; omega
    go_enter Tryd.func54, Tryd.ntmps54
    go_wp2
    go_ret
    exact ⟨ret_i (by omega), rfl⟩

set_option maxHeartbeats 400000 in
theorem refDigit_no (c : Int) (w : World) (h0 : 0 ≤ c) (h1 : c ≤ 255) (h : isDg c = false) :
    Calls Tryd.prog 54 #[.int .u8 c] w fun e w' => e = .returned (.int .i64 (-1)) ∧ w = w' := by
  have hn : ¬ ((48 ≤ c ∧ c ≤ 57) ∨ (97 ≤ c ∧ c ≤ 102)) := by rw [← isDg_iff, h]; simp
  by_cases a : 48 ≤ c
  · have t1 : decide (48 ≤ c) = true := by simp; omega
    have t2 : decide (c ≤ 57) = false := by simp; omega
    by_cases b : 97 ≤ c
    · have t3 : decide (97 ≤ c) = true := by simp; omega
      have t4 : decide (c ≤ 102) = false := by simp; omega
      have c1 : 58 ≤ c := by omega
      have c2 : 103 ≤ c := by omega
      clear hn h
      go_enter Tryd.func54, Tryd.ntmps54
      go_wp2
      go_ret
      exact ⟨rfl, rfl⟩
    · have t3 : decide (97 ≤ c) = false := by simp; omega
      have c1 : 58 ≤ c := by omega
      clear hn h
      go_enter Tryd.func54, Tryd.ntmps54
      go_wp2
      go_ret
      exact ⟨rfl, rfl⟩
  · have t1 : decide (48 ≤ c) = false := by simp; omega
    have t3 : decide (97 ≤ c) = false := by simp; omega
    clear hn h
    go_enter Tryd.func54, Tryd.ntmps54
    go_wp2
    go_ret
    exact ⟨rfl, rfl⟩
end Go.Proofs.YtebaagmbnbbflaaDoor
