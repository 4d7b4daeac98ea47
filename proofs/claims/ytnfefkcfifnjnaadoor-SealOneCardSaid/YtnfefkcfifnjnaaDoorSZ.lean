/- Contract of Sized: a string of a number of octets, made of another one. -/
import Derived.Test.YtnfefkcfifnjnaaDoorG
namespace Go.Proofs.YtnfefkcfifnjnaaDoor
open Go.RowKit Go.ChangeShapes

def sizK (s : List UInt8) (n k : Nat) : List UInt8 := (List.range n).map fun i => if i < k then s.getD (i % s.length) 0 else 0
def sizL (s : List UInt8) (n : Nat) : List UInt8 := sizK s n n
theorem sizK_length (s : List UInt8) (n k : Nat) : (sizK s n k).length = n := by simp [sizK]
theorem sizL_length (s : List UInt8) (n : Nat) : (sizL s n).length = n := sizK_length _ _ _
theorem sizK_get (s : List UInt8) (n k i : Nat) (h : i < n) : (sizK s n k).getD i 0 = if i < k then s.getD (i % s.length) 0 else 0 := by simp [sizK, List.getD_eq_getElem?_getD, h]
theorem sizK_step (s : List UInt8) (n k : Nat) (h : k < n) : (sizK s n k).set k (s.getD (k % s.length) 0) = sizK s n (k + 1) := by
  apply list_ext_getD
  · rw [List.length_set, sizK_length, sizK_length]
  · intro i hi
    rw [List.length_set, sizK_length] at hi
    rw [sizK_get _ _ _ _ hi]
    by_cases e : k = i
    · subst e
      rw [List.getD_eq_getElem?_getD, List.getElem?_set_self (by rw [sizK_length]; exact h), if_pos (by omega)]
      rfl
    · rw [List.getD_eq_getElem?_getD, List.getElem?_set_ne e, ← List.getD_eq_getElem?_getD, sizK_get _ _ _ _ hi]
      by_cases c : i < k
      · rw [if_pos c, if_pos (by omega)]
      · rw [if_neg c, if_neg (by omega)]
theorem sizK_zero (s : List UInt8) (n : Nat) : byC (sizK s n 0) = List.replicate n (.int .u8 0) := by
  apply List.ext_getElem
  · simp [byC, sizK]
  · intro i h1 h2
    simp [byC, sizK]
theorem sizK_none (n k : Nat) : sizK [] n k = sizK [] n n := by
  apply list_ext_getD
  · rw [sizK_length, sizK_length]
  · intro i hi
    rw [sizK_length] at hi
    rw [sizK_get _ _ _ _ hi, sizK_get _ _ _ _ hi]
    simp
set_option maxRecDepth 100000 in
set_option maxHeartbeats 2000000 in
theorem sized_any (s : List UInt8) (n : Nat) (w : World) (hn : n ≤ 5000) (hs : s.length ≤ 5000) :
    Calls Tryd.prog 14 #[.string (bs s), .int .i64 (n : Int)] w fun e w' => e = .returned (.string (bs (sizL s n))) ∧ Below w.heap.size w w' := by
  obtain ⟨i0, hi, hz0, hz1, hz2⟩ := info_parts info5
  obtain ⟨L, hL⟩ : ∃ L, s.length = L := ⟨_, rfl⟩
  have hsz : (bs s).size = L := by rw [bs_size, hL]
  have hget : ∀ k (h : k < (bs s).size), (bs s)[k] = s.getD k 0 := fun k h => by
    rw [List.getD_eq_getElem?_getD, List.getElem?_eq_getElem (by rw [bs_size] at h; exact h)]; rfl
  obtain ⟨S, hS⟩ : ∃ S, bs s = S := ⟨_, rfl⟩
  rw [hS] at hsz hget ⊢
  have HG := Lib.hid hget
  have HL := Lib.hid hL
  rw [hL] at hs
  clear hget hL hS
  subst hsz
  go_enter Tryd.func14, Tryd.ntmps14
  go_wp2_with (first | (at_make; refine wpList_make_full _ rfl _ _ 25 rfl w.heap.size 5 i0 (.int .u8 0) 1 Tryd.underlying25 hi hz0 hz1 .i64 .i64 _ _ n rfl rfl ?_ ?_ ?_ ?_ ?_ ?_; rfl; rfl; rw [hz2]; omega; (unfold maxLen; omega); omega; intro w1 hown1 hg1))
  have hB1 : Below w.heap.size w w1 := (Below.refl _ _).grown hg1 (Nat.le_refl _) (by simp)
  have hr0 : (madeCells (Value.int .u8 0).cells (n * 1)).toList = byC (sizK s n 0) := by
    rw [sizK_zero, Nat.mul_one]
    simp [madeCells, Value.cells, Nat.mod_one, List.map_const']
  rw [hr0] at hown1
  have HO1 := Lib.hid hown1
  have HB1 := Lib.hid hB1
  clear hr0 hown1 hB1 hg1
  go_loopw [6] (fun i wr => ∃ k : Nat, k ≤ n ∧ i = .int .i64 k ∧ Hid (wr.ownsRow w.heap.size 5 1 (.slice (some ⟨w.heap.size, 0, none⟩) n n) n (byC (sizK s n k))) ∧ Hid (Below w.heap.size w wr)) (fun i _ => n - (intOf i).toNat)
  case atStart => exact ⟨0, Nat.zero_le _, rfl, HO1, HB1⟩
  case round =>
    clear HO1 HB1
    obtain ⟨k, hk, rfl, HO, HB⟩ := hrel
    by_cases hlt : k < n ∧ 0 < S.size
    · obtain ⟨hkn, hS0⟩ := hlt
      obtain ⟨q, hq⟩ : ∃ q, k % S.size = q := ⟨_, rfl⟩
      have hqS : q < S.size := by rw [← hq]; exact Nat.mod_lt _ hS0
      have q1 : (k : Int) % (S.size : Int) = (q : Int) := by rw [← hq]; rfl
      have hlen : (byC (sizK s n k)).length = n := by rw [byC_length, sizK_length]
      have hcell := (HO.out.cellAt k (by omega)).trans (List.getElem?_eq_getElem (by omega))
      have hfr := HO.out.frozenAt k
      have hgq : S[q] = s.getD (k % s.length) 0 := by rw [HG.out q hqS, HL.out, hq]
      have hst := (HO.out.stored k (.int .u8 ((s.getD (k % s.length) 0).toNat : Int))).1
      have hrow : (byC (sizK s n k)).set k (.int .u8 ((s.getD (k % s.length) 0).toNat : Int)) = byC (sizK s n (k + 1)) := by
        rw [← sizK_step s n k hkn]; simp [byC, List.map_set]
      rw [hrow, ← hgq] at hst
      have HST := Lib.hid hst
      generalize (byC (sizK s n k))[k] = old at hcell
      have hB2 := Lib.hid (HB.out.setCell (p := ⟨w.heap.size, k, none⟩) (Nat.le_refl _) (.int .u8 (S[q].toNat : Int)))
      clear hst hrow hgq hlen hq
      go_wp2
      go_roundw
      case rel => exact ⟨k + 1, by omega, by go_num, HST, hB2⟩
      case measure => simp [intOf]; omega
    · have hE : byC (sizK s n k) = byC (sizL s n) := by
        by_cases h0 : 0 < S.size
        · obtain rfl : k = n := by omega
          rfl
        · have : s = [] := List.eq_nil_of_length_eq_zero (by rw [HL.out]; omega)
          subst this
          rw [sizK_none]; rfl
      have hcv := string_of_own (w := wr) (l := sizL s n) (by rw [sizL_length, ← hE]; exact HO.out)
      have hOr : n ≤ k ∨ S.size = 0 := by omega
      clear hlt hE
      rcases hOr with h1 | h1
      · have h2 : decide ((k : Int) < (n : Int)) = false := decide_eq_false (by omega)
        go_wp2
        all_goals go_ret
        all_goals exact ⟨rfl, HB.out⟩
      · have h2 : decide (0 < (S.size : Int)) = false := decide_eq_false (by omega)
        go_wp2
        all_goals go_ret
        all_goals exact ⟨rfl, HB.out⟩
end Go.Proofs.YtnfefkcfifnjnaaDoor
