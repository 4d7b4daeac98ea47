/- Contracts of plus and minus. -/
import Derived.Test.YtbadiljligcenaaDoorFD
namespace Go.Proofs.YtbadiljligcenaaDoor
open Go.RowKit Go.ChangeShapes
/-- The first k limbs are those that f tells. -/
def stK (f : Nat → Nat) (l : List Nat) : Nat → List Nat
  | 0 => l
  | k + 1 => (stK f l k).set k (f k)
theorem stK_length (f : Nat → Nat) (l : List Nat) (k : Nat) : (stK f l k).length = l.length := by
  induction k with
  | zero => rfl
  | succ k ih => simp [stK, ih]
theorem stK_get (f : Nat → Nat) (l : List Nat) (k j : Nat) (hk : k ≤ l.length) : (stK f l k).getD j 0 = if j < k then f j else l.getD j 0 := by
  induction k with
  | zero => simp [stK]
  | succ k ih =>
    rw [stK, getD_setM, stK_length, ih (by omega)]
    by_cases h : k = j
    · subst h; rw [if_pos ⟨rfl, by omega⟩, if_pos (by omega)]
    · rw [if_neg (fun e => h e.1)]
      by_cases h2 : j < k
      · rw [if_pos h2, if_pos (by omega)]
      · rw [if_neg h2, if_neg (by omega)]
theorem stK_val (f : Nat → Nat) (l : List Nat) (h : l.length = 5) : val (stK f l 5) = f 0 + 2251799813685248 * (f 1 + 2251799813685248 * (f 2 + 2251799813685248 * (f 3 + 2251799813685248 * f 4))) := by
  match l, h with
  | [a, b, c, d, e], _ => simp [stK, val]
theorem val5 (l : List Nat) (h : l.length = 5) : val l = l.getD 0 0 + 2251799813685248 * (l.getD 1 0 + 2251799813685248 * (l.getD 2 0 + 2251799813685248 * (l.getD 3 0 + 2251799813685248 * l.getD 4 0))) := by
  match l, h with
  | [a, b, c, d, e], _ => simp [val]
theorem stK_le (f : Nat → Nat) (l : List Nat) (h : l.length = 5) (B : Nat) (hf : ∀ i, i < 5 → f i ≤ B) : ∀ x ∈ stK f l 5, x ≤ B := by
  intro x hx
  obtain ⟨i, hi, rfl⟩ := List.mem_iff_getElem.1 hx
  have hl := hi
  rw [stK_length, h] at hl
  have := stK_get f l 5 i (by omega)
  rw [if_pos hl, List.getD_eq_getElem?_getD, List.getElem?_eq_getElem hi] at this
  simp only [Option.getD_some] at this
  rw [this]; exact hf i hl
theorem lsize42 (w : World) : (sizeOf 42).run Tryd.prog w = .ok 1 w := by kernel_rfl
theorem lagg42 (w : World) : (isAgg 42).run Tryd.prog w = .ok false w := by kernel_rfl
def Z5 : List Nat := [0, 0, 0, 0, 0]
def plF (l m : List Nat) (i : Nat) : Nat := l.getD i 0 + m.getD i 0
set_option maxRecDepth 100000 in
set_option maxHeartbeats 4000000 in
theorem plus_any (l m : List Nat) (w : World) (hl : l.length = 5) (hm : m.length = 5) (bl : ∀ x ∈ l, x ≤ 1152921504606846976) (bm : ∀ x ∈ m, x ≤ 1152921504606846976) :
    Calls Tryd.prog 58 #[.agg (lsC l), .agg (lsC m)] w fun e w' => e = .returned (.agg (lsC (stK (plF l m) l 5))) ∧ Below w.heap.size w w' := by
  have H0 : Hid (Lar (((w.alloc (.cells (lsC l) 44)).alloc (.cells (lsC m) 44)).alloc (.cells (lsC Z5) 44)) w.heap.size 44 (stK (plF l m) l 0)) := Lib.hid (((Lar.new w 44 l).alloc _).alloc _)
  have H1 : Hid (Lar (((w.alloc (.cells (lsC l) 44)).alloc (.cells (lsC m) 44)).alloc (.cells (lsC Z5) 44)) (w.heap.size + 1) 44 m) := Lib.hid (by
    have := (Lar.new (w.alloc (.cells (lsC l) 44)) 44 m).alloc (.cells (lsC Z5) 44)
    rwa [World.size_alloc] at this)
  have H2 : Hid (Lar (((w.alloc (.cells (lsC l) 44)).alloc (.cells (lsC m) 44)).alloc (.cells (lsC Z5) 44)) (w.heap.size + 2) 44 Z5) := Lib.hid (by
    have := Lar.new ((w.alloc (.cells (lsC l) 44)).alloc (.cells (lsC m) 44)) 44 Z5
    rwa [World.size_alloc, World.size_alloc] at this)
  have HB : Hid (Below w.heap.size w (((w.alloc (.cells (lsC l) 44)).alloc (.cells (lsC m) 44)).alloc (.cells (lsC Z5) 44))) := Lib.hid (by go_grown)
  have HL := Lib.hid hl
  have HM := Lib.hid hm
  have GL := Lib.hid (getD_le bl)
  have GM := Lib.hid (getD_le bm)
  have IX : Hid (∀ (i : Nat) (w : World), i < 5 → (Instr.index 44 (.agg (lsC m)) (.int .i64 (i : Int))).run Tryd.prog w = .ok (ld (m.getD i 0)) w) := Lib.hid fun i w hi => run_index_ls w 44 42 5 m .i64 i Tryd.underlying44 hm hi (lsize42 w) (lagg42 w)
  clear hl hm bl bm
  go_enter Tryd.func58, Tryd.ntmps58
  go_upto_region 1 with fail
  rw [show Obj.cells #[Value.int .u64 0, .int .u64 0, .int .u64 0, .int .u64 0, .int .u64 0] 44 = .cells (lsC Z5) 44 from rfl]
  generalize ((w.alloc (.cells (lsC l) 44)).alloc (.cells (lsC m) 44)).alloc (.cells (lsC Z5) 44) = W0 at H0 H1 H2 HB ⊢
  go_wp2_with (first | (refine wpList_load_row rfl 44 _ rfl (w.heap.size + 1) rfl 44 (lsC m) (0, 0) _ H1.out Tryd.underlying44 rfl (by rw [size44, lsC_size, HM.out]) ?_))
  clear H1
  go_loopw [8] (fun i wr => ∃ k : Nat, k ≤ 5 ∧ i = .int .i64 k ∧ Hid (Lar wr w.heap.size 44 (stK (plF l m) l k)) ∧ Hid (Lar wr (w.heap.size + 2) 44 Z5) ∧ Hid (Below w.heap.size w wr)) (fun i _ => 5 - (intOf i).toNat)
  case atStart => exact ⟨0, Nat.zero_le _, rfl, H0, H2, HB⟩
  case round =>
    clear H0 H2 HB
    obtain ⟨k, hk, rfl, HA, HZ, HB⟩ := hrel
    by_cases hlt : k < 5
    · have k5 : (k : Int) < 5 := by omega
      have hix := IX.out k wr hlt
      have gl := GL.out k
      have gm := GM.out k
      have cx := HA.out.getD (i := k) (by rw [stK_length, HL.out]; exact hlt)
      have cf := HA.out.free k
      rw [stK_get _ _ _ _ (by rw [HL.out]; exact hk), if_neg (by omega)] at cx
      have hst : stK (plF l m) l (k + 1) = (stK (plF l m) l k).set k (l.getD k 0 + m.getD k 0) := rfl
      obtain ⟨x, hx⟩ : ∃ x, l.getD k 0 = x := ⟨_, rfl⟩
      obtain ⟨y, hy⟩ : ∃ x, m.getD k 0 = x := ⟨_, rfl⟩
      rw [hx] at cx gl hst
      rw [hy] at hix gm hst
      obtain ⟨z, hz⟩ : ∃ z, x + y = z := ⟨_, rfl⟩
      rw [hz] at hst
      have a1 : IntKind.u64.wrap ((x : Int) + (y : Int)) = (z : Int) := by rw [← Int.natCast_add, hz]; exact u64_back (by omega)
      have a2 : (x : Int) + (y : Int) = (z : Int) := by omega
      have a3 : IntKind.u64.wrap (z : Int) = (z : Int) := u64_back (by omega)
      have HS : Hid (Lar (wr.setCell ⟨w.heap.size, k, none⟩ (ld z)) w.heap.size 44 (stK (plF l m) l (k + 1))) := Lib.hid (by rw [hst]; exact HA.out.set k z)
      have HZ2 := Lib.hid (HZ.out.other (a := ⟨w.heap.size, k, none⟩) (by show w.heap.size + 2 ≠ w.heap.size; omega) (ld z))
      have HB2 := Lib.hid (HB.out.setCell (p := ⟨w.heap.size, k, none⟩) (Nat.le_refl _) (ld z))
      clear hst hx hy hz
      go_wp2
      go_roundw
      case rel => exact ⟨k + 1, by omega, by go_num, HS, HZ2, HB2⟩
      case measure => simp [intOf]; omega
    · obtain rfl : k = 5 := by omega
      have hR := stK_length (plF l m) l 5
      rw [HL.out] at hR
      obtain ⟨R, hRR⟩ : ∃ R, stK (plF l m) l 5 = R := ⟨_, rfl⟩
      rw [hRR] at HA hR
      have HRL := Lib.hid hR
      have HRR := Lib.hid hRR
      clear hR hRR
      go_wp2_with (first | (refine wpList_load_row rfl 44 _ rfl w.heap.size rfl 44 (lsC R) (0, 0) _ HA.out Tryd.underlying44 rfl (by rw [size44, lsC_size, HRL.out]) ?_) | (refine wpList_store_row rfl 44 _ _ rfl (w.heap.size + 2) (lsC R) rfl rfl 44 _ HZ.out (by rw [size44, lsC_size, HRL.out]) (by rw [lsC_size, lsC_size, HRL.out]; rfl) (lsC_one _) ?_))
      exact bodyPost_ret (v := .agg (lsC R)) (results_cell_row (p := 4) (ty := 44) Tryd.results58 _ _ (w.heap.size + 2) 44 _ (0, 0) _ rfl (HZ.out.row R) Tryd.underlying44 rfl (by rw [size44, lsC_size, HRL.out])) rfl ⟨by rw [HRR.out], below_setRow HB.out (by omega) _⟩
def m1F (l : List Nat) (i : Nat) : Nat := l.getD i 0 + (if i = 0 then 4503599627370458 else 4503599627370494)
def m2F (l m : List Nat) (i : Nat) : Nat := m1F l i - m.getD i 0
set_option maxRecDepth 100000 in
set_option maxHeartbeats 4000000 in
theorem minus_any (l m : List Nat) (w : World) (hl : l.length = 5) (hm : m.length = 5) (bl : ∀ x ∈ l, x ≤ 1152921504606846976) (bm : ∀ x ∈ m, x ≤ 2251799813685247) :
    Calls Tryd.prog 59 #[.agg (lsC l), .agg (lsC m)] w fun e w' => e = .returned (.agg (lsC (stK (m2F l m) (stK (m1F l) l 5) 5))) ∧ Below w.heap.size w w' := by
  have H0 : Hid (Lar (((w.alloc (.cells (lsC l) 44)).alloc (.cells (lsC m) 44)).alloc (.cells (lsC Z5) 44)) w.heap.size 44 l) := Lib.hid (((Lar.new w 44 l).alloc _).alloc _)
  have H1 : Hid (Lar (((w.alloc (.cells (lsC l) 44)).alloc (.cells (lsC m) 44)).alloc (.cells (lsC Z5) 44)) (w.heap.size + 1) 44 m) := Lib.hid (by
    have := (Lar.new (w.alloc (.cells (lsC l) 44)) 44 m).alloc (.cells (lsC Z5) 44)
    rwa [World.size_alloc] at this)
  have H2 : Hid (Lar (((w.alloc (.cells (lsC l) 44)).alloc (.cells (lsC m) 44)).alloc (.cells (lsC Z5) 44)) (w.heap.size + 2) 44 Z5) := Lib.hid (by
    have := Lar.new ((w.alloc (.cells (lsC l) 44)).alloc (.cells (lsC m) 44)) 44 Z5
    rwa [World.size_alloc, World.size_alloc] at this)
  have HB : Hid (Below w.heap.size w (((w.alloc (.cells (lsC l) 44)).alloc (.cells (lsC m) 44)).alloc (.cells (lsC Z5) 44))) := Lib.hid (by go_grown)
  have HL := Lib.hid hl
  have HM := Lib.hid hm
  have GL := Lib.hid (getD_le bl)
  have GM := Lib.hid (getD_le bm)
  have IX : Hid (∀ (i : Nat) (w : World), i < 5 → (Instr.index 44 (.agg (lsC m)) (.int .i64 (i : Int))).run Tryd.prog w = .ok (ld (m.getD i 0)) w) := Lib.hid fun i w hi => run_index_ls w 44 42 5 m .i64 i Tryd.underlying44 hm hi (lsize42 w) (lagg42 w)
  clear hl hm bl bm
  go_enter Tryd.func59, Tryd.ntmps59
  go_upto_region 1 with fail
  rw [show Obj.cells #[Value.int .u64 0, .int .u64 0, .int .u64 0, .int .u64 0, .int .u64 0] 44 = .cells (lsC Z5) 44 from rfl]
  generalize ((w.alloc (.cells (lsC l) 44)).alloc (.cells (lsC m) 44)).alloc (.cells (lsC Z5) 44) = W0 at H0 H1 H2 HB ⊢
  have cx := H0.out.getD (i := 0) (by rw [HL.out]; decide)
  have cf := H0.out.free 0
  have gl := GL.out 0
  have hs0 : stK (m1F l) l 1 = l.set 0 (l.getD 0 0 + 4503599627370458) := rfl
  obtain ⟨x, hx⟩ : ∃ x, l.getD 0 0 = x := ⟨_, rfl⟩
  rw [hx] at cx gl hs0
  obtain ⟨z, hz⟩ : ∃ z, x + 4503599627370458 = z := ⟨_, rfl⟩
  rw [hz] at hs0
  have a1 : IntKind.u64.wrap ((x : Int) + 4503599627370458) = (z : Int) := by rw [show (x : Int) + 4503599627370458 = (z : Int) by omega]; exact u64_back (by omega)
  have a2 : (x : Int) + 4503599627370458 = (z : Int) := by omega
  have a3 : IntKind.u64.wrap (z : Int) = (z : Int) := u64_back (by omega)
  have G0 : Hid (Lar (W0.setCell ⟨w.heap.size, 0, none⟩ (ld z)) w.heap.size 44 (stK (m1F l) l 1)) := Lib.hid (by rw [hs0]; exact H0.out.set 0 z)
  have G1 := Lib.hid (H1.out.other (a := ⟨w.heap.size, 0, none⟩) (by show w.heap.size + 1 ≠ w.heap.size; omega) (ld z))
  have G2 := Lib.hid (H2.out.other (a := ⟨w.heap.size, 0, none⟩) (by show w.heap.size + 2 ≠ w.heap.size; omega) (ld z))
  have GB := Lib.hid (HB.out.setCell (p := ⟨w.heap.size, 0, none⟩) (Nat.le_refl _) (ld z))
  clear hs0 hx hz H0 H1 H2 HB gl
  go_wp2_with fail
  clear cx cf a1 a2 a3
  go_loopw [5] (fun i wr => ∃ k : Nat, 1 ≤ k ∧ k ≤ 5 ∧ i = .int .i64 k ∧ Hid (Lar wr w.heap.size 44 (stK (m1F l) l k)) ∧ Hid (Lar wr (w.heap.size + 1) 44 m) ∧ Hid (Lar wr (w.heap.size + 2) 44 Z5) ∧ Hid (Below w.heap.size w wr)) (fun i _ => 5 - (intOf i).toNat)
  case atStart => exact ⟨1, Nat.le_refl _, by decide, rfl, G0, G1, G2, GB⟩
  case round =>
    clear G0 G1 G2 GB
    obtain ⟨k, hk1, hk, rfl, HA, HM1, HZ, HB⟩ := hrel
    by_cases hlt : k < 5
    · have k5 : (k : Int) < 5 := by omega
      have gl := GL.out k
      have cx := HA.out.getD (i := k) (by rw [stK_length, HL.out]; exact hlt)
      have cf := HA.out.free k
      rw [stK_get _ _ _ _ (by rw [HL.out]; exact hk), if_neg (by omega)] at cx
      have hst : stK (m1F l) l (k + 1) = (stK (m1F l) l k).set k (l.getD k 0 + 4503599627370494) := by rw [stK, m1F, if_neg (by omega)]
      obtain ⟨x, hx⟩ : ∃ x, l.getD k 0 = x := ⟨_, rfl⟩
      rw [hx] at cx gl hst
      obtain ⟨z, hz⟩ : ∃ z, x + 4503599627370494 = z := ⟨_, rfl⟩
      rw [hz] at hst
      have a2 : (x : Int) + 4503599627370494 = (z : Int) := by omega
      have a3 : IntKind.u64.wrap (z : Int) = (z : Int) := u64_back (by omega)
      have a1 : IntKind.u64.wrap ((x : Int) + 4503599627370494) = (z : Int) := by rw [a2]; exact a3
      have HS : Hid (Lar (wr.setCell ⟨w.heap.size, k, none⟩ (ld z)) w.heap.size 44 (stK (m1F l) l (k + 1))) := Lib.hid (by rw [hst]; exact HA.out.set k z)
      have HM2 := Lib.hid (HM1.out.other (a := ⟨w.heap.size, k, none⟩) (by show w.heap.size + 1 ≠ w.heap.size; omega) (ld z))
      have HZ2 := Lib.hid (HZ.out.other (a := ⟨w.heap.size, k, none⟩) (by show w.heap.size + 2 ≠ w.heap.size; omega) (ld z))
      have HB2 := Lib.hid (HB.out.setCell (p := ⟨w.heap.size, k, none⟩) (Nat.le_refl _) (ld z))
      clear hst hx hz
      go_wp2
      go_roundw
      case rel => exact ⟨k + 1, by omega, by omega, by go_num, HS, HM2, HZ2, HB2⟩
      case measure => simp [intOf]; omega
    · have k5 : ¬ (k : Int) < 5 := by omega
      have hk5 : k = 5 := by omega
      have hS1 : Hid (∀ i, i < 5 → (stK (m1F l) l k).getD i 0 = m1F l i) := Lib.hid fun i hi => by rw [hk5, stK_get _ _ _ _ (by rw [HL.out]; exact Nat.le_refl 5), if_pos hi]
      have hSL : Hid ((stK (m1F l) l k).length = 5) := Lib.hid (by rw [stK_length, HL.out])
      have hSE : Hid (stK (m1F l) l k = stK (m1F l) l 5) := Lib.hid (by rw [hk5])
      generalize stK (m1F l) l k = S at HA hS1 hSL hSE
      clear hlt hk5 hk hk1
      go_wp2_with (first | (refine wpList_load_row rfl 44 _ rfl (w.heap.size + 1) rfl 44 (lsC m) (0, 0) _ HM1.out Tryd.underlying44 rfl (by rw [size44, lsC_size, HM.out]) ?_))
      clear HM1
      go_loopw [22] (fun i wr => ∃ n : Nat, n ≤ 5 ∧ i = .int .i64 n ∧ Hid (Lar wr w.heap.size 44 (stK (m2F l m) S n)) ∧ Hid (Lar wr (w.heap.size + 2) 44 Z5) ∧ Hid (Below w.heap.size w wr)) (fun i _ => 5 - (intOf i).toNat)
      case atStart => exact ⟨0, Nat.zero_le _, rfl, HA, HZ, HB⟩
      case round =>
        clear HA HZ HB
        obtain ⟨n, hn, rfl, HA, HZ, HB⟩ := hrel
        by_cases hlt : n < 5
        · have n5 : (n : Int) < 5 := by omega
          have hix := IX.out n wr hlt
          have gl := GL.out n
          have gm := GM.out n
          have cx := HA.out.getD (i := n) (by rw [stK_length, hSL.out]; exact hlt)
          have cf := HA.out.free n
          rw [stK_get _ _ _ _ (by rw [hSL.out]; exact hn), if_neg (by omega), hS1.out n hlt] at cx
          have hst : stK (m2F l m) S (n + 1) = (stK (m2F l m) S n).set n (m1F l n - m.getD n 0) := rfl
          have hmf : 4503599627370458 ≤ m1F l n ∧ m1F l n ≤ 1152921504606846976 + 4503599627370494 := by unfold m1F; split <;> omega
          obtain ⟨x, hx⟩ : ∃ x, m1F l n = x := ⟨_, rfl⟩
          obtain ⟨y, hy⟩ : ∃ x, m.getD n 0 = x := ⟨_, rfl⟩
          rw [hx] at cx hst hmf
          rw [hy] at hix gm hst
          obtain ⟨z, hz⟩ : ∃ z, x - y = z := ⟨_, rfl⟩
          rw [hz] at hst
          have a2 : (x : Int) - (y : Int) = (z : Int) := by omega
          have a3 : IntKind.u64.wrap (z : Int) = (z : Int) := u64_back (by omega)
          have a1 : IntKind.u64.wrap ((x : Int) - (y : Int)) = (z : Int) := by rw [a2]; exact a3
          have HS : Hid (Lar (wr.setCell ⟨w.heap.size, n, none⟩ (ld z)) w.heap.size 44 (stK (m2F l m) S (n + 1))) := Lib.hid (by rw [hst]; exact HA.out.set n z)
          have HZ2 := Lib.hid (HZ.out.other (a := ⟨w.heap.size, n, none⟩) (by show w.heap.size + 2 ≠ w.heap.size; omega) (ld z))
          have HB2 := Lib.hid (HB.out.setCell (p := ⟨w.heap.size, n, none⟩) (Nat.le_refl _) (ld z))
          clear hst hx hy hz gl
          go_wp2
          go_roundw
          case rel => exact ⟨n + 1, by omega, by go_num, HS, HZ2, HB2⟩
          case measure => simp [intOf]; omega
        · obtain rfl : n = 5 := by omega
          have hR := stK_length (m2F l m) S 5
          rw [hSL.out] at hR
          obtain ⟨R, hRR⟩ : ∃ R, stK (m2F l m) S 5 = R := ⟨_, rfl⟩
          rw [hRR] at HA hR
          have HRL := Lib.hid hR
          have HRR : Hid (stK (m2F l m) (stK (m1F l) l 5) 5 = R) := Lib.hid (by rw [← hSE.out]; exact hRR)
          clear hR hRR
          go_wp2_with (first | (refine wpList_load_row rfl 44 _ rfl w.heap.size rfl 44 (lsC R) (0, 0) _ HA.out Tryd.underlying44 rfl (by rw [size44, lsC_size, HRL.out]) ?_) | (refine wpList_store_row rfl 44 _ _ rfl (w.heap.size + 2) (lsC R) rfl rfl 44 _ HZ.out (by rw [size44, lsC_size, HRL.out]) (by rw [lsC_size, lsC_size, HRL.out]; rfl) (lsC_one _) ?_))
          exact bodyPost_ret (v := .agg (lsC R)) (results_cell_row (p := 4) (ty := 44) Tryd.results59 _ _ (w.heap.size + 2) 44 _ (0, 0) _ rfl (HZ.out.row R) Tryd.underlying44 rfl (by rw [size44, lsC_size, HRL.out])) rfl ⟨by rw [HRR.out], below_setRow HB.out (by omega) _⟩
end Go.Proofs.YtbadiljligcenaaDoor
