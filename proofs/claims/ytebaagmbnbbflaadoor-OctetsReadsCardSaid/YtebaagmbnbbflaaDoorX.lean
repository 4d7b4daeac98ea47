/- Contracts of the reference's functions for writing. -/
import Derived.Test.YtebaagmbnbbflaaDoorI
namespace Go.Proofs.YtebaagmbnbbflaaDoor
open Go.RowKit Go.ChangeShapes

set_option maxHeartbeats 400000 in
theorem refUnit_any (n : Int) (w : World) : Calls Tryd.prog 18 #[.int .i64 n] w fun e w' => e = .returned (.bool (unitB n)) ∧ w = w' := by
  by_cases h1 : n = 1
  · subst h1; go_enter Tryd.func18, Tryd.ntmps18; go_wp2; go_ret; exact ⟨rfl, rfl⟩
  by_cases h2 : n = 2
  · subst h2; go_enter Tryd.func18, Tryd.ntmps18; go_wp2; go_ret; exact ⟨rfl, rfl⟩
  by_cases h4 : n = 4
  · subst h4; go_enter Tryd.func18, Tryd.ntmps18; go_wp2; go_ret; exact ⟨rfl, rfl⟩
  by_cases h8 : n = 8
  · subst h8; go_enter Tryd.func18, Tryd.ntmps18; go_wp2; go_ret; exact ⟨rfl, rfl⟩
  have hu : unitB n = false := by simp [unitB]; omega
  have b1 : (n == 1) = false := by simp [h1]
  have b2 : (n == 2) = false := by simp [h2]
  have b4 : (n == 4) = false := by simp [h4]
  have b8 : (n == 8) = false := by simp [h8]
  rw [hu]
  clear h1 h2 h4 h8 hu
  go_enter Tryd.func18, Tryd.ntmps18
  go_wp2
  go_ret
  exact ⟨rfl, rfl⟩

set_option maxHeartbeats 1000000 in
theorem refUp_any (n u : Int) (w : World) (h0 : 0 ≤ n) (h1 : n ≤ 4611686018427387904) (hu : unitB u = true) :
    Calls Tryd.prog 19 #[.int .i64 n, .int .i64 u] w fun e w' => e = .returned (.int .i64 (upTo n u)) ∧ w = w' := by
  have hb := upTo_bounds (n := n) hu
  have hm := upTo_mod (n := n) (u := u)
  generalize upTo n u = t at hb hm ⊢
  obtain ⟨hb1, hb2⟩ := hb
  rcases (unitB_iff u).1 hu with rfl | rfl | rfl | rfl
  all_goals
    clear hu
    go_enter Tryd.func19, Tryd.ntmps19
    go_wp2
    go_loop [0] (fun v => ∃ m : Int, n ≤ m ∧ m ≤ t ∧ v = .int .i64 m) (fun v => (t - intOf v).toNat)
    case atStart => exact ⟨n, by omega, by omega, rfl⟩
    case round =>
      obtain ⟨m, hm1, hm2, rfl⟩ := hrel
      by_cases he : m = t
      · subst he
        have HM := Lib.hid hm
        go_wp2
        go_ret
        exact ⟨rfl, rfl⟩
      · have HM := Lib.hid hm
        have HE := Lib.hid he
        have hlt : m < t := by omega
        clear hm he
        first
          | (have hne : (m % 2 != 0) = true := by have := HM.out; simp; omega
             go_wp2
             go_round
             case rel => exact ⟨m + 1, by omega, by omega, rfl⟩
             case measure => simp [intOf]; omega)
          | (have hne : (m % 4 != 0) = true := by have := HM.out; simp; omega
             go_wp2
             go_round
             case rel => exact ⟨m + 1, by omega, by omega, rfl⟩
             case measure => simp [intOf]; omega)
          | (have hne : (m % 8 != 0) = true := by have := HM.out; simp; omega
             go_wp2
             go_round
             case rel => exact ⟨m + 1, by omega, by omega, rfl⟩
             case measure => simp [intOf]; omega)
          | (exfalso; omega)

set_option maxHeartbeats 400000 in
theorem refFits_any (n v : Nat) (w : World) (hn : n ≤ 7) (hv : v ≤ 9223372036854775807) :
    Calls Tryd.prog 24 #[.int .i64 n, .int .i64 v] w fun e w' => e = .returned (.bool (decide (v < 256 ^ n))) ∧ w = w' := by
  go_enter Tryd.func24, Tryd.ntmps24
  go_wp2
  go_loop [1, 5] (fun x i => ∃ k : Nat, k ≤ n ∧ i = .int .i64 k ∧ x = .int .i64 ((v / 256 ^ k : Nat) : Int)) (fun _ i => n - (intOf i).toNat)
  case atStart => exact ⟨0, Nat.zero_le _, rfl, by simp⟩
  case round =>
    obtain ⟨k, hk, rfl, rfl⟩ := hrel
    have hq : v / 256 ^ k ≤ 9223372036854775807 := Nat.le_trans (Nat.div_le_self _ _) hv
    by_cases hlt : k < n
    · have hs : v / 256 ^ (k + 1) = v / 256 ^ k / 256 := by rw [Nat.pow_succ, Nat.div_div_eq_div_mul]
      have HS := Lib.hid hs
      generalize hx : v / 256 ^ k = q at hq ⊢
      have HX := Lib.hid hx
      clear hs hx
      go_wp2
      go_round
      case rel => exact ⟨k + 1, by omega, by go_num, by rw [HS.out, HX.out]; go_num⟩
      case measure => simp [intOf]; omega
    · obtain rfl : k = n := by omega
      have hd : decide (v < 256 ^ k) = ((v / 256 ^ k : Nat) == 0) := by
        rw [Bool.eq_iff_iff]
        simp only [decide_eq_true_eq, beq_iff_eq]
        constructor
        · intro h; exact Nat.div_eq_of_lt h
        · intro h
          rcases Nat.lt_or_ge v (256 ^ k) with h2 | h2
          · exact h2
          · have := Nat.div_pos h2 (Nat.pow_pos (by decide)); omega
      have HD2 := Lib.hid hd
      generalize hx : v / 256 ^ k = q at hq ⊢
      have HX := Lib.hid hx
      clear hd hx
      go_wp2
      go_ret
      exact ⟨ret_b (by rw [HD2.out, HX.out]; rw [Bool.eq_iff_iff]; simp), rfl⟩

theorem beB_succ (n v : Nat) : beB (n + 1) v = UInt8.ofNat (v / 256 ^ n % 256) :: beB n v := by
  unfold beB
  rw [List.range_succ_eq_map, List.map_cons, List.map_map]
  refine congr (congrArg List.cons ?_) ?_
  · rw [show n + 1 - 1 - 0 = n by omega]
  · apply List.map_congr_left
    intro j hj
    simp only [Function.comp]
    rw [show n + 1 - 1 - (j + 1) = n - 1 - j by omega]
theorem one_append (c : UInt8) (l : List UInt8) : (⟨#[c]⟩ : ByteArray) ++ ⟨l.toArray⟩ = ⟨(c :: l).toArray⟩ := by
  apply ByteArray.ext
  rw [ByteArray.data_append]
  simp
theorem one_string (W : World) (c : Nat) (hc : c < 256) (x : Int) (hx : x = (c : Int)) : (convert 56 9 (.slice (some ⟨W.heap.size, 0, none⟩) 1 1)).run Tryd.prog (W.alloc (.cells #[.int .u8 x] 5)) = .ok (.string ⟨#[UInt8.ofNat c]⟩) (W.alloc (.cells #[.int .u8 x] 5)) := by
  subst hx
  have hcc : ((UInt8.ofNat c).toNat : Int) = (c : Int) := by rw [UInt8.toNat_ofNat_of_lt' (by simpa [UInt8.size] using hc)]
  exact run_convert_bytes_back _ 56 9 5 ⟨W.heap.size, 0, none⟩ 1 [UInt8.ofNat c] Tryd.underlying56 Tryd.underlying5 Tryd.underlying9 fun j hj => by
    have hj0 : j = 0 := by simp at hj; omega
    subst hj0
    rw [show (⟨W.heap.size, 0, none⟩ : Addr).add 0 = ⟨W.heap.size, 0, none⟩ from rfl, World.cell?_alloc_at _ _ _ _ rfl]
    simp only [List.getElem_cons_zero, hcc]
    rfl

set_option maxRecDepth 100000 in
set_option maxHeartbeats 1000000 in
theorem refPut_any (n v : Nat) (w : World) (hn : n ≤ 7) (hv : v ≤ 9223372036854775807) :
    Calls Tryd.prog 25 #[.int .i64 n, .int .i64 v] w fun e w' => e = .returned (.string ⟨(beB n v).toArray⟩) ∧ Below w.heap.size w w' := by
  go_enter Tryd.func25, Tryd.ntmps25
  go_wp2
  go_loopw [1, 5, 6] (fun x t i wr => ∃ k : Nat, k ≤ n ∧ i = .int .i64 k ∧ x = .int .i64 ((v / 256 ^ k : Nat) : Int) ∧ t = .string ⟨(beB k v).toArray⟩ ∧ Below w.heap.size w wr) (fun _ _ i _ => n - (intOf i).toNat)
  case atStart => exact ⟨0, Nat.zero_le _, rfl, by simp, rfl, Below.refl _ _⟩
  case round =>
    obtain ⟨k, hk, rfl, rfl, rfl, hB⟩ := hrel
    have hz := hB.size
    by_cases hlt : k < n
    · have hq : v / 256 ^ k ≤ 9223372036854775807 := Nat.le_trans (Nat.div_le_self _ _) hv
      have hs : v / 256 ^ (k + 1) = v / 256 ^ k / 256 := by rw [Nat.pow_succ, Nat.div_div_eq_div_mul]
      have hb := beB_succ k v
      have hl := beB_length k v
      have HS := Lib.hid hs
      have HBB := Lib.hid hb
      generalize hx : v / 256 ^ k = q at hq HBB HS ⊢
      have hq256 : q % 256 < 256 := Nat.mod_lt _ (by decide)
      have hone := one_string wr (q % 256) hq256 ((q : Int) % 256) (by omega)
      have hl1 : (beB k v).length ≤ 7 := by omega
      have hl2 : (⟨(beB k v).toArray⟩ : ByteArray).size ≤ 7 := by show (beB k v).toArray.size ≤ 7; simpa using hl1
      have hqw : IntKind.u8.wrap ((q : Int) % 256) = (q : Int) % 256 := by rw [IntKind.wrap_u8']; omega
      clear hs hb hx hl
      go_wp2
      go_roundw
      case rel => exact ⟨k + 1, by omega, by go_num, by rw [HS.out]; go_num, by rw [one_append, HBB.out], hB.alloc hz _⟩
      case measure => simp [intOf]; omega
    · obtain rfl : k = n := by omega
      go_wp2
      go_ret
      exact ⟨rfl, hB⟩

theorem repeat_zero (c : Nat) : Lib.repeatL [0] c = List.replicate c 0 := by
  induction c with
  | zero => rfl
  | succ c ih => rw [Lib.repeatL, ih]; rfl
theorem byC_zeros (n : Nat) : byC (List.replicate n 0) = List.replicate n (.int .u8 0) := by simp [byC]

set_option maxRecDepth 100000 in
set_option maxHeartbeats 1000000 in
theorem zeros_any (n : Nat) (w : World) (hn : n ≤ 8) :
    Calls Tryd.prog 52 #[.int .i64 n] w fun e w' => e = .returned (.string ⟨(Lib.repeatL [0] n).toArray⟩) ∧ Below w.heap.size w w' := by
  obtain ⟨i0, hi, hz0, hz1, hz2⟩ := info_parts info5
  have hr0 : (madeCells (Value.int .u8 0).cells (n * 1)).toList = byC (Lib.repeatL [0] n) := by
    rw [repeat_zero, byC_zeros, Nat.mul_one]
    simp [madeCells, Value.cells, Nat.mod_one, List.map_const']
  have hl : (Lib.repeatL [0] n).length = n := by rw [repeat_zero]; simp
  have HR := Lib.hid hr0
  have HL := Lib.hid hl
  clear hr0 hl
  go_enter Tryd.func52, Tryd.ntmps52
  go_wp2_with (first | (at_make; refine wpList_make_full _ rfl _ _ 56 rfl w.heap.size 5 i0 (.int .u8 0) 1 Tryd.underlying56 hi hz0 hz1 .i64 .i64 _ _ n rfl rfl ?_ ?_ ?_ ?_ ?_ ?_; rfl; rfl; rw [hz2]; omega; (unfold maxLen; omega); omega; intro w1 hown1 hg1; rw [HR.out] at hown1; have hcv := string_of_own (w := w1) (l := Lib.repeatL [0] n) (by rw [HL.out]; exact hown1); clear hown1))
  go_ret
  exact ⟨rfl, (Below.refl _ _).grown hg1 (Nat.le_refl _) (by simp)⟩

set_option maxRecDepth 100000 in
set_option maxHeartbeats 1000000 in
theorem refPad_any (s : ByteArray) (u : Int) (c : Nat) (w : World) (hs : s.size ≤ 70368744177664) (hu : unitB u = true) (hc : (upTo s.size u : Int) = s.size + c) :
    Calls Tryd.prog 27 #[.string s, .int .i64 u] w fun e w' => e = .returned (.string (s ++ ⟨(Lib.repeatL [0] c).toArray⟩)) ∧ Below w.heap.size w w' := by
  have hb := upTo_bounds (n := (s.size : Int)) hu
  have h8 : u ≤ 8 := by rcases (unitB_iff u).1 hu with rfl | rfl | rfl | rfl <;> omega
  have hc8 : c ≤ 8 := by omega
  have h0 : (0 : Int) ≤ s.size := by omega
  have he : upTo s.size u - s.size = (c : Int) := by omega
  obtain ⟨hb1, hb2⟩ := hb
  have HE := Lib.hid he
  have hl1 : (Lib.repeatL [0] c).length ≤ 8 := by rw [Lib.repeatL_length]; simpa using hc8
  have hl2 : (⟨(Lib.repeatL [0] c).toArray⟩ : ByteArray).size ≤ 8 := by show (Lib.repeatL [0] c).toArray.size ≤ 8; simpa using hl1
  clear hc he
  go_enter Tryd.func27, Tryd.ntmps27
  go_wp2_with (first | (go_at_call 19; refine (refUp_any _ _ _ h0 (by omega) hu).mono ?_; rintro e w3 ⟨rfl, rfl⟩) | (go_at_call 52; rw [HE.out]; refine (zeros_any c _ hc8).mono ?_; rintro e w4 ⟨rfl, hB4⟩))
  go_ret
  exact ⟨rfl, hB4⟩
end Go.Proofs.YtebaagmbnbbflaaDoor
