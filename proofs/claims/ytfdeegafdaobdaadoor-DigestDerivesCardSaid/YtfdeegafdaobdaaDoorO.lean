/- Contracts of octets: Uint, Hex, Put (layer 1, moved to this seat). -/
import Derived.Test.YtfdeegafdaobdaaDoorQ
import Derived.StillTailTactics
import Derived.Deep.RegionHeld3
import Derived.Deep.AppendLies
namespace Go.Proofs.YtfdeegafdaobdaaDoor
open Go.RowKit Go.ChangeShapes
theorem bcell {W w1 : World} (hb : Below W.heap.size W w1) : (∀ b o, b < W.heap.size → w1.cell? ⟨b, o, none⟩ = W.cell? ⟨b, o, none⟩) ∧ (∀ b o, b < W.heap.size → w1.frozen? ⟨b, o, none⟩ = W.frozen? ⟨b, o, none⟩) :=
  ⟨fun b o h => hb.cell (p := ⟨b, o, none⟩) h, fun b o h => hb.frozen (p := ⟨b, o, none⟩) h⟩
set_option maxHeartbeats 400000 in
theorem verify_yes (s : ByteArray) (a : Int) (w : World) (_hs : s.size ≤ maxLen) (h0 : 0 ≤ a) (h1 : a ≤ s.size) :
    Calls Tryd.prog 96 #[.agg #[.string s, .int .i64 a]] w fun e w' => e = .returned (.tuple #[.agg #[.string s, .int .i64 a], .int .i64 0]) ∧ Below w.heap.size w w' := by
  unfold maxLen at _hs
  go_enter Tryd.func96, Tryd.ntmps96
  go_wp2
  go_returns
  exact ⟨rfl, by go_grown⟩
set_option maxHeartbeats 400000 in
theorem left44_any (s : ByteArray) (a : Int) (w : World) (_hs : s.size ≤ maxLen) (h0 : 0 ≤ a) (h1 : a ≤ s.size) :
    Calls Tryd.prog 100 #[.agg #[.string s, .int .i64 a]] w fun e w' => e = .returned (.int .i64 (s.size - a)) ∧ Below w.heap.size w w' := by
  unfold maxLen at _hs
  go_enter Tryd.func100, Tryd.ntmps100
  go_wp2
  go_returns
  exact ⟨rfl, by go_grown⟩
theorem or_step (l : List UInt8) (c : UInt8) (v : Nat) (hv : beN l = v) (hb : v < 256 ^ 6) : bits .or .i64 ((v : Int) * 256) (wrap64 (c.toNat : Int)) = ((beN (l ++ [c]) : Nat) : Int) := by
  have hc := c.toNat_lt
  rw [beN_snoc, hv, IntWalk.wrap64_in _ ⟨by omega, by omega⟩, ← i64_or_byte v c.toNat (by omega) (by omega), Int.natCast_mul]
  rfl
set_option maxHeartbeats 400000 in
theorem build_int (s : ByteArray) (w : World) (hs : s.size ≤ 7) :
    Calls Tryd.prog 98 #[.string s] w fun e w' => e = .returned (.int .i64 (beN s.data.toList)) ∧ w = w' := by
  go_enter Tryd.func98, Tryd.ntmps98
  go_wp2
  go_loop [3, 7] (fun v i => ∃ k : Nat, k ≤ s.size ∧ i = .int .i64 k ∧ v = .int .i64 (beN (s.data.toList.take k) : Nat)) (fun _ i => s.size - (intOf i).toNat)
  case atStart => exact ⟨0, Nat.zero_le _, rfl, rfl⟩
  case round =>
    obtain ⟨k, hk, rfl, rfl⟩ := hrel
    by_cases hlt : k < s.size
    · have hl := beN_lt (s.data.toList.take k)
      have hb : beN (s.data.toList.take k) < 256 ^ 6 := Nat.lt_of_lt_of_le hl (Nat.pow_le_pow_right (by decide) (by simp; omega))
      have HS : Hid (∀ v : Nat, beN (s.data.toList.take k) = v → v < 256 ^ 6 → bits .or .i64 ((v : Int) * 256) (wrap64 (s[k].toNat : Int)) = ((beN (s.data.toList.take (k + 1)) : Nat) : Int)) := by
        rw [take_snoc s k hlt]; exact fun v hv hb => or_step _ _ v hv hb
      generalize hv : beN (s.data.toList.take k) = v at hb hl ⊢
      have HV := Lib.hid hv
      clear hv hl
      go_wp2
      go_round
      case rel => exact ⟨k + 1, by omega, by go_num, by rw [HS.out v HV.out hb]⟩
      case measure => simp [intOf]; omega
    · go_wp2
      go_ret
      exact ⟨ret_i (by rw [List.take_of_length_le (by simp; omega)]), rfl⟩
set_option maxRecDepth 100000 in
set_option maxHeartbeats 400000 in
theorem read_int_ok (s : ByteArray) (a n : Nat) (w : World) (_hs : s.size ≤ maxLen) (h2 : a + n ≤ s.size) (h7 : n ≤ 7) :
    Calls Tryd.prog 97 #[.agg #[.string s, .int .i64 a], .int .i64 n, .func (.func 98) #[] #[]] w fun e w' => e = .returned (.tuple #[.int .i64 (beN (s.extract a (a + n)).data.toList), .agg #[.string s, .int .i64 (a + n : Nat)], .int .i64 0]) ∧ Below w.heap.size w w' := by
  have hs := _hs
  unfold maxLen at hs
  have hsl : ∀ wx : World, (Instr.slice 9 (.string s) (some (.int .i64 (a : Int))) (some (.int .i64 ((a : Int) + (n : Int)))) none).run Tryd.prog wx = .ok (.string (s.extract a (a + n))) wx := fun wx => by
    have := run_slice_string (P := Tryd.prog) (w := wx) 9 (s := s) .i64 .i64 (a : Int) ((a : Int) + (n : Int)) Tryd.underlying9 (by omega) (by omega) (by omega)
    rw [this]
    rw [show ((a : Int) + (n : Int)).toNat = a + n from by omega, Int.toNat_natCast]
  go_enter Tryd.func97, Tryd.ntmps97
  go_wp2_with (go_at_call 100; refine (left44_any _ _ _ (by assumption) (by omega) (by omega)).mono ?_; rintro e w1 ⟨rfl, hb⟩; obtain ⟨hc, hf⟩ := bcell hb; have hz := hb.size)
  have hB : Below w.heap.size w w1 := Below.trans (by go_grown) (hb.mono (by simp; omega))
  go_still_tail 16, (by kernel_rfl)
  still_call ((build_int _ _ (by simp; omega)).mono fun _ _ h => ⟨h.1, h.2.symm⟩)
  repeat still_step
  refine wpStill_nil ?_
  change wpList _ _ _ _ _ w1.drew
  have hB2 : Below w.heap.size w w1.drew := hB.drew
  go_wp2
  refine bodyPost_ret (v := .tuple #[.int .i64 (beN (s.extract a (a + n)).data.toList), .agg #[.string s, .int .i64 ((a : Int) + (n : Int))], .int .i64 0]) (by simp [results, Tryd.results97, go_sem, hc]) rfl ⟨by rw [Int.natCast_add], by go_grown⟩
set_option maxHeartbeats 400000 in
theorem uint_ok (s : ByteArray) (a n : Nat) (w : World) (hs : s.size ≤ maxLen) (hn : 1 ≤ n) (h7 : n ≤ 7) (h2 : a + n ≤ s.size) :
    Calls Tryd.prog 93 #[.agg #[.string s, .int .i64 (a : Int)], .int .i64 (n : Int)] w fun e w' => e = .returned (.tuple #[.int .i64 (beN (s.extract a (a + n)).data.toList), .agg #[.string s, .int .i64 (a + n : Nat)], .int .i64 0]) ∧ Below w.heap.size w w' := by
  have b1 : decide ((n : Int) < 1) = false := by simp; omega
  have b2 : decide (7 < (n : Int)) = false := by simp; omega
  have h0 : (0 : Int) ≤ a := by omega
  have h1 : (a : Int) ≤ s.size := by omega
  go_enter Tryd.func93, Tryd.ntmps93
  go_wp2_with (first | (go_at_call 96; refine (verify_yes _ _ _ hs h0 h1).mono ?_; rintro e w1 ⟨rfl, hbw1⟩; obtain ⟨hcw1, hfw1⟩ := bcell hbw1; have hzw1 := hbw1.size; (try simp at hzw1); have hl0w1 : w.heap.size < w1.heap.size := (by omega); have hl1w1 : w.heap.size + 1 < w1.heap.size := (by omega); have hBw1 : Below w.heap.size w w1 := Below.trans (by go_grown) (hbw1.mono (by go_size)); clear hbw1) | (go_at_call 97; refine (read_int_ok _ _ _ _ hs h2 h7).mono ?_; rintro e w2 ⟨rfl, hbw2⟩; obtain ⟨hcw2, hfw2⟩ := bcell hbw2; have hzw2 := hbw2.size; (try simp at hzw2); have hl0w2 : w.heap.size < w2.heap.size := (by omega); have hl1w2 : w.heap.size + 1 < w2.heap.size := (by omega); have hl2w2 : w1.heap.size < w2.heap.size := (by omega); have hBw2 : Below w.heap.size w w2 := Below.trans (by go_grown) (hbw2.mono (by go_size)); clear hbw2))
  refine bodyPost_ret (v := .tuple #[.int .i64 (beN (s.extract a (a + n)).data.toList), .agg #[.string s, .int .i64 (a + n : Nat)], .int .i64 0]) (by simp [results, Tryd.results93, go_sem, *]; try rfl) rfl ⟨rfl, by go_grown⟩
theorem info5 : (Tryd.prog.info? 5).map (fun i => (i.zero, i.size, i.bytes)) = some (some (.int .u8 0), 1, 1) := by kernel_rfl
set_option maxRecDepth 100000 in
set_option maxHeartbeats 1000000 in
theorem hex_any (s : ByteArray) (w : World) (hD : Digits w) (hs : s.size ≤ 70368744177664) :
    Calls Tryd.prog 57 #[.string s] w fun e w' => e = .returned (.string ⟨(hexL s.data.toList).toArray⟩) ∧ Below w.heap.size w w' := by
  obtain ⟨i0, hi, hz0, hz1, hz2⟩ := info_parts info5
  have HD := Lib.hid hD
  clear hD
  go_enter Tryd.func57, Tryd.ntmps57
  go_wp2_with (first | (at_make; refine wpList_make_own _ rfl _ _ 65 rfl w.heap.size 5 i0 (.int .u8 0) 1 Tryd.underlying65 hi hz0 hz1 .i64 .i64 _ (2 * s.size) rfl rfl ?_ ?_ ?_ ?_ ?_; omega; rw [hz2]; omega; (unfold maxLen; omega); omega; intro w1 hown1 hg1))
  have hB1 : Below w.heap.size w w1 := (Below.refl _ _).grown hg1 (Nat.le_refl _) (by simp)
  have hD1 := Lib.hid (HD.out.below hB1)
  go_loopw [3, 11] (fun v i wr => ∃ k : Nat, k ≤ s.size ∧ i = .int .i64 k ∧ wr.ownsRow w.heap.size 5 1 v (2 * k) (byC (hexL (s.data.toList.take k))) ∧ Below w.heap.size w wr) (fun _ i _ => s.size - (intOf i).toNat)
  case atStart => exact ⟨0, Nat.zero_le _, rfl, hown1, hB1⟩
  case round =>
    obtain ⟨k, hk, rfl, hown, hB⟩ := hrel
    have hDr := HD.out.below hB
    have hz := hB.size
    by_cases hlt : k < s.size
    · obtain ⟨n, hn⟩ : ∃ n, s[k].toNat = n := ⟨_, rfl⟩
      have hcb : n < 256 := by have := s[k].toNat_lt; omega
      have h1 := hDr.2 (n / 16) (by omega)
      have h2 := hDr.2 (n % 16) (by omega)
      have hand : bits .and .u8 (n : Int) 15 = (n : Int) % 16 := by
        rw [show (15 : Int) = ((15 : Nat) : Int) from rfl, u8_and_nat _ _ hcb (by omega), nat_mask4]; rfl
      have hne := (fun (e : Value.ownBlock _ = some 0) => Nat.not_le_of_lt HD.out.1 (hown.lt 0 e).1)
      have h0w := HD.out.1
      have q0 : (0 : Int) ≤ (n : Int) / 16 := by omega
      have q1 : (n : Int) / 16 < 16 := by omega
      have r0 : (0 : Int) ≤ (n : Int) % 16 := by omega
      have r1 : (n : Int) % 16 < 16 := by omega
      have ht : ((n : Int) / 16).toNat = n / 16 := by omega
      have ht2 : ((n : Int) % 16).toNat = n % 16 := by omega
      clear hDr
      go_wp2
      go_region_held3 (fun w' => w'.cell? ⟨0, n / 16, none⟩ = some (.int .u8 (dg (n / 16))) ∧ w'.cell? ⟨0, n % 16, none⟩ = some (.int .u8 (dg (n % 16))))
        (first | go_keep | (go_split_ands; refine ⟨?_, ?_⟩ <;> (rw [hgrow.cell_far _ (by go_size) (fun e => hne e.symm)]; assumption)))
        ((refine step_append_lies _ (by rfl) _ _ _ (by rfl) w.heap.size 5 i0 _ 1 1 Tryd.underlying65 hi hz0 hz1 hz2 rfl (by omega) _ (2 * k) _ (by rfl) ((hown.alloc _).drew) ⟨wr.heap.size, 0, none⟩ 2 2 [.int .u8 (dg (n / 16)), .int .u8 (dg (n % 16))] (by rfl) (by rfl) (World.news_of_block (cs := #[.int .u8 (dg (n / 16)), .int .u8 (dg (n % 16))]) (t := 5) (fr := (0, 0)) (heap_alloc_new wr _)) (by simp [Value.oneCell']) (by omega) (by unfold maxLen; omega) (by omega) (by simp; omega) (wr.heap.size + 1) (by simp) ?_; intro gg cap w2 hown2 hgrow hat hlt2))
      all_goals
        have hBn : Below w.heap.size w w2 := ((hB.alloc hz _).drew).grown hgrow (by go_size) (fun g hg => (hown.lt g hg).1)
        have hrow : byC (hexL (s.data.toList.take k)) ++ [.int .u8 (dg (n / 16)), .int .u8 (dg (n % 16))] = byC (hexL (s.data.toList.take (k + 1))) := by
          rw [take_snoc s k hlt, hexL_snoc, ← byC_append, hn]
          simp only [byC, List.map_cons, List.map_nil]
          rw [dgB_toNat (by omega), dgB_toNat (by omega)]
        have HROW := Lib.hid hrow
        clear hrow hown hgrow
        try go_wp2
        go_roundw
        case rel => exact ⟨k + 1, by omega, by go_num, by rw [← HROW.out]; exact hown2, hBn⟩
        case measure => simp [intOf]; omega
    · have hcv := string_of_own (w := wr) (l := hexL (s.data.toList.take k)) (by rw [hexL_length, List.length_take, Nat.min_eq_left (by simp; omega)]; exact hown)
      have hl : s.data.toList.take k = s.data.toList := List.take_of_length_le (by simp; omega)
      have HL := Lib.hid hl
      clear hl
      go_wp2
      go_ret
      exact ⟨by rw [HL.out]; rfl, hB⟩
set_option maxRecDepth 100000 in
set_option maxHeartbeats 1000000 in
theorem put_ok (n v : Nat) (w : World) (h1 : 1 ≤ n) (h7 : n ≤ 7) (hv : v ≤ 9223372036854775807) (hb : v < 256 ^ n) :
    Calls Tryd.prog 63 #[.int .i64 n, .int .i64 v] w fun e w' => e = .returned (.tuple #[.string ⟨(beB n v).toArray⟩, .int .i64 0]) ∧ Below w.heap.size w w' := by
  have t := big_no hb
  obtain ⟨i0, hi, hz0, hz1, hz2⟩ := info_parts info5
  clear hb
  go_enter Tryd.func63, Tryd.ntmps63
  go_wp2_with (first | (at_make; refine wpList_make_full _ rfl _ _ 65 rfl w.heap.size 5 i0 (.int .u8 0) 1 Tryd.underlying65 hi hz0 hz1 .i64 .i64 _ _ n rfl rfl ?_ ?_ ?_ ?_ ?_ ?_; rfl; rfl; rw [hz2]; omega; (unfold maxLen; omega); omega; intro w1 hown1 hg1))
  have hB1 : Below w.heap.size w w1 := (Below.refl _ _).grown hg1 (Nat.le_refl _) (by simp)
  have hr0 : (madeCells (Value.int .u8 0).cells (n * 1)).toList = byC (rowB n v 0) := by
    rw [rowB_zero, Nat.mul_one]
    simp [madeCells, Value.cells, Nat.mod_one, List.map_const']
  rw [hr0] at hown1
  clear hr0
  go_loopw [26] (fun i wr => ∃ k : Nat, k ≤ n ∧ i = .int .i64 k ∧ wr.ownsRow w.heap.size 5 1 (.slice (some ⟨w.heap.size, 0, none⟩) n n) n (byC (rowB n v k)) ∧ Below w.heap.size w wr) (fun i _ => n - (intOf i).toNat)
  case atStart => exact ⟨0, Nat.zero_le _, rfl, hown1, hB1⟩
  case round =>
    obtain ⟨k, hk, rfl, hown, hB⟩ := hrel
    have hz := hB.size
    by_cases hlt : k < n
    · have hlen : (byC (rowB n v k)).length = n := by rw [byC_length, rowB_length]
      have hcell := (hown.cellAt (n - 1 - k) (by omega)).trans (List.getElem?_eq_getElem (by omega))
      have hfr := hown.frozenAt (n - 1 - k)
      have hst := (hown.stored (n - 1 - k) (.int .u8 ((v / 256 ^ k % 256 : Nat) : Int))).1
      rw [rowB_step n v k hlt] at hst
      have hby := byte_8 v k
      have HBY := Lib.hid hby
      have HST := Lib.hid hst
      generalize (byC (rowB n v k))[n - 1 - k] = old at hcell
      have hB2 := hB.setCell (p := ⟨w.heap.size, n - 1 - k, none⟩) (Nat.le_refl _) (.int .u8 ((v / 256 ^ k % 256 : Nat) : Int))
      clear hown hst hlen
      go_wp2
      go_roundw
      case rel =>
        have e : ((v / 256 ^ k % 256 : Nat) : Int) = (v : Int) / 256 ^ k % 256 := by simp
        rw [← e]
        exact ⟨k + 1, by omega, by go_num, HST.out, hB2⟩
      case measure => simp [intOf]; omega
    · obtain rfl : k = n := by omega
      have hcv := string_of_own (w := wr) (l := beB k v) (by rw [beB_length, ← rowB_all]; exact hown)
      clear hown
      go_wp2
      go_ret2
      exact ⟨rfl, hB⟩
end Go.Proofs.YtfdeegafdaobdaaDoor
