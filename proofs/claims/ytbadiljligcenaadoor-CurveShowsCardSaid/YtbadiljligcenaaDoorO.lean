/- Contract of Hex (layer 1, moved to this seat). -/
import Derived.Test.YtbadiljligcenaaDoorQ
import Derived.StillTailTactics
import Derived.Deep.RegionHeld3
import Derived.Deep.AppendLies
namespace Go.Proofs.YtbadiljligcenaaDoor
open Go.RowKit Go.ChangeShapes
theorem bcell {W w1 : World} (hb : Below W.heap.size W w1) : (∀ b o, b < W.heap.size → w1.cell? ⟨b, o, none⟩ = W.cell? ⟨b, o, none⟩) ∧ (∀ b o, b < W.heap.size → w1.frozen? ⟨b, o, none⟩ = W.frozen? ⟨b, o, none⟩) :=
  ⟨fun b o h => hb.cell (p := ⟨b, o, none⟩) h, fun b o h => hb.frozen (p := ⟨b, o, none⟩) h⟩
theorem info5 : (Tryd.prog.info? 5).map (fun i => (i.zero, i.size, i.bytes)) = some (some (.int .u8 0), 1, 1) := by kernel_rfl
set_option maxRecDepth 100000 in
set_option maxHeartbeats 1000000 in
theorem hex_any (s : ByteArray) (w : World) (hD : Digits w) (hs : s.size ≤ 70368744177664) :
    Calls Tryd.prog 24 #[.string s] w fun e w' => e = .returned (.string ⟨(hexL s.data.toList).toArray⟩) ∧ Below w.heap.size w w' := by
  obtain ⟨i0, hi, hz0, hz1, hz2⟩ := info_parts info5
  have HD := Lib.hid hD
  clear hD
  go_enter Tryd.func24, Tryd.ntmps24
  go_wp2_with (first | (at_make; refine wpList_make_own _ rfl _ _ 32 rfl w.heap.size 5 i0 (.int .u8 0) 1 Tryd.underlying32 hi hz0 hz1 .i64 .i64 _ (2 * s.size) rfl rfl ?_ ?_ ?_ ?_ ?_; omega; rw [hz2]; omega; (unfold maxLen; omega); omega; intro w1 hown1 hg1))
  have hB1 : Below w.heap.size w w1 := (Below.refl _ _).grown hg1 (Nat.le_refl _) (by simp)
  have hD1 := Lib.hid (HD.out.below hB1)
  go_loopw [3, 11] (fun v i wr => ∃ k : Nat, k ≤ s.size ∧ i = .int .i64 k ∧ wr.ownsRow w.heap.size 5 1 v (2 * k) (byC (hexL (s.data.toList.take k))) ∧ Below w.heap.size w wr) (fun _ i _ => s.size - (intOf i).toNat)
  case atStart => exact ⟨0, Nat.zero_le _, rfl, hown1, hB1⟩
  case round =>
    obtain ⟨k, hk, rfl, hown, hB⟩ := hrel
    have hDr := HD.out.below hB
    have hz := hB.size
    by_cases hlt : k < s.size
    · obtain ⟨n, hn⟩ : ∃ n, s[k].toNat = n := ⟨_, rfl⟩
      have hcb : n < 256 := by have := s[k].toNat_lt; omega
      have h1 := hDr.2 (n / 16) (by omega)
      have h2 := hDr.2 (n % 16) (by omega)
      have hand : bits .and .u8 (n : Int) 15 = (n : Int) % 16 := by
        rw [show (15 : Int) = ((15 : Nat) : Int) from rfl, u8_and_nat _ _ hcb (by omega), nat_mask4]; rfl
      have hne := (fun (e : Value.ownBlock _ = some 0) => Nat.not_le_of_lt HD.out.1 (hown.lt 0 e).1)
      have h0w := HD.out.1
      have q0 : (0 : Int) ≤ (n : Int) / 16 := by omega
      have q1 : (n : Int) / 16 < 16 := by omega
      have r0 : (0 : Int) ≤ (n : Int) % 16 := by omega
      have r1 : (n : Int) % 16 < 16 := by omega
      have ht : ((n : Int) / 16).toNat = n / 16 := by omega
      have ht2 : ((n : Int) % 16).toNat = n % 16 := by omega
      clear hDr
      go_wp2
      go_region_held3 (fun w' => w'.cell? ⟨0, n / 16, none⟩ = some (.int .u8 (dg (n / 16))) ∧ w'.cell? ⟨0, n % 16, none⟩ = some (.int .u8 (dg (n % 16))))
        (first | go_keep | (go_split_ands; refine ⟨?_, ?_⟩ <;> (rw [hgrow.cell_far _ (by go_size) (fun e => hne e.symm)]; assumption)))
        ((refine step_append_lies _ (by rfl) _ _ _ (by rfl) w.heap.size 5 i0 _ 1 1 Tryd.underlying32 hi hz0 hz1 hz2 rfl (by omega) _ (2 * k) _ (by rfl) ((hown.alloc _).drew) ⟨wr.heap.size, 0, none⟩ 2 2 [.int .u8 (dg (n / 16)), .int .u8 (dg (n % 16))] (by rfl) (by rfl) (World.news_of_block (cs := #[.int .u8 (dg (n / 16)), .int .u8 (dg (n % 16))]) (t := 5) (fr := (0, 0)) (heap_alloc_new wr _)) (by simp [Value.oneCell']) (by omega) (by unfold maxLen; omega) (by omega) (by simp; omega) (wr.heap.size + 1) (by simp) ?_; intro gg cap w2 hown2 hgrow hat hlt2))
      all_goals
        have hBn : Below w.heap.size w w2 := ((hB.alloc hz _).drew).grown hgrow (by go_size) (fun g hg => (hown.lt g hg).1)
        have hrow : byC (hexL (s.data.toList.take k)) ++ [.int .u8 (dg (n / 16)), .int .u8 (dg (n % 16))] = byC (hexL (s.data.toList.take (k + 1))) := by
          rw [take_snoc s k hlt, hexL_snoc, ← byC_append, hn]
          simp only [byC, List.map_cons, List.map_nil]
          rw [dgB_toNat (by omega), dgB_toNat (by omega)]
        have HROW := Lib.hid hrow
        clear hrow hown hgrow
        try go_wp2
        go_roundw
        case rel => exact ⟨k + 1, by omega, by go_num, by rw [← HROW.out]; exact hown2, hBn⟩
        case measure => simp [intOf]; omega
    · have hcv := string_of_own (w := wr) (l := hexL (s.data.toList.take k)) (by rw [hexL_length, List.length_take, Nat.min_eq_left (by simp; omega)]; exact hown)
      have hl : s.data.toList.take k = s.data.toList := List.take_of_length_le (by simp; omega)
      have HL := Lib.hid hl
      clear hl
      go_wp2
      go_ret
      exact ⟨by rw [HL.out]; rfl, hB⟩
end Go.Proofs.YtbadiljligcenaaDoor
