/- Contract of the words that are there at first. -/
import Derived.Test.YtnfefkcfifnjnaaDoorV
namespace Go.Proofs.YtnfefkcfifnjnaaDoor
open Go.RowKit Go.ChangeShapes

theorem fill_exp (g : Nat) (w : World) (hA : Arr w g 84 zeroL) :
    Calls Tryd.prog 80 #[.pointer (some ⟨g, 0, none⟩), .int .i64 0, .string ⟨#[101, 120, 112, 97, 110, 100, 32, 51, 50, 45, 98, 121, 116, 101, 32, 107]⟩] w fun e w' => (∃ v, e = .returned v) ∧ Arr w' g 84 (fillK zeroL 0 expL 16) ∧ Only g w w' :=
  fill_any g 0 zeroL expL 16 w rfl rfl (by decide) zeroL_all hA
theorem fill_key (g : Nat) (l : List Nat) (k : List UInt8) (w : World) (hk : k.length = 32) (hl : l.length = 16) (hW : AllW l) (hA : Arr w g 84 l) :
    Calls Tryd.prog 80 #[.pointer (some ⟨g, 0, none⟩), .int .i64 4, .string (bs k)] w fun e w' => (∃ v, e = .returned v) ∧ Arr w' g 84 (fillK l 4 k 32) ∧ Only g w w' :=
  fill_any g 4 l k 32 w hk hl (by decide) hW hA
theorem fill_nonce (g : Nat) (l : List Nat) (k : List UInt8) (w : World) (hk : k.length = 12) (hl : l.length = 16) (hW : AllW l) (hA : Arr w g 84 l) :
    Calls Tryd.prog 80 #[.pointer (some ⟨g, 0, none⟩), .int .i64 13, .string (bs k)] w fun e w' => (∃ v, e = .returned v) ∧ Arr w' g 84 (fillK l 13 k 12) ∧ Only g w w' :=
  fill_any g 13 l k 12 w hk hl (by decide) hW hA
set_option maxRecDepth 100000 in
set_option maxHeartbeats 4000000 in
theorem begin_any (k n : List UInt8) (c : Nat) (w : World) (hk : k.length = 32) (hn : n.length = 12) (hc : isW c) :
    Calls Tryd.prog 51 #[.string (bs k), .string (bs n), .int .i64 (c : Int)] w fun e w' => e = .returned (.agg (wsC (beginW k n c))) ∧ Below w.heap.size w w' := by
  have hc1 := hc
  unfold isW at hc1
  have hu := u32_back hc
  have h0 := (Arr.new w 84 zeroL).alloc (.cells (wsC zeroL) 84)
  have h1 := Arr.new (w.alloc (.cells (wsC zeroL) 84)) 84 zeroL
  rw [World.size_alloc] at h1
  have hB : Below w.heap.size w ((w.alloc (.cells (wsC zeroL) 84)).alloc (.cells (wsC zeroL) 84)) := by go_grown
  have hF := Lib.hid (fill_exp (w.heap.size + 1) _ h1)
  have HB := Lib.hid hB
  have HR := Lib.hid h0
  have HK := Lib.hid hk
  have HN := Lib.hid hn
  have HC := Lib.hid hc
  clear hk hn hc h0 h1 hB
  go_enter Tryd.func51, Tryd.ntmps51
  go_wp2_with fail
  change Calls _ _ _ ((w.alloc (.cells (wsC zeroL) 84)).alloc (.cells (wsC zeroL) 84)) _
  (with_reducible refine hF.out.mono ?_)
  rintro e w1 ⟨⟨v1, rfl⟩, hA1, hO1⟩
  have HB1 := Lib.hid (hO1.below HB.out (by simp; omega) (by omega))
  have HR1 := Lib.hid (hO1.arr HR.out (by simp))
  have hF1 := Lib.hid (fill_key (w.heap.size + 1) _ k w1 HK.out (by rw [fillK_length]; rfl) (fillK_all zeroL_all _ _ _) hA1)
  clear hA1 hO1 hF HR HB
  go_wp2_with fail
  (with_reducible refine hF1.out.mono ?_)
  rintro e w2 ⟨⟨v2, rfl⟩, hA2, hO2⟩
  have hz1 := HB1.out.size
  have HB2 := Lib.hid (hO2.below HB1.out HB1.out.size (by omega))
  have HR2 := Lib.hid (hO2.arr HR1.out (by simp))
  obtain ⟨l2, hl2⟩ : ∃ l, fillK (fillK zeroL 0 expL 16) 4 k 32 = l := ⟨_, rfl⟩
  have hl2l : l2.length = 16 := by rw [← hl2, fillK_length, fillK_length]; rfl
  have hl2w : AllW l2 := by rw [← hl2]; exact fillK_all (fillK_all zeroL_all _ _ _) _ _ _
  rw [hl2] at hA2
  have hc12 := hA2.getD (i := 12) (by omega)
  have hf12 := hA2.free 12
  obtain ⟨old, hold⟩ : ∃ x, l2.getD 12 0 = x := ⟨_, rfl⟩
  rw [hold] at hc12
  have HA3 := Lib.hid (hA2.set 12 c)
  have HR3 := Lib.hid (HR2.out.other (a := ⟨w.heap.size + 1, 12, none⟩) (by simp) (wd c))
  have HB3 := Lib.hid (HB2.out.setCell (p := ⟨w.heap.size + 1, 12, none⟩) (by simp) (wd c))
  have HL2 := Lib.hid hl2
  have HL2l := Lib.hid hl2l
  have HL2w := Lib.hid hl2w
  clear hold hA2 hO2 hF1 HR1 HB1 hl2 hl2l hl2w HR2 HB2 hz1
  go_wp2_with fail
  generalize w2.setCell ⟨w.heap.size + 1, 12, none⟩ (wd c) = w3 at HA3 HR3 HB3 ⊢
  have hF3 := Lib.hid (fill_nonce (w.heap.size + 1) _ n w3 HN.out (by rw [List.length_set]; exact HL2l.out) (HL2w.out.set 12 HC.out) HA3.out)
  clear hc12 hf12
  (with_reducible refine hF3.out.mono ?_)
  rintro e w4 ⟨⟨v4, rfl⟩, hA4, hO4⟩
  have HB4 := Lib.hid (hO4.below HB3.out HB3.out.size (by omega))
  have HR4 := Lib.hid (hO4.arr HR3.out (by simp))
  have HE : Hid (fillK (l2.set 12 c) 13 n 12 = beginW k n c) := Lib.hid (by rw [← HL2.out]; rfl)
  have hlen := beginW_length k n c
  rw [HE.out] at hA4
  have HA4 := Lib.hid hA4
  have HL := Lib.hid hlen
  clear hA4 hO4 hF3 HR3 HB3 HA3 HE hlen hu
  go_wp2_with (first | (refine wpList_load_row rfl 84 _ rfl (w.heap.size + 1) rfl 84 (wsC (beginW k n c)) (0, 0) _ HA4.out Tryd.underlying84 rfl (by rw [size53, wsC_size, HL.out]) ?_) | (refine wpList_store_row rfl 84 _ _ rfl w.heap.size (wsC (beginW k n c)) rfl rfl 84 _ HR4.out (by rw [size53, wsC_size, HL.out]) (by rw [wsC_size, wsC_size, HL.out]; rfl) (wsC_one _) ?_))
  have hr2 := HR4.out.row (beginW k n c)
  have hB5 := below_setRow HB4.out (Nat.le_refl _) (wsC (beginW k n c))
  exact bodyPost_ret (v := .agg (wsC (beginW k n c))) (results_cell_row (p := 6) (ty := 84) Tryd.results51 _ _ w.heap.size 84 _ (0, 0) _ rfl hr2 Tryd.underlying84 rfl (by rw [size53, wsC_size, HL.out])) rfl ⟨rfl, hB5⟩
end Go.Proofs.YtnfefkcfifnjnaaDoor
