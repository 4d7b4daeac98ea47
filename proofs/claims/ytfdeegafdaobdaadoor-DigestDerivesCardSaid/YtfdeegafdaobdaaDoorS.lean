/- Contract of spread: the words that are mixed in for a block. -/
import Derived.Test.YtfdeegafdaobdaaDoorR
import Derived.StillTailTactics
import Derived.Deep.QuietTactic
import Derived.BigQuiet
import Derived.Laws.CopyOwn
namespace Go.Proofs.YtfdeegafdaobdaaDoor
open Go.RowKit Go.ChangeShapes

def lay (l : List Nat) : List Nat := l ++ List.replicate (64 - l.length) 0
theorem lay_length {l : List Nat} (h : l.length ≤ 64) : (lay l).length = 64 := by simp [lay]; omega
theorem lay_getD {l : List Nat} {i : Nat} (h : i < l.length) : (lay l).getD i 0 = l.getD i 0 := by
  simp [lay, List.getD_eq_getElem?_getD, List.getElem?_append_left h]
theorem lay_set {l : List Nat} (h : l.length < 64) (x : Nat) : (lay l).set l.length x = lay (l ++ [x]) := by
  unfold lay
  rw [show 64 - l.length = (64 - (l ++ [x]).length) + 1 by simp; omega, set_snoc]
theorem lay_full {l : List Nat} (h : l.length = 64) : lay l = l := by simp [lay, h]
/-- Uint of word k of a block. -/
theorem uint4 (b : ByteArray) (k : Nat) (w : World) (hb : b.size = 64) (hk : k < 16) :
    Calls Tryd.prog 93 #[.agg #[.string b, .int .i64 (4 * (k : Int))], .int .i64 4] w fun e w' => e = .returned (.tuple #[.int .i64 (beN ((b.data.toList.drop (4 * k)).take 4) : Nat), .agg #[.string b, .int .i64 (4 * (k : Int) + 4)], .int .i64 0]) ∧ Below w.heap.size w w' := by
  have h := uint_ok b (4 * k) 4 w (by unfold maxLen; omega) (by decide) (by decide) (by omega)
  have e : (b.extract (4 * k) (4 * k + 4)).data.toList = (b.data.toList.drop (4 * k)).take 4 := by
    simp [ByteArray.data_extract, Array.toList_extract, List.extract]
  rw [e] at h
  exact h
/-- The reader's block. -/
def Rd (w : World) (g : Nat) (b : ByteArray) (n : Int) : Prop := w.heap[g]? = some (.cells #[.string b, .int .i64 n] 143 (0, 0))
theorem Rd.c0 {w : World} {g : Nat} {b : ByteArray} {n : Int} (h : Rd w g b n) : w.cell? ⟨g, 0, none⟩ = some (.string b) := cell_of_row w g 0 _ 143 (0, 0) h
theorem Rd.c1 {w : World} {g : Nat} {b : ByteArray} {n : Int} (h : Rd w g b n) : w.cell? ⟨g, 1, none⟩ = some (.int .i64 n) := cell_of_row w g 1 _ 143 (0, 0) h
theorem Rd.free {w : World} {g : Nat} {b : ByteArray} {n : Int} (h : Rd w g b n) (i : Nat) : w.frozen? ⟨g, i, none⟩ = false := frozen_of_row w g i _ 143 h
theorem Rd.lt {w : World} {g : Nat} {b : ByteArray} {n : Int} (h : Rd w g b n) : g < w.heap.size := (Array.getElem?_eq_some_iff.1 h).1
theorem Rd.below {w w' : World} {B g : Nat} {b : ByteArray} {n : Int} (h : Rd w g b n) (hb : Below B w w') (hg : g < B) : Rd w' g b n := (hb.block g hg).trans h
theorem Rd.put {w : World} {g : Nat} {b : ByteArray} {n : Int} (h : Rd w g b n) (m : Int) : Rd ((w.setCell ⟨g, 0, none⟩ (.string b)).setCell ⟨g, 1, none⟩ (.int .i64 m)) g b m := by
  have h1 := heap_setCell_same w g 0 _ 143 (.string b) h
  have h2 := heap_setCell_same _ g 1 _ 143 (.int .i64 m) h1
  exact h2
theorem Rd.other {w : World} {g : Nat} {b : ByteArray} {n : Int} (h : Rd w g b n) {a : Addr} (ha : g ≠ a.block) (v : Value) : Rd (w.setCell a v) g b n := (heap_setCell_other w a g v ha).trans h

/-- What the first loop keeps. -/
structure S1 (w : World) (b : ByteArray) (wr : World) (k : Nat) : Prop where
  res : Arr wr w.heap.size 102 (List.replicate 64 0)
  arr : Arr wr (w.heap.size + 1) 102 (lay (firstW b.data.toList k))
  rd : Rd wr (w.heap.size + 2) b (4 * (k : Int))
  below : Below w.heap.size w wr
theorem S1.step {w wr w1 : World} {b : ByteArray} {k : Nat} (h : S1 w b wr k) (hk : k < 16) (hb : Below wr.heap.size wr w1) :
    S1 w b (((w1.setCell ⟨w.heap.size + 2, 0, none⟩ (.string b)).setCell ⟨w.heap.size + 2, 1, none⟩ (.int .i64 (4 * (k : Int) + 4))).setCell ⟨w.heap.size + 1, k, none⟩ (wd (beN ((b.data.toList.drop (4 * k)).take 4)))) (k + 1) := by
  have h0 := h.res.below hb h.res.lt
  have h1 := h.arr.below hb h.arr.lt
  have h2 := (h.rd.below hb h.rd.lt).put (4 * (k : Int) + 4)
  have hl := firstW_length b.data.toList k
  refine ⟨((h0.other (by simp) _).other (by simp) _).other (by simp) _, ?_, ?_, ?_⟩
  · have h3 := ((h1.other (a := ⟨w.heap.size + 2, 0, none⟩) (by simp) (.string b)).other (a := ⟨w.heap.size + 2, 1, none⟩) (by simp) (.int .i64 (4 * (k : Int) + 4))).set k (beN ((b.data.toList.drop (4 * k)).take 4))
    rw [firstW_succ, ← lay_set (by omega), hl]
    exact h3
  · rw [show (4 * ((k + 1 : Nat) : Int)) = 4 * (k : Int) + 4 by omega]
    exact h2.other (by simp) _
  · have hB := h.below.trans (hb.mono h.below.size)
    exact ((hB.setCell (by simp) _).setCell (by simp) _).setCell (by simp) _
/-- What the second loop keeps: t words stand. -/
structure S2 (w : World) (b : ByteArray) (wr : World) (l : List Nat) : Prop where
  res : Arr wr w.heap.size 102 (List.replicate 64 0)
  arr : Arr wr (w.heap.size + 1) 102 (lay l)
  below : Below w.heap.size w wr
theorem S2.step {w wr : World} {b : ByteArray} {l : List Nat} (h : S2 w b wr l) (hl : l.length < 64) (n : Nat) (x : Nat) :
    S2 w b ((wr.drewN n).setCell ⟨w.heap.size + 1, l.length, none⟩ (wd x)) (l ++ [x]) := by
  refine ⟨(h.res.drewN n).other (by simp) _, ?_, (below_drewN h.below n).setCell (by simp) _⟩
  rw [← lay_set hl]
  exact (h.arr.drewN n).set _ x

set_option maxRecDepth 100000 in
set_option maxHeartbeats 4000000 in
theorem spread_any (b : ByteArray) (w : World) (hb : b.size = 64) :
    Calls Tryd.prog 77 #[.string b] w fun e w' => e = .returned (.agg (wsC (spreadW b.data.toList))) ∧ Below w.heap.size w w' := by
  have HB := Lib.hid hb
  clear hb
  go_enter Tryd.func77, Tryd.ntmps77
  go_wp2
  go_loopw [14] (fun i wr => ∃ k : Nat, k ≤ 16 ∧ i = .int .i64 k ∧ S1 w b wr k) (fun i _ => 16 - (intOf i).toNat)
  case atStart =>
    refine ⟨0, Nat.zero_le _, rfl, ?_, ?_, ?_, by go_grown⟩
    · exact ((Arr.new w 102 (List.replicate 64 0)).alloc _).alloc _
    · have := (Arr.new (w.alloc (.cells (wsC (List.replicate 64 0)) 102)) 102 (List.replicate 64 0))
      simp only [World.size_alloc] at this
      exact this.alloc _
    · have := heap_alloc_new ((w.alloc (.cells (wsC (List.replicate 64 0)) 102)).alloc (.cells (wsC (List.replicate 64 0)) 102)) (.cells #[.string b, .int .i64 0] 143)
      simp only [World.size_alloc] at this
      exact this
  case round =>
    obtain ⟨k, hk, rfl, hS0⟩ := hrel
    by_cases hlt : k < 16
    · have hS := hS0
      clear hS0
      have HS := Lib.hid hS
      have hl := firstW_length b.data.toList k
      have c0 := hS.rd.c0
      have c1 := hS.rd.c1
      have f0 := hS.rd.free 0
      have f1 := hS.rd.free 1
      have c2 := hS.arr.getD (i := k) (by rw [lay_length (by omega)]; omega)
      have f2 := hS.arr.free k
      have z := hS.rd.lt
      have z1 := hS.arr.lt
      have hw := u32_back (isW_be4 (l := (b.data.toList.drop (4 * k)).take 4) (by simp; omega))
      have HW := Lib.hid hw
      obtain ⟨v, hv⟩ : ∃ v, beN ((b.data.toList.drop (4 * k)).take 4) = v := ⟨_, rfl⟩
      have HV := Lib.hid hv
      have hu : ∀ w, Calls Tryd.prog 93 #[.agg #[.string b, .int .i64 (4 * (k : Int))], .int .i64 4] w fun e w' => e = .returned (.tuple #[.int .i64 (v : Int), .agg #[.string b, .int .i64 (4 * (k : Int) + 4)], .int .i64 0]) ∧ Below w.heap.size w w' := fun w => by
        rw [← hv]; exact uint4 b k w HB.out hlt
      rw [hv] at hw
      clear hS hl hv
      go_wp2_with (go_at_call 93; refine (hu _).mono ?_; rintro e w1 ⟨rfl, hb1⟩; obtain ⟨hc1, hf1⟩ := bcell hb1; have hz1 := hb1.size)
      go_roundw
      case rel =>
        refine ⟨k + 1, by omega, by go_num, ?_⟩
        have := HS.out.step hlt hb1
        rw [HV.out] at this
        exact this
      case measure => simp [intOf]; omega
    · have hk16 : k = 16 := by omega
      have hS : S1 w b wr 16 := by rw [← hk16]; assumption
      clear hk16
      go_wp2
      go_loopw [7] (fun i wq => ∃ (t : Nat) (l : List Nat), 16 ≤ t ∧ t ≤ 64 ∧ i = .int .i64 t ∧ l.length = t ∧ AllW l ∧ l = moreW (t - 16) (firstW b.data.toList 16) ∧ S2 w b wq l) (fun i _ => 64 - (intOf i).toNat)
      case atStart => exact ⟨16, firstW b.data.toList 16, by decide, by decide, rfl, firstW_length _ _, firstW_all _ _, rfl, hS.res, hS.arr, hS.below⟩
      case round =>
        obtain ⟨t, l, h16, h64, rfl, hl, hal, hm, hS2⟩ := hrel
        clear hS hS0
        by_cases hlt : t < 64
        · have HM := Lib.hid hm
          have HL := Lib.hid hl
          have HA := Lib.hid hal
          clear hm
          have HS2 := Lib.hid hS2
          have gx := hS2.arr.getD (i := t - 15) (by rw [lay_length (by omega)]; omega)
          have gy := hS2.arr.getD (i := t - 2) (by rw [lay_length (by omega)]; omega)
          have gp := hS2.arr.getD (i := t - 16) (by rw [lay_length (by omega)]; omega)
          have gq := hS2.arr.getD (i := t - 7) (by rw [lay_length (by omega)]; omega)
          have gt := hS2.arr.getD (i := t) (by rw [lay_length (by omega)]; omega)
          have gf := hS2.arr.free t
          rw [lay_getD (by omega)] at gx gy gp gq
          have z := hS2.arr.lt
          obtain ⟨x, hx⟩ : ∃ x, l.getD (t - 15) 0 = x := ⟨_, rfl⟩
          obtain ⟨y, hy⟩ : ∃ x, l.getD (t - 2) 0 = x := ⟨_, rfl⟩
          obtain ⟨p, hp⟩ : ∃ x, l.getD (t - 16) 0 = x := ⟨_, rfl⟩
          obtain ⟨q, hq⟩ : ∃ x, l.getD (t - 7) 0 = x := ⟨_, rfl⟩
          have wx : isW x := hx ▸ hal.get _
          have wy : isW y := hy ▸ hal.get _
          have hX := smX_w wx
          have hY := smY_w wy
          rw [hx] at gx
          rw [hy] at gy
          rw [hp] at gp
          rw [hq] at gq
          have HN : Hid (nextW l = ad (ad (ad p q) (smX x)) (smY y)) := by
            unfold nextW; rw [hl, hx, hy, hp, hq]; rfl
          have a1 := u32_add p q
          have a2 := u32_add (ad p q) (smX x)
          have a3 := u32_add (ad (ad p q) (smX x)) (smY y)
          have i1 : IntKind.i64.wrap ((t : Int) - 16) = (t : Int) - 16 := IntWalk.i64_in _ (by omega)
          have i2 : IntKind.i64.wrap ((t : Int) - 7) = (t : Int) - 7 := IntWalk.i64_in _ (by omega)
          have i3 : (0 : Int) ≤ (t : Int) - 16 := by omega
          have i4 : (t : Int) - 16 < 64 := by omega
          have i5 : (0 : Int) ≤ (t : Int) - 7 := by omega
          have i6 : (t : Int) - 7 < 64 := by omega
          have i7 : ((t : Int) - 16).toNat = t - 16 := by omega
          have i9 : (16 : Int) ≤ (t : Int) := by omega
          have i10 : (7 : Int) ≤ (t : Int) := by omega
          have i8 : ((t : Int) - 7).toNat = t - 7 := by omega
          have hsg : IntKind.u32.signed = false := rfl
          clear hx hy hp hq hl hal hS2
          go_wp2
          go_quiet (fail)
          go_wp2_with (first | (go_at_call 94; (with_reducible refine (turn7 _ _ wx).mono ?_); rintro e w' ⟨rfl, rfl⟩) | (go_at_call 94; (with_reducible refine (turn18 _ _ wx).mono ?_); rintro e w' ⟨rfl, rfl⟩) | (go_at_call 94; (with_reducible refine (turn17 _ _ wy).mono ?_); rintro e w' ⟨rfl, rfl⟩) | (go_at_call 94; (with_reducible refine (turn19 _ _ wy).mono ?_); rintro e w' ⟨rfl, rfl⟩))
          refine wp_region_still_tail 15 (by kernel_rfl) (by kernel_rfl) ?_
          change wpStill _ _ (World.drew (wr.drewN nq)) (fun a' => wpList _ _ _ _ a' (World.drew (wr.drewN nq))) _ _
          simp only [List.take_succ_cons, List.take_zero, List.drop_succ_cons, List.drop_zero]
          repeat still_step
          refine wpStill_nil ?_
          clear i1 i2 i3 i4 i5 i6 i7 i8
          go_wp2
          go_roundw
          case rel =>
            refine ⟨t + 1, l ++ [ad (ad (ad p q) (smX x)) (smY y)], by omega, by omega, by go_num, by simp [HL.out], HA.out.snoc (isW_ad _ _), ?_, ?_⟩
            · rw [show t + 1 - 16 = (t - 16) + 1 by omega, moreW_snoc, ← HM.out, HN.out]
            · rw [← HN.out]
              have := HS2.out.step (by rw [HL.out]; exact hlt) (nq + 1) (nextW l)
              rw [HL.out] at this
              exact this
          case measure => simp [intOf]; omega
        · obtain rfl : t = 64 := by omega
          have hf := hS2.arr
          rw [lay_full hl] at hf
          have hr := hS2.res
          have hB2 : Below w.heap.size w (wr.setRow w.heap.size (wsC l)) := below_setRow hS2.below (Nat.le_refl _) _
          have hfin : l = spreadW b.data.toList := hm
          clear hS2
          go_wp2_with (first | (refine wpList_load_row rfl 102 _ rfl (w.heap.size + 1) rfl 102 (wsC l) (0, 0) _ hf Tryd.underlying102 rfl (by rw [size102, wsC_size, hl]) ?_) | (refine wpList_store_row rfl 102 _ _ rfl w.heap.size (wsC l) rfl rfl 102 _ hr (by rw [size102, wsC_size, hl]) (by rw [wsC_size, wsC_size, hl]; rfl) (wsC_one _) ?_))
          have hr2 := hr.row l
          exact bodyPost_ret (v := .agg (wsC l)) (results_cell_row (p := 2) (ty := 102) Tryd.results77 _ _ w.heap.size 102 _ (0, 0) _ rfl hr2 Tryd.underlying102 rfl (by rw [size102, wsC_size, hl])) rfl ⟨by rw [hfin], hB2⟩
end Go.Proofs.YtfdeegafdaobdaaDoor
