/- Contract of mix: the words after a block was mixed in. -/
import Derived.Test.YtfdeegafdaobdaaDoorA2
import Derived.Test.YtfdeegafdaobdaaDoorS
namespace Go.Proofs.YtfdeegafdaobdaaDoor
open Go.RowKit Go.ChangeShapes

def W8.list (s : W8) : List Nat := [s.a, s.b, s.c, s.d, s.e, s.f, s.g, s.h]
theorem W8.list_length (s : W8) : s.list.length = 8 := rfl
theorem Arr.w8 {w : World} {g : Nat} {t : TypeId} {s : W8} (h : Arr w g t s.list) : (w.cell? ⟨g, 0, none⟩ = some (wd s.a) ∧ w.cell? ⟨g, 1, none⟩ = some (wd s.b) ∧ w.cell? ⟨g, 2, none⟩ = some (wd s.c) ∧ w.cell? ⟨g, 3, none⟩ = some (wd s.d)) ∧ (w.cell? ⟨g, 4, none⟩ = some (wd s.e) ∧ w.cell? ⟨g, 5, none⟩ = some (wd s.f) ∧ w.cell? ⟨g, 6, none⟩ = some (wd s.g) ∧ w.cell? ⟨g, 7, none⟩ = some (wd s.h)) :=
  ⟨⟨h.get (i := 0) (show 0 < 8 by decide), h.get (i := 1) (show 1 < 8 by decide), h.get (i := 2) (show 2 < 8 by decide), h.get (i := 3) (show 3 < 8 by decide)⟩, ⟨h.get (i := 4) (show 4 < 8 by decide), h.get (i := 5) (show 5 < 8 by decide), h.get (i := 6) (show 6 < 8 by decide), h.get (i := 7) (show 7 < 8 by decide)⟩⟩
/-- What the steps keep. -/
structure S3 (w : World) (s : W8) (sp : List Nat) (kb : Nat) (wr : World) (k : Nat) : Prop where
  par : Arr wr w.heap.size 42 s.list
  res : Arr wr (w.heap.size + 1) 42 (List.replicate 8 0)
  st : Arr wr (w.heap.size + 2) 42 (mixT KL sp s k).list
  con : Arr wr kb 103 KL
  below : Below w.heap.size w wr
theorem S3.step {w wr w1 : World} {s s' : W8} {sp : List Nat} {kb k : Nat} (h : S3 w s sp kb wr k) (hkb : kb < w.heap.size) (hb : Below wr.heap.size wr w1) (hs : mixT KL sp s (k + 1) = s') :
    S3 w s sp kb (w1.setRow (w.heap.size + 2) (wsC s'.list)) (k + 1) := by
  have h0 := h.par.below hb h.par.lt
  have h1 := h.res.below hb h.res.lt
  have h2 := (h.st.below hb h.st.lt).row s'.list
  have h3 := h.con.below hb h.con.lt
  refine ⟨(setRow_other w1 _ _ _ (by omega)).trans h0, (setRow_other w1 _ _ _ (by omega)).trans h1, ?_, (setRow_other w1 _ _ _ (by omega)).trans h3, below_setRow (h.below.trans (hb.mono h.below.size)) (by omega) _⟩
  rw [hs]; exact h2
/-- Part of the last sums. -/
def Part (h s p : List Nat) (j : Nat) : Prop := p.length = 8 ∧ ∀ i, i < 8 → p.getD i 0 = if i < j then ad (h.getD i 0) (s.getD i 0) else h.getD i 0
theorem Part.zero (h s : W8) : Part h.list s.list h.list 0 := ⟨rfl, fun i _ => by rw [if_neg (Nat.not_lt_zero _)]⟩
theorem Part.step {h s p : List Nat} {j : Nat} (q : Part h s p j) (hj : j < 8) : Part h s (p.set j (ad (p.getD j 0) (s.getD j 0))) (j + 1) := by
  refine ⟨by simp [q.1], fun i hi => ?_⟩
  by_cases e : j = i
  · subst e
    rw [if_pos (by omega), List.getD_eq_getElem?_getD, List.getElem?_set_self (by rw [q.1]; exact hj), q.2 j hj, if_neg (by omega)]; rfl
  · rw [List.getD_eq_getElem?_getD, List.getElem?_set_ne e, ← List.getD_eq_getElem?_getD, q.2 i hi]
    by_cases c : i < j
    · rw [if_pos c, if_pos (by omega)]
    · rw [if_neg c, if_neg (by omega)]
theorem Part.all {h s : W8} {p : List Nat} (q : Part h.list s.list p 8) : p = (addW h s).list := by
  obtain ⟨hl, hq⟩ := q
  match p, hl with
  | [a, b, c, d, e, f, g, k], _ =>
    have h0 := hq 0 (by decide); have h1 := hq 1 (by decide); have h2 := hq 2 (by decide); have h3 := hq 3 (by decide)
    have h4 := hq 4 (by decide); have h5 := hq 5 (by decide); have h6 := hq 6 (by decide); have h7 := hq 7 (by decide)
    simp [W8.list] at h0 h1 h2 h3 h4 h5 h6 h7
    simp [W8.list, addW, *]

set_option maxRecDepth 100000 in
set_option maxHeartbeats 4000000 in
theorem mix_any (s : W8) (hs : s.ok) (b : ByteArray) (hb : b.size = 64) (kb : Nat) (w : World) (hK : Arr w kb 103 KL) :
    Calls Tryd.prog 61 #[.agg #[wd s.a, wd s.b, wd s.c, wd s.d, wd s.e, wd s.f, wd s.g, wd s.h], .string b, .pointer (some ⟨kb, 0, none⟩)] w fun e w' => e = .returned (mixW KL s b.data.toList).val ∧ Below w.heap.size w w' := by
  have HB := Lib.hid hb
  have HK := Lib.hid hK
  have HS := Lib.hid hs
  have hkb := hK.lt
  have hsp : ∃ sp, sp = spreadW b.data.toList := ⟨_, rfl⟩
  obtain ⟨sp, hsp⟩ := hsp
  have hl : sp.length = 64 := by rw [hsp]; exact spreadW_length _
  have hsa : ∀ w, Calls Tryd.prog 77 #[.string b] w fun e w' => e = .returned (.agg (wsC sp)) ∧ Below w.heap.size w w' := fun w => by rw [hsp]; exact spread_any b w hb
  have HL := Lib.hid hl
  have HSP := Lib.hid hsp
  clear hb hK hs hl hsp
  go_enter Tryd.func61, Tryd.ntmps61
  go_wp2_with (go_at_call 77; refine (hsa _).mono ?_; rintro e w1 ⟨rfl, hb1⟩)
  clear hsa
  have hS : S3 w s sp kb w1 0 := by
    have A0 := Arr.new w 42 s.list
    have A1 := Arr.new (w.alloc (.cells (wsC s.list) 42)) 42 (List.replicate 8 0)
    have A2 := Arr.new ((w.alloc (.cells (wsC s.list) 42)).alloc (.cells (wsC (List.replicate 8 0)) 42)) 42 s.list
    simp only [World.size_alloc] at A1 A2
    exact ⟨((A0.alloc _).alloc _).below hb1 (by simp; omega), (A1.alloc _).below hb1 (by simp), A2.below hb1 (by simp), (((HK.out.alloc _).alloc _).alloc _).below hb1 (by simp; omega), Below.trans (by go_grown) (hb1.mono (by simp; omega))⟩
  clear hb1
  go_loopw [14] (fun i wr => ∃ k : Nat, k ≤ 64 ∧ i = .int .i64 k ∧ S3 w s sp kb wr k) (fun i _ => 64 - (intOf i).toNat)
  case atStart => exact ⟨0, Nat.zero_le _, rfl, hS⟩
  case round =>
    obtain ⟨k, hk, rfl, hS3⟩ := hrel
    clear hS
    by_cases hlt : k < 64
    · have HS3 := Lib.hid hS3
      have hok := mixT_ok KL sp HS.out k
      obtain ⟨s', hs'⟩ : ∃ s', mixT KL sp s k = s' := ⟨_, rfl⟩
      have hst := hS3.st
      rw [hs'] at hok hst
      obtain ⟨⟨c0, c1, c2, c3⟩, ⟨c4, c5, c6, c7⟩⟩ := hst.w8
      have hgk := hS3.con.getD (i := k) (by rw [KL_length]; exact hlt)
      have hix := fun w => run_index_ws (P := Tryd.prog) w 102 41 64 sp .i64 k Tryd.underlying102 HL.out hlt (size41 w) (agg41 w)
      obtain ⟨κ, hκ⟩ : ∃ x, KL.getD k 0 = x := ⟨_, rfl⟩
      obtain ⟨v, hv⟩ : ∃ x, sp.getD k 0 = x := ⟨_, rfl⟩
      rw [hκ] at hgk
      rw [hv] at hix
      have hstep : Hid (mixT KL sp s (k + 1) = stepW s' (ad κ v)) := by rw [mixT, hs', hκ, hv]; rfl
      have a1 := u32_add κ v
      obtain ⟨a, b', c, d, ee, f, g, h⟩ := s'
      have hsc : ∀ w, Calls Tryd.prog 78 #[.agg #[wd a, wd b', wd c, wd d, wd ee, wd f, wd g, wd h], wd (ad κ v)] w fun e w' => e = .returned (stepW ⟨a, b', c, d, ee, f, g, h⟩ (ad κ v)).val ∧ Below w.heap.size w w' := fun w => step_any a b' c d ee f g h (ad κ v) w hok
      obtain ⟨s2, hs2⟩ : ∃ s2, stepW ⟨a, b', c, d, ee, f, g, h⟩ (ad κ v) = s2 := ⟨_, rfl⟩
      rw [hs2] at hsc hstep
      have z := hS3.st.lt
      have hold : ∀ w2, Below wr.heap.size wr w2 → Arr w2 (w.heap.size + 1 + 1) 42 (mixT KL sp s k).list := fun w2 hb2 => hS3.st.below hb2 z
      have HO := Lib.hid hold
      clear hs' hκ hv hok hs2 hS3 hst hold
      go_wp2
      refine wp_region_still_tail 8 (by kernel_rfl) (by kernel_rfl) ?_
      change wpStill _ _ (World.drew wr) (fun a' => wpList _ _ _ _ a' (World.drew wr)) _ _
      simp only [List.take_succ_cons, List.take_zero, List.drop_succ_cons, List.drop_zero]
      repeat still_step
      refine wpStill_nil ?_
      go_wp2_with (first | (go_at_call 78; (with_reducible refine (hsc _).mono ?_); rintro e w2 ⟨rfl, hb2⟩; have hb3 := (Below.refl wr.heap.size wr).drew.trans hb2; clear hb2; have ho := HO.out _ hb3) | (refine wpList_store_row rfl 42 _ _ rfl (w.heap.size + 1 + 1) (wsC s2.list) rfl rfl 42 _ ho (by rw [size42]; rfl) rfl (wsC_one _) ?_))
      have HB3 := Lib.hid hb3
      clear ho hb3
      go_wp2
      go_roundw
      case rel => exact ⟨k + 1, by omega, by go_num, HS3.out.step hkb HB3.out hstep.out⟩
      case measure => simp [intOf]; omega
    · have hk64 : k = 64 := by omega
      obtain ⟨s', hs'⟩ : ∃ s', mixT KL sp s 64 = s' := ⟨_, rfl⟩
      have hst := hS3.st
      have hpar := hS3.par
      have hres := hS3.res
      have hbel := hS3.below
      rw [hk64, hs'] at hst
      have HS' := Lib.hid hs'
      have HST := Lib.hid hst
      have HPA := Lib.hid hpar
      have HRE := Lib.hid hres
      clear hk64 hs' hS3 hst hpar hres
      go_wp2
      go_loopw [28] (fun i wq => ∃ (j : Nat) (p : List Nat), j ≤ 8 ∧ i = .int .i64 j ∧ Hid (Part s.list s'.list p j) ∧ Hid (Arr wq w.heap.size 42 p) ∧ Hid (Arr wq (w.heap.size + 1) 42 (List.replicate 8 0)) ∧ Hid (Arr wq (w.heap.size + 2) 42 s'.list) ∧ Below w.heap.size w wq) (fun i _ => 8 - (intOf i).toNat)
      case atStart => exact ⟨0, s.list, by decide, rfl, Part.zero s s', HPA, HRE, HST, hbel⟩
      case round =>
        obtain ⟨j, p, hj, rfl, HP, HA, HR, HT, hB⟩ := hrel
        clear HPA HRE HST hbel
        by_cases hlt : j < 8
        · have cx := HA.out.getD (i := j) (by rw [HP.out.1]; exact hlt)
          have cf := HA.out.free j
          have cy := HT.out.getD (i := j) (by rw [W8.list_length]; exact hlt)
          have z := HT.out.lt
          obtain ⟨x, hx⟩ : ∃ x, p.getD j 0 = x := ⟨_, rfl⟩
          obtain ⟨y, hy⟩ : ∃ x, s'.list.getD j 0 = x := ⟨_, rfl⟩
          rw [hx] at cx
          rw [hy] at cy
          have HX := Lib.hid hx
          have HY := Lib.hid hy
          have a1 := u32_add x y
          clear hx hy
          go_wp2
          refine wp_region_still_tail 8 (by kernel_rfl) (by kernel_rfl) ?_
          change wpStill _ _ (World.drew wr) (fun a' => wpList _ _ _ _ a' (World.drew wr)) _ _
          simp only [List.take_succ_cons, List.take_zero, List.drop_succ_cons, List.drop_zero]
          repeat still_step
          refine wpStill_nil ?_
          go_wp2
          go_roundw
          case rel =>
            refine ⟨j + 1, p.set j (ad x y), by omega, by go_num, ?_, ?_, ?_, ?_, ?_⟩
            · have := HP.out.step hlt
              rw [HX.out, HY.out] at this
              exact this
            · exact HA.out.drew.set j (ad x y)
            · exact HR.out.drew.other (by simp) _
            · exact HT.out.drew.other (by simp) _
            · exact hB.drew.setCell (by simp) _
          case measure => simp [intOf]; omega
        · obtain rfl : j = 8 := by omega
          have hp := HP.out.all
          have hA := HA.out
          have hR := HR.out
          have hpl := HP.out.1
          have hB2 : Below w.heap.size w (wr.setRow (w.heap.size + 1) (wsC p)) := below_setRow hB (Nat.le_add_right _ _) _
          have HP2 := Lib.hid hp
          clear hp HP HA HR HT
          go_wp2_with (first | (refine wpList_load_row rfl 42 _ rfl w.heap.size rfl 42 (wsC p) (0, 0) _ hA Tryd.underlying42 rfl (by rw [size42, wsC_size, hpl]) ?_) | (refine wpList_store_row rfl 42 _ _ rfl (w.heap.size + 1) (wsC p) rfl rfl 42 _ hR (by rw [size42, wsC_size, hpl]) (by rw [wsC_size, wsC_size, hpl]; rfl) (wsC_one _) ?_))
          have hr2 := hR.row p
          exact bodyPost_ret (v := .agg (wsC p)) (results_cell_row (p := 6) (ty := 42) Tryd.results61 _ _ (w.heap.size + 1) 42 _ (0, 0) _ rfl hr2 Tryd.underlying42 rfl (by rw [size42, wsC_size, hpl])) rfl ⟨by rw [HP2.out, ← HS'.out, HSP.out]; rfl, hB2⟩
end Go.Proofs.YtfdeegafdaobdaaDoor
