/- Contract of the reference's all: all blocks are mixed in. Contracts of the reference's Sum, End and Mac. Contracts of the reference's Mac and Derive. -/
import Derived.Test.YtfdeegafdaobdaaDoorMB
import Derived.Test.YtfdeegafdaobdaaDoorPB
namespace Go.Proofs.YtfdeegafdaobdaaDoor
open Go.RowKit Go.ChangeShapes
/-- The reference's table in memory. -/
structure Tb (W : World) (gs gk : Nat) : Prop where
  k : ∀ j, j < 64 → W.cell? ⟨gk, j, none⟩ = some (.int .i64 ((KL.getD j 0 : Nat) : Int))
  lk : gk < W.heap.size
  s : ∀ j, j < 8 → W.cell? ⟨gs, j, none⟩ = some (.int .i64 ((IW.list.getD j 0 : Nat) : Int))
  ls : gs < W.heap.size
theorem Tb.below {W V : World} {gs gk : Nat} (h : Tb W gs gk) (hb : Below W.heap.size W V) : Tb V gs gk :=
  ⟨fun j hj => (hb.cell (p := ⟨gk, j, none⟩) h.lk).trans (h.k j hj), Nat.lt_of_lt_of_le h.lk hb.size, fun j hj => (hb.cell (p := ⟨gs, j, none⟩) h.ls).trans (h.s j hj), Nat.lt_of_lt_of_le h.ls hb.size⟩
/-- Eight words in memory. -/
def R8 (W : World) (g : Nat) (s : W8) : Prop := (∀ j, j < 8 → W.cell? ⟨g, j, none⟩ = some (.int .i64 ((s.list.getD j 0 : Nat) : Int))) ∧ g < W.heap.size
theorem R8.below {W V : World} {g : Nat} {s : W8} (h : R8 W g s) (hb : Below W.heap.size W V) : R8 V g s :=
  ⟨fun j hj => (hb.cell (p := ⟨g, j, none⟩) h.2).trans (h.1 j hj), Nat.lt_of_lt_of_le h.2 hb.size⟩
def GotR (s : W8) (w : World) (e : Ending) (w' : World) : Prop := ∃ g c : Nat, e = .returned (.slice (some ⟨g, 0, none⟩) 8 c) ∧ R8 w' g s ∧ Below w.heap.size w w'
theorem got_r8 {s : W8} {w : World} {e : Ending} {w' : World} (h : Got8 s.list w e w') : GotR s w e w' := by
  obtain ⟨v, h1, h2, h3⟩ := h
  obtain ⟨g, c, rfl⟩ := Joins.ownsRow_form h2 (by decide)
  exact ⟨g, c, h1, ⟨fun j hj => by rw [h2.cellAt j (by omega), intC_get _ _ (by rw [W8.list_length]; exact hj)], (h2.lt g rfl).2⟩, h3⟩
theorem rmixedR (h : W8) (hh : h.ok) (s : ByteArray) (b : List UInt8) (hsb : s.data.toList = b) (hs : s.size = 64) (gs cs gk ck gh ch : Nat) (w : World) (T : Tb w gs gk) (hH : R8 w gh h) :
    Calls Tryd.prog 65 #[.agg #[.slice (some ⟨gs, 0, none⟩) 8 cs, .slice (some ⟨gk, 0, none⟩) 64 ck], .slice (some ⟨gh, 0, none⟩) 8 ch, .string s] w (GotR (mixW KL h b) w) :=
  (rmixed h hh s b hsb hs gs cs gk ck gh ch w T.k T.lk hH.1 hH.2).mono fun _ _ h => got_r8 h
set_option maxRecDepth 100000 in
set_option maxHeartbeats 2000000 in
theorem rall (h : W8) (hh : h.ok) (s : ByteArray) (hs : s.size ≤ 140737488355328) (gs cs gk ck gh ch : Nat) (w : World) (hT : Tb w gs gk) (hH : R8 w gh h) :
    Calls Tryd.prog 41 #[.agg #[.slice (some ⟨gs, 0, none⟩) 8 cs, .slice (some ⟨gk, 0, none⟩) 64 ck], .slice (some ⟨gh, 0, none⟩) 8 ch, .string s] w (GotR (mixB KL h s.data.toList (s.size / 64)) w) := by
  have HT := Lib.hid hT
  have HH := Lib.hid hH
  have HOK := Lib.hid hh
  have H0 : Hid ((w.alloc (.cells #[.slice (some ⟨gs, 0, none⟩) 8 cs, .slice (some ⟨gk, 0, none⟩) 64 ck] 27)).heap[w.heap.size]? = some (.cells #[.slice (some ⟨gs, 0, none⟩) 8 cs, .slice (some ⟨gk, 0, none⟩) 64 ck] 27)) := Lib.hid (heap_alloc_new w _)
  clear hT hH hh
  go_enter Tryd.func41, Tryd.ntmps41
  go_wp2_with fail
  obtain ⟨wo, hwo⟩ : ∃ W : World, w.alloc (.cells #[.slice (some ⟨gs, 0, none⟩) 8 cs, .slice (some ⟨gk, 0, none⟩) 64 ck] 27) = W := ⟨_, rfl⟩
  have HB0 : Hid (Below w.heap.size w wo) := Lib.hid (by rw [← hwo]; exact (Below.refl _ _).alloc (Nat.le_refl _) _)
  have HL0 : Hid (w.heap.size < wo.heap.size) := Lib.hid (by rw [← hwo]; simp)
  rw [hwo] at H0 ⊢
  clear hwo
  go_loopw [1, 7] (fun v i wr => ∃ k g c : Nat, 64 * k ≤ s.size ∧ i = .int .i64 (64 * (k : Int)) ∧ v = .slice (some ⟨g, 0, none⟩) 8 c ∧ Hid (R8 wr g (mixB KL h s.data.toList k)) ∧ Hid (Below wo.heap.size wo wr)) (fun _ i _ => s.size - (intOf i).toNat)
  case atStart => exact ⟨0, gh, ch, by omega, rfl, rfl, Lib.hid (HH.out.below (HB0.out)), Lib.hid (Below.refl _ _)⟩
  case round =>
    obtain ⟨k, g, c, hk, rfl, rfl, HR, HB⟩ := hrel
    have hz := HB.out.size
    by_cases hlt : 64 * k + 64 ≤ s.size
    · have hlti : 64 * (k : Int) + 64 ≤ (s.size : Int) := by omega
      have HMX : Hid (mixB KL h s.data.toList (k + 1) = mixW KL (mixB KL h s.data.toList k) (blk s.data.toList k)) := Lib.hid rfl
      have HKO := Lib.hid (mixB_ok KL HOK.out s.data.toList k)
      obtain ⟨y, hy⟩ : ∃ y, s.extract (64 * k) (64 * k + 64) = y := ⟨_, rfl⟩
      have hsl : ∀ wx : World, (Instr.slice 9 (.string s) (some (.int .i64 (64 * (k : Int)))) (some (.int .i64 (64 * (k : Int) + 64))) none).run Tryd.prog wx = .ok (.string y) wx := fun wx => by
        have := run_slice_string (P := Tryd.prog) (w := wx) 9 (s := s) .i64 .i64 (64 * (k : Int)) (64 * (k : Int) + 64) Tryd.underlying9 (by omega) (by omega) (by omega)
        rw [this, ← hy, show (64 * (k : Int)).toNat = 64 * k by omega, show (64 * (k : Int) + 64).toNat = 64 * k + 64 by omega]
      have hwr : IntKind.i64.wrap (64 * (k : Int) + 64) = 64 * (k : Int) + 64 := IntWalk.i64_in _ (by omega)
      have hy6 : y.size = 64 := by rw [← hy, ByteArray.size_extract]; omega
      have hyd : y.data.toList = blk s.data.toList k := by rw [← hy, ext_list, show 64 * k + 64 - 64 * k = 64 by omega]; rfl
      obtain ⟨p, hp⟩ : ∃ p, mixB KL h s.data.toList k = p := ⟨_, rfl⟩
      rw [hp] at HMX HR HKO
      have hmx : ∀ V, Below wr.heap.size wr V → Calls Tryd.prog 65 #[.agg #[.slice (some ⟨gs, 0, none⟩) 8 cs, .slice (some ⟨gk, 0, none⟩) 64 ck], .slice (some ⟨g, 0, none⟩) 8 c, .string y] V (GotR (mixB KL h s.data.toList (k + 1)) V) := fun V hV => by
        rw [HMX.out, ← hyd]
        exact rmixedR p HKO.out y _ rfl hy6 gs cs gk ck g c V (((HT.out.below HB0.out).below HB.out).below hV) (HR.out.below hV)
      have HM := Lib.hid hmx
      have t0 : wr.cell? ⟨w.heap.size, 0, none⟩ = some (.slice (some ⟨gs, 0, none⟩) 8 cs) := (HB.out.cell (p := ⟨w.heap.size, 0, none⟩) HL0.out).trans (cell_of_row _ _ 0 _ 27 (0, 0) H0.out)
      have t1 : wr.cell? ⟨w.heap.size, 1, none⟩ = some (.slice (some ⟨gk, 0, none⟩) 64 ck) := (HB.out.cell (p := ⟨w.heap.size, 1, none⟩) HL0.out).trans (cell_of_row _ _ 1 _ 27 (0, 0) H0.out)
      have tl : w.heap.size < wr.heap.size := Nat.lt_of_lt_of_le HL0.out hz
      have hB0 : Below wr.heap.size wr wr.drew := (Below.refl _ wr).drew
      have B0 := Lib.hid hB0
      have hk9 : 64 * (k : Int) ≤ 140737488355328 := by omega
      clear hy hy6 hyd hp hmx hB0
      go_wp2_with fail
      refine region_anyB (fun w' : World => Below wr.heap.size wr w') [] (by kernel_rfl) ?_
      refine anyB_take (i := 0) (oi := ⟨some 15, _, _, _, _, _⟩) (v := _) rfl (by kernel_rfl) (by kernel_rfl) (by kernel_rfl) (by kernel_rfl) (fun _ _ _ h => h) (Or.inl ⟨by rfl, fun w' hw' => (by have e1 := (hw'.cell (p := ⟨w.heap.size, 0, none⟩) tl).trans t0; have e2 := (hw'.cell (p := ⟨w.heap.size, 1, none⟩) tl).trans t1; go_simp; try with_reducible rfl)⟩) B0.out ?_
      try simp only [Act.put, List.setIfInBounds_toArray, List.set_cons_zero, List.set_cons_succ]
      refine anyB_take (i := 1) (oi := ⟨some 16, _, _, _, _, _⟩) (v := _) rfl (by kernel_rfl) (by kernel_rfl) (by kernel_rfl) (by kernel_rfl) (fun _ _ _ h => h) (Or.inl ⟨by rfl, fun w' hw' => (by clear hw'; go_simp; try with_reducible rfl)⟩) B0.out ?_
      try simp only [Act.put, List.setIfInBounds_toArray, List.set_cons_zero, List.set_cons_succ]
      refine anyB_take (i := 2) (oi := ⟨some 17, _, _, _, _, _⟩) (v := _) rfl (by kernel_rfl) (by kernel_rfl) (by kernel_rfl) (by kernel_rfl) (fun _ _ _ h => h) (Or.inl ⟨by rfl, fun w' hw' => (by clear hw'; go_simp; try with_reducible rfl)⟩) B0.out ?_
      try simp only [Act.put, List.setIfInBounds_toArray, List.set_cons_zero, List.set_cons_succ]
      refine anyB_take (i := 3) (oi := ⟨some 18, _, _, _, _, _⟩) (v := _) rfl (by kernel_rfl) (by kernel_rfl) (by kernel_rfl) (by kernel_rfl) (fun _ _ _ h => h) (Or.inl ⟨by rfl, fun w' hw' => (by clear hw'; go_simp; try with_reducible rfl)⟩) B0.out ?_
      try simp only [Act.put, List.setIfInBounds_toArray, List.set_cons_zero, List.set_cons_succ]
      refine anyB_take (i := 4) (oi := ⟨some 19, _, _, _, _, _⟩) (v := _) rfl (by kernel_rfl) (by kernel_rfl) (by kernel_rfl) (by kernel_rfl) (fun _ _ _ h => h) (Or.inl ⟨by rfl, fun w' hw' => (by clear hw'; go_simp; try with_reducible rfl)⟩) B0.out ?_
      try simp only [Act.put, List.setIfInBounds_toArray, List.set_cons_zero, List.set_cons_succ]
      refine anyB_take (i := 5) (oi := ⟨some 20, _, _, _, _, _⟩) (v := _) rfl (by kernel_rfl) (by kernel_rfl) (by kernel_rfl) (by kernel_rfl) (fun _ _ _ h => h) (Or.inl ⟨by rfl, fun w' hw' => (by clear hw'; go_simp; try with_reducible rfl)⟩) B0.out ?_
      try simp only [Act.put, List.setIfInBounds_toArray, List.set_cons_zero, List.set_cons_succ]
      refine anyB_take (i := 6) (oi := ⟨some 21, _, _, _, _, _⟩) (v := _) rfl (by kernel_rfl) (by kernel_rfl) (by kernel_rfl) (by kernel_rfl) (fun _ _ _ h => h) (Or.inl ⟨by rfl, fun w' hw' => (by clear hw'; go_simp; try with_reducible rfl)⟩) B0.out ?_
      try simp only [Act.put, List.setIfInBounds_toArray, List.set_cons_zero, List.set_cons_succ]
      refine anyB_keep (i := 7) (o := ⟨some 22, _, _, _, _, _⟩) (by kernel_rfl) rfl (fun K hK => ?_)
      rw [if_pos (by rfl)]
      go_wp2_with (go_at_call 65; (with_reducible refine (HM.out _ B0.out).mono ?_); rintro e V ⟨g2, c2, rfl, hr2, hb⟩; have B1 := Lib.hid (bstep B0.out hb); have HR2 := Lib.hid hr2; clear hr2; clear hb)
      refine hK.out _ _ B1.out ?_
      clear hK K
      try simp only [Act.put, List.setIfInBounds_toArray, List.set_cons_zero, List.set_cons_succ]
      refine anyB_take (i := 8) (oi := ⟨some 1, _, _, _, _, _⟩) (v := _) rfl (by kernel_rfl) (by kernel_rfl) (by kernel_rfl) (by kernel_rfl) (fun _ _ _ h => h) (Or.inl ⟨by rfl, fun w' hw' => (by clear hw'; go_simp; try with_reducible rfl)⟩) B1.out ?_
      try simp only [Act.put, List.setIfInBounds_toArray, List.set_cons_zero, List.set_cons_succ]
      refine anyB_done (by kernel_rfl) ?_ _
      have HB2 := Lib.hid (bstep HB.out B1.out)
      clear t0 t1 tl hsl
      go_wp2
      go_roundw
      case rel => exact ⟨k + 1, _, _, by omega, by go_num, rfl, HR2, HB2⟩
      case measure => simp [intOf]; omega
    · obtain hkq : k = s.size / 64 := by omega
      have hlti : (s.size : Int) < 64 * (k : Int) + 64 := by omega
      have hk9 : 64 * (k : Int) ≤ 140737488355328 := by omega
      have HKQ := Lib.hid hkq
      clear hkq
      go_wp2
      go_ret
      exact ⟨g, c, rfl, by rw [← HKQ.out]; exact HR.out, bstep HB0.out HB.out⟩
end Go.Proofs.YtfdeegafdaobdaaDoor

namespace Go.Proofs.YtfdeegafdaobdaaDoor
open Go.RowKit Go.ChangeShapes
theorem sumB_all (l : List UInt8) : sumB l = octW (mixB KL IW (l ++ closeL l.length) ((l ++ closeL l.length).length / 64)) := by
  show octW (moreH KL (moreH KL startH l) (closeL (0 + l.length))).w = _
  rw [Nat.zero_add, moreH_append]
  rfl
theorem endH_all (h : HH) : endH KL h = octW (mixB KL h.w (h.tail ++ closeL h.count) ((h.tail ++ closeL h.count).length / 64)) := rfl
theorem closeL_le (n : Nat) : (closeL n).length ≤ 72 := by
  unfold closeL
  rw [List.length_cons, List.length_append, List.length_replicate, beB_length]; omega
theorem rOct (s : W8) (hs : s.ok) (g c : Nat) (V : World) (h : R8 V g s) : Calls Tryd.prog 40 #[.slice (some ⟨g, 0, none⟩) 8 c] V (Ans V (.string (bs (octW s)))) := by
  have := roctets s.list g c V (fun j _ => W8.ok_get hs j) h.2 h.1
  rw [octP_W] at this
  exact this
theorem bs_take (l : List UInt8) (n : Nat) : (bs l).extract 0 n = bs (l.take n) := by rw [ext_bs]; simp [bs]
theorem bs_drop (l : List UInt8) (n : Nat) : (bs l).extract n l.length = bs (l.drop n) := by
  rw [ext_bs]
  congr 1
  rw [List.take_of_length_le (by rw [List.length_drop]; exact Nat.le_refl _)]; rfl
set_option maxRecDepth 100000 in
set_option maxHeartbeats 2000000 in
theorem rSum (l : List UInt8) (hl : l.length ≤ 1099511627776) (gs cs gk ck : Nat) (w : World) (hT : Tb w gs gk) :
    Calls Tryd.prog 16 #[.agg #[.slice (some ⟨gs, 0, none⟩) 8 cs, .slice (some ⟨gk, 0, none⟩) 64 ck], .string (bs l)] w (Ans w (.string (bs (sumB l)))) := by
  obtain ⟨n, hn⟩ : ∃ n, l.length / 64 * 64 = n := ⟨_, rfl⟩
  have hnl : n ≤ l.length := by omega
  have HCL : Hid (bs (sumB l) = bs (octW (mixB KL IW (l ++ closeL l.length) ((l ++ closeL l.length).length / 64)))) := Lib.hid (by rw [sumB_all])
  have hcl := closeL_le l.length
  obtain ⟨st, hst⟩ : ∃ s, mixB KL IW (l ++ closeL l.length) ((l ++ closeL l.length).length / 64) = s := ⟨_, rfl⟩
  have hok : st.ok := by rw [← hst]; exact mixB_ok _ IW_ok _ _
  rw [hst] at HCL
  have hcat : bs (l.take n) ++ bs (l.drop n ++ closeL l.length) = bs (l ++ closeL l.length) := by rw [bs_append, ← List.append_assoc, List.take_append_drop]
  have H41 : Hid (∀ V, Below w.heap.size w V → Calls Tryd.prog 41 #[.agg #[.slice (some ⟨gs, 0, none⟩) 8 cs, .slice (some ⟨gk, 0, none⟩) 64 ck], .slice (some ⟨gs, 0, none⟩) 8 cs, .string (bs (l.take n) ++ bs (l.drop n ++ closeL l.length))] V (GotR st V)) := Lib.hid (fun V hV => by
    have hTV := hT.below hV
    have := rall IW IW_ok (bs (l ++ closeL l.length)) (by rw [bs_size, List.length_append]; omega) gs cs gk ck gs cs V hTV ⟨hTV.s, hTV.ls⟩
    rw [bs_data, bs_size, hst] at this
    rw [hcat]
    exact this)
  have h42 : ∀ V, Calls Tryd.prog 42 #[.string (bs (l.drop n)), .int .i64 (l.length : Int)] V (Ans V (.string (bs (l.drop n ++ closeL l.length)))) := fun V => rclosing (l.drop n) l.length V hl (by rw [List.length_drop]; omega)
  have hpz : (bs (l.take n)).size ≤ 1099511627776 := by rw [bs_size, List.length_take]; omega
  have hcz : (bs (l.drop n ++ closeL l.length)).size ≤ 1099511627900 := by rw [bs_size, List.length_append, List.length_drop]; omega
  have hsl1 : ∀ wx : World, (Instr.slice 9 (.string (bs l)) none (some (.int .i64 (n : Int))) none).run Tryd.prog wx = .ok (.string (bs (l.take n))) wx := fun wx => by
    have := run_slice_string_h (P := Tryd.prog) (w := wx) (t := 9) (s := bs l) Tryd.underlying9 .i64 (n : Int) (by omega) (by rw [bs_size]; omega)
    rw [this, ← bs_take, Int.toNat_natCast]
  have hsl2 : ∀ wx : World, (Instr.slice 9 (.string (bs l)) (some (.int .i64 (n : Int))) none none).run Tryd.prog wx = .ok (.string (bs (l.drop n))) wx := fun wx => by
    have := run_slice_string_l (P := Tryd.prog) (w := wx) 9 (s := bs l) Tryd.underlying9 .i64 (n : Int) (by omega) (by rw [bs_size]; omega)
    rw [this, ← bs_drop, Int.toNat_natCast]; rfl
  obtain ⟨s, hs⟩ : ∃ s, bs l = s := ⟨_, rfl⟩
  have hsz : s.size = l.length := by rw [← hs, bs_size]
  rw [hs] at hsl1 hsl2 ⊢
  obtain ⟨p, hp⟩ : ∃ p, bs (l.take n) = p := ⟨_, rfl⟩
  rw [hp] at hsl1 hpz H41
  obtain ⟨q, hq⟩ : ∃ q, bs (l.drop n) = q := ⟨_, rfl⟩
  rw [hq] at hsl2 h42
  obtain ⟨c, hc⟩ : ∃ c, bs (l.drop n ++ closeL l.length) = c := ⟨_, rfl⟩
  rw [hc] at h42 hcz H41
  rw [← hsz] at h42 hn hl
  have hni : (s.size : Int) / 64 * 64 = (n : Int) := by omega
  have H42 := Lib.hid h42
  have HT := Lib.hid hT
  have HOK := Lib.hid hok
  have tb0 := cell_of_row (w.alloc (.cells #[.slice (some ⟨gs, 0, none⟩) 8 cs, .slice (some ⟨gk, 0, none⟩) 64 ck] 27)) w.heap.size 0 #[.slice (some ⟨gs, 0, none⟩) 8 cs, .slice (some ⟨gk, 0, none⟩) 64 ck] 27 (0, 0) (heap_alloc_new w _)
  have t0 : (w.alloc (.cells #[.slice (some ⟨gs, 0, none⟩) 8 cs, .slice (some ⟨gk, 0, none⟩) 64 ck] 27)).cell? ⟨w.heap.size, 0, none⟩ = some (.slice (some ⟨gs, 0, none⟩) 8 cs) := tb0
  have t1 : (w.alloc (.cells #[.slice (some ⟨gs, 0, none⟩) 8 cs, .slice (some ⟨gk, 0, none⟩) 64 ck] 27)).cell? ⟨w.heap.size, 1, none⟩ = some (.slice (some ⟨gk, 0, none⟩) 64 ck) := cell_of_row _ _ 1 #[.slice (some ⟨gs, 0, none⟩) 8 cs, .slice (some ⟨gk, 0, none⟩) 64 ck] 27 (0, 0) (heap_alloc_new w _)
  clear hst hcat hs hsz hp hq hc h42 hT hok tb0 hnl hn
  go_enter Tryd.func16, Tryd.ntmps16
  go_wp2_with fail
  obtain ⟨wo, hwo⟩ : ∃ W : World, w.alloc (.cells #[.slice (some ⟨gs, 0, none⟩) 8 cs, .slice (some ⟨gk, 0, none⟩) 64 ck] 27) = W := ⟨_, rfl⟩
  have HB0 : Hid (Below w.heap.size w wo) := Lib.hid (by rw [← hwo]; exact (Below.refl _ _).alloc (Nat.le_refl _) _)
  have tl : w.heap.size < wo.heap.size := by rw [← hwo]; simp
  rw [hwo] at t0 t1 ⊢
  have hB : Below wo.heap.size wo wo.drew := (Below.refl _ wo).drew
  have B0 := Lib.hid hB
  clear hwo hB
  refine region_anyB (fun w' : World => Below wo.heap.size wo w') [] (by kernel_rfl) ?_
  refine anyB_take (i := 0) (oi := ⟨some 10, _, _, _, _, _⟩) (v := _) rfl (by kernel_rfl) (by kernel_rfl) (by kernel_rfl) (by kernel_rfl) (fun _ _ _ h => h) (Or.inl ⟨by rfl, fun w' hw' => (by have e1 := (hw'.cell (p := ⟨w.heap.size, 0, none⟩) tl).trans t0; have e2 := (hw'.cell (p := ⟨w.heap.size, 1, none⟩) tl).trans t1; go_simp; try with_reducible rfl)⟩) B0.out ?_
  try simp only [Act.put, List.setIfInBounds_toArray, List.set_cons_zero, List.set_cons_succ]
  refine anyB_take (i := 1) (oi := ⟨some 11, _, _, _, _, _⟩) (v := _) rfl (by kernel_rfl) (by kernel_rfl) (by kernel_rfl) (by kernel_rfl) (fun _ _ _ h => h) (Or.inl ⟨by rfl, fun w' hw' => (by clear hw'; go_simp; try with_reducible rfl)⟩) B0.out ?_
  try simp only [Act.put, List.setIfInBounds_toArray, List.set_cons_zero, List.set_cons_succ]
  refine anyB_take (i := 2) (oi := ⟨some 12, _, _, _, _, _⟩) (v := _) rfl (by kernel_rfl) (by kernel_rfl) (by kernel_rfl) (by kernel_rfl) (fun _ _ _ h => h) (Or.inl ⟨by rfl, fun w' hw' => (by have e1 := (hw'.cell (p := ⟨w.heap.size, 0, none⟩) tl).trans t0; have e2 := (hw'.cell (p := ⟨w.heap.size, 1, none⟩) tl).trans t1; go_simp; try with_reducible rfl)⟩) B0.out ?_
  try simp only [Act.put, List.setIfInBounds_toArray, List.set_cons_zero, List.set_cons_succ]
  refine anyB_take (i := 3) (oi := ⟨some 13, _, _, _, _, _⟩) (v := _) rfl (by kernel_rfl) (by kernel_rfl) (by kernel_rfl) (by kernel_rfl) (fun _ _ _ h => h) (Or.inl ⟨by rfl, fun w' hw' => (by clear hw'; go_simp; try with_reducible rfl)⟩) B0.out ?_
  try simp only [Act.put, List.setIfInBounds_toArray, List.set_cons_zero, List.set_cons_succ]
  refine anyB_take (i := 4) (oi := ⟨some 14, _, _, _, _, _⟩) (v := _) rfl (by kernel_rfl) (by kernel_rfl) (by kernel_rfl) (by kernel_rfl) (fun _ _ _ h => h) (Or.inl ⟨by rfl, fun w' hw' => (by clear hw'; go_simp; try with_reducible rfl)⟩) B0.out ?_
  try simp only [Act.put, List.setIfInBounds_toArray, List.set_cons_zero, List.set_cons_succ]
  refine anyB_take (i := 5) (oi := ⟨some 15, _, _, _, _, _⟩) (v := _) rfl (by kernel_rfl) (by kernel_rfl) (by kernel_rfl) (by kernel_rfl) (fun _ _ _ h => h) (Or.inl ⟨by rfl, fun w' hw' => (by clear hw'; go_simp; try with_reducible rfl)⟩) B0.out ?_
  try simp only [Act.put, List.setIfInBounds_toArray, List.set_cons_zero, List.set_cons_succ]
  refine anyB_take (i := 6) (oi := ⟨some 16, _, _, _, _, _⟩) (v := _) rfl (by kernel_rfl) (by kernel_rfl) (by kernel_rfl) (by kernel_rfl) (fun _ _ _ h => h) (Or.inl ⟨by rfl, fun w' hw' => (by clear hw'; go_simp; try with_reducible rfl)⟩) B0.out ?_
  try simp only [Act.put, List.setIfInBounds_toArray, List.set_cons_zero, List.set_cons_succ]
  refine anyB_take (i := 7) (oi := ⟨some 17, _, _, _, _, _⟩) (v := _) rfl (by kernel_rfl) (by kernel_rfl) (by kernel_rfl) (by kernel_rfl) (fun _ _ _ h => h) (Or.inl ⟨by rfl, fun w' hw' => (by clear hw'; go_simp; try with_reducible rfl)⟩) B0.out ?_
  try simp only [Act.put, List.setIfInBounds_toArray, List.set_cons_zero, List.set_cons_succ]
  refine anyB_take (i := 8) (oi := ⟨some 18, _, _, _, _, _⟩) (v := _) rfl (by kernel_rfl) (by kernel_rfl) (by kernel_rfl) (by kernel_rfl) (fun _ _ _ h => h) (Or.inl ⟨by rfl, fun w' hw' => (by clear hw'; go_simp; try with_reducible rfl)⟩) B0.out ?_
  try simp only [Act.put, List.setIfInBounds_toArray, List.set_cons_zero, List.set_cons_succ]
  refine anyB_take (i := 9) (oi := ⟨some 19, _, _, _, _, _⟩) (v := _) rfl (by kernel_rfl) (by kernel_rfl) (by kernel_rfl) (by kernel_rfl) (fun _ _ _ h => h) (Or.inl ⟨by rfl, fun w' hw' => (by clear hw'; go_simp; try with_reducible rfl)⟩) B0.out ?_
  try simp only [Act.put, List.setIfInBounds_toArray, List.set_cons_zero, List.set_cons_succ]
  refine anyB_take (i := 10) (oi := ⟨some 20, _, _, _, _, _⟩) (v := _) rfl (by kernel_rfl) (by kernel_rfl) (by kernel_rfl) (by kernel_rfl) (fun _ _ _ h => h) (Or.inl ⟨by rfl, fun w' hw' => (by clear hw'; go_simp; try with_reducible rfl)⟩) B0.out ?_
  try simp only [Act.put, List.setIfInBounds_toArray, List.set_cons_zero, List.set_cons_succ]
  refine anyB_keep (i := 11) (o := ⟨some 21, _, _, _, _, _⟩) (by kernel_rfl) rfl (fun K hK => ?_)
  rw [if_pos (by rfl)]
  go_wp2_with (go_at_call 42; (with_reducible refine (H42.out _).mono ?_); rintro e V ⟨rfl, hb⟩; have B1 := Lib.hid (bstep B0.out hb); clear hb)
  refine hK.out _ _ B1.out ?_
  clear hK K
  try simp only [Act.put, List.setIfInBounds_toArray, List.set_cons_zero, List.set_cons_succ]
  refine anyB_take (i := 12) (oi := ⟨some 22, _, _, _, _, _⟩) (v := _) rfl (by kernel_rfl) (by kernel_rfl) (by kernel_rfl) (by kernel_rfl) (fun _ _ _ h => h) (Or.inl ⟨by rfl, fun w' hw' => (by clear hw'; have hpc : ¬ (9223372036854775807 < p.size + c.size) := (by omega); go_simp; try with_reducible rfl)⟩) B1.out ?_
  try simp only [Act.put, List.setIfInBounds_toArray, List.set_cons_zero, List.set_cons_succ]
  refine anyB_keep (i := 13) (o := ⟨some 23, _, _, _, _, _⟩) (by kernel_rfl) rfl (fun K hK => ?_)
  rw [if_pos (by rfl)]
  go_wp2_with (go_at_call 41; (with_reducible refine (H41.out _ (bstep HB0.out B1.out)).mono ?_); rintro e V ⟨g2, c2, rfl, hr2, hb⟩; have B2 := Lib.hid (bstep B1.out hb); have HR2 := Lib.hid hr2; clear hr2; clear hb)
  refine hK.out _ _ B2.out ?_
  clear hK K
  try simp only [Act.put, List.setIfInBounds_toArray, List.set_cons_zero, List.set_cons_succ]
  refine anyB_keep (i := 14) (o := ⟨some 24, _, _, _, _, _⟩) (by kernel_rfl) rfl (fun K hK => ?_)
  rw [if_pos (by rfl)]
  go_wp2_with (go_at_call 40; (with_reducible refine (rOct st HOK.out _ _ _ HR2.out).mono ?_); rintro e V ⟨rfl, hb⟩; have B3 := Lib.hid (bstep B2.out hb); clear hb)
  refine hK.out _ _ B3.out ?_
  clear hK K
  try simp only [Act.put, List.setIfInBounds_toArray, List.set_cons_zero, List.set_cons_succ]
  refine anyB_take (i := 15) (oi := ⟨some 4, _, _, _, _, _⟩) (v := _) rfl (by kernel_rfl) (by kernel_rfl) (by kernel_rfl) (by kernel_rfl) (fun _ _ _ h => h) (Or.inl ⟨by rfl, fun w' hw' => (by clear hw'; go_simp; try with_reducible rfl)⟩) B3.out ?_
  try simp only [Act.put, List.setIfInBounds_toArray, List.set_cons_zero, List.set_cons_succ]
  refine anyB_done (by kernel_rfl) ?_ _
  have HB3 := Lib.hid (bstep HB0.out B3.out)
  clear t0 t1 tl hsl1 hsl2
  go_wp2
  go_ret
  exact ⟨by rw [HCL.out]; rfl, HB3.out⟩
theorem range_row {W : World} {g : Nat} {cs : List Value} {t : TypeId} (h : W.heap[g]? = some (.cells cs.toArray t (0, 0))) : W.rangeAt g 0 cs := fun j v hj => by
  rw [Nat.zero_add, cell_of_row W g j _ t (0, 0) h]
  simpa using hj
theorem size44l (s : W8) (t : ByteArray) (n : Int) : (Tryd.prog.info? 44).map (·.size) = some ([wd s.a, wd s.b, wd s.c, wd s.d, wd s.e, wd s.f, wd s.g, wd s.h, .string t, .int .i64 n] : List Value).length := by kernel_rfl
set_option maxRecDepth 100000 in
set_option maxHeartbeats 2000000 in
theorem rEnd (h : HH) (hh : okHH h) (gs cs gk ck : Nat) (w : World) (hT : Tb w gs gk) :
    Calls Tryd.prog 26 #[.agg #[.slice (some ⟨gs, 0, none⟩) 8 cs, .slice (some ⟨gk, 0, none⟩) 64 ck], hsV h.w (bs h.tail) h.count] w (Ans w (.string (bs (endH KL h)))) := by
  have HCL : Hid (bs (endH KL h) = bs (octW (mixB KL h.w (h.tail ++ closeL h.count) ((h.tail ++ closeL h.count).length / 64)))) := Lib.hid (by rw [endH_all])
  have hcl := closeL_le h.count
  have htl := hh.tail
  obtain ⟨st, hst⟩ : ∃ s, mixB KL h.w (h.tail ++ closeL h.count) ((h.tail ++ closeL h.count).length / 64) = s := ⟨_, rfl⟩
  have hok : st.ok := by rw [← hst]; exact mixB_ok _ hh.1 _ _
  rw [hst] at HCL
  have H41 : Hid (∀ V g c, Below w.heap.size w V → R8 V g h.w → Calls Tryd.prog 41 #[.agg #[.slice (some ⟨gs, 0, none⟩) 8 cs, .slice (some ⟨gk, 0, none⟩) 64 ck], .slice (some ⟨g, 0, none⟩) 8 c, .string (bs (h.tail ++ closeL h.count))] V (GotR st V)) := Lib.hid (fun V g c hV hg => by
    have := rall h.w hh.1 (bs (h.tail ++ closeL h.count)) (by rw [bs_size, List.length_append]; omega) gs cs gk ck g c V (hT.below hV) hg
    rw [bs_data, bs_size, hst] at this
    exact this)
  have H42 : Hid (∀ V, Calls Tryd.prog 42 #[.string (bs h.tail), .int .i64 (h.count : Int)] V (Ans V (.string (bs (h.tail ++ closeL h.count))))) := Lib.hid fun V => rclosing h.tail h.count V hh.2.1 (by have := hh.2.2; omega)
  have H52 : Hid (∀ V, Calls Tryd.prog 52 #[hsV h.w (bs h.tail) h.count] V (GotR h.w V)) := Lib.hid fun V => (rints h.w (bs h.tail) h.count V hh.1).mono fun _ _ k => got_r8 k
  have HOK := Lib.hid hok
  obtain ⟨hw, ht, hc⟩ := h
  dsimp only at *
  obtain ⟨x, hx⟩ : ∃ x, bs ht = x := ⟨_, rfl⟩
  obtain ⟨y, hy⟩ : ∃ x, bs (ht ++ closeL hc) = x := ⟨_, rfl⟩
  have hxz : x.size ≤ 63 := by rw [← hx, bs_size]; omega
  rw [hx] at H42 H52 ⊢
  rw [hy] at H41 H42
  have hA := heap_alloc_new w (.cells #[.slice (some ⟨gs, 0, none⟩) 8 cs, .slice (some ⟨gk, 0, none⟩) 64 ck] 27)
  have hA2 := heap_al hA (hsO hw x hc)
  have hC := heap_alloc_new (w.alloc (.cells #[.slice (some ⟨gs, 0, none⟩) 8 cs, .slice (some ⟨gk, 0, none⟩) 64 ck] 27)) (hsO hw x hc)
  simp only [World.size_alloc] at hC
  have HA := Lib.hid hA2
  have HC := Lib.hid hC
  clear hst hok hcl htl hx hy hA hA2 hC hT hh
  go_enter Tryd.func26, Tryd.ntmps26
  go_wp2_with fail
  obtain ⟨wo, hwo⟩ : ∃ W : World, (w.alloc (.cells #[.slice (some ⟨gs, 0, none⟩) 8 cs, .slice (some ⟨gk, 0, none⟩) 64 ck] 27)).alloc (hsO hw x hc) = W := ⟨_, rfl⟩
  have HB0 : Hid (Below w.heap.size w wo) := Lib.hid (by rw [← hwo]; go_grown)
  have tl : w.heap.size + 1 < wo.heap.size := by rw [← hwo]; simp
  rw [hwo] at HA HC
  change Code.wp _ _ _ _ ((w.alloc (.cells #[.slice (some ⟨gs, 0, none⟩) 8 cs, .slice (some ⟨gk, 0, none⟩) 64 ck] 27)).alloc (hsO hw x hc))
  rw [hwo]
  have t0 : wo.cell? ⟨w.heap.size, 0, none⟩ = some (.slice (some ⟨gs, 0, none⟩) 8 cs) := cell_of_row _ _ 0 #[.slice (some ⟨gs, 0, none⟩) 8 cs, .slice (some ⟨gk, 0, none⟩) 64 ck] 27 (0, 0) HA.out
  have t1 : wo.cell? ⟨w.heap.size, 1, none⟩ = some (.slice (some ⟨gk, 0, none⟩) 64 ck) := cell_of_row _ _ 1 #[.slice (some ⟨gs, 0, none⟩) 8 cs, .slice (some ⟨gk, 0, none⟩) 64 ck] 27 (0, 0) HA.out
  have h8 : wo.cell? ⟨w.heap.size + 1, 8, none⟩ = some (.string x) := cell_of_row _ _ 8 _ 44 (0, 0) HC.out
  have h9 : wo.cell? ⟨w.heap.size + 1, 9, none⟩ = some (.int .i64 (hc : Int)) := cell_of_row _ _ 9 _ 44 (0, 0) HC.out
  have hrng : wo.rangeAt (w.heap.size + 1) 0 [wd hw.a, wd hw.b, wd hw.c, wd hw.d, wd hw.e, wd hw.f, wd hw.g, wd hw.h, .string x, .int .i64 (hc : Int)] := range_row HC.out
  have HRG := Lib.hid hrng
  have hB : Below wo.heap.size wo wo.drew := (Below.refl _ wo).drew
  have B0 := Lib.hid hB
  clear hwo hB hrng
  refine region_anyB (fun w' : World => Below wo.heap.size wo w') [] (by kernel_rfl) ?_
  refine anyB_take (i := 0) (oi := ⟨some 5, _, _, _, _, _⟩) (v := _) rfl (by kernel_rfl) (by kernel_rfl) (by kernel_rfl) (by kernel_rfl) (fun _ _ _ h => h) (Or.inl ⟨by rfl, fun w' hw' => (by have e1 := (hw'.cell (p := ⟨w.heap.size, 0, none⟩) (by show w.heap.size < _; omega)).trans t0; have e2 := (hw'.cell (p := ⟨w.heap.size, 1, none⟩) (by show w.heap.size < _; omega)).trans t1; have e3 := (hw'.cell (p := ⟨w.heap.size + 1, 8, none⟩) tl).trans h8; have e4 := (hw'.cell (p := ⟨w.heap.size + 1, 9, none⟩) tl).trans h9; go_simp; try with_reducible rfl)⟩) B0.out ?_
  try simp only [Act.put, List.setIfInBounds_toArray, List.set_cons_zero, List.set_cons_succ]
  refine anyB_take (i := 1) (oi := ⟨some 6, _, _, _, _, _⟩) (v := _) rfl (by kernel_rfl) (by kernel_rfl) (by kernel_rfl) (by kernel_rfl) (fun _ _ _ h => h) (yieldsIf_load_mid (by rfl) _ _ rfl _ _ rfl ([wd hw.a, wd hw.b, wd hw.c, wd hw.d, wd hw.e, wd hw.f, wd hw.g, wd hw.h, .string x, .int .i64 (hc : Int)]) _ (fun w' hw' => rangeAt_below HRG.out hw' tl) Tryd.underlying44 rfl (size44l hw x hc)) B0.out ?_
  try simp only [Act.put, List.setIfInBounds_toArray, List.set_cons_zero, List.set_cons_succ]
  refine anyB_take (i := 3) (oi := ⟨some 8, _, _, _, _, _⟩) (v := _) rfl (by kernel_rfl) (by kernel_rfl) (by kernel_rfl) (by kernel_rfl) (fun _ _ _ h => h) (Or.inl ⟨by rfl, fun w' hw' => (by clear hw'; go_simp; try with_reducible rfl)⟩) B0.out ?_
  try simp only [Act.put, List.setIfInBounds_toArray, List.set_cons_zero, List.set_cons_succ]
  refine anyB_take (i := 4) (oi := ⟨some 9, _, _, _, _, _⟩) (v := _) rfl (by kernel_rfl) (by kernel_rfl) (by kernel_rfl) (by kernel_rfl) (fun _ _ _ h => h) (Or.inl ⟨by rfl, fun w' hw' => (by have e1 := (hw'.cell (p := ⟨w.heap.size, 0, none⟩) (by show w.heap.size < _; omega)).trans t0; have e2 := (hw'.cell (p := ⟨w.heap.size, 1, none⟩) (by show w.heap.size < _; omega)).trans t1; have e3 := (hw'.cell (p := ⟨w.heap.size + 1, 8, none⟩) tl).trans h8; have e4 := (hw'.cell (p := ⟨w.heap.size + 1, 9, none⟩) tl).trans h9; go_simp; try with_reducible rfl)⟩) B0.out ?_
  try simp only [Act.put, List.setIfInBounds_toArray, List.set_cons_zero, List.set_cons_succ]
  refine anyB_take (i := 5) (oi := ⟨some 10, _, _, _, _, _⟩) (v := _) rfl (by kernel_rfl) (by kernel_rfl) (by kernel_rfl) (by kernel_rfl) (fun _ _ _ h => h) (Or.inl ⟨by rfl, fun w' hw' => (by clear hw'; go_simp; try with_reducible rfl)⟩) B0.out ?_
  try simp only [Act.put, List.setIfInBounds_toArray, List.set_cons_zero, List.set_cons_succ]
  refine anyB_take (i := 6) (oi := ⟨some 11, _, _, _, _, _⟩) (v := _) rfl (by kernel_rfl) (by kernel_rfl) (by kernel_rfl) (by kernel_rfl) (fun _ _ _ h => h) (Or.inl ⟨by rfl, fun w' hw' => (by have e1 := (hw'.cell (p := ⟨w.heap.size, 0, none⟩) (by show w.heap.size < _; omega)).trans t0; have e2 := (hw'.cell (p := ⟨w.heap.size, 1, none⟩) (by show w.heap.size < _; omega)).trans t1; have e3 := (hw'.cell (p := ⟨w.heap.size + 1, 8, none⟩) tl).trans h8; have e4 := (hw'.cell (p := ⟨w.heap.size + 1, 9, none⟩) tl).trans h9; go_simp; try with_reducible rfl)⟩) B0.out ?_
  try simp only [Act.put, List.setIfInBounds_toArray, List.set_cons_zero, List.set_cons_succ]
  refine anyB_keep (i := 2) (o := ⟨some 7, _, _, _, _, _⟩) (by kernel_rfl) rfl (fun K hK => ?_)
  rw [if_pos (by rfl)]
  go_wp2_with (go_at_call 52; (with_reducible refine (H52.out _).mono ?_); rintro e V ⟨g1, c1, rfl, hr1, hb⟩; have B1 := Lib.hid (bstep B0.out hb); have HR1 := Lib.hid hr1; clear hr1; clear hb)
  refine hK.out _ _ B1.out ?_
  clear hK K
  try simp only [Act.put, List.setIfInBounds_toArray, List.set_cons_zero, List.set_cons_succ]
  refine anyB_keep (i := 7) (o := ⟨some 12, _, _, _, _, _⟩) (by kernel_rfl) rfl (fun K hK => ?_)
  rw [if_pos (by rfl)]
  go_wp2_with (go_at_call 42; (with_reducible refine (H42.out _).mono ?_); rintro e V ⟨rfl, hb⟩; have B2 := Lib.hid (bstep B1.out hb); have HR1b := Lib.hid (HR1.out.below hb); clear hb)
  refine hK.out _ _ B2.out ?_
  clear hK K
  try simp only [Act.put, List.setIfInBounds_toArray, List.set_cons_zero, List.set_cons_succ]
  refine anyB_keep (i := 8) (o := ⟨some 13, _, _, _, _, _⟩) (by kernel_rfl) rfl (fun K hK => ?_)
  rw [if_pos (by rfl)]
  go_wp2_with (go_at_call 41; (with_reducible refine (H41.out _ _ _ (bstep HB0.out B2.out) HR1b.out).mono ?_); rintro e V ⟨g2, c2, rfl, hr2, hb⟩; have B3 := Lib.hid (bstep B2.out hb); have HR2 := Lib.hid hr2; clear hr2; clear hb)
  refine hK.out _ _ B3.out ?_
  clear hK K
  try simp only [Act.put, List.setIfInBounds_toArray, List.set_cons_zero, List.set_cons_succ]
  refine anyB_keep (i := 9) (o := ⟨some 14, _, _, _, _, _⟩) (by kernel_rfl) rfl (fun K hK => ?_)
  rw [if_pos (by rfl)]
  go_wp2_with (go_at_call 40; (with_reducible refine (rOct st HOK.out _ _ _ HR2.out).mono ?_); rintro e V ⟨rfl, hb⟩; have B4 := Lib.hid (bstep B3.out hb); clear hb)
  refine hK.out _ _ B4.out ?_
  clear hK K
  try simp only [Act.put, List.setIfInBounds_toArray, List.set_cons_zero, List.set_cons_succ]
  refine anyB_take (i := 10) (oi := ⟨some 4, _, _, _, _, _⟩) (v := _) rfl (by kernel_rfl) (by kernel_rfl) (by kernel_rfl) (by kernel_rfl) (fun _ _ _ h => h) (Or.inl ⟨by rfl, fun w' hw' => (by clear hw'; go_simp; try with_reducible rfl)⟩) B4.out ?_
  try simp only [Act.put, List.setIfInBounds_toArray, List.set_cons_zero, List.set_cons_succ]
  refine anyB_done (by kernel_rfl) ?_ _
  have HB3 := Lib.hid (bstep HB0.out B4.out)
  clear t0 t1 tl h8 h9
  go_wp2
  go_ret
  exact ⟨by rw [HCL.out]; rfl, HB3.out⟩
end Go.Proofs.YtfdeegafdaobdaaDoor

namespace Go.Proofs.YtfdeegafdaobdaaDoor
open Go.RowKit Go.ChangeShapes
theorem padK_len (k : List UInt8) (c : UInt8) (h : k.length ≤ 64) : (padK k c).length = 64 := by
  unfold padK; rw [List.length_map, List.length_append, List.length_replicate]; omega
set_option maxRecDepth 100000 in
set_option maxHeartbeats 2000000 in
theorem rMac_short (k s : List UInt8) (hk : k.length ≤ 64) (hs : s.length ≤ 1099511627000) (gs cs gk ck : Nat) (w : World) (hT : Tb w gs gk) :
    Calls Tryd.prog 19 #[.agg #[.slice (some ⟨gs, 0, none⟩) 8 cs, .slice (some ⟨gk, 0, none⟩) 64 ck], .string (bs k), .string (bs s)] w (Ans w (.string (bs (macB k s)))) := by
  obtain ⟨q, hq⟩ : ∃ q, k = q := ⟨_, rfl⟩
  have hq64 : q.length ≤ 64 := by rw [← hq]; exact hk
  have HCL : Hid (macB k s = sumB (padK q 92 ++ sumB (padK q 54 ++ s))) := Lib.hid (by rw [macB_short k s hk, macS_sum, hq])
  have l1 := padK_len q 92 hq64
  have l2 := padK_len q 54 hq64
  have l3 := sumB_length (padK q 54 ++ s)
  have H1 : Hid (∀ V, Calls Tryd.prog 44 #[.string (bs q), .int .i64 92] V (Ans V (.string (bs (padK q 92))))) := Lib.hid fun V => rchanged (bs q) 92 V hq64
  have H2 : Hid (∀ V, Calls Tryd.prog 44 #[.string (bs q), .int .i64 54] V (Ans V (.string (bs (padK q 54))))) := Lib.hid fun V => rchanged (bs q) 54 V hq64
  have H3 : Hid (∀ V, Below w.heap.size w V → Calls Tryd.prog 16 #[.agg #[.slice (some ⟨gs, 0, none⟩) 8 cs, .slice (some ⟨gk, 0, none⟩) 64 ck], .string (bs (padK q 54) ++ bs s)] V (Ans V (.string (bs (sumB (padK q 54 ++ s)))))) := Lib.hid fun V hV => by
    rw [bs_append]; exact rSum _ (by rw [List.length_append]; omega) gs cs gk ck V (hT.below hV)
  have H4 : Hid (∀ V, Below w.heap.size w V → Calls Tryd.prog 16 #[.agg #[.slice (some ⟨gs, 0, none⟩) 8 cs, .slice (some ⟨gk, 0, none⟩) 64 ck], .string (bs (padK q 92) ++ bs (sumB (padK q 54 ++ s)))] V (Ans V (.string (bs (macB k s))))) := Lib.hid fun V hV => by
    rw [bs_append, HCL.out]; exact rSum _ (by rw [List.length_append]; omega) gs cs gk ck V (hT.below hV)
  subst hq
  obtain ⟨qx, hqx⟩ : ∃ x, bs k = x := ⟨_, rfl⟩
  have kz : qx.size ≤ 64 := by rw [← hqx, bs_size]; exact hq64
  rw [hqx] at H1 H2 ⊢
  clear hk
  obtain ⟨sx, hsx⟩ : ∃ x, bs s = x := ⟨_, rfl⟩
  have sz : sx.size ≤ 1099511627000 := by rw [← hsx, bs_size]; exact hs
  obtain ⟨p1, hp1⟩ : ∃ x, bs (padK k 92) = x := ⟨_, rfl⟩
  have z1 : p1.size ≤ 64 := by rw [← hp1, bs_size]; omega
  obtain ⟨p2, hp2⟩ : ∃ x, bs (padK k 54) = x := ⟨_, rfl⟩
  have z2 : p2.size ≤ 64 := by rw [← hp2, bs_size]; omega
  obtain ⟨d1, hd1⟩ : ∃ x, bs (sumB (padK k 54 ++ s)) = x := ⟨_, rfl⟩
  have z3 : d1.size ≤ 32 := by rw [← hd1, bs_size]; omega
  obtain ⟨rr, hrr⟩ : ∃ x, bs (macB k s) = x := ⟨_, rfl⟩
  rw [hsx, hp2, hd1] at H3
  rw [hp1, hd1, hrr] at H4
  rw [hp1] at H1
  rw [hp2] at H2
  rw [hsx, hrr]
  have t0 : (w.alloc (.cells #[.slice (some ⟨gs, 0, none⟩) 8 cs, .slice (some ⟨gk, 0, none⟩) 64 ck] 27)).cell? ⟨w.heap.size, 0, none⟩ = some (.slice (some ⟨gs, 0, none⟩) 8 cs) := cell_of_row _ _ 0 #[.slice (some ⟨gs, 0, none⟩) 8 cs, .slice (some ⟨gk, 0, none⟩) 64 ck] 27 (0, 0) (heap_alloc_new w _)
  have t1 : (w.alloc (.cells #[.slice (some ⟨gs, 0, none⟩) 8 cs, .slice (some ⟨gk, 0, none⟩) 64 ck] 27)).cell? ⟨w.heap.size, 1, none⟩ = some (.slice (some ⟨gk, 0, none⟩) 64 ck) := cell_of_row _ _ 1 #[.slice (some ⟨gs, 0, none⟩) 8 cs, .slice (some ⟨gk, 0, none⟩) 64 ck] 27 (0, 0) (heap_alloc_new w _)
  clear hq64 HCL l1 l2 l3 hT hqx hsx hp1 hp2 hd1 hrr hs
  go_enter Tryd.func19, Tryd.ntmps19
  go_wp2_with fail
  obtain ⟨wo, hwo⟩ : ∃ W : World, w.alloc (.cells #[.slice (some ⟨gs, 0, none⟩) 8 cs, .slice (some ⟨gk, 0, none⟩) 64 ck] 27) = W := ⟨_, rfl⟩
  have HB0 : Hid (Below w.heap.size w wo) := Lib.hid (by rw [← hwo]; exact (Below.refl _ _).alloc (Nat.le_refl _) _)
  have tl : w.heap.size < wo.heap.size := by rw [← hwo]; simp
  rw [hwo] at t0 t1 ⊢
  have t0' := t0
  have t1' := t1
  clear hwo t0 t1
  have hB : Below wo.heap.size wo wo.drew := (Below.refl _ wo).drew
  have B0 := Lib.hid hB
  clear hB
  refine region_anyB (fun w' : World => Below wo.heap.size wo w') [] (by kernel_rfl) ?_
  refine anyB_take (i := 0) (oi := ⟨some 13, _, _, _, _, _⟩) (v := _) rfl (by kernel_rfl) (by kernel_rfl) (by kernel_rfl) (by kernel_rfl) (fun _ _ _ h => h) (Or.inl ⟨by rfl, fun w' hw' => (by have e1 := (hw'.cell (p := ⟨w.heap.size, 0, none⟩) tl).trans t0'; have e2 := (hw'.cell (p := ⟨w.heap.size, 1, none⟩) tl).trans t1'; go_simp; try with_reducible rfl)⟩) B0.out ?_
  try simp only [Act.put, List.setIfInBounds_toArray, List.set_cons_zero, List.set_cons_succ]
  refine anyB_take (i := 1) (oi := ⟨some 14, _, _, _, _, _⟩) (v := _) rfl (by kernel_rfl) (by kernel_rfl) (by kernel_rfl) (by kernel_rfl) (fun _ _ _ h => h) (Or.inl ⟨by rfl, fun w' hw' => (by clear hw'; go_simp; try with_reducible rfl)⟩) B0.out ?_
  try simp only [Act.put, List.setIfInBounds_toArray, List.set_cons_zero, List.set_cons_succ]
  refine anyB_take (i := 3) (oi := ⟨some 16, _, _, _, _, _⟩) (v := _) rfl (by kernel_rfl) (by kernel_rfl) (by kernel_rfl) (by kernel_rfl) (fun _ _ _ h => h) (Or.inl ⟨by rfl, fun w' hw' => (by have e1 := (hw'.cell (p := ⟨w.heap.size, 0, none⟩) tl).trans t0'; have e2 := (hw'.cell (p := ⟨w.heap.size, 1, none⟩) tl).trans t1'; go_simp; try with_reducible rfl)⟩) B0.out ?_
  try simp only [Act.put, List.setIfInBounds_toArray, List.set_cons_zero, List.set_cons_succ]
  refine anyB_take (i := 4) (oi := ⟨some 17, _, _, _, _, _⟩) (v := _) rfl (by kernel_rfl) (by kernel_rfl) (by kernel_rfl) (by kernel_rfl) (fun _ _ _ h => h) (Or.inl ⟨by rfl, fun w' hw' => (by clear hw'; go_simp; try with_reducible rfl)⟩) B0.out ?_
  try simp only [Act.put, List.setIfInBounds_toArray, List.set_cons_zero, List.set_cons_succ]
  refine anyB_take (i := 6) (oi := ⟨some 19, _, _, _, _, _⟩) (v := _) rfl (by kernel_rfl) (by kernel_rfl) (by kernel_rfl) (by kernel_rfl) (fun _ _ _ h => h) (Or.inl ⟨by rfl, fun w' hw' => (by clear hw'; go_simp; try with_reducible rfl)⟩) B0.out ?_
  try simp only [Act.put, List.setIfInBounds_toArray, List.set_cons_zero, List.set_cons_succ]
  refine anyB_keep (i := 2) (o := ⟨some 15, _, _, _, _, _⟩) (by kernel_rfl) rfl (fun K hK => ?_)
  rw [if_pos (by rfl)]
  go_wp2_with (go_at_call 44; (with_reducible refine (H1.out _).mono ?_); rintro e V ⟨rfl, hb⟩; have B1 := Lib.hid (bstep B0.out hb); clear hb)
  refine hK.out _ _ B1.out ?_
  clear hK K
  try simp only [Act.put, List.setIfInBounds_toArray, List.set_cons_zero, List.set_cons_succ]
  refine anyB_keep (i := 5) (o := ⟨some 18, _, _, _, _, _⟩) (by kernel_rfl) rfl (fun K hK => ?_)
  rw [if_pos (by rfl)]
  go_wp2_with (go_at_call 44; (with_reducible refine (H2.out _).mono ?_); rintro e V ⟨rfl, hb⟩; have B2 := Lib.hid (bstep B1.out hb); clear hb)
  refine hK.out _ _ B2.out ?_
  clear hK K
  try simp only [Act.put, List.setIfInBounds_toArray, List.set_cons_zero, List.set_cons_succ]
  refine anyB_take (i := 7) (oi := ⟨some 20, _, _, _, _, _⟩) (v := _) rfl (by kernel_rfl) (by kernel_rfl) (by kernel_rfl) (by kernel_rfl) (fun _ _ _ h => h) (Or.inl ⟨by rfl, fun w' hw' => (by clear hw'; have hpc : ¬ (9223372036854775807 < p2.size + sx.size) := (by omega); go_simp; try with_reducible rfl)⟩) B2.out ?_
  try simp only [Act.put, List.setIfInBounds_toArray, List.set_cons_zero, List.set_cons_succ]
  refine anyB_keep (i := 8) (o := ⟨some 21, _, _, _, _, _⟩) (by kernel_rfl) rfl (fun K hK => ?_)
  rw [if_pos (by rfl)]
  go_wp2_with (go_at_call 16; (with_reducible refine (H3.out _ (bstep HB0.out B2.out)).mono ?_); rintro e V ⟨rfl, hb⟩; have B3 := Lib.hid (bstep B2.out hb); clear hb)
  refine hK.out _ _ B3.out ?_
  clear hK K
  try simp only [Act.put, List.setIfInBounds_toArray, List.set_cons_zero, List.set_cons_succ]
  refine anyB_take (i := 9) (oi := ⟨some 22, _, _, _, _, _⟩) (v := _) rfl (by kernel_rfl) (by kernel_rfl) (by kernel_rfl) (by kernel_rfl) (fun _ _ _ h => h) (Or.inl ⟨by rfl, fun w' hw' => (by clear hw'; have hpc : ¬ (9223372036854775807 < p1.size + d1.size) := (by omega); go_simp; try with_reducible rfl)⟩) B3.out ?_
  try simp only [Act.put, List.setIfInBounds_toArray, List.set_cons_zero, List.set_cons_succ]
  refine anyB_keep (i := 10) (o := ⟨some 23, _, _, _, _, _⟩) (by kernel_rfl) rfl (fun K hK => ?_)
  rw [if_pos (by rfl)]
  go_wp2_with (go_at_call 16; (with_reducible refine (H4.out _ (bstep HB0.out B3.out)).mono ?_); rintro e V ⟨rfl, hb⟩; have B4 := Lib.hid (bstep B3.out hb); clear hb)
  refine hK.out _ _ B4.out ?_
  clear hK K
  try simp only [Act.put, List.setIfInBounds_toArray, List.set_cons_zero, List.set_cons_succ]
  refine anyB_take (i := 11) (oi := ⟨some 6, _, _, _, _, _⟩) (v := _) rfl (by kernel_rfl) (by kernel_rfl) (by kernel_rfl) (by kernel_rfl) (fun _ _ _ h => h) (Or.inl ⟨by rfl, fun w' hw' => (by clear hw'; go_simp; try with_reducible rfl)⟩) B4.out ?_
  try simp only [Act.put, List.setIfInBounds_toArray, List.set_cons_zero, List.set_cons_succ]
  refine anyB_done (by kernel_rfl) ?_ _
  have HB3 := Lib.hid (bstep HB0.out B4.out)
  clear t0' t1' tl
  go_wp2
  go_ret
  exact ⟨rfl, HB3.out⟩
set_option maxRecDepth 100000 in
set_option maxHeartbeats 2000000 in
theorem rMac_long (k s : List UInt8) (hk : 64 < k.length) (hk2 : k.length ≤ 1099511627776) (hs : s.length ≤ 1099511627000) (gs cs gk ck : Nat) (w : World) (hT : Tb w gs gk) :
    Calls Tryd.prog 19 #[.agg #[.slice (some ⟨gs, 0, none⟩) 8 cs, .slice (some ⟨gk, 0, none⟩) 64 ck], .string (bs k), .string (bs s)] w (Ans w (.string (bs (macB k s)))) := by
  obtain ⟨q, hq⟩ : ∃ q, sumB k = q := ⟨_, rfl⟩
  have hq64 : q.length ≤ 64 := by rw [← hq, sumB_length]; decide
  have HCL : Hid (macB k s = sumB (padK q 92 ++ sumB (padK q 54 ++ s))) := Lib.hid (by rw [macB_long k s hk, macS_sum, hq])
  have l1 := padK_len q 92 hq64
  have l2 := padK_len q 54 hq64
  have l3 := sumB_length (padK q 54 ++ s)
  have H1 : Hid (∀ V, Calls Tryd.prog 44 #[.string (bs q), .int .i64 92] V (Ans V (.string (bs (padK q 92))))) := Lib.hid fun V => rchanged (bs q) 92 V hq64
  have H2 : Hid (∀ V, Calls Tryd.prog 44 #[.string (bs q), .int .i64 54] V (Ans V (.string (bs (padK q 54))))) := Lib.hid fun V => rchanged (bs q) 54 V hq64
  have H3 : Hid (∀ V, Below w.heap.size w V → Calls Tryd.prog 16 #[.agg #[.slice (some ⟨gs, 0, none⟩) 8 cs, .slice (some ⟨gk, 0, none⟩) 64 ck], .string (bs (padK q 54) ++ bs s)] V (Ans V (.string (bs (sumB (padK q 54 ++ s)))))) := Lib.hid fun V hV => by
    rw [bs_append]; exact rSum _ (by rw [List.length_append]; omega) gs cs gk ck V (hT.below hV)
  have H4 : Hid (∀ V, Below w.heap.size w V → Calls Tryd.prog 16 #[.agg #[.slice (some ⟨gs, 0, none⟩) 8 cs, .slice (some ⟨gk, 0, none⟩) 64 ck], .string (bs (padK q 92) ++ bs (sumB (padK q 54 ++ s)))] V (Ans V (.string (bs (macB k s))))) := Lib.hid fun V hV => by
    rw [bs_append, HCL.out]; exact rSum _ (by rw [List.length_append]; omega) gs cs gk ck V (hT.below hV)
  have H0 : Hid (∀ V, Below w.heap.size w V → Calls Tryd.prog 16 #[.agg #[.slice (some ⟨gs, 0, none⟩) 8 cs, .slice (some ⟨gk, 0, none⟩) 64 ck], .string (bs k)] V (Ans V (.string (bs q)))) := Lib.hid fun V hV => by
    rw [← hq]; exact rSum k hk2 gs cs gk ck V (hT.below hV)
  obtain ⟨kx, hkx⟩ : ∃ x, bs k = x := ⟨_, rfl⟩
  have kz : 64 < kx.size := by rw [← hkx, bs_size]; exact hk
  have kz2 : kx.size ≤ 1099511627776 := by rw [← hkx, bs_size]; exact hk2
  rw [hkx] at H0 ⊢
  obtain ⟨qx, hqx⟩ : ∃ x, bs q = x := ⟨_, rfl⟩
  rw [hqx] at H0 H1 H2
  clear hkx hk hk2
  obtain ⟨sx, hsx⟩ : ∃ x, bs s = x := ⟨_, rfl⟩
  have sz : sx.size ≤ 1099511627000 := by rw [← hsx, bs_size]; exact hs
  obtain ⟨p1, hp1⟩ : ∃ x, bs (padK q 92) = x := ⟨_, rfl⟩
  have z1 : p1.size ≤ 64 := by rw [← hp1, bs_size]; omega
  obtain ⟨p2, hp2⟩ : ∃ x, bs (padK q 54) = x := ⟨_, rfl⟩
  have z2 : p2.size ≤ 64 := by rw [← hp2, bs_size]; omega
  obtain ⟨d1, hd1⟩ : ∃ x, bs (sumB (padK q 54 ++ s)) = x := ⟨_, rfl⟩
  have z3 : d1.size ≤ 32 := by rw [← hd1, bs_size]; omega
  obtain ⟨rr, hrr⟩ : ∃ x, bs (macB k s) = x := ⟨_, rfl⟩
  rw [hsx, hp2, hd1] at H3
  rw [hp1, hd1, hrr] at H4
  rw [hp1] at H1
  rw [hp2] at H2
  rw [hsx, hrr]
  have t0 : (w.alloc (.cells #[.slice (some ⟨gs, 0, none⟩) 8 cs, .slice (some ⟨gk, 0, none⟩) 64 ck] 27)).cell? ⟨w.heap.size, 0, none⟩ = some (.slice (some ⟨gs, 0, none⟩) 8 cs) := cell_of_row _ _ 0 #[.slice (some ⟨gs, 0, none⟩) 8 cs, .slice (some ⟨gk, 0, none⟩) 64 ck] 27 (0, 0) (heap_alloc_new w _)
  have t1 : (w.alloc (.cells #[.slice (some ⟨gs, 0, none⟩) 8 cs, .slice (some ⟨gk, 0, none⟩) 64 ck] 27)).cell? ⟨w.heap.size, 1, none⟩ = some (.slice (some ⟨gk, 0, none⟩) 64 ck) := cell_of_row _ _ 1 #[.slice (some ⟨gs, 0, none⟩) 8 cs, .slice (some ⟨gk, 0, none⟩) 64 ck] 27 (0, 0) (heap_alloc_new w _)
  clear hq hq64 HCL l1 l2 l3 hT hqx hsx hp1 hp2 hd1 hrr hs
  go_enter Tryd.func19, Tryd.ntmps19
  go_wp2_with (go_at_call 16; (with_reducible refine (H0.out _ ((Below.refl _ _).alloc (Nat.le_refl _) _)).mono ?_); rintro e wo ⟨rfl, hb⟩)
  have HB0 : Hid (Below w.heap.size w wo) := Lib.hid (((Below.refl _ w).alloc (Nat.le_refl _) _).trans (hb.mono (by simp)))
  have tl : w.heap.size < wo.heap.size := by have := hb.size; simp at this; omega
  have t0' := (hb.cell (p := ⟨w.heap.size, 0, none⟩) (by simp)).trans t0
  have t1' := (hb.cell (p := ⟨w.heap.size, 1, none⟩) (by simp)).trans t1
  clear hb t0 t1
  have hB : Below wo.heap.size wo wo.drew := (Below.refl _ wo).drew
  have B0 := Lib.hid hB
  clear hB
  refine region_anyB (fun w' : World => Below wo.heap.size wo w') [] (by kernel_rfl) ?_
  refine anyB_take (i := 0) (oi := ⟨some 13, _, _, _, _, _⟩) (v := _) rfl (by kernel_rfl) (by kernel_rfl) (by kernel_rfl) (by kernel_rfl) (fun _ _ _ h => h) (Or.inl ⟨by rfl, fun w' hw' => (by have e1 := (hw'.cell (p := ⟨w.heap.size, 0, none⟩) tl).trans t0'; have e2 := (hw'.cell (p := ⟨w.heap.size, 1, none⟩) tl).trans t1'; go_simp; try with_reducible rfl)⟩) B0.out ?_
  try simp only [Act.put, List.setIfInBounds_toArray, List.set_cons_zero, List.set_cons_succ]
  refine anyB_take (i := 1) (oi := ⟨some 14, _, _, _, _, _⟩) (v := _) rfl (by kernel_rfl) (by kernel_rfl) (by kernel_rfl) (by kernel_rfl) (fun _ _ _ h => h) (Or.inl ⟨by rfl, fun w' hw' => (by clear hw'; go_simp; try with_reducible rfl)⟩) B0.out ?_
  try simp only [Act.put, List.setIfInBounds_toArray, List.set_cons_zero, List.set_cons_succ]
  refine anyB_take (i := 3) (oi := ⟨some 16, _, _, _, _, _⟩) (v := _) rfl (by kernel_rfl) (by kernel_rfl) (by kernel_rfl) (by kernel_rfl) (fun _ _ _ h => h) (Or.inl ⟨by rfl, fun w' hw' => (by have e1 := (hw'.cell (p := ⟨w.heap.size, 0, none⟩) tl).trans t0'; have e2 := (hw'.cell (p := ⟨w.heap.size, 1, none⟩) tl).trans t1'; go_simp; try with_reducible rfl)⟩) B0.out ?_
  try simp only [Act.put, List.setIfInBounds_toArray, List.set_cons_zero, List.set_cons_succ]
  refine anyB_take (i := 4) (oi := ⟨some 17, _, _, _, _, _⟩) (v := _) rfl (by kernel_rfl) (by kernel_rfl) (by kernel_rfl) (by kernel_rfl) (fun _ _ _ h => h) (Or.inl ⟨by rfl, fun w' hw' => (by clear hw'; go_simp; try with_reducible rfl)⟩) B0.out ?_
  try simp only [Act.put, List.setIfInBounds_toArray, List.set_cons_zero, List.set_cons_succ]
  refine anyB_take (i := 6) (oi := ⟨some 19, _, _, _, _, _⟩) (v := _) rfl (by kernel_rfl) (by kernel_rfl) (by kernel_rfl) (by kernel_rfl) (fun _ _ _ h => h) (Or.inl ⟨by rfl, fun w' hw' => (by clear hw'; go_simp; try with_reducible rfl)⟩) B0.out ?_
  try simp only [Act.put, List.setIfInBounds_toArray, List.set_cons_zero, List.set_cons_succ]
  refine anyB_keep (i := 2) (o := ⟨some 15, _, _, _, _, _⟩) (by kernel_rfl) rfl (fun K hK => ?_)
  rw [if_pos (by rfl)]
  go_wp2_with (go_at_call 44; (with_reducible refine (H1.out _).mono ?_); rintro e V ⟨rfl, hb⟩; have B1 := Lib.hid (bstep B0.out hb); clear hb)
  refine hK.out _ _ B1.out ?_
  clear hK K
  try simp only [Act.put, List.setIfInBounds_toArray, List.set_cons_zero, List.set_cons_succ]
  refine anyB_keep (i := 5) (o := ⟨some 18, _, _, _, _, _⟩) (by kernel_rfl) rfl (fun K hK => ?_)
  rw [if_pos (by rfl)]
  go_wp2_with (go_at_call 44; (with_reducible refine (H2.out _).mono ?_); rintro e V ⟨rfl, hb⟩; have B2 := Lib.hid (bstep B1.out hb); clear hb)
  refine hK.out _ _ B2.out ?_
  clear hK K
  try simp only [Act.put, List.setIfInBounds_toArray, List.set_cons_zero, List.set_cons_succ]
  refine anyB_take (i := 7) (oi := ⟨some 20, _, _, _, _, _⟩) (v := _) rfl (by kernel_rfl) (by kernel_rfl) (by kernel_rfl) (by kernel_rfl) (fun _ _ _ h => h) (Or.inl ⟨by rfl, fun w' hw' => (by clear hw'; have hpc : ¬ (9223372036854775807 < p2.size + sx.size) := (by omega); go_simp; try with_reducible rfl)⟩) B2.out ?_
  try simp only [Act.put, List.setIfInBounds_toArray, List.set_cons_zero, List.set_cons_succ]
  refine anyB_keep (i := 8) (o := ⟨some 21, _, _, _, _, _⟩) (by kernel_rfl) rfl (fun K hK => ?_)
  rw [if_pos (by rfl)]
  go_wp2_with (go_at_call 16; (with_reducible refine (H3.out _ (bstep HB0.out B2.out)).mono ?_); rintro e V ⟨rfl, hb⟩; have B3 := Lib.hid (bstep B2.out hb); clear hb)
  refine hK.out _ _ B3.out ?_
  clear hK K
  try simp only [Act.put, List.setIfInBounds_toArray, List.set_cons_zero, List.set_cons_succ]
  refine anyB_take (i := 9) (oi := ⟨some 22, _, _, _, _, _⟩) (v := _) rfl (by kernel_rfl) (by kernel_rfl) (by kernel_rfl) (by kernel_rfl) (fun _ _ _ h => h) (Or.inl ⟨by rfl, fun w' hw' => (by clear hw'; have hpc : ¬ (9223372036854775807 < p1.size + d1.size) := (by omega); go_simp; try with_reducible rfl)⟩) B3.out ?_
  try simp only [Act.put, List.setIfInBounds_toArray, List.set_cons_zero, List.set_cons_succ]
  refine anyB_keep (i := 10) (o := ⟨some 23, _, _, _, _, _⟩) (by kernel_rfl) rfl (fun K hK => ?_)
  rw [if_pos (by rfl)]
  go_wp2_with (go_at_call 16; (with_reducible refine (H4.out _ (bstep HB0.out B3.out)).mono ?_); rintro e V ⟨rfl, hb⟩; have B4 := Lib.hid (bstep B3.out hb); clear hb)
  refine hK.out _ _ B4.out ?_
  clear hK K
  try simp only [Act.put, List.setIfInBounds_toArray, List.set_cons_zero, List.set_cons_succ]
  refine anyB_take (i := 11) (oi := ⟨some 6, _, _, _, _, _⟩) (v := _) rfl (by kernel_rfl) (by kernel_rfl) (by kernel_rfl) (by kernel_rfl) (fun _ _ _ h => h) (Or.inl ⟨by rfl, fun w' hw' => (by clear hw'; go_simp; try with_reducible rfl)⟩) B4.out ?_
  try simp only [Act.put, List.setIfInBounds_toArray, List.set_cons_zero, List.set_cons_succ]
  refine anyB_done (by kernel_rfl) ?_ _
  have HB3 := Lib.hid (bstep HB0.out B4.out)
  clear t0' t1' tl
  go_wp2
  go_ret
  exact ⟨rfl, HB3.out⟩
theorem rMac (k s : List UInt8) (hk : k.length ≤ 1099511627000) (hs : s.length ≤ 1099511627000) (gs cs gk ck : Nat) (w : World) (hT : Tb w gs gk) :
    Calls Tryd.prog 19 #[.agg #[.slice (some ⟨gs, 0, none⟩) 8 cs, .slice (some ⟨gk, 0, none⟩) 64 ck], .string (bs k), .string (bs s)] w (Ans w (.string (bs (macB k s)))) := by
  by_cases h : 64 < k.length
  · exact rMac_long k s h (by omega) hs gs cs gk ck w hT
  · exact rMac_short k s (by omega) hs gs cs gk ck w hT
set_option maxRecDepth 100000 in
set_option maxHeartbeats 4000000 in
theorem rDerive (s t u : List UInt8) (n : Nat) (hs : s.length ≤ 5000) (ht : t.length ≤ 5000) (hu : u.length ≤ 5000) (hn : n ≤ 255) (gs cs gk ck : Nat) (w : World) (hT : Tb w gs gk) :
    Calls Tryd.prog 29 #[.agg #[.slice (some ⟨gs, 0, none⟩) 8 cs, .slice (some ⟨gk, 0, none⟩) 64 ck], .string (bs s), .string (bs t), .string (bs u), .int .i64 (n : Int)] w (Ans w (.string (bs (derB s t u n)))) := by
  obtain ⟨key, hkey⟩ : ∃ key, macB t s = key := ⟨_, rfl⟩
  have hkl : key.length = 32 := by rw [← hkey]; exact macB_length _ _
  have H1 : Hid (∀ V, Below w.heap.size w V → Calls Tryd.prog 19 #[.agg #[.slice (some ⟨gs, 0, none⟩) 8 cs, .slice (some ⟨gk, 0, none⟩) 64 ck], .string (bs t), .string (bs s)] V (Ans V (.string (bs key)))) := Lib.hid fun V hV => by
    rw [← hkey]; exact rMac t s (by omega) (by omega) gs cs gk ck V (hT.below hV)
  have H2 : Hid (∀ k V, Below w.heap.size w V → Calls Tryd.prog 19 #[.agg #[.slice (some ⟨gs, 0, none⟩) 8 cs, .slice (some ⟨gk, 0, none⟩) 64 ck], .string (bs key), .string (bs (tagL key u k) ++ bs u ++ ⟨#[UInt8.ofNat (k + 1)]⟩)] V (Ans V (.string (bs (tagL key u (k + 1)))))) := Lib.hid fun k V hV => by
    have := tagL_le key u k
    rw [bs_append, show (⟨#[UInt8.ofNat (k + 1)]⟩ : ByteArray) = bs [UInt8.ofNat (k + 1)] from rfl, bs_append]
    exact rMac key _ (by omega) (by simp only [List.length_append, List.length_singleton]; omega) gs cs gk ck V (hT.below hV)
  have HDER : Hid (derB s t u n = (outL key u 8).take n) := Lib.hid (by unfold derB; rw [hkey])
  have huz : (bs u).size ≤ 5000 := by rw [bs_size]; exact hu
  obtain ⟨ux, hux⟩ : ∃ x, bs u = x := ⟨_, rfl⟩
  obtain ⟨tx, htx⟩ : ∃ x, bs t = x := ⟨_, rfl⟩
  obtain ⟨sx, hsx⟩ : ∃ x, bs s = x := ⟨_, rfl⟩
  obtain ⟨kx, hkx⟩ : ∃ x, bs key = x := ⟨_, rfl⟩
  obtain ⟨res, hres⟩ : ∃ x, bs (derB s t u n) = x := ⟨_, rfl⟩
  have HRES := Lib.hid hres
  rw [hux] at H2 huz ⊢
  rw [htx, hsx, hkx] at H1
  rw [hkx] at H2
  rw [htx, hsx, hres]
  have t0 : (w.alloc (.cells #[.slice (some ⟨gs, 0, none⟩) 8 cs, .slice (some ⟨gk, 0, none⟩) 64 ck] 27)).cell? ⟨w.heap.size, 0, none⟩ = some (.slice (some ⟨gs, 0, none⟩) 8 cs) := cell_of_row _ _ 0 #[.slice (some ⟨gs, 0, none⟩) 8 cs, .slice (some ⟨gk, 0, none⟩) 64 ck] 27 (0, 0) (heap_alloc_new w _)
  have t1 : (w.alloc (.cells #[.slice (some ⟨gs, 0, none⟩) 8 cs, .slice (some ⟨gk, 0, none⟩) 64 ck] 27)).cell? ⟨w.heap.size, 1, none⟩ = some (.slice (some ⟨gk, 0, none⟩) 64 ck) := cell_of_row _ _ 1 #[.slice (some ⟨gs, 0, none⟩) 8 cs, .slice (some ⟨gk, 0, none⟩) 64 ck] 27 (0, 0) (heap_alloc_new w _)
  clear hkey hkl hux htx hsx hkx hres hT hs ht hu
  go_enter Tryd.func29, Tryd.ntmps29
  go_wp2_with (go_at_call 19; (with_reducible refine (H1.out _ ((Below.refl _ _).alloc (Nat.le_refl _) _)).mono ?_); rintro e wo ⟨rfl, hb⟩)
  have HB0 : Hid (Below w.heap.size w wo) := Lib.hid (((Below.refl _ w).alloc (Nat.le_refl _) _).trans (hb.mono (by simp)))
  have htl : w.heap.size < wo.heap.size := by have := hb.size; simp at this; omega
  have ht0 := (hb.cell (p := ⟨w.heap.size, 0, none⟩) (by simp)).trans t0
  have ht1 := (hb.cell (p := ⟨w.heap.size, 1, none⟩) (by simp)).trans t1
  have HT0 := Lib.hid ht0
  have HT1 := Lib.hid ht1
  have HTL := Lib.hid htl
  clear hb t0 t1 ht0 ht1 htl H1
  go_loopw [12, 13, 14] (fun o l i wr => ∃ k : Nat, k ≤ 8 ∧ i = .int .i64 ((k : Int) + 1) ∧ l = .string (bs (tagL key u k)) ∧ o = .string (bs (outL key u k)) ∧ Hid (Below wo.heap.size wo wr)) (fun _ _ i _ => 9 - (intOf i).toNat)
  case atStart => exact ⟨0, by omega, rfl, rfl, rfl, Lib.hid (Below.refl _ _)⟩
  case round =>
    obtain ⟨k, hk, rfl, rfl, rfl, HB⟩ := hrel
    have hol : (bs (outL key u k)).size = 32 * k := by rw [bs_size, outL_len]
    by_cases hlt : 32 * k < n
    · have htg := tagL_le key u k
      have h8 : k < 8 := by omega
      have HOUT : Hid (outL key u (k + 1) = outL key u k ++ tagL key u (k + 1)) := Lib.hid rfl
      have htl1 : (bs (tagL key u k)).size ≤ 32 := by rw [bs_size]; exact htg
      have htl2 : (bs (tagL key u (k + 1))).size ≤ 32 := by rw [bs_size]; exact tagL_le key u (k + 1)
      have hc := H2.out k
      obtain ⟨lx, hlx⟩ : ∃ x, bs (tagL key u k) = x := ⟨_, rfl⟩
      obtain ⟨ly, hly⟩ : ∃ x, bs (tagL key u (k + 1)) = x := ⟨_, rfl⟩
      obtain ⟨ox, hox⟩ : ∃ x, bs (outL key u k) = x := ⟨_, rfl⟩
      rw [hlx] at hc htl1 ⊢
      rw [hly] at hc htl2
      have hone := one_string wr (k + 1) (by omega) ((k : Int) + 1) (by omega)
      obtain ⟨ob, hob⟩ : ∃ x : ByteArray, ⟨#[UInt8.ofNat (k + 1)]⟩ = x := ⟨_, rfl⟩
      have hob1 : ob.size ≤ 1 := by rw [← hob]; exact Nat.le_refl _
      rw [hob] at hc hone
      rw [hox] at hol ⊢
      have hoi : (ox.size : Int) < (n : Int) := by omega
      have ho9 : ox.size ≤ 256 := by omega
      have HC := Lib.hid hc
      have HLX := Lib.hid hlx
      have HLY := Lib.hid hly
      have HOX := Lib.hid hox
      have htl := Nat.lt_of_lt_of_le HTL.out HB.out.size
      have t0 := (HB.out.cell (p := ⟨w.heap.size, 0, none⟩) HTL.out).trans HT0.out
      have t1 := (HB.out.cell (p := ⟨w.heap.size, 1, none⟩) HTL.out).trans HT1.out
      have hu8 : IntKind.u8.wrap ((k : Int) + 1) = (k : Int) + 1 := by rw [IntKind.wrap_u8']; omega
      have hz := HB.out.size
      clear hc hlx hly hox hlt hol htg hob
      go_wp2_with (go_at_call 19; (with_reducible refine (HC.out _ (bstep HB0.out (bel_al HB.out hz _))).mono ?_); rintro e w2 ⟨rfl, hb⟩)
      have HB2 := Lib.hid (bstep (bel_al HB.out hz _) hb)
      clear hb t0 t1 htl
      go_roundw
      case rel => exact ⟨k + 1, by omega, by go_num, by rw [HLY.out], by rw [HOUT.out, ← bs_append, HOX.out, HLY.out], HB2⟩
      case measure => simp [intOf]; omega
    · have HTK : Hid ((bs (outL key u k)).extract 0 n = res) := Lib.hid (by rw [bs_take, outL_take key u n k (by omega) hk, ← HDER.out, HRES.out])
      obtain ⟨ox, hox⟩ : ∃ x, bs (outL key u k) = x := ⟨_, rfl⟩
      rw [hox] at hol HTK ⊢
      have hoi : (n : Int) ≤ (ox.size : Int) := by omega
      have ho9 : ox.size ≤ 256 := by omega
      have hsl : ∀ wx : World, (Instr.slice 9 (.string ox) none (some (.int .i64 (n : Int))) none).run Tryd.prog wx = .ok (.string res) wx := fun wx => by
        have := run_slice_string_h (P := Tryd.prog) (w := wx) (t := 9) (s := ox) Tryd.underlying9 .i64 (n : Int) (by omega) (by omega)
        rw [this, ← HTK.out, Int.toNat_natCast]
      clear hox hol hlt
      go_wp2
      go_ret
      exact ⟨rfl, bstep HB0.out HB.out⟩
end Go.Proofs.YtfdeegafdaobdaaDoor
