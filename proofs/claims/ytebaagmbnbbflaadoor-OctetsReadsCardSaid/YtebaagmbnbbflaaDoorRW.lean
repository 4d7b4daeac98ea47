/- OctetsReads returns true. -/
import Derived.Test.YtebaagmbnbbflaaDoorL
import Derived.Test.YtebaagmbnbbflaaDoorTX
import Derived.Test.YtebaagmbnbbflaaDoorY
import Derived.Test.YtebaagmbnbbflaaDoorRR
import Derived.StillTailTactics
import Derived.BigQuiet
import Derived.Deep.QuietTactic
namespace Go.Proofs.YtebaagmbnbbflaaDoor
open Go.RowKit Go.ChangeShapes

theorem idx26 (z : ByteArray) (a b : Int) (j : Nat) (hj : j < 2) : ∃ X : Int, ∀ w : World, (Instr.index 26 (.agg #[.string z, .int .i64 a, .string z, .int .i64 b]) (.int .i64 (j : Int))).run Tryd.prog w = .ok (.agg #[.string z, .int .i64 X]) w := by
  match j, hj with
  | 0, _ => exact ⟨a, fun w => by kernel_rfl⟩
  | 1, _ => exact ⟨b, fun w => by kernel_rfl⟩
  | n + 2, h => exact absurd h (by omega)
theorem idx33 (a b : Int) (j : Nat) (hj : j < 2) : ∃ X : Int, ∀ w : World, (Instr.index 33 (.agg #[.int .i64 a, .int .i64 b]) (.int .i64 (j : Int))).run Tryd.prog w = .ok (.int .i64 X) w := by
  match j, hj with
  | 0, _ => exact ⟨a, fun w => by kernel_rfl⟩
  | 1, _ => exact ⟨b, fun w => by kernel_rfl⟩
  | n + 2, h => exact absurd h (by omega)
/-- A box of two cells lies below the heap's end, and may be written. -/
structure Box (W : World) (b : Nat) (x y : Value) : Prop where
  lt : b < W.heap.size
  c0 : W.cell? ⟨b, 0, none⟩ = some x
  c1 : W.cell? ⟨b, 1, none⟩ = some y
  f0 : W.frozen? ⟨b, 0, none⟩ = false
  f1 : W.frozen? ⟨b, 1, none⟩ = false
theorem Box.below {W W' : World} {b : Nat} {x y : Value} (h : Box W b x y) (hb : Below W.heap.size W W') : Box W' b x y :=
  ⟨Nat.lt_of_lt_of_le h.lt hb.size, (hb.cell (p := ⟨b, 0, none⟩) h.lt).trans h.c0, (hb.cell (p := ⟨b, 1, none⟩) h.lt).trans h.c1, (hb.frozen (p := ⟨b, 0, none⟩) h.lt).trans h.f0, (hb.frozen (p := ⟨b, 1, none⟩) h.lt).trans h.f1⟩
theorem Box.alloc {W : World} {b : Nat} {x y : Value} (h : Box W b x y) (o : Obj) : Box (W.alloc o) b x y := h.below ((Below.refl _ _).alloc (Nat.le_refl _) o)
theorem Box.new (W : World) (x y : Value) (t : TypeId) : Box (W.alloc (.cells #[x, y] t)) W.heap.size x y :=
  ⟨by simp, by rw [World.cell?_alloc_at _ _ _ _ rfl]; rfl, by rw [World.cell?_alloc_at _ _ _ _ rfl]; rfl, World.frozen?_alloc_at _ _ _ _ rfl, World.frozen?_alloc_at _ _ _ _ rfl⟩
theorem Box.stored {W : World} {b : Nat} {x y : Value} (h : Box W b x y) (x' y' : Value) : Box ((W.setCell ⟨b, 0, none⟩ x').setCell ⟨b, 1, none⟩ y') b x' y' := by
  have e1 : (W.setCell ⟨b, 0, none⟩ x').cell? ⟨b, 1, none⟩ = some y := (World.cell?_setCell_other _ _ _ _ (by simp)).trans h.c1
  refine ⟨by simpa [World.setCell] using h.lt, ?_, ?_, ?_, ?_⟩
  · rw [World.cell?_setCell_other _ _ _ _ (by simp)]
    exact World.cell?_setCell_same' _ _ _ (by rw [h.c0]; rfl)
  · exact World.cell?_setCell_same' _ _ _ (by rw [e1]; rfl)
  · simp [h.f0]
  · simp [h.f1]
theorem Box.far {W : World} {b d : Nat} {x y u v : Value} (h : Box W b x y) (hd : d ≠ b) : Box ((W.setCell ⟨d, 0, none⟩ u).setCell ⟨d, 1, none⟩ v) b x y := by
  refine ⟨by simpa [World.setCell] using h.lt, ?_, ?_, ?_, ?_⟩
  · rw [World.cell?_setCell_other _ _ _ _ (by intro e; injection e with e1; exact hd (by first | exact e1 | exact e1.symm)), World.cell?_setCell_other _ _ _ _ (by intro e; injection e with e1; exact hd (by first | exact e1 | exact e1.symm))]
    exact h.c0
  · rw [World.cell?_setCell_other _ _ _ _ (by intro e; injection e with e1; exact hd (by first | exact e1 | exact e1.symm)), World.cell?_setCell_other _ _ _ _ (by intro e; injection e with e1; exact hd (by first | exact e1 | exact e1.symm))]
    exact h.c1
  · simp [h.f0]
  · simp [h.f1]
theorem Box.drewN {W : World} {b : Nat} {x y : Value} (h : Box W b x y) (n : Nat) : Box (W.drewN n) b x y := ⟨h.lt, h.c0, h.c1, h.f0, h.f1⟩
theorem Box.drew {W : World} {b : Nat} {x y : Value} (h : Box W b x y) : Box W.drew b x y := ⟨h.lt, h.c0, h.c1, h.f0, h.f1⟩
theorem bel_alloc {w W : World} (h : Below w.heap.size w W) (o : Obj) : Below w.heap.size w (W.alloc o) := h.alloc h.size o
theorem bel_set2 {w W : World} {b : Nat} (h : Below w.heap.size w W) (hb : w.heap.size ≤ b) (u v : Value) : Below w.heap.size w ((W.setCell ⟨b, 0, none⟩ u).setCell ⟨b, 1, none⟩ v) :=
  (h.setCell (p := ⟨b, 0, none⟩) hb u).setCell (p := ⟨b, 1, none⟩) hb v
theorem Box.new_at (W : World) (x y : Value) (t : TypeId) (n : Nat) (hn : n = W.heap.size) : Box (W.alloc (.cells #[x, y] t)) n x y := by subst hn; exact Box.new W x y t
theorem take_I_ok (z : ByteArray) (X M : Int) (S : ByteArray) (w : World) (hs : z.size ≤ maxLen) (h0 : 0 ≤ X) (hM : 0 ≤ M) (h2 : X + M ≤ z.size) (hS : z.extract X.toNat (X + M).toNat = S) :
    Calls Tryd.prog 15 #[.agg #[.string z, .int .i64 X], .int .i64 M] w fun e w' => e = .returned (.tuple #[.string S, .agg #[.string z, .int .i64 (X + M)], .int .i64 0]) ∧ Below w.heap.size w w' := by
  obtain ⟨a, rfl⟩ := Int.eq_ofNat_of_zero_le h0
  obtain ⟨m, rfl⟩ := Int.eq_ofNat_of_zero_le hM
  subst hS
  have := take_ok z a m w hs (by omega)
  rwa [Int.natCast_add] at this
theorem uint_I_ok (z : ByteArray) (X M : Int) (V : Int) (w : World) (hs : z.size ≤ maxLen) (h0 : 0 ≤ X) (h1 : 1 ≤ M) (h7 : M ≤ 7) (h2 : X + M ≤ z.size) (hV : ((beN (z.extract X.toNat (X + M).toNat).data.toList : Nat) : Int) = V) :
    Calls Tryd.prog 16 #[.agg #[.string z, .int .i64 X], .int .i64 M] w fun e w' => e = .returned (.tuple #[.int .i64 V, .agg #[.string z, .int .i64 (X + M)], .int .i64 0]) ∧ Below w.heap.size w w' := by
  obtain ⟨a, rfl⟩ := Int.eq_ofNat_of_zero_le h0
  obtain ⟨m, rfl⟩ := Int.eq_ofNat_of_zero_le (show 0 ≤ M by omega)
  subst hV
  have := uint_ok z a m w hs (by omega) (by omega) (by omega)
  rwa [Int.natCast_add] at this
theorem refTake_I (z : ByteArray) (X M : Int) (S : ByteArray) (w : World) (hs : z.size ≤ maxLen) (h0 : 0 ≤ X) (hM : 0 ≤ M) (h2 : X + M ≤ z.size) (hS : z.extract X.toNat (X + M).toNat = S) :
    Calls Tryd.prog 20 #[.agg #[.string z, .int .i64 X], .int .i64 M] w fun e w' => e = .returned (.tuple #[.string S, .agg #[.string z, .int .i64 (X + M)]]) ∧ Below w.heap.size w w' := by
  obtain ⟨a, rfl⟩ := Int.eq_ofNat_of_zero_le h0
  obtain ⟨m, rfl⟩ := Int.eq_ofNat_of_zero_le hM
  subst hS
  have := refTake_ok z a m w hs (by omega)
  rwa [Int.natCast_add] at this
theorem refNumber_I (S : ByteArray) (V : Int) (w : World) (hs : S.size ≤ 7) (hV : ((beN S.data.toList : Nat) : Int) = V) :
    Calls Tryd.prog 22 #[.string S] w fun e w' => e = .returned (.int .i64 V) ∧ w = w' := by
  subst hV; exact refNumber_any S w hs
theorem cut_len (z : ByteArray) (X M : Int) (h0 : 0 ≤ X) (hM : 0 ≤ M) (h7 : M ≤ 7) : (z.extract X.toNat (X + M).toNat).size ≤ 7 := by
  rw [ByteArray.size_extract]; omega

set_option maxRecDepth 1000000 in
set_option maxHeartbeats 40000000 in
theorem reads_true (s : ByteArray) (A n p k : Int) (w : World) (hD : Digits w) (hs : s.size ≤ maxLen) (hp0 : 0 ≤ p) (hp1 : p ≤ 65535) (hk0 : 0 ≤ k) (hk1 : k ≤ 255) :
    Calls Tryd.prog 3 #[.agg #[.string s, .int .i64 A], .int .i64 n, .int .u16 p, .int .u8 k] w fun e w' => e = .returned (.bool true) ∧ Below w.heap.size w w' := by
  have HD := Lib.hid hD
  clear hD
  have hcs := cut_any s
  unfold maxLen at hs
  go_enter Tryd.func3, Tryd.ntmps3
  go_wp2_with fail
  refine (works_true _ (HD.out.alloc _)).mono ?_
  rintro e W1 ⟨rfl, h1⟩
  have b1 := (Box.new w (.string s) (.int .i64 A) 23).below h1
  have B1 : Below w.heap.size w W1 := bstep (by go_grown) h1
  obtain ⟨l1, c10, c11, f10, f11⟩ := b1
  clear h1
  go_wp2_with fail
  generalize s.extract 0 (min (s.size : Int) 300).toNat = z at hcs ⊢
  have hzm : z.size ≤ maxLen := by unfold maxLen; omega
  have d0 : (W1.setCell ⟨w.heap.size, 0, none⟩ (.string z)).cell? ⟨w.heap.size, 0, none⟩ = some (.string z) := World.cell?_setCell_same' _ _ _ (by rw [c10]; rfl)
  have d1 : (W1.setCell ⟨w.heap.size, 0, none⟩ (.string z)).cell? ⟨w.heap.size, 1, none⟩ = some (.int .i64 A) := (World.cell?_setCell_other _ _ _ _ (by simp)).trans c11
  have B2 : Below w.heap.size w (W1.setCell ⟨w.heap.size, 0, none⟩ (.string z)) := B1.setCell (p := ⟨w.heap.size, 0, none⟩) (Nat.le_refl _) _
  clear c10 c11 f10 f11 l1 B1
  generalize W1.setCell ⟨w.heap.size, 0, none⟩ (.string z) = W2 at d0 d1 B2 ⊢
  have hwr : IntKind.i64.wrap ((z.size : Int) + 1) = (z.size : Int) + 1 := IntWalk.i64_in _ ⟨by omega, by omega⟩
  have hq0 : (0 : Int) ≤ (z.size : Int) + 1 := by omega
  have hq1 : ((z.size : Int) + 1 == 0) = false := by simp; omega
  have hq2 : p.tmod ((z.size : Int) + 1) = p % ((z.size : Int) + 1) := Int.tmod_eq_emod_of_nonneg hp0
  go_quiet (fail)
  go_wp2
  have B3 := fun q => bel_drewN B2 q
  go_loopw [54] (fun i wr => ∃ j : Nat, j ≤ 2 ∧ i = .int .i64 j ∧ Below w.heap.size w wr) (fun i _ => 2 - (intOf i).toNat)
  case atStart => exact ⟨0, by omega, rfl, B3 _⟩
  case round =>
    obtain ⟨j, hj, rfl, hB⟩ := hrel
    obtain ⟨wo, rfl⟩ : ∃ wo : World, wo = wr := ⟨_, rfl⟩
    have hz := hB.size
    clear d0 d1 B2 B3
    by_cases hlt : j < 2
    · obtain ⟨X, hidx⟩ := idx26 z A (p % ((z.size : Int) + 1)) j hlt
      clear hq0 hq1 hq2 hwr
      by_cases hr : 0 ≤ X ∧ X ≤ z.size
      · obtain ⟨x0, x1⟩ := hr
        go_wp2_with fail
        refine (refRight_yes z X _ hzm x0 x1).mono ?_
        rintro e Wa ⟨rfl, hWa⟩
        have o_Wa : Box Wa (wo.heap.size) (.string z) (.int .i64 X) := (Box.new_at _ _ _ _ (wo.heap.size) (by simp)).below hWa
        have BWa : Below w.heap.size w Wa := bstep (bel_alloc hB _) hWa
        have zWa := BWa.size
        have yWa := hWa.size
        (try simp at yWa)
        clear hWa
        obtain ⟨o_Wal, o_Wac0, o_Wac1, o_Waf0, o_Waf1⟩ := id o_Wa
        go_wp2_with fail
        refine (refLeft_any z X _ hzm x0 x1).mono ?_
        rintro e Wb ⟨rfl, hWb⟩
        have o_Wb : Box Wb (wo.heap.size) (.string z) (.int .i64 X) := o_Wa.below hWb
        have BWb : Below w.heap.size w Wb := bstep BWa hWb
        have zWb := BWb.size
        have yWb := hWb.size
        (try simp at yWb)
        clear o_Wac0 o_Wac1 o_Waf0 o_Waf1
        clear hWb
        obtain ⟨o_Wbl, o_Wbc0, o_Wbc1, o_Wbf0, o_Wbf1⟩ := id o_Wb
        go_wp2_with fail
        refine (left_yes z X _ hzm x0 x1).mono ?_
        rintro e Wc ⟨rfl, hWc⟩
        have o_Wc : Box Wc (wo.heap.size) (.string z) (.int .i64 X) := o_Wb.below hWc
        have BWc : Below w.heap.size w Wc := bstep BWb hWc
        have zWc := BWc.size
        have yWc := hWc.size
        (try simp at yWc)
        clear o_Wbc0 o_Wbc1 o_Wbf0 o_Wbf1
        clear hWc
        obtain ⟨o_Wcl, o_Wcc0, o_Wcc1, o_Wcf0, o_Wcf1⟩ := id o_Wc
        go_wp2_with fail
        refine (check_yes z X _ hzm x0 x1).mono ?_
        rintro e Wd ⟨rfl, hWd⟩
        have o_Wd : Box Wd (wo.heap.size) (.string z) (.int .i64 X) := o_Wc.below hWd
        have BWd : Below w.heap.size w Wd := bstep BWc hWd
        have zWd := BWd.size
        have yWd := hWd.size
        (try simp at yWd)
        clear o_Wcc0 o_Wcc1 o_Wcf0 o_Wcf1
        clear hWd
        obtain ⟨o_Wdl, o_Wdc0, o_Wdc1, o_Wdf0, o_Wdf1⟩ := id o_Wd
        go_wp2_with fail
        go_loopw [86] (fun i wi => ∃ j2 : Nat, j2 ≤ 2 ∧ i = .int .i64 j2 ∧ Box wi wo.heap.size (.string z) (.int .i64 X) ∧ Below w.heap.size w wi) (fun i _ => 2 - (intOf i).toNat)
        case atStart => exact ⟨0, by omega, rfl, o_Wd, BWd⟩
        case round =>
          obtain ⟨j2, hj2, rfl, o_wr, Bwr⟩ := hrel
          have zwr := Bwr.size
          clear o_Wdc0 o_Wdc1 o_Wdf0 o_Wdf1 yWa yWb yWc yWd zWa zWb zWc zWd
          by_cases h2 : j2 < 2
          · obtain ⟨M, hidx2⟩ := idx33 n (k % 12) j2 h2
            by_cases m0 : 0 ≤ M
            · obtain ⟨S, hS⟩ : ∃ S, z.extract X.toNat (X + M).toNat = S := ⟨_, rfl⟩
              have HS := Lib.hid hS
              clear hS
              have t1 : decide (M < 0) = false := by simp; omega
              by_cases m1 : 1 ≤ M
              · have t2 : decide (M < 1) = false := by simp; omega
                by_cases m7 : M ≤ 7
                · have t3 : decide (7 < M) = false := by simp; omega
                  by_cases ms : z.size - X < M
                  · have t4 : decide (z.size - X < M) = true := by simp; omega
                    cases hu : unitB M
                    · have HU := Lib.hid hu
                      clear hu
                      as_aux_lemma =>
                        obtain ⟨o_wrl, o_wrc0, o_wrc1, o_wrf0, o_wrf1⟩ := id o_wr
                        go_wp2_with fail
                        refine (take_short z X M _ hzm x0 x1 m0 ms).mono ?_
                        rintro e We ⟨rfl, hWe⟩
                        have o_We : Box We (wo.heap.size) (.string z) (.int .i64 X) := o_wr.below hWe
                        have BWe : Below w.heap.size w We := bstep Bwr hWe
                        have zWe := BWe.size
                        have yWe := hWe.size
                        (try simp at yWe)
                        clear o_wrc0 o_wrc1 o_wrf0 o_wrf1
                        clear hWe
                        obtain ⟨o_Wel, o_Wec0, o_Wec1, o_Wef0, o_Wef1⟩ := id o_We
                        go_wp2_with fail
                        refine (uint_short z X M _ hzm x0 x1 m1 m7 ms).mono ?_
                        rintro e Wf ⟨rfl, hWf⟩
                        have o_Wf : Box Wf (wo.heap.size) (.string z) (.int .i64 X) := (o_We.alloc _).below hWf
                        have t_Wf : Box Wf (We.heap.size) (.string ByteArray.empty) (.int .i64 0) := (Box.new_at _ _ _ _ (We.heap.size) (by simp)).below hWf
                        have BWf : Below w.heap.size w Wf := bstep (bel_alloc BWe _) hWf
                        have zWf := BWf.size
                        have yWf := hWf.size
                        (try simp at yWf)
                        clear o_Wec0 o_Wec1 o_Wef0 o_Wef1
                        clear hWf
                        obtain ⟨o_Wfl, o_Wfc0, o_Wfc1, o_Wff0, o_Wff1⟩ := id o_Wf
                        obtain ⟨t_Wfl, t_Wfc0, t_Wfc1, t_Wff0, t_Wff1⟩ := id t_Wf
                        go_wp2_with fail
                        refine (skip_unit z X M _ hzm x0 x1 HU.out).mono ?_
                        rintro e Wg ⟨rfl, hWg⟩
                        have o_Wg : Box Wg (wo.heap.size) (.string z) (.int .i64 X) := (o_Wf.alloc _).below hWg
                        have t_Wg : Box Wg (We.heap.size) (.string ByteArray.empty) (.int .i64 0) := (t_Wf.alloc _).below hWg
                        have u_Wg : Box Wg (Wf.heap.size) (.string ByteArray.empty) (.int .i64 0) := (Box.new_at _ _ _ _ (Wf.heap.size) (by simp)).below hWg
                        have BWg : Below w.heap.size w Wg := bstep (bel_alloc BWf _) hWg
                        have zWg := BWg.size
                        have yWg := hWg.size
                        (try simp at yWg)
                        clear o_Wfc0 o_Wfc1 o_Wff0 o_Wff1 t_Wfc0 t_Wfc1 t_Wff0 t_Wff1
                        clear hWg
                        obtain ⟨o_Wgl, o_Wgc0, o_Wgc1, o_Wgf0, o_Wgf1⟩ := id o_Wg
                        obtain ⟨t_Wgl, t_Wgc0, t_Wgc1, t_Wgf0, t_Wgf1⟩ := id t_Wg
                        obtain ⟨u_Wgl, u_Wgc0, u_Wgc1, u_Wgf0, u_Wgf1⟩ := id u_Wg
                        go_wp2_with fail
                        refine (unit_is M false _ HU.out).mono ?_
                        rintro e Y1 ⟨rfl, rfl⟩
                        go_wp2_with fail
                        go_quiet (fail)
                        go_wp2_with fail
                        refine (refNone_any _).mono ?_
                        rintro e Wi ⟨rfl, hWi⟩
                        have o_Wi : Box Wi (wo.heap.size) (.string z) (.int .i64 X) := (((o_Wg.alloc _).drewN _).alloc _).below hWi
                        have t_Wi : Box Wi (We.heap.size) (.string ByteArray.empty) (.int .i64 0) := (((t_Wg.alloc _).drewN _).alloc _).below hWi
                        have u_Wi : Box Wi (Wf.heap.size) (.string ByteArray.empty) (.int .i64 0) := (((u_Wg.alloc _).drewN _).alloc _).below hWi
                        have v_Wi : Box Wi (Wg.heap.size) (.string ByteArray.empty) (.int .i64 0) := (((Box.new_at _ _ _ _ (Wg.heap.size) (by simp)).drewN _).alloc _).below hWi
                        have r_Wi : Box Wi (Wg.heap.size + 1) (.string ⟨#[]⟩) (.int .i64 0) := (Box.new_at _ _ _ _ (Wg.heap.size + 1) (by simp)).below hWi
                        have BWi : Below w.heap.size w Wi := bstep (bel_alloc (bel_drewN (bel_alloc BWg _) _) _) hWi
                        have zWi := BWi.size
                        have yWi := hWi.size
                        (try simp at yWi)
                        clear o_Wgc0 o_Wgc1 o_Wgf0 o_Wgf1 t_Wgc0 t_Wgc1 t_Wgf0 t_Wgf1 u_Wgc0 u_Wgc1 u_Wgf0 u_Wgf1
                        clear hWi
                        obtain ⟨o_Wil, o_Wic0, o_Wic1, o_Wif0, o_Wif1⟩ := id o_Wi
                        obtain ⟨t_Wil, t_Wic0, t_Wic1, t_Wif0, t_Wif1⟩ := id t_Wi
                        obtain ⟨u_Wil, u_Wic0, u_Wic1, u_Wif0, u_Wif1⟩ := id u_Wi
                        obtain ⟨v_Wil, v_Wic0, v_Wic1, v_Wif0, v_Wif1⟩ := id v_Wi
                        obtain ⟨r_Wil, r_Wic0, r_Wic1, r_Wif0, r_Wif1⟩ := id r_Wi
                        go_wp2_with fail
                        refine (refNone_any _).mono ?_
                        rintro e Wk ⟨rfl, hWk⟩
                        have o_Wk : Box Wk (wo.heap.size) (.string z) (.int .i64 X) := (o_Wi.far (by omega)).below hWk
                        have t_Wk : Box Wk (We.heap.size) (.string ByteArray.empty) (.int .i64 0) := (t_Wi.far (by omega)).below hWk
                        have u_Wk : Box Wk (Wf.heap.size) (.string ByteArray.empty) (.int .i64 0) := (u_Wi.far (by omega)).below hWk
                        have v_Wk : Box Wk (Wg.heap.size) (.string ByteArray.empty) (.int .i64 0) := (v_Wi.far (by omega)).below hWk
                        have r_Wk : Box Wk (Wg.heap.size + 1) (.string ByteArray.empty) (.int .i64 0) := (r_Wi.stored _ _).below hWk
                        have BWk : Below w.heap.size w Wk := bstep (bel_set2 BWi (by omega) _ _) hWk
                        have zWk := BWk.size
                        have yWk := hWk.size
                        (try simp at yWk)
                        clear o_Wic0 o_Wic1 o_Wif0 o_Wif1 t_Wic0 t_Wic1 t_Wif0 t_Wif1 u_Wic0 u_Wic1 u_Wif0 u_Wif1 v_Wic0 v_Wic1 v_Wif0 v_Wif1 r_Wic0 r_Wic1 r_Wif0 r_Wif1
                        clear hWk
                        obtain ⟨o_Wkl, o_Wkc0, o_Wkc1, o_Wkf0, o_Wkf1⟩ := id o_Wk
                        obtain ⟨t_Wkl, t_Wkc0, t_Wkc1, t_Wkf0, t_Wkf1⟩ := id t_Wk
                        obtain ⟨u_Wkl, u_Wkc0, u_Wkc1, u_Wkf0, u_Wkf1⟩ := id u_Wk
                        obtain ⟨v_Wkl, v_Wkc0, v_Wkc1, v_Wkf0, v_Wkf1⟩ := id v_Wk
                        obtain ⟨r_Wkl, r_Wkc0, r_Wkc1, r_Wkf0, r_Wkf1⟩ := id r_Wk
                        go_wp2_with fail
                        go_roundw
                        case rel => exact ⟨j2 + 1, by omega, by go_num, (o_Wk.far (by omega)), (bel_set2 BWk (by omega) _ _)⟩
                        case measure => simp [intOf]; omega
                    · have HU := Lib.hid hu
                      clear hu
                      by_cases hup : (z.size : Int) < upTo X M
                      · have ks := hup
                        have t5 : decide ((z.size : Int) < upTo X M) = true := by simpa using hup
                        as_aux_lemma =>
                          obtain ⟨o_wrl, o_wrc0, o_wrc1, o_wrf0, o_wrf1⟩ := id o_wr
                          go_wp2_with fail
                          refine (take_short z X M _ hzm x0 x1 m0 ms).mono ?_
                          rintro e We ⟨rfl, hWe⟩
                          have o_We : Box We (wo.heap.size) (.string z) (.int .i64 X) := o_wr.below hWe
                          have BWe : Below w.heap.size w We := bstep Bwr hWe
                          have zWe := BWe.size
                          have yWe := hWe.size
                          (try simp at yWe)
                          clear o_wrc0 o_wrc1 o_wrf0 o_wrf1
                          clear hWe
                          obtain ⟨o_Wel, o_Wec0, o_Wec1, o_Wef0, o_Wef1⟩ := id o_We
                          go_wp2_with fail
                          refine (uint_short z X M _ hzm x0 x1 m1 m7 ms).mono ?_
                          rintro e Wf ⟨rfl, hWf⟩
                          have o_Wf : Box Wf (wo.heap.size) (.string z) (.int .i64 X) := (o_We.alloc _).below hWf
                          have t_Wf : Box Wf (We.heap.size) (.string ByteArray.empty) (.int .i64 0) := (Box.new_at _ _ _ _ (We.heap.size) (by simp)).below hWf
                          have BWf : Below w.heap.size w Wf := bstep (bel_alloc BWe _) hWf
                          have zWf := BWf.size
                          have yWf := hWf.size
                          (try simp at yWf)
                          clear o_Wec0 o_Wec1 o_Wef0 o_Wef1
                          clear hWf
                          obtain ⟨o_Wfl, o_Wfc0, o_Wfc1, o_Wff0, o_Wff1⟩ := id o_Wf
                          obtain ⟨t_Wfl, t_Wfc0, t_Wfc1, t_Wff0, t_Wff1⟩ := id t_Wf
                          go_wp2_with fail
                          refine (skip_short z X M _ (by omega) x0 x1 HU.out ks).mono ?_
                          rintro e Wg ⟨rfl, hWg⟩
                          have o_Wg : Box Wg (wo.heap.size) (.string z) (.int .i64 X) := (o_Wf.alloc _).below hWg
                          have t_Wg : Box Wg (We.heap.size) (.string ByteArray.empty) (.int .i64 0) := (t_Wf.alloc _).below hWg
                          have u_Wg : Box Wg (Wf.heap.size) (.string ByteArray.empty) (.int .i64 0) := (Box.new_at _ _ _ _ (Wf.heap.size) (by simp)).below hWg
                          have BWg : Below w.heap.size w Wg := bstep (bel_alloc BWf _) hWg
                          have zWg := BWg.size
                          have yWg := hWg.size
                          (try simp at yWg)
                          clear o_Wfc0 o_Wfc1 o_Wff0 o_Wff1 t_Wfc0 t_Wfc1 t_Wff0 t_Wff1
                          clear hWg
                          obtain ⟨o_Wgl, o_Wgc0, o_Wgc1, o_Wgf0, o_Wgf1⟩ := id o_Wg
                          obtain ⟨t_Wgl, t_Wgc0, t_Wgc1, t_Wgf0, t_Wgf1⟩ := id t_Wg
                          obtain ⟨u_Wgl, u_Wgc0, u_Wgc1, u_Wgf0, u_Wgf1⟩ := id u_Wg
                          go_wp2_with fail
                          refine (unit_is M true _ HU.out).mono ?_
                          rintro e Y1 ⟨rfl, rfl⟩
                          go_wp2_with fail
                          go_quiet ((go_at_call 19; exact Calls.quiet_of_same ((refUp_any X M _ x0 (by omega) HU.out).mono fun _ _ h => ⟨h.1, h.2.symm⟩)))
                          go_wp2_with fail
                          refine (refNone_any _).mono ?_
                          rintro e Wi ⟨rfl, hWi⟩
                          have o_Wi : Box Wi (wo.heap.size) (.string z) (.int .i64 X) := (((o_Wg.alloc _).drewN _).alloc _).below hWi
                          have t_Wi : Box Wi (We.heap.size) (.string ByteArray.empty) (.int .i64 0) := (((t_Wg.alloc _).drewN _).alloc _).below hWi
                          have u_Wi : Box Wi (Wf.heap.size) (.string ByteArray.empty) (.int .i64 0) := (((u_Wg.alloc _).drewN _).alloc _).below hWi
                          have v_Wi : Box Wi (Wg.heap.size) (.string ByteArray.empty) (.int .i64 0) := (((Box.new_at _ _ _ _ (Wg.heap.size) (by simp)).drewN _).alloc _).below hWi
                          have r_Wi : Box Wi (Wg.heap.size + 1) (.string ⟨#[]⟩) (.int .i64 0) := (Box.new_at _ _ _ _ (Wg.heap.size + 1) (by simp)).below hWi
                          have BWi : Below w.heap.size w Wi := bstep (bel_alloc (bel_drewN (bel_alloc BWg _) _) _) hWi
                          have zWi := BWi.size
                          have yWi := hWi.size
                          (try simp at yWi)
                          clear o_Wgc0 o_Wgc1 o_Wgf0 o_Wgf1 t_Wgc0 t_Wgc1 t_Wgf0 t_Wgf1 u_Wgc0 u_Wgc1 u_Wgf0 u_Wgf1
                          clear hWi
                          obtain ⟨o_Wil, o_Wic0, o_Wic1, o_Wif0, o_Wif1⟩ := id o_Wi
                          obtain ⟨t_Wil, t_Wic0, t_Wic1, t_Wif0, t_Wif1⟩ := id t_Wi
                          obtain ⟨u_Wil, u_Wic0, u_Wic1, u_Wif0, u_Wif1⟩ := id u_Wi
                          obtain ⟨v_Wil, v_Wic0, v_Wic1, v_Wif0, v_Wif1⟩ := id v_Wi
                          obtain ⟨r_Wil, r_Wic0, r_Wic1, r_Wif0, r_Wif1⟩ := id r_Wi
                          go_wp2_with fail
                          refine (refNone_any _).mono ?_
                          rintro e Wk ⟨rfl, hWk⟩
                          have o_Wk : Box Wk (wo.heap.size) (.string z) (.int .i64 X) := (o_Wi.far (by omega)).below hWk
                          have t_Wk : Box Wk (We.heap.size) (.string ByteArray.empty) (.int .i64 0) := (t_Wi.far (by omega)).below hWk
                          have u_Wk : Box Wk (Wf.heap.size) (.string ByteArray.empty) (.int .i64 0) := (u_Wi.far (by omega)).below hWk
                          have v_Wk : Box Wk (Wg.heap.size) (.string ByteArray.empty) (.int .i64 0) := (v_Wi.far (by omega)).below hWk
                          have r_Wk : Box Wk (Wg.heap.size + 1) (.string ByteArray.empty) (.int .i64 0) := (r_Wi.stored _ _).below hWk
                          have BWk : Below w.heap.size w Wk := bstep (bel_set2 BWi (by omega) _ _) hWk
                          have zWk := BWk.size
                          have yWk := hWk.size
                          (try simp at yWk)
                          clear o_Wic0 o_Wic1 o_Wif0 o_Wif1 t_Wic0 t_Wic1 t_Wif0 t_Wif1 u_Wic0 u_Wic1 u_Wif0 u_Wif1 v_Wic0 v_Wic1 v_Wif0 v_Wif1 r_Wic0 r_Wic1 r_Wif0 r_Wif1
                          clear hWk
                          obtain ⟨o_Wkl, o_Wkc0, o_Wkc1, o_Wkf0, o_Wkf1⟩ := id o_Wk
                          obtain ⟨t_Wkl, t_Wkc0, t_Wkc1, t_Wkf0, t_Wkf1⟩ := id t_Wk
                          obtain ⟨u_Wkl, u_Wkc0, u_Wkc1, u_Wkf0, u_Wkf1⟩ := id u_Wk
                          obtain ⟨v_Wkl, v_Wkc0, v_Wkc1, v_Wkf0, v_Wkf1⟩ := id v_Wk
                          obtain ⟨r_Wkl, r_Wkc0, r_Wkc1, r_Wkf0, r_Wkf1⟩ := id r_Wk
                          go_wp2_with fail
                          go_roundw
                          case rel => exact ⟨j2 + 1, by omega, by go_num, (o_Wk.far (by omega)), (bel_set2 BWk (by omega) _ _)⟩
                          case measure => simp [intOf]; omega
                      · have kl : upTo X M ≤ z.size := by omega
                        clear hup
                        as_aux_lemma =>
                          obtain ⟨o_wrl, o_wrc0, o_wrc1, o_wrf0, o_wrf1⟩ := id o_wr
                          go_wp2_with fail
                          refine (take_short z X M _ hzm x0 x1 m0 ms).mono ?_
                          rintro e We ⟨rfl, hWe⟩
                          have o_We : Box We (wo.heap.size) (.string z) (.int .i64 X) := o_wr.below hWe
                          have BWe : Below w.heap.size w We := bstep Bwr hWe
                          have zWe := BWe.size
                          have yWe := hWe.size
                          (try simp at yWe)
                          clear o_wrc0 o_wrc1 o_wrf0 o_wrf1
                          clear hWe
                          obtain ⟨o_Wel, o_Wec0, o_Wec1, o_Wef0, o_Wef1⟩ := id o_We
                          go_wp2_with fail
                          refine (uint_short z X M _ hzm x0 x1 m1 m7 ms).mono ?_
                          rintro e Wf ⟨rfl, hWf⟩
                          have o_Wf : Box Wf (wo.heap.size) (.string z) (.int .i64 X) := (o_We.alloc _).below hWf
                          have t_Wf : Box Wf (We.heap.size) (.string ByteArray.empty) (.int .i64 0) := (Box.new_at _ _ _ _ (We.heap.size) (by simp)).below hWf
                          have BWf : Below w.heap.size w Wf := bstep (bel_alloc BWe _) hWf
                          have zWf := BWf.size
                          have yWf := hWf.size
                          (try simp at yWf)
                          clear o_Wec0 o_Wec1 o_Wef0 o_Wef1
                          clear hWf
                          obtain ⟨o_Wfl, o_Wfc0, o_Wfc1, o_Wff0, o_Wff1⟩ := id o_Wf
                          obtain ⟨t_Wfl, t_Wfc0, t_Wfc1, t_Wff0, t_Wff1⟩ := id t_Wf
                          go_wp2_with fail
                          refine (skip_ok z X M _ (by omega) x0 x1 HU.out kl).mono ?_
                          rintro e Wg ⟨rfl, hWg⟩
                          have o_Wg : Box Wg (wo.heap.size) (.string z) (.int .i64 X) := (o_Wf.alloc _).below hWg
                          have t_Wg : Box Wg (We.heap.size) (.string ByteArray.empty) (.int .i64 0) := (t_Wf.alloc _).below hWg
                          have u_Wg : Box Wg (Wf.heap.size) (.string ByteArray.empty) (.int .i64 0) := (Box.new_at _ _ _ _ (Wf.heap.size) (by simp)).below hWg
                          have BWg : Below w.heap.size w Wg := bstep (bel_alloc BWf _) hWg
                          have zWg := BWg.size
                          have yWg := hWg.size
                          (try simp at yWg)
                          clear o_Wfc0 o_Wfc1 o_Wff0 o_Wff1 t_Wfc0 t_Wfc1 t_Wff0 t_Wff1
                          clear hWg
                          obtain ⟨o_Wgl, o_Wgc0, o_Wgc1, o_Wgf0, o_Wgf1⟩ := id o_Wg
                          obtain ⟨t_Wgl, t_Wgc0, t_Wgc1, t_Wgf0, t_Wgf1⟩ := id t_Wg
                          obtain ⟨u_Wgl, u_Wgc0, u_Wgc1, u_Wgf0, u_Wgf1⟩ := id u_Wg
                          go_wp2_with fail
                          refine (unit_is M true _ HU.out).mono ?_
                          rintro e Y1 ⟨rfl, rfl⟩
                          go_wp2_with fail
                          go_quiet ((go_at_call 19; exact Calls.quiet_of_same ((refUp_any X M _ x0 (by omega) HU.out).mono fun _ _ h => ⟨h.1, h.2.symm⟩)))
                          go_wp2_with fail
                          refine (refNone_any _).mono ?_
                          rintro e Wi ⟨rfl, hWi⟩
                          have o_Wi : Box Wi (wo.heap.size) (.string z) (.int .i64 X) := (((o_Wg.alloc _).drewN _).alloc _).below hWi
                          have t_Wi : Box Wi (We.heap.size) (.string ByteArray.empty) (.int .i64 0) := (((t_Wg.alloc _).drewN _).alloc _).below hWi
                          have u_Wi : Box Wi (Wf.heap.size) (.string ByteArray.empty) (.int .i64 0) := (((u_Wg.alloc _).drewN _).alloc _).below hWi
                          have v_Wi : Box Wi (Wg.heap.size) (.string z) (.int .i64 (upTo X M)) := (((Box.new_at _ _ _ _ (Wg.heap.size) (by simp)).drewN _).alloc _).below hWi
                          have r_Wi : Box Wi (Wg.heap.size + 1) (.string ⟨#[]⟩) (.int .i64 0) := (Box.new_at _ _ _ _ (Wg.heap.size + 1) (by simp)).below hWi
                          have BWi : Below w.heap.size w Wi := bstep (bel_alloc (bel_drewN (bel_alloc BWg _) _) _) hWi
                          have zWi := BWi.size
                          have yWi := hWi.size
                          (try simp at yWi)
                          clear o_Wgc0 o_Wgc1 o_Wgf0 o_Wgf1 t_Wgc0 t_Wgc1 t_Wgf0 t_Wgf1 u_Wgc0 u_Wgc1 u_Wgf0 u_Wgf1
                          clear hWi
                          obtain ⟨o_Wil, o_Wic0, o_Wic1, o_Wif0, o_Wif1⟩ := id o_Wi
                          obtain ⟨t_Wil, t_Wic0, t_Wic1, t_Wif0, t_Wif1⟩ := id t_Wi
                          obtain ⟨u_Wil, u_Wic0, u_Wic1, u_Wif0, u_Wif1⟩ := id u_Wi
                          obtain ⟨v_Wil, v_Wic0, v_Wic1, v_Wif0, v_Wif1⟩ := id v_Wi
                          obtain ⟨r_Wil, r_Wic0, r_Wic1, r_Wif0, r_Wif1⟩ := id r_Wi
                          go_wp2_with fail
                          refine (refNone_any _).mono ?_
                          rintro e Wk ⟨rfl, hWk⟩
                          have o_Wk : Box Wk (wo.heap.size) (.string z) (.int .i64 X) := (o_Wi.far (by omega)).below hWk
                          have t_Wk : Box Wk (We.heap.size) (.string ByteArray.empty) (.int .i64 0) := (t_Wi.far (by omega)).below hWk
                          have u_Wk : Box Wk (Wf.heap.size) (.string ByteArray.empty) (.int .i64 0) := (u_Wi.far (by omega)).below hWk
                          have v_Wk : Box Wk (Wg.heap.size) (.string z) (.int .i64 (upTo X M)) := (v_Wi.far (by omega)).below hWk
                          have r_Wk : Box Wk (Wg.heap.size + 1) (.string ByteArray.empty) (.int .i64 0) := (r_Wi.stored _ _).below hWk
                          have BWk : Below w.heap.size w Wk := bstep (bel_set2 BWi (by omega) _ _) hWk
                          have zWk := BWk.size
                          have yWk := hWk.size
                          (try simp at yWk)
                          clear o_Wic0 o_Wic1 o_Wif0 o_Wif1 t_Wic0 t_Wic1 t_Wif0 t_Wif1 u_Wic0 u_Wic1 u_Wif0 u_Wif1 v_Wic0 v_Wic1 v_Wif0 v_Wif1 r_Wic0 r_Wic1 r_Wif0 r_Wif1
                          clear hWk
                          obtain ⟨o_Wkl, o_Wkc0, o_Wkc1, o_Wkf0, o_Wkf1⟩ := id o_Wk
                          obtain ⟨t_Wkl, t_Wkc0, t_Wkc1, t_Wkf0, t_Wkf1⟩ := id t_Wk
                          obtain ⟨u_Wkl, u_Wkc0, u_Wkc1, u_Wkf0, u_Wkf1⟩ := id u_Wk
                          obtain ⟨v_Wkl, v_Wkc0, v_Wkc1, v_Wkf0, v_Wkf1⟩ := id v_Wk
                          obtain ⟨r_Wkl, r_Wkc0, r_Wkc1, r_Wkf0, r_Wkf1⟩ := id r_Wk
                          go_wp2_with fail
                          have o_L : Box ((Wk.setCell ⟨Wg.heap.size + 1, 0, none⟩ (.string ByteArray.empty)).setCell ⟨Wg.heap.size + 1, 1, none⟩ (.int .i64 0)) (wo.heap.size) (.string z) (.int .i64 X) := (o_Wk.far (by omega))
                          have v_L : Box ((Wk.setCell ⟨Wg.heap.size + 1, 0, none⟩ (.string ByteArray.empty)).setCell ⟨Wg.heap.size + 1, 1, none⟩ (.int .i64 0)) (Wg.heap.size) (.string z) (.int .i64 (upTo X M)) := (v_Wk.far (by omega))
                          have r_L : Box ((Wk.setCell ⟨Wg.heap.size + 1, 0, none⟩ (.string ByteArray.empty)).setCell ⟨Wg.heap.size + 1, 1, none⟩ (.int .i64 0)) (Wg.heap.size + 1) (.string ByteArray.empty) (.int .i64 0) := (r_Wk.stored _ _)
                          have BL : Below w.heap.size w ((Wk.setCell ⟨Wg.heap.size + 1, 0, none⟩ (.string ByteArray.empty)).setCell ⟨Wg.heap.size + 1, 1, none⟩ (.int .i64 0)) := (bel_set2 BWk (by omega) _ _)
                          clear o_Wkc0 o_Wkc1 o_Wkf0 o_Wkf1 t_Wkc0 t_Wkc1 t_Wkf0 t_Wkf1 u_Wkc0 u_Wkc1 u_Wkf0 u_Wkf1 v_Wkc0 v_Wkc1 v_Wkf0 v_Wkf1 r_Wkc0 r_Wkc1 r_Wkf0 r_Wkf1
                          generalize ((Wk.setCell ⟨Wg.heap.size + 1, 0, none⟩ (.string ByteArray.empty)).setCell ⟨Wg.heap.size + 1, 1, none⟩ (.int .i64 0)) = WL at o_L v_L r_L BL ⊢
                          have zL := BL.size
                          obtain ⟨oLl, oLc0, oLc1, oLf0, oLf1⟩ := id o_L
                          obtain ⟨vLl, vLc0, vLc1, vLf0, vLf1⟩ := id v_L
                          obtain ⟨rLl, rLc0, rLc1, rLf0, rLf1⟩ := id r_L
                          go_still_tail 7, (by kernel_rfl)
                          still_call ((refUp_any X M _ x0 (by omega) HU.out).mono fun _ _ h => ⟨h.1, h.2.symm⟩)
                          repeat still_step
                          refine wpStill_nil ?_
                          change wpList _ _ _ _ _ WL.drew
                          go_wp2
                          go_roundw
                          case rel => exact ⟨j2 + 1, by omega, by go_num, (o_L.drew.far (by omega)), bel_set2 BL.drew (by omega) _ _⟩
                          case measure => simp [intOf]; omega
                  · have ml : X + M ≤ z.size := by omega
                    have t4 : decide (z.size - X < M) = false := by simp; omega
                    obtain ⟨V, hV⟩ : ∃ V : Int, ((beN (z.extract X.toNat (X + M).toNat).data.toList : Nat) : Int) = V := ⟨_, rfl⟩
                    have HV := Lib.hid hV
                    have HS7 := Lib.hid (show S.size ≤ 7 by rw [← HS.out]; exact cut_len z X M x0 m0 m7)
                    have HV2 := Lib.hid (show ((beN S.data.toList : Nat) : Int) = V by rw [← HS.out]; exact hV)
                    clear hV
                    cases hu : unitB M
                    · have HU := Lib.hid hu
                      clear hu
                      as_aux_lemma =>
                        obtain ⟨o_wrl, o_wrc0, o_wrc1, o_wrf0, o_wrf1⟩ := id o_wr
                        go_wp2_with fail
                        refine (take_I_ok z X M S _ hzm x0 m0 ml HS.out).mono ?_
                        rintro e We ⟨rfl, hWe⟩
                        have o_We : Box We (wo.heap.size) (.string z) (.int .i64 X) := o_wr.below hWe
                        have BWe : Below w.heap.size w We := bstep Bwr hWe
                        have zWe := BWe.size
                        have yWe := hWe.size
                        (try simp at yWe)
                        clear o_wrc0 o_wrc1 o_wrf0 o_wrf1
                        clear hWe
                        obtain ⟨o_Wel, o_Wec0, o_Wec1, o_Wef0, o_Wef1⟩ := id o_We
                        go_wp2_with fail
                        refine (uint_I_ok z X M V _ hzm x0 m1 m7 ml HV.out).mono ?_
                        rintro e Wf ⟨rfl, hWf⟩
                        have o_Wf : Box Wf (wo.heap.size) (.string z) (.int .i64 X) := (o_We.alloc _).below hWf
                        have t_Wf : Box Wf (We.heap.size) (.string z) (.int .i64 (X + M)) := (Box.new_at _ _ _ _ (We.heap.size) (by simp)).below hWf
                        have BWf : Below w.heap.size w Wf := bstep (bel_alloc BWe _) hWf
                        have zWf := BWf.size
                        have yWf := hWf.size
                        (try simp at yWf)
                        clear o_Wec0 o_Wec1 o_Wef0 o_Wef1
                        clear hWf
                        obtain ⟨o_Wfl, o_Wfc0, o_Wfc1, o_Wff0, o_Wff1⟩ := id o_Wf
                        obtain ⟨t_Wfl, t_Wfc0, t_Wfc1, t_Wff0, t_Wff1⟩ := id t_Wf
                        go_wp2_with fail
                        refine (skip_unit z X M _ hzm x0 x1 HU.out).mono ?_
                        rintro e Wg ⟨rfl, hWg⟩
                        have o_Wg : Box Wg (wo.heap.size) (.string z) (.int .i64 X) := (o_Wf.alloc _).below hWg
                        have t_Wg : Box Wg (We.heap.size) (.string z) (.int .i64 (X + M)) := (t_Wf.alloc _).below hWg
                        have u_Wg : Box Wg (Wf.heap.size) (.string z) (.int .i64 (X + M)) := (Box.new_at _ _ _ _ (Wf.heap.size) (by simp)).below hWg
                        have BWg : Below w.heap.size w Wg := bstep (bel_alloc BWf _) hWg
                        have zWg := BWg.size
                        have yWg := hWg.size
                        (try simp at yWg)
                        clear o_Wfc0 o_Wfc1 o_Wff0 o_Wff1 t_Wfc0 t_Wfc1 t_Wff0 t_Wff1
                        clear hWg
                        obtain ⟨o_Wgl, o_Wgc0, o_Wgc1, o_Wgf0, o_Wgf1⟩ := id o_Wg
                        obtain ⟨t_Wgl, t_Wgc0, t_Wgc1, t_Wgf0, t_Wgf1⟩ := id t_Wg
                        obtain ⟨u_Wgl, u_Wgc0, u_Wgc1, u_Wgf0, u_Wgf1⟩ := id u_Wg
                        go_wp2_with fail
                        refine (unit_is M false _ HU.out).mono ?_
                        rintro e Y1 ⟨rfl, rfl⟩
                        go_wp2_with fail
                        go_quiet (fail)
                        go_wp2_with fail
                        refine (refTake_I z X M S _ hzm x0 m0 ml HS.out).mono ?_
                        rintro e Wh ⟨rfl, hWh⟩
                        have o_Wh : Box Wh (wo.heap.size) (.string z) (.int .i64 X) := (((o_Wg.alloc _).drewN _).alloc _).below hWh
                        have t_Wh : Box Wh (We.heap.size) (.string z) (.int .i64 (X + M)) := (((t_Wg.alloc _).drewN _).alloc _).below hWh
                        have u_Wh : Box Wh (Wf.heap.size) (.string z) (.int .i64 (X + M)) := (((u_Wg.alloc _).drewN _).alloc _).below hWh
                        have v_Wh : Box Wh (Wg.heap.size) (.string ByteArray.empty) (.int .i64 0) := (((Box.new_at _ _ _ _ (Wg.heap.size) (by simp)).drewN _).alloc _).below hWh
                        have r_Wh : Box Wh (Wg.heap.size + 1) (.string ⟨#[]⟩) (.int .i64 0) := (Box.new_at _ _ _ _ (Wg.heap.size + 1) (by simp)).below hWh
                        have BWh : Below w.heap.size w Wh := bstep (bel_alloc (bel_drewN (bel_alloc BWg _) _) _) hWh
                        have zWh := BWh.size
                        have yWh := hWh.size
                        (try simp at yWh)
                        clear o_Wgc0 o_Wgc1 o_Wgf0 o_Wgf1 t_Wgc0 t_Wgc1 t_Wgf0 t_Wgf1 u_Wgc0 u_Wgc1 u_Wgf0 u_Wgf1
                        clear hWh
                        obtain ⟨o_Whl, o_Whc0, o_Whc1, o_Whf0, o_Whf1⟩ := id o_Wh
                        obtain ⟨t_Whl, t_Whc0, t_Whc1, t_Whf0, t_Whf1⟩ := id t_Wh
                        obtain ⟨u_Whl, u_Whc0, u_Whc1, u_Whf0, u_Whf1⟩ := id u_Wh
                        obtain ⟨v_Whl, v_Whc0, v_Whc1, v_Whf0, v_Whf1⟩ := id v_Wh
                        obtain ⟨r_Whl, r_Whc0, r_Whc1, r_Whf0, r_Whf1⟩ := id r_Wh
                        go_wp2_with fail
                        refine (refNone_any _).mono ?_
                        rintro e Wi ⟨rfl, hWi⟩
                        have o_Wi : Box Wi (wo.heap.size) (.string z) (.int .i64 X) := (o_Wh.far (by omega)).below hWi
                        have t_Wi : Box Wi (We.heap.size) (.string z) (.int .i64 (X + M)) := (t_Wh.far (by omega)).below hWi
                        have u_Wi : Box Wi (Wf.heap.size) (.string z) (.int .i64 (X + M)) := (u_Wh.far (by omega)).below hWi
                        have v_Wi : Box Wi (Wg.heap.size) (.string ByteArray.empty) (.int .i64 0) := (v_Wh.far (by omega)).below hWi
                        have r_Wi : Box Wi (Wg.heap.size + 1) (.string z) (.int .i64 (X + M)) := (r_Wh.stored _ _).below hWi
                        have BWi : Below w.heap.size w Wi := bstep (bel_set2 BWh (by omega) _ _) hWi
                        have zWi := BWi.size
                        have yWi := hWi.size
                        (try simp at yWi)
                        clear o_Whc0 o_Whc1 o_Whf0 o_Whf1 t_Whc0 t_Whc1 t_Whf0 t_Whf1 u_Whc0 u_Whc1 u_Whf0 u_Whf1 v_Whc0 v_Whc1 v_Whf0 v_Whf1 r_Whc0 r_Whc1 r_Whf0 r_Whf1
                        clear hWi
                        obtain ⟨o_Wil, o_Wic0, o_Wic1, o_Wif0, o_Wif1⟩ := id o_Wi
                        obtain ⟨t_Wil, t_Wic0, t_Wic1, t_Wif0, t_Wif1⟩ := id t_Wi
                        obtain ⟨u_Wil, u_Wic0, u_Wic1, u_Wif0, u_Wif1⟩ := id u_Wi
                        obtain ⟨v_Wil, v_Wic0, v_Wic1, v_Wif0, v_Wif1⟩ := id v_Wi
                        obtain ⟨r_Wil, r_Wic0, r_Wic1, r_Wif0, r_Wif1⟩ := id r_Wi
                        go_wp2_with fail
                        refine (refTake_I z X M S _ hzm x0 m0 ml HS.out).mono ?_
                        rintro e Wj ⟨rfl, hWj⟩
                        have o_Wj : Box Wj (wo.heap.size) (.string z) (.int .i64 X) := (o_Wi.far (by omega)).below hWj
                        have t_Wj : Box Wj (We.heap.size) (.string z) (.int .i64 (X + M)) := (t_Wi.far (by omega)).below hWj
                        have u_Wj : Box Wj (Wf.heap.size) (.string z) (.int .i64 (X + M)) := (u_Wi.far (by omega)).below hWj
                        have v_Wj : Box Wj (Wg.heap.size) (.string ByteArray.empty) (.int .i64 0) := (v_Wi.far (by omega)).below hWj
                        have r_Wj : Box Wj (Wg.heap.size + 1) (.string ByteArray.empty) (.int .i64 0) := (r_Wi.stored _ _).below hWj
                        have BWj : Below w.heap.size w Wj := bstep (bel_set2 BWi (by omega) _ _) hWj
                        have zWj := BWj.size
                        have yWj := hWj.size
                        (try simp at yWj)
                        clear o_Wic0 o_Wic1 o_Wif0 o_Wif1 t_Wic0 t_Wic1 t_Wif0 t_Wif1 u_Wic0 u_Wic1 u_Wif0 u_Wif1 v_Wic0 v_Wic1 v_Wif0 v_Wif1 r_Wic0 r_Wic1 r_Wif0 r_Wif1
                        clear hWj
                        obtain ⟨o_Wjl, o_Wjc0, o_Wjc1, o_Wjf0, o_Wjf1⟩ := id o_Wj
                        obtain ⟨t_Wjl, t_Wjc0, t_Wjc1, t_Wjf0, t_Wjf1⟩ := id t_Wj
                        obtain ⟨u_Wjl, u_Wjc0, u_Wjc1, u_Wjf0, u_Wjf1⟩ := id u_Wj
                        obtain ⟨v_Wjl, v_Wjc0, v_Wjc1, v_Wjf0, v_Wjf1⟩ := id v_Wj
                        obtain ⟨r_Wjl, r_Wjc0, r_Wjc1, r_Wjf0, r_Wjf1⟩ := id r_Wj
                        go_wp2_with fail
                        refine (refNumber_I S V _ HS7.out HV2.out).mono ?_
                        rintro e Y2 ⟨rfl, rfl⟩
                        go_wp2_with fail
                        refine (refNone_any _).mono ?_
                        rintro e Wk ⟨rfl, hWk⟩
                        have o_Wk : Box Wk (wo.heap.size) (.string z) (.int .i64 X) := (o_Wj.far (by omega)).below hWk
                        have t_Wk : Box Wk (We.heap.size) (.string z) (.int .i64 (X + M)) := (t_Wj.far (by omega)).below hWk
                        have u_Wk : Box Wk (Wf.heap.size) (.string z) (.int .i64 (X + M)) := (u_Wj.far (by omega)).below hWk
                        have v_Wk : Box Wk (Wg.heap.size) (.string ByteArray.empty) (.int .i64 0) := (v_Wj.far (by omega)).below hWk
                        have r_Wk : Box Wk (Wg.heap.size + 1) (.string z) (.int .i64 (X + M)) := (r_Wj.stored _ _).below hWk
                        have BWk : Below w.heap.size w Wk := bstep (bel_set2 BWj (by omega) _ _) hWk
                        have zWk := BWk.size
                        have yWk := hWk.size
                        (try simp at yWk)
                        clear o_Wjc0 o_Wjc1 o_Wjf0 o_Wjf1 t_Wjc0 t_Wjc1 t_Wjf0 t_Wjf1 u_Wjc0 u_Wjc1 u_Wjf0 u_Wjf1 v_Wjc0 v_Wjc1 v_Wjf0 v_Wjf1 r_Wjc0 r_Wjc1 r_Wjf0 r_Wjf1
                        clear hWk
                        obtain ⟨o_Wkl, o_Wkc0, o_Wkc1, o_Wkf0, o_Wkf1⟩ := id o_Wk
                        obtain ⟨t_Wkl, t_Wkc0, t_Wkc1, t_Wkf0, t_Wkf1⟩ := id t_Wk
                        obtain ⟨u_Wkl, u_Wkc0, u_Wkc1, u_Wkf0, u_Wkf1⟩ := id u_Wk
                        obtain ⟨v_Wkl, v_Wkc0, v_Wkc1, v_Wkf0, v_Wkf1⟩ := id v_Wk
                        obtain ⟨r_Wkl, r_Wkc0, r_Wkc1, r_Wkf0, r_Wkf1⟩ := id r_Wk
                        go_wp2_with fail
                        go_roundw
                        case rel => exact ⟨j2 + 1, by omega, by go_num, (o_Wk.far (by omega)), (bel_set2 BWk (by omega) _ _)⟩
                        case measure => simp [intOf]; omega
                    · have HU := Lib.hid hu
                      clear hu
                      by_cases hup : (z.size : Int) < upTo X M
                      · have ks := hup
                        have t5 : decide ((z.size : Int) < upTo X M) = true := by simpa using hup
                        as_aux_lemma =>
                          obtain ⟨o_wrl, o_wrc0, o_wrc1, o_wrf0, o_wrf1⟩ := id o_wr
                          go_wp2_with fail
                          refine (take_I_ok z X M S _ hzm x0 m0 ml HS.out).mono ?_
                          rintro e We ⟨rfl, hWe⟩
                          have o_We : Box We (wo.heap.size) (.string z) (.int .i64 X) := o_wr.below hWe
                          have BWe : Below w.heap.size w We := bstep Bwr hWe
                          have zWe := BWe.size
                          have yWe := hWe.size
                          (try simp at yWe)
                          clear o_wrc0 o_wrc1 o_wrf0 o_wrf1
                          clear hWe
                          obtain ⟨o_Wel, o_Wec0, o_Wec1, o_Wef0, o_Wef1⟩ := id o_We
                          go_wp2_with fail
                          refine (uint_I_ok z X M V _ hzm x0 m1 m7 ml HV.out).mono ?_
                          rintro e Wf ⟨rfl, hWf⟩
                          have o_Wf : Box Wf (wo.heap.size) (.string z) (.int .i64 X) := (o_We.alloc _).below hWf
                          have t_Wf : Box Wf (We.heap.size) (.string z) (.int .i64 (X + M)) := (Box.new_at _ _ _ _ (We.heap.size) (by simp)).below hWf
                          have BWf : Below w.heap.size w Wf := bstep (bel_alloc BWe _) hWf
                          have zWf := BWf.size
                          have yWf := hWf.size
                          (try simp at yWf)
                          clear o_Wec0 o_Wec1 o_Wef0 o_Wef1
                          clear hWf
                          obtain ⟨o_Wfl, o_Wfc0, o_Wfc1, o_Wff0, o_Wff1⟩ := id o_Wf
                          obtain ⟨t_Wfl, t_Wfc0, t_Wfc1, t_Wff0, t_Wff1⟩ := id t_Wf
                          go_wp2_with fail
                          refine (skip_short z X M _ (by omega) x0 x1 HU.out ks).mono ?_
                          rintro e Wg ⟨rfl, hWg⟩
                          have o_Wg : Box Wg (wo.heap.size) (.string z) (.int .i64 X) := (o_Wf.alloc _).below hWg
                          have t_Wg : Box Wg (We.heap.size) (.string z) (.int .i64 (X + M)) := (t_Wf.alloc _).below hWg
                          have u_Wg : Box Wg (Wf.heap.size) (.string z) (.int .i64 (X + M)) := (Box.new_at _ _ _ _ (Wf.heap.size) (by simp)).below hWg
                          have BWg : Below w.heap.size w Wg := bstep (bel_alloc BWf _) hWg
                          have zWg := BWg.size
                          have yWg := hWg.size
                          (try simp at yWg)
                          clear o_Wfc0 o_Wfc1 o_Wff0 o_Wff1 t_Wfc0 t_Wfc1 t_Wff0 t_Wff1
                          clear hWg
                          obtain ⟨o_Wgl, o_Wgc0, o_Wgc1, o_Wgf0, o_Wgf1⟩ := id o_Wg
                          obtain ⟨t_Wgl, t_Wgc0, t_Wgc1, t_Wgf0, t_Wgf1⟩ := id t_Wg
                          obtain ⟨u_Wgl, u_Wgc0, u_Wgc1, u_Wgf0, u_Wgf1⟩ := id u_Wg
                          go_wp2_with fail
                          refine (unit_is M true _ HU.out).mono ?_
                          rintro e Y1 ⟨rfl, rfl⟩
                          go_wp2_with fail
                          go_quiet ((go_at_call 19; exact Calls.quiet_of_same ((refUp_any X M _ x0 (by omega) HU.out).mono fun _ _ h => ⟨h.1, h.2.symm⟩)))
                          go_wp2_with fail
                          refine (refTake_I z X M S _ hzm x0 m0 ml HS.out).mono ?_
                          rintro e Wh ⟨rfl, hWh⟩
                          have o_Wh : Box Wh (wo.heap.size) (.string z) (.int .i64 X) := (((o_Wg.alloc _).drewN _).alloc _).below hWh
                          have t_Wh : Box Wh (We.heap.size) (.string z) (.int .i64 (X + M)) := (((t_Wg.alloc _).drewN _).alloc _).below hWh
                          have u_Wh : Box Wh (Wf.heap.size) (.string z) (.int .i64 (X + M)) := (((u_Wg.alloc _).drewN _).alloc _).below hWh
                          have v_Wh : Box Wh (Wg.heap.size) (.string ByteArray.empty) (.int .i64 0) := (((Box.new_at _ _ _ _ (Wg.heap.size) (by simp)).drewN _).alloc _).below hWh
                          have r_Wh : Box Wh (Wg.heap.size + 1) (.string ⟨#[]⟩) (.int .i64 0) := (Box.new_at _ _ _ _ (Wg.heap.size + 1) (by simp)).below hWh
                          have BWh : Below w.heap.size w Wh := bstep (bel_alloc (bel_drewN (bel_alloc BWg _) _) _) hWh
                          have zWh := BWh.size
                          have yWh := hWh.size
                          (try simp at yWh)
                          clear o_Wgc0 o_Wgc1 o_Wgf0 o_Wgf1 t_Wgc0 t_Wgc1 t_Wgf0 t_Wgf1 u_Wgc0 u_Wgc1 u_Wgf0 u_Wgf1
                          clear hWh
                          obtain ⟨o_Whl, o_Whc0, o_Whc1, o_Whf0, o_Whf1⟩ := id o_Wh
                          obtain ⟨t_Whl, t_Whc0, t_Whc1, t_Whf0, t_Whf1⟩ := id t_Wh
                          obtain ⟨u_Whl, u_Whc0, u_Whc1, u_Whf0, u_Whf1⟩ := id u_Wh
                          obtain ⟨v_Whl, v_Whc0, v_Whc1, v_Whf0, v_Whf1⟩ := id v_Wh
                          obtain ⟨r_Whl, r_Whc0, r_Whc1, r_Whf0, r_Whf1⟩ := id r_Wh
                          go_wp2_with fail
                          refine (refNone_any _).mono ?_
                          rintro e Wi ⟨rfl, hWi⟩
                          have o_Wi : Box Wi (wo.heap.size) (.string z) (.int .i64 X) := (o_Wh.far (by omega)).below hWi
                          have t_Wi : Box Wi (We.heap.size) (.string z) (.int .i64 (X + M)) := (t_Wh.far (by omega)).below hWi
                          have u_Wi : Box Wi (Wf.heap.size) (.string z) (.int .i64 (X + M)) := (u_Wh.far (by omega)).below hWi
                          have v_Wi : Box Wi (Wg.heap.size) (.string ByteArray.empty) (.int .i64 0) := (v_Wh.far (by omega)).below hWi
                          have r_Wi : Box Wi (Wg.heap.size + 1) (.string z) (.int .i64 (X + M)) := (r_Wh.stored _ _).below hWi
                          have BWi : Below w.heap.size w Wi := bstep (bel_set2 BWh (by omega) _ _) hWi
                          have zWi := BWi.size
                          have yWi := hWi.size
                          (try simp at yWi)
                          clear o_Whc0 o_Whc1 o_Whf0 o_Whf1 t_Whc0 t_Whc1 t_Whf0 t_Whf1 u_Whc0 u_Whc1 u_Whf0 u_Whf1 v_Whc0 v_Whc1 v_Whf0 v_Whf1 r_Whc0 r_Whc1 r_Whf0 r_Whf1
                          clear hWi
                          obtain ⟨o_Wil, o_Wic0, o_Wic1, o_Wif0, o_Wif1⟩ := id o_Wi
                          obtain ⟨t_Wil, t_Wic0, t_Wic1, t_Wif0, t_Wif1⟩ := id t_Wi
                          obtain ⟨u_Wil, u_Wic0, u_Wic1, u_Wif0, u_Wif1⟩ := id u_Wi
                          obtain ⟨v_Wil, v_Wic0, v_Wic1, v_Wif0, v_Wif1⟩ := id v_Wi
                          obtain ⟨r_Wil, r_Wic0, r_Wic1, r_Wif0, r_Wif1⟩ := id r_Wi
                          go_wp2_with fail
                          refine (refTake_I z X M S _ hzm x0 m0 ml HS.out).mono ?_
                          rintro e Wj ⟨rfl, hWj⟩
                          have o_Wj : Box Wj (wo.heap.size) (.string z) (.int .i64 X) := (o_Wi.far (by omega)).below hWj
                          have t_Wj : Box Wj (We.heap.size) (.string z) (.int .i64 (X + M)) := (t_Wi.far (by omega)).below hWj
                          have u_Wj : Box Wj (Wf.heap.size) (.string z) (.int .i64 (X + M)) := (u_Wi.far (by omega)).below hWj
                          have v_Wj : Box Wj (Wg.heap.size) (.string ByteArray.empty) (.int .i64 0) := (v_Wi.far (by omega)).below hWj
                          have r_Wj : Box Wj (Wg.heap.size + 1) (.string ByteArray.empty) (.int .i64 0) := (r_Wi.stored _ _).below hWj
                          have BWj : Below w.heap.size w Wj := bstep (bel_set2 BWi (by omega) _ _) hWj
                          have zWj := BWj.size
                          have yWj := hWj.size
                          (try simp at yWj)
                          clear o_Wic0 o_Wic1 o_Wif0 o_Wif1 t_Wic0 t_Wic1 t_Wif0 t_Wif1 u_Wic0 u_Wic1 u_Wif0 u_Wif1 v_Wic0 v_Wic1 v_Wif0 v_Wif1 r_Wic0 r_Wic1 r_Wif0 r_Wif1
                          clear hWj
                          obtain ⟨o_Wjl, o_Wjc0, o_Wjc1, o_Wjf0, o_Wjf1⟩ := id o_Wj
                          obtain ⟨t_Wjl, t_Wjc0, t_Wjc1, t_Wjf0, t_Wjf1⟩ := id t_Wj
                          obtain ⟨u_Wjl, u_Wjc0, u_Wjc1, u_Wjf0, u_Wjf1⟩ := id u_Wj
                          obtain ⟨v_Wjl, v_Wjc0, v_Wjc1, v_Wjf0, v_Wjf1⟩ := id v_Wj
                          obtain ⟨r_Wjl, r_Wjc0, r_Wjc1, r_Wjf0, r_Wjf1⟩ := id r_Wj
                          go_wp2_with fail
                          refine (refNumber_I S V _ HS7.out HV2.out).mono ?_
                          rintro e Y2 ⟨rfl, rfl⟩
                          go_wp2_with fail
                          refine (refNone_any _).mono ?_
                          rintro e Wk ⟨rfl, hWk⟩
                          have o_Wk : Box Wk (wo.heap.size) (.string z) (.int .i64 X) := (o_Wj.far (by omega)).below hWk
                          have t_Wk : Box Wk (We.heap.size) (.string z) (.int .i64 (X + M)) := (t_Wj.far (by omega)).below hWk
                          have u_Wk : Box Wk (Wf.heap.size) (.string z) (.int .i64 (X + M)) := (u_Wj.far (by omega)).below hWk
                          have v_Wk : Box Wk (Wg.heap.size) (.string ByteArray.empty) (.int .i64 0) := (v_Wj.far (by omega)).below hWk
                          have r_Wk : Box Wk (Wg.heap.size + 1) (.string z) (.int .i64 (X + M)) := (r_Wj.stored _ _).below hWk
                          have BWk : Below w.heap.size w Wk := bstep (bel_set2 BWj (by omega) _ _) hWk
                          have zWk := BWk.size
                          have yWk := hWk.size
                          (try simp at yWk)
                          clear o_Wjc0 o_Wjc1 o_Wjf0 o_Wjf1 t_Wjc0 t_Wjc1 t_Wjf0 t_Wjf1 u_Wjc0 u_Wjc1 u_Wjf0 u_Wjf1 v_Wjc0 v_Wjc1 v_Wjf0 v_Wjf1 r_Wjc0 r_Wjc1 r_Wjf0 r_Wjf1
                          clear hWk
                          obtain ⟨o_Wkl, o_Wkc0, o_Wkc1, o_Wkf0, o_Wkf1⟩ := id o_Wk
                          obtain ⟨t_Wkl, t_Wkc0, t_Wkc1, t_Wkf0, t_Wkf1⟩ := id t_Wk
                          obtain ⟨u_Wkl, u_Wkc0, u_Wkc1, u_Wkf0, u_Wkf1⟩ := id u_Wk
                          obtain ⟨v_Wkl, v_Wkc0, v_Wkc1, v_Wkf0, v_Wkf1⟩ := id v_Wk
                          obtain ⟨r_Wkl, r_Wkc0, r_Wkc1, r_Wkf0, r_Wkf1⟩ := id r_Wk
                          go_wp2_with fail
                          go_roundw
                          case rel => exact ⟨j2 + 1, by omega, by go_num, (o_Wk.far (by omega)), (bel_set2 BWk (by omega) _ _)⟩
                          case measure => simp [intOf]; omega
                      · have kl : upTo X M ≤ z.size := by omega
                        clear hup
                        as_aux_lemma =>
                          obtain ⟨o_wrl, o_wrc0, o_wrc1, o_wrf0, o_wrf1⟩ := id o_wr
                          go_wp2_with fail
                          refine (take_I_ok z X M S _ hzm x0 m0 ml HS.out).mono ?_
                          rintro e We ⟨rfl, hWe⟩
                          have o_We : Box We (wo.heap.size) (.string z) (.int .i64 X) := o_wr.below hWe
                          have BWe : Below w.heap.size w We := bstep Bwr hWe
                          have zWe := BWe.size
                          have yWe := hWe.size
                          (try simp at yWe)
                          clear o_wrc0 o_wrc1 o_wrf0 o_wrf1
                          clear hWe
                          obtain ⟨o_Wel, o_Wec0, o_Wec1, o_Wef0, o_Wef1⟩ := id o_We
                          go_wp2_with fail
                          refine (uint_I_ok z X M V _ hzm x0 m1 m7 ml HV.out).mono ?_
                          rintro e Wf ⟨rfl, hWf⟩
                          have o_Wf : Box Wf (wo.heap.size) (.string z) (.int .i64 X) := (o_We.alloc _).below hWf
                          have t_Wf : Box Wf (We.heap.size) (.string z) (.int .i64 (X + M)) := (Box.new_at _ _ _ _ (We.heap.size) (by simp)).below hWf
                          have BWf : Below w.heap.size w Wf := bstep (bel_alloc BWe _) hWf
                          have zWf := BWf.size
                          have yWf := hWf.size
                          (try simp at yWf)
                          clear o_Wec0 o_Wec1 o_Wef0 o_Wef1
                          clear hWf
                          obtain ⟨o_Wfl, o_Wfc0, o_Wfc1, o_Wff0, o_Wff1⟩ := id o_Wf
                          obtain ⟨t_Wfl, t_Wfc0, t_Wfc1, t_Wff0, t_Wff1⟩ := id t_Wf
                          go_wp2_with fail
                          refine (skip_ok z X M _ (by omega) x0 x1 HU.out kl).mono ?_
                          rintro e Wg ⟨rfl, hWg⟩
                          have o_Wg : Box Wg (wo.heap.size) (.string z) (.int .i64 X) := (o_Wf.alloc _).below hWg
                          have t_Wg : Box Wg (We.heap.size) (.string z) (.int .i64 (X + M)) := (t_Wf.alloc _).below hWg
                          have u_Wg : Box Wg (Wf.heap.size) (.string z) (.int .i64 (X + M)) := (Box.new_at _ _ _ _ (Wf.heap.size) (by simp)).below hWg
                          have BWg : Below w.heap.size w Wg := bstep (bel_alloc BWf _) hWg
                          have zWg := BWg.size
                          have yWg := hWg.size
                          (try simp at yWg)
                          clear o_Wfc0 o_Wfc1 o_Wff0 o_Wff1 t_Wfc0 t_Wfc1 t_Wff0 t_Wff1
                          clear hWg
                          obtain ⟨o_Wgl, o_Wgc0, o_Wgc1, o_Wgf0, o_Wgf1⟩ := id o_Wg
                          obtain ⟨t_Wgl, t_Wgc0, t_Wgc1, t_Wgf0, t_Wgf1⟩ := id t_Wg
                          obtain ⟨u_Wgl, u_Wgc0, u_Wgc1, u_Wgf0, u_Wgf1⟩ := id u_Wg
                          go_wp2_with fail
                          refine (unit_is M true _ HU.out).mono ?_
                          rintro e Y1 ⟨rfl, rfl⟩
                          go_wp2_with fail
                          go_quiet ((go_at_call 19; exact Calls.quiet_of_same ((refUp_any X M _ x0 (by omega) HU.out).mono fun _ _ h => ⟨h.1, h.2.symm⟩)))
                          go_wp2_with fail
                          refine (refTake_I z X M S _ hzm x0 m0 ml HS.out).mono ?_
                          rintro e Wh ⟨rfl, hWh⟩
                          have o_Wh : Box Wh (wo.heap.size) (.string z) (.int .i64 X) := (((o_Wg.alloc _).drewN _).alloc _).below hWh
                          have t_Wh : Box Wh (We.heap.size) (.string z) (.int .i64 (X + M)) := (((t_Wg.alloc _).drewN _).alloc _).below hWh
                          have u_Wh : Box Wh (Wf.heap.size) (.string z) (.int .i64 (X + M)) := (((u_Wg.alloc _).drewN _).alloc _).below hWh
                          have v_Wh : Box Wh (Wg.heap.size) (.string z) (.int .i64 (upTo X M)) := (((Box.new_at _ _ _ _ (Wg.heap.size) (by simp)).drewN _).alloc _).below hWh
                          have r_Wh : Box Wh (Wg.heap.size + 1) (.string ⟨#[]⟩) (.int .i64 0) := (Box.new_at _ _ _ _ (Wg.heap.size + 1) (by simp)).below hWh
                          have BWh : Below w.heap.size w Wh := bstep (bel_alloc (bel_drewN (bel_alloc BWg _) _) _) hWh
                          have zWh := BWh.size
                          have yWh := hWh.size
                          (try simp at yWh)
                          clear o_Wgc0 o_Wgc1 o_Wgf0 o_Wgf1 t_Wgc0 t_Wgc1 t_Wgf0 t_Wgf1 u_Wgc0 u_Wgc1 u_Wgf0 u_Wgf1
                          clear hWh
                          obtain ⟨o_Whl, o_Whc0, o_Whc1, o_Whf0, o_Whf1⟩ := id o_Wh
                          obtain ⟨t_Whl, t_Whc0, t_Whc1, t_Whf0, t_Whf1⟩ := id t_Wh
                          obtain ⟨u_Whl, u_Whc0, u_Whc1, u_Whf0, u_Whf1⟩ := id u_Wh
                          obtain ⟨v_Whl, v_Whc0, v_Whc1, v_Whf0, v_Whf1⟩ := id v_Wh
                          obtain ⟨r_Whl, r_Whc0, r_Whc1, r_Whf0, r_Whf1⟩ := id r_Wh
                          go_wp2_with fail
                          refine (refNone_any _).mono ?_
                          rintro e Wi ⟨rfl, hWi⟩
                          have o_Wi : Box Wi (wo.heap.size) (.string z) (.int .i64 X) := (o_Wh.far (by omega)).below hWi
                          have t_Wi : Box Wi (We.heap.size) (.string z) (.int .i64 (X + M)) := (t_Wh.far (by omega)).below hWi
                          have u_Wi : Box Wi (Wf.heap.size) (.string z) (.int .i64 (X + M)) := (u_Wh.far (by omega)).below hWi
                          have v_Wi : Box Wi (Wg.heap.size) (.string z) (.int .i64 (upTo X M)) := (v_Wh.far (by omega)).below hWi
                          have r_Wi : Box Wi (Wg.heap.size + 1) (.string z) (.int .i64 (X + M)) := (r_Wh.stored _ _).below hWi
                          have BWi : Below w.heap.size w Wi := bstep (bel_set2 BWh (by omega) _ _) hWi
                          have zWi := BWi.size
                          have yWi := hWi.size
                          (try simp at yWi)
                          clear o_Whc0 o_Whc1 o_Whf0 o_Whf1 t_Whc0 t_Whc1 t_Whf0 t_Whf1 u_Whc0 u_Whc1 u_Whf0 u_Whf1 v_Whc0 v_Whc1 v_Whf0 v_Whf1 r_Whc0 r_Whc1 r_Whf0 r_Whf1
                          clear hWi
                          obtain ⟨o_Wil, o_Wic0, o_Wic1, o_Wif0, o_Wif1⟩ := id o_Wi
                          obtain ⟨t_Wil, t_Wic0, t_Wic1, t_Wif0, t_Wif1⟩ := id t_Wi
                          obtain ⟨u_Wil, u_Wic0, u_Wic1, u_Wif0, u_Wif1⟩ := id u_Wi
                          obtain ⟨v_Wil, v_Wic0, v_Wic1, v_Wif0, v_Wif1⟩ := id v_Wi
                          obtain ⟨r_Wil, r_Wic0, r_Wic1, r_Wif0, r_Wif1⟩ := id r_Wi
                          go_wp2_with fail
                          refine (refTake_I z X M S _ hzm x0 m0 ml HS.out).mono ?_
                          rintro e Wj ⟨rfl, hWj⟩
                          have o_Wj : Box Wj (wo.heap.size) (.string z) (.int .i64 X) := (o_Wi.far (by omega)).below hWj
                          have t_Wj : Box Wj (We.heap.size) (.string z) (.int .i64 (X + M)) := (t_Wi.far (by omega)).below hWj
                          have u_Wj : Box Wj (Wf.heap.size) (.string z) (.int .i64 (X + M)) := (u_Wi.far (by omega)).below hWj
                          have v_Wj : Box Wj (Wg.heap.size) (.string z) (.int .i64 (upTo X M)) := (v_Wi.far (by omega)).below hWj
                          have r_Wj : Box Wj (Wg.heap.size + 1) (.string ByteArray.empty) (.int .i64 0) := (r_Wi.stored _ _).below hWj
                          have BWj : Below w.heap.size w Wj := bstep (bel_set2 BWi (by omega) _ _) hWj
                          have zWj := BWj.size
                          have yWj := hWj.size
                          (try simp at yWj)
                          clear o_Wic0 o_Wic1 o_Wif0 o_Wif1 t_Wic0 t_Wic1 t_Wif0 t_Wif1 u_Wic0 u_Wic1 u_Wif0 u_Wif1 v_Wic0 v_Wic1 v_Wif0 v_Wif1 r_Wic0 r_Wic1 r_Wif0 r_Wif1
                          clear hWj
                          obtain ⟨o_Wjl, o_Wjc0, o_Wjc1, o_Wjf0, o_Wjf1⟩ := id o_Wj
                          obtain ⟨t_Wjl, t_Wjc0, t_Wjc1, t_Wjf0, t_Wjf1⟩ := id t_Wj
                          obtain ⟨u_Wjl, u_Wjc0, u_Wjc1, u_Wjf0, u_Wjf1⟩ := id u_Wj
                          obtain ⟨v_Wjl, v_Wjc0, v_Wjc1, v_Wjf0, v_Wjf1⟩ := id v_Wj
                          obtain ⟨r_Wjl, r_Wjc0, r_Wjc1, r_Wjf0, r_Wjf1⟩ := id r_Wj
                          go_wp2_with fail
                          refine (refNumber_I S V _ HS7.out HV2.out).mono ?_
                          rintro e Y2 ⟨rfl, rfl⟩
                          go_wp2_with fail
                          refine (refNone_any _).mono ?_
                          rintro e Wk ⟨rfl, hWk⟩
                          have o_Wk : Box Wk (wo.heap.size) (.string z) (.int .i64 X) := (o_Wj.far (by omega)).below hWk
                          have t_Wk : Box Wk (We.heap.size) (.string z) (.int .i64 (X + M)) := (t_Wj.far (by omega)).below hWk
                          have u_Wk : Box Wk (Wf.heap.size) (.string z) (.int .i64 (X + M)) := (u_Wj.far (by omega)).below hWk
                          have v_Wk : Box Wk (Wg.heap.size) (.string z) (.int .i64 (upTo X M)) := (v_Wj.far (by omega)).below hWk
                          have r_Wk : Box Wk (Wg.heap.size + 1) (.string z) (.int .i64 (X + M)) := (r_Wj.stored _ _).below hWk
                          have BWk : Below w.heap.size w Wk := bstep (bel_set2 BWj (by omega) _ _) hWk
                          have zWk := BWk.size
                          have yWk := hWk.size
                          (try simp at yWk)
                          clear o_Wjc0 o_Wjc1 o_Wjf0 o_Wjf1 t_Wjc0 t_Wjc1 t_Wjf0 t_Wjf1 u_Wjc0 u_Wjc1 u_Wjf0 u_Wjf1 v_Wjc0 v_Wjc1 v_Wjf0 v_Wjf1 r_Wjc0 r_Wjc1 r_Wjf0 r_Wjf1
                          clear hWk
                          obtain ⟨o_Wkl, o_Wkc0, o_Wkc1, o_Wkf0, o_Wkf1⟩ := id o_Wk
                          obtain ⟨t_Wkl, t_Wkc0, t_Wkc1, t_Wkf0, t_Wkf1⟩ := id t_Wk
                          obtain ⟨u_Wkl, u_Wkc0, u_Wkc1, u_Wkf0, u_Wkf1⟩ := id u_Wk
                          obtain ⟨v_Wkl, v_Wkc0, v_Wkc1, v_Wkf0, v_Wkf1⟩ := id v_Wk
                          obtain ⟨r_Wkl, r_Wkc0, r_Wkc1, r_Wkf0, r_Wkf1⟩ := id r_Wk
                          go_wp2_with fail
                          have o_L : Box ((Wk.setCell ⟨Wg.heap.size + 1, 0, none⟩ (.string ByteArray.empty)).setCell ⟨Wg.heap.size + 1, 1, none⟩ (.int .i64 0)) (wo.heap.size) (.string z) (.int .i64 X) := (o_Wk.far (by omega))
                          have v_L : Box ((Wk.setCell ⟨Wg.heap.size + 1, 0, none⟩ (.string ByteArray.empty)).setCell ⟨Wg.heap.size + 1, 1, none⟩ (.int .i64 0)) (Wg.heap.size) (.string z) (.int .i64 (upTo X M)) := (v_Wk.far (by omega))
                          have r_L : Box ((Wk.setCell ⟨Wg.heap.size + 1, 0, none⟩ (.string ByteArray.empty)).setCell ⟨Wg.heap.size + 1, 1, none⟩ (.int .i64 0)) (Wg.heap.size + 1) (.string ByteArray.empty) (.int .i64 0) := (r_Wk.stored _ _)
                          have BL : Below w.heap.size w ((Wk.setCell ⟨Wg.heap.size + 1, 0, none⟩ (.string ByteArray.empty)).setCell ⟨Wg.heap.size + 1, 1, none⟩ (.int .i64 0)) := (bel_set2 BWk (by omega) _ _)
                          clear o_Wkc0 o_Wkc1 o_Wkf0 o_Wkf1 t_Wkc0 t_Wkc1 t_Wkf0 t_Wkf1 u_Wkc0 u_Wkc1 u_Wkf0 u_Wkf1 v_Wkc0 v_Wkc1 v_Wkf0 v_Wkf1 r_Wkc0 r_Wkc1 r_Wkf0 r_Wkf1
                          generalize ((Wk.setCell ⟨Wg.heap.size + 1, 0, none⟩ (.string ByteArray.empty)).setCell ⟨Wg.heap.size + 1, 1, none⟩ (.int .i64 0)) = WL at o_L v_L r_L BL ⊢
                          have zL := BL.size
                          obtain ⟨oLl, oLc0, oLc1, oLf0, oLf1⟩ := id o_L
                          obtain ⟨vLl, vLc0, vLc1, vLf0, vLf1⟩ := id v_L
                          obtain ⟨rLl, rLc0, rLc1, rLf0, rLf1⟩ := id r_L
                          go_still_tail 7, (by kernel_rfl)
                          still_call ((refUp_any X M _ x0 (by omega) HU.out).mono fun _ _ h => ⟨h.1, h.2.symm⟩)
                          repeat still_step
                          refine wpStill_nil ?_
                          change wpList _ _ _ _ _ WL.drew
                          go_wp2
                          go_roundw
                          case rel => exact ⟨j2 + 1, by omega, by go_num, (o_L.drew.far (by omega)), bel_set2 BL.drew (by omega) _ _⟩
                          case measure => simp [intOf]; omega
                · have t3 : decide (7 < M) = true := by simp; omega
                  have MU := Lib.hid (show M < 1 ∨ 7 < M by omega)
                  by_cases ms : z.size - X < M
                  · have t4 : decide (z.size - X < M) = true := by simp; omega
                    cases hu : unitB M
                    · have HU := Lib.hid hu
                      clear hu
                      as_aux_lemma =>
                        obtain ⟨o_wrl, o_wrc0, o_wrc1, o_wrf0, o_wrf1⟩ := id o_wr
                        go_wp2_with fail
                        refine (take_short z X M _ hzm x0 x1 m0 ms).mono ?_
                        rintro e We ⟨rfl, hWe⟩
                        have o_We : Box We (wo.heap.size) (.string z) (.int .i64 X) := o_wr.below hWe
                        have BWe : Below w.heap.size w We := bstep Bwr hWe
                        have zWe := BWe.size
                        have yWe := hWe.size
                        (try simp at yWe)
                        clear o_wrc0 o_wrc1 o_wrf0 o_wrf1
                        clear hWe
                        obtain ⟨o_Wel, o_Wec0, o_Wec1, o_Wef0, o_Wef1⟩ := id o_We
                        go_wp2_with fail
                        refine (uint_neg z X M _ hzm x0 x1 MU.out).mono ?_
                        rintro e Wf ⟨rfl, hWf⟩
                        have o_Wf : Box Wf (wo.heap.size) (.string z) (.int .i64 X) := (o_We.alloc _).below hWf
                        have t_Wf : Box Wf (We.heap.size) (.string ByteArray.empty) (.int .i64 0) := (Box.new_at _ _ _ _ (We.heap.size) (by simp)).below hWf
                        have BWf : Below w.heap.size w Wf := bstep (bel_alloc BWe _) hWf
                        have zWf := BWf.size
                        have yWf := hWf.size
                        (try simp at yWf)
                        clear o_Wec0 o_Wec1 o_Wef0 o_Wef1
                        clear hWf
                        obtain ⟨o_Wfl, o_Wfc0, o_Wfc1, o_Wff0, o_Wff1⟩ := id o_Wf
                        obtain ⟨t_Wfl, t_Wfc0, t_Wfc1, t_Wff0, t_Wff1⟩ := id t_Wf
                        go_wp2_with fail
                        refine (skip_unit z X M _ hzm x0 x1 HU.out).mono ?_
                        rintro e Wg ⟨rfl, hWg⟩
                        have o_Wg : Box Wg (wo.heap.size) (.string z) (.int .i64 X) := (o_Wf.alloc _).below hWg
                        have t_Wg : Box Wg (We.heap.size) (.string ByteArray.empty) (.int .i64 0) := (t_Wf.alloc _).below hWg
                        have u_Wg : Box Wg (Wf.heap.size) (.string ByteArray.empty) (.int .i64 0) := (Box.new_at _ _ _ _ (Wf.heap.size) (by simp)).below hWg
                        have BWg : Below w.heap.size w Wg := bstep (bel_alloc BWf _) hWg
                        have zWg := BWg.size
                        have yWg := hWg.size
                        (try simp at yWg)
                        clear o_Wfc0 o_Wfc1 o_Wff0 o_Wff1 t_Wfc0 t_Wfc1 t_Wff0 t_Wff1
                        clear hWg
                        obtain ⟨o_Wgl, o_Wgc0, o_Wgc1, o_Wgf0, o_Wgf1⟩ := id o_Wg
                        obtain ⟨t_Wgl, t_Wgc0, t_Wgc1, t_Wgf0, t_Wgf1⟩ := id t_Wg
                        obtain ⟨u_Wgl, u_Wgc0, u_Wgc1, u_Wgf0, u_Wgf1⟩ := id u_Wg
                        go_wp2_with fail
                        refine (unit_is M false _ HU.out).mono ?_
                        rintro e Y1 ⟨rfl, rfl⟩
                        go_wp2_with fail
                        go_quiet (fail)
                        go_wp2_with fail
                        refine (refNone_any _).mono ?_
                        rintro e Wi ⟨rfl, hWi⟩
                        have o_Wi : Box Wi (wo.heap.size) (.string z) (.int .i64 X) := (((o_Wg.alloc _).drewN _).alloc _).below hWi
                        have t_Wi : Box Wi (We.heap.size) (.string ByteArray.empty) (.int .i64 0) := (((t_Wg.alloc _).drewN _).alloc _).below hWi
                        have u_Wi : Box Wi (Wf.heap.size) (.string ByteArray.empty) (.int .i64 0) := (((u_Wg.alloc _).drewN _).alloc _).below hWi
                        have v_Wi : Box Wi (Wg.heap.size) (.string ByteArray.empty) (.int .i64 0) := (((Box.new_at _ _ _ _ (Wg.heap.size) (by simp)).drewN _).alloc _).below hWi
                        have r_Wi : Box Wi (Wg.heap.size + 1) (.string ⟨#[]⟩) (.int .i64 0) := (Box.new_at _ _ _ _ (Wg.heap.size + 1) (by simp)).below hWi
                        have BWi : Below w.heap.size w Wi := bstep (bel_alloc (bel_drewN (bel_alloc BWg _) _) _) hWi
                        have zWi := BWi.size
                        have yWi := hWi.size
                        (try simp at yWi)
                        clear o_Wgc0 o_Wgc1 o_Wgf0 o_Wgf1 t_Wgc0 t_Wgc1 t_Wgf0 t_Wgf1 u_Wgc0 u_Wgc1 u_Wgf0 u_Wgf1
                        clear hWi
                        obtain ⟨o_Wil, o_Wic0, o_Wic1, o_Wif0, o_Wif1⟩ := id o_Wi
                        obtain ⟨t_Wil, t_Wic0, t_Wic1, t_Wif0, t_Wif1⟩ := id t_Wi
                        obtain ⟨u_Wil, u_Wic0, u_Wic1, u_Wif0, u_Wif1⟩ := id u_Wi
                        obtain ⟨v_Wil, v_Wic0, v_Wic1, v_Wif0, v_Wif1⟩ := id v_Wi
                        obtain ⟨r_Wil, r_Wic0, r_Wic1, r_Wif0, r_Wif1⟩ := id r_Wi
                        go_wp2_with fail
                        refine (refNone_any _).mono ?_
                        rintro e Wk ⟨rfl, hWk⟩
                        have o_Wk : Box Wk (wo.heap.size) (.string z) (.int .i64 X) := (o_Wi.far (by omega)).below hWk
                        have t_Wk : Box Wk (We.heap.size) (.string ByteArray.empty) (.int .i64 0) := (t_Wi.far (by omega)).below hWk
                        have u_Wk : Box Wk (Wf.heap.size) (.string ByteArray.empty) (.int .i64 0) := (u_Wi.far (by omega)).below hWk
                        have v_Wk : Box Wk (Wg.heap.size) (.string ByteArray.empty) (.int .i64 0) := (v_Wi.far (by omega)).below hWk
                        have r_Wk : Box Wk (Wg.heap.size + 1) (.string ByteArray.empty) (.int .i64 0) := (r_Wi.stored _ _).below hWk
                        have BWk : Below w.heap.size w Wk := bstep (bel_set2 BWi (by omega) _ _) hWk
                        have zWk := BWk.size
                        have yWk := hWk.size
                        (try simp at yWk)
                        clear o_Wic0 o_Wic1 o_Wif0 o_Wif1 t_Wic0 t_Wic1 t_Wif0 t_Wif1 u_Wic0 u_Wic1 u_Wif0 u_Wif1 v_Wic0 v_Wic1 v_Wif0 v_Wif1 r_Wic0 r_Wic1 r_Wif0 r_Wif1
                        clear hWk
                        obtain ⟨o_Wkl, o_Wkc0, o_Wkc1, o_Wkf0, o_Wkf1⟩ := id o_Wk
                        obtain ⟨t_Wkl, t_Wkc0, t_Wkc1, t_Wkf0, t_Wkf1⟩ := id t_Wk
                        obtain ⟨u_Wkl, u_Wkc0, u_Wkc1, u_Wkf0, u_Wkf1⟩ := id u_Wk
                        obtain ⟨v_Wkl, v_Wkc0, v_Wkc1, v_Wkf0, v_Wkf1⟩ := id v_Wk
                        obtain ⟨r_Wkl, r_Wkc0, r_Wkc1, r_Wkf0, r_Wkf1⟩ := id r_Wk
                        go_wp2_with fail
                        go_roundw
                        case rel => exact ⟨j2 + 1, by omega, by go_num, (o_Wk.far (by omega)), (bel_set2 BWk (by omega) _ _)⟩
                        case measure => simp [intOf]; omega
                    · have HU := Lib.hid hu
                      clear hu
                      by_cases hup : (z.size : Int) < upTo X M
                      · have ks := hup
                        have t5 : decide ((z.size : Int) < upTo X M) = true := by simpa using hup
                        as_aux_lemma =>
                          obtain ⟨o_wrl, o_wrc0, o_wrc1, o_wrf0, o_wrf1⟩ := id o_wr
                          go_wp2_with fail
                          refine (take_short z X M _ hzm x0 x1 m0 ms).mono ?_
                          rintro e We ⟨rfl, hWe⟩
                          have o_We : Box We (wo.heap.size) (.string z) (.int .i64 X) := o_wr.below hWe
                          have BWe : Below w.heap.size w We := bstep Bwr hWe
                          have zWe := BWe.size
                          have yWe := hWe.size
                          (try simp at yWe)
                          clear o_wrc0 o_wrc1 o_wrf0 o_wrf1
                          clear hWe
                          obtain ⟨o_Wel, o_Wec0, o_Wec1, o_Wef0, o_Wef1⟩ := id o_We
                          go_wp2_with fail
                          refine (uint_neg z X M _ hzm x0 x1 MU.out).mono ?_
                          rintro e Wf ⟨rfl, hWf⟩
                          have o_Wf : Box Wf (wo.heap.size) (.string z) (.int .i64 X) := (o_We.alloc _).below hWf
                          have t_Wf : Box Wf (We.heap.size) (.string ByteArray.empty) (.int .i64 0) := (Box.new_at _ _ _ _ (We.heap.size) (by simp)).below hWf
                          have BWf : Below w.heap.size w Wf := bstep (bel_alloc BWe _) hWf
                          have zWf := BWf.size
                          have yWf := hWf.size
                          (try simp at yWf)
                          clear o_Wec0 o_Wec1 o_Wef0 o_Wef1
                          clear hWf
                          obtain ⟨o_Wfl, o_Wfc0, o_Wfc1, o_Wff0, o_Wff1⟩ := id o_Wf
                          obtain ⟨t_Wfl, t_Wfc0, t_Wfc1, t_Wff0, t_Wff1⟩ := id t_Wf
                          go_wp2_with fail
                          refine (skip_short z X M _ (by omega) x0 x1 HU.out ks).mono ?_
                          rintro e Wg ⟨rfl, hWg⟩
                          have o_Wg : Box Wg (wo.heap.size) (.string z) (.int .i64 X) := (o_Wf.alloc _).below hWg
                          have t_Wg : Box Wg (We.heap.size) (.string ByteArray.empty) (.int .i64 0) := (t_Wf.alloc _).below hWg
                          have u_Wg : Box Wg (Wf.heap.size) (.string ByteArray.empty) (.int .i64 0) := (Box.new_at _ _ _ _ (Wf.heap.size) (by simp)).below hWg
                          have BWg : Below w.heap.size w Wg := bstep (bel_alloc BWf _) hWg
                          have zWg := BWg.size
                          have yWg := hWg.size
                          (try simp at yWg)
                          clear o_Wfc0 o_Wfc1 o_Wff0 o_Wff1 t_Wfc0 t_Wfc1 t_Wff0 t_Wff1
                          clear hWg
                          obtain ⟨o_Wgl, o_Wgc0, o_Wgc1, o_Wgf0, o_Wgf1⟩ := id o_Wg
                          obtain ⟨t_Wgl, t_Wgc0, t_Wgc1, t_Wgf0, t_Wgf1⟩ := id t_Wg
                          obtain ⟨u_Wgl, u_Wgc0, u_Wgc1, u_Wgf0, u_Wgf1⟩ := id u_Wg
                          go_wp2_with fail
                          refine (unit_is M true _ HU.out).mono ?_
                          rintro e Y1 ⟨rfl, rfl⟩
                          go_wp2_with fail
                          go_quiet ((go_at_call 19; exact Calls.quiet_of_same ((refUp_any X M _ x0 (by omega) HU.out).mono fun _ _ h => ⟨h.1, h.2.symm⟩)))
                          go_wp2_with fail
                          refine (refNone_any _).mono ?_
                          rintro e Wi ⟨rfl, hWi⟩
                          have o_Wi : Box Wi (wo.heap.size) (.string z) (.int .i64 X) := (((o_Wg.alloc _).drewN _).alloc _).below hWi
                          have t_Wi : Box Wi (We.heap.size) (.string ByteArray.empty) (.int .i64 0) := (((t_Wg.alloc _).drewN _).alloc _).below hWi
                          have u_Wi : Box Wi (Wf.heap.size) (.string ByteArray.empty) (.int .i64 0) := (((u_Wg.alloc _).drewN _).alloc _).below hWi
                          have v_Wi : Box Wi (Wg.heap.size) (.string ByteArray.empty) (.int .i64 0) := (((Box.new_at _ _ _ _ (Wg.heap.size) (by simp)).drewN _).alloc _).below hWi
                          have r_Wi : Box Wi (Wg.heap.size + 1) (.string ⟨#[]⟩) (.int .i64 0) := (Box.new_at _ _ _ _ (Wg.heap.size + 1) (by simp)).below hWi
                          have BWi : Below w.heap.size w Wi := bstep (bel_alloc (bel_drewN (bel_alloc BWg _) _) _) hWi
                          have zWi := BWi.size
                          have yWi := hWi.size
                          (try simp at yWi)
                          clear o_Wgc0 o_Wgc1 o_Wgf0 o_Wgf1 t_Wgc0 t_Wgc1 t_Wgf0 t_Wgf1 u_Wgc0 u_Wgc1 u_Wgf0 u_Wgf1
                          clear hWi
                          obtain ⟨o_Wil, o_Wic0, o_Wic1, o_Wif0, o_Wif1⟩ := id o_Wi
                          obtain ⟨t_Wil, t_Wic0, t_Wic1, t_Wif0, t_Wif1⟩ := id t_Wi
                          obtain ⟨u_Wil, u_Wic0, u_Wic1, u_Wif0, u_Wif1⟩ := id u_Wi
                          obtain ⟨v_Wil, v_Wic0, v_Wic1, v_Wif0, v_Wif1⟩ := id v_Wi
                          obtain ⟨r_Wil, r_Wic0, r_Wic1, r_Wif0, r_Wif1⟩ := id r_Wi
                          go_wp2_with fail
                          refine (refNone_any _).mono ?_
                          rintro e Wk ⟨rfl, hWk⟩
                          have o_Wk : Box Wk (wo.heap.size) (.string z) (.int .i64 X) := (o_Wi.far (by omega)).below hWk
                          have t_Wk : Box Wk (We.heap.size) (.string ByteArray.empty) (.int .i64 0) := (t_Wi.far (by omega)).below hWk
                          have u_Wk : Box Wk (Wf.heap.size) (.string ByteArray.empty) (.int .i64 0) := (u_Wi.far (by omega)).below hWk
                          have v_Wk : Box Wk (Wg.heap.size) (.string ByteArray.empty) (.int .i64 0) := (v_Wi.far (by omega)).below hWk
                          have r_Wk : Box Wk (Wg.heap.size + 1) (.string ByteArray.empty) (.int .i64 0) := (r_Wi.stored _ _).below hWk
                          have BWk : Below w.heap.size w Wk := bstep (bel_set2 BWi (by omega) _ _) hWk
                          have zWk := BWk.size
                          have yWk := hWk.size
                          (try simp at yWk)
                          clear o_Wic0 o_Wic1 o_Wif0 o_Wif1 t_Wic0 t_Wic1 t_Wif0 t_Wif1 u_Wic0 u_Wic1 u_Wif0 u_Wif1 v_Wic0 v_Wic1 v_Wif0 v_Wif1 r_Wic0 r_Wic1 r_Wif0 r_Wif1
                          clear hWk
                          obtain ⟨o_Wkl, o_Wkc0, o_Wkc1, o_Wkf0, o_Wkf1⟩ := id o_Wk
                          obtain ⟨t_Wkl, t_Wkc0, t_Wkc1, t_Wkf0, t_Wkf1⟩ := id t_Wk
                          obtain ⟨u_Wkl, u_Wkc0, u_Wkc1, u_Wkf0, u_Wkf1⟩ := id u_Wk
                          obtain ⟨v_Wkl, v_Wkc0, v_Wkc1, v_Wkf0, v_Wkf1⟩ := id v_Wk
                          obtain ⟨r_Wkl, r_Wkc0, r_Wkc1, r_Wkf0, r_Wkf1⟩ := id r_Wk
                          go_wp2_with fail
                          go_roundw
                          case rel => exact ⟨j2 + 1, by omega, by go_num, (o_Wk.far (by omega)), (bel_set2 BWk (by omega) _ _)⟩
                          case measure => simp [intOf]; omega
                      · have kl : upTo X M ≤ z.size := by omega
                        clear hup
                        as_aux_lemma =>
                          obtain ⟨o_wrl, o_wrc0, o_wrc1, o_wrf0, o_wrf1⟩ := id o_wr
                          go_wp2_with fail
                          refine (take_short z X M _ hzm x0 x1 m0 ms).mono ?_
                          rintro e We ⟨rfl, hWe⟩
                          have o_We : Box We (wo.heap.size) (.string z) (.int .i64 X) := o_wr.below hWe
                          have BWe : Below w.heap.size w We := bstep Bwr hWe
                          have zWe := BWe.size
                          have yWe := hWe.size
                          (try simp at yWe)
                          clear o_wrc0 o_wrc1 o_wrf0 o_wrf1
                          clear hWe
                          obtain ⟨o_Wel, o_Wec0, o_Wec1, o_Wef0, o_Wef1⟩ := id o_We
                          go_wp2_with fail
                          refine (uint_neg z X M _ hzm x0 x1 MU.out).mono ?_
                          rintro e Wf ⟨rfl, hWf⟩
                          have o_Wf : Box Wf (wo.heap.size) (.string z) (.int .i64 X) := (o_We.alloc _).below hWf
                          have t_Wf : Box Wf (We.heap.size) (.string ByteArray.empty) (.int .i64 0) := (Box.new_at _ _ _ _ (We.heap.size) (by simp)).below hWf
                          have BWf : Below w.heap.size w Wf := bstep (bel_alloc BWe _) hWf
                          have zWf := BWf.size
                          have yWf := hWf.size
                          (try simp at yWf)
                          clear o_Wec0 o_Wec1 o_Wef0 o_Wef1
                          clear hWf
                          obtain ⟨o_Wfl, o_Wfc0, o_Wfc1, o_Wff0, o_Wff1⟩ := id o_Wf
                          obtain ⟨t_Wfl, t_Wfc0, t_Wfc1, t_Wff0, t_Wff1⟩ := id t_Wf
                          go_wp2_with fail
                          refine (skip_ok z X M _ (by omega) x0 x1 HU.out kl).mono ?_
                          rintro e Wg ⟨rfl, hWg⟩
                          have o_Wg : Box Wg (wo.heap.size) (.string z) (.int .i64 X) := (o_Wf.alloc _).below hWg
                          have t_Wg : Box Wg (We.heap.size) (.string ByteArray.empty) (.int .i64 0) := (t_Wf.alloc _).below hWg
                          have u_Wg : Box Wg (Wf.heap.size) (.string ByteArray.empty) (.int .i64 0) := (Box.new_at _ _ _ _ (Wf.heap.size) (by simp)).below hWg
                          have BWg : Below w.heap.size w Wg := bstep (bel_alloc BWf _) hWg
                          have zWg := BWg.size
                          have yWg := hWg.size
                          (try simp at yWg)
                          clear o_Wfc0 o_Wfc1 o_Wff0 o_Wff1 t_Wfc0 t_Wfc1 t_Wff0 t_Wff1
                          clear hWg
                          obtain ⟨o_Wgl, o_Wgc0, o_Wgc1, o_Wgf0, o_Wgf1⟩ := id o_Wg
                          obtain ⟨t_Wgl, t_Wgc0, t_Wgc1, t_Wgf0, t_Wgf1⟩ := id t_Wg
                          obtain ⟨u_Wgl, u_Wgc0, u_Wgc1, u_Wgf0, u_Wgf1⟩ := id u_Wg
                          go_wp2_with fail
                          refine (unit_is M true _ HU.out).mono ?_
                          rintro e Y1 ⟨rfl, rfl⟩
                          go_wp2_with fail
                          go_quiet ((go_at_call 19; exact Calls.quiet_of_same ((refUp_any X M _ x0 (by omega) HU.out).mono fun _ _ h => ⟨h.1, h.2.symm⟩)))
                          go_wp2_with fail
                          refine (refNone_any _).mono ?_
                          rintro e Wi ⟨rfl, hWi⟩
                          have o_Wi : Box Wi (wo.heap.size) (.string z) (.int .i64 X) := (((o_Wg.alloc _).drewN _).alloc _).below hWi
                          have t_Wi : Box Wi (We.heap.size) (.string ByteArray.empty) (.int .i64 0) := (((t_Wg.alloc _).drewN _).alloc _).below hWi
                          have u_Wi : Box Wi (Wf.heap.size) (.string ByteArray.empty) (.int .i64 0) := (((u_Wg.alloc _).drewN _).alloc _).below hWi
                          have v_Wi : Box Wi (Wg.heap.size) (.string z) (.int .i64 (upTo X M)) := (((Box.new_at _ _ _ _ (Wg.heap.size) (by simp)).drewN _).alloc _).below hWi
                          have r_Wi : Box Wi (Wg.heap.size + 1) (.string ⟨#[]⟩) (.int .i64 0) := (Box.new_at _ _ _ _ (Wg.heap.size + 1) (by simp)).below hWi
                          have BWi : Below w.heap.size w Wi := bstep (bel_alloc (bel_drewN (bel_alloc BWg _) _) _) hWi
                          have zWi := BWi.size
                          have yWi := hWi.size
                          (try simp at yWi)
                          clear o_Wgc0 o_Wgc1 o_Wgf0 o_Wgf1 t_Wgc0 t_Wgc1 t_Wgf0 t_Wgf1 u_Wgc0 u_Wgc1 u_Wgf0 u_Wgf1
                          clear hWi
                          obtain ⟨o_Wil, o_Wic0, o_Wic1, o_Wif0, o_Wif1⟩ := id o_Wi
                          obtain ⟨t_Wil, t_Wic0, t_Wic1, t_Wif0, t_Wif1⟩ := id t_Wi
                          obtain ⟨u_Wil, u_Wic0, u_Wic1, u_Wif0, u_Wif1⟩ := id u_Wi
                          obtain ⟨v_Wil, v_Wic0, v_Wic1, v_Wif0, v_Wif1⟩ := id v_Wi
                          obtain ⟨r_Wil, r_Wic0, r_Wic1, r_Wif0, r_Wif1⟩ := id r_Wi
                          go_wp2_with fail
                          refine (refNone_any _).mono ?_
                          rintro e Wk ⟨rfl, hWk⟩
                          have o_Wk : Box Wk (wo.heap.size) (.string z) (.int .i64 X) := (o_Wi.far (by omega)).below hWk
                          have t_Wk : Box Wk (We.heap.size) (.string ByteArray.empty) (.int .i64 0) := (t_Wi.far (by omega)).below hWk
                          have u_Wk : Box Wk (Wf.heap.size) (.string ByteArray.empty) (.int .i64 0) := (u_Wi.far (by omega)).below hWk
                          have v_Wk : Box Wk (Wg.heap.size) (.string z) (.int .i64 (upTo X M)) := (v_Wi.far (by omega)).below hWk
                          have r_Wk : Box Wk (Wg.heap.size + 1) (.string ByteArray.empty) (.int .i64 0) := (r_Wi.stored _ _).below hWk
                          have BWk : Below w.heap.size w Wk := bstep (bel_set2 BWi (by omega) _ _) hWk
                          have zWk := BWk.size
                          have yWk := hWk.size
                          (try simp at yWk)
                          clear o_Wic0 o_Wic1 o_Wif0 o_Wif1 t_Wic0 t_Wic1 t_Wif0 t_Wif1 u_Wic0 u_Wic1 u_Wif0 u_Wif1 v_Wic0 v_Wic1 v_Wif0 v_Wif1 r_Wic0 r_Wic1 r_Wif0 r_Wif1
                          clear hWk
                          obtain ⟨o_Wkl, o_Wkc0, o_Wkc1, o_Wkf0, o_Wkf1⟩ := id o_Wk
                          obtain ⟨t_Wkl, t_Wkc0, t_Wkc1, t_Wkf0, t_Wkf1⟩ := id t_Wk
                          obtain ⟨u_Wkl, u_Wkc0, u_Wkc1, u_Wkf0, u_Wkf1⟩ := id u_Wk
                          obtain ⟨v_Wkl, v_Wkc0, v_Wkc1, v_Wkf0, v_Wkf1⟩ := id v_Wk
                          obtain ⟨r_Wkl, r_Wkc0, r_Wkc1, r_Wkf0, r_Wkf1⟩ := id r_Wk
                          go_wp2_with fail
                          have o_L : Box ((Wk.setCell ⟨Wg.heap.size + 1, 0, none⟩ (.string ByteArray.empty)).setCell ⟨Wg.heap.size + 1, 1, none⟩ (.int .i64 0)) (wo.heap.size) (.string z) (.int .i64 X) := (o_Wk.far (by omega))
                          have v_L : Box ((Wk.setCell ⟨Wg.heap.size + 1, 0, none⟩ (.string ByteArray.empty)).setCell ⟨Wg.heap.size + 1, 1, none⟩ (.int .i64 0)) (Wg.heap.size) (.string z) (.int .i64 (upTo X M)) := (v_Wk.far (by omega))
                          have r_L : Box ((Wk.setCell ⟨Wg.heap.size + 1, 0, none⟩ (.string ByteArray.empty)).setCell ⟨Wg.heap.size + 1, 1, none⟩ (.int .i64 0)) (Wg.heap.size + 1) (.string ByteArray.empty) (.int .i64 0) := (r_Wk.stored _ _)
                          have BL : Below w.heap.size w ((Wk.setCell ⟨Wg.heap.size + 1, 0, none⟩ (.string ByteArray.empty)).setCell ⟨Wg.heap.size + 1, 1, none⟩ (.int .i64 0)) := (bel_set2 BWk (by omega) _ _)
                          clear o_Wkc0 o_Wkc1 o_Wkf0 o_Wkf1 t_Wkc0 t_Wkc1 t_Wkf0 t_Wkf1 u_Wkc0 u_Wkc1 u_Wkf0 u_Wkf1 v_Wkc0 v_Wkc1 v_Wkf0 v_Wkf1 r_Wkc0 r_Wkc1 r_Wkf0 r_Wkf1
                          generalize ((Wk.setCell ⟨Wg.heap.size + 1, 0, none⟩ (.string ByteArray.empty)).setCell ⟨Wg.heap.size + 1, 1, none⟩ (.int .i64 0)) = WL at o_L v_L r_L BL ⊢
                          have zL := BL.size
                          obtain ⟨oLl, oLc0, oLc1, oLf0, oLf1⟩ := id o_L
                          obtain ⟨vLl, vLc0, vLc1, vLf0, vLf1⟩ := id v_L
                          obtain ⟨rLl, rLc0, rLc1, rLf0, rLf1⟩ := id r_L
                          go_still_tail 7, (by kernel_rfl)
                          still_call ((refUp_any X M _ x0 (by omega) HU.out).mono fun _ _ h => ⟨h.1, h.2.symm⟩)
                          repeat still_step
                          refine wpStill_nil ?_
                          change wpList _ _ _ _ _ WL.drew
                          go_wp2
                          go_roundw
                          case rel => exact ⟨j2 + 1, by omega, by go_num, (o_L.drew.far (by omega)), bel_set2 BL.drew (by omega) _ _⟩
                          case measure => simp [intOf]; omega
                  · have ml : X + M ≤ z.size := by omega
                    have t4 : decide (z.size - X < M) = false := by simp; omega
                    cases hu : unitB M
                    · have HU := Lib.hid hu
                      clear hu
                      as_aux_lemma =>
                        obtain ⟨o_wrl, o_wrc0, o_wrc1, o_wrf0, o_wrf1⟩ := id o_wr
                        go_wp2_with fail
                        refine (take_I_ok z X M S _ hzm x0 m0 ml HS.out).mono ?_
                        rintro e We ⟨rfl, hWe⟩
                        have o_We : Box We (wo.heap.size) (.string z) (.int .i64 X) := o_wr.below hWe
                        have BWe : Below w.heap.size w We := bstep Bwr hWe
                        have zWe := BWe.size
                        have yWe := hWe.size
                        (try simp at yWe)
                        clear o_wrc0 o_wrc1 o_wrf0 o_wrf1
                        clear hWe
                        obtain ⟨o_Wel, o_Wec0, o_Wec1, o_Wef0, o_Wef1⟩ := id o_We
                        go_wp2_with fail
                        refine (uint_neg z X M _ hzm x0 x1 MU.out).mono ?_
                        rintro e Wf ⟨rfl, hWf⟩
                        have o_Wf : Box Wf (wo.heap.size) (.string z) (.int .i64 X) := (o_We.alloc _).below hWf
                        have t_Wf : Box Wf (We.heap.size) (.string z) (.int .i64 (X + M)) := (Box.new_at _ _ _ _ (We.heap.size) (by simp)).below hWf
                        have BWf : Below w.heap.size w Wf := bstep (bel_alloc BWe _) hWf
                        have zWf := BWf.size
                        have yWf := hWf.size
                        (try simp at yWf)
                        clear o_Wec0 o_Wec1 o_Wef0 o_Wef1
                        clear hWf
                        obtain ⟨o_Wfl, o_Wfc0, o_Wfc1, o_Wff0, o_Wff1⟩ := id o_Wf
                        obtain ⟨t_Wfl, t_Wfc0, t_Wfc1, t_Wff0, t_Wff1⟩ := id t_Wf
                        go_wp2_with fail
                        refine (skip_unit z X M _ hzm x0 x1 HU.out).mono ?_
                        rintro e Wg ⟨rfl, hWg⟩
                        have o_Wg : Box Wg (wo.heap.size) (.string z) (.int .i64 X) := (o_Wf.alloc _).below hWg
                        have t_Wg : Box Wg (We.heap.size) (.string z) (.int .i64 (X + M)) := (t_Wf.alloc _).below hWg
                        have u_Wg : Box Wg (Wf.heap.size) (.string ByteArray.empty) (.int .i64 0) := (Box.new_at _ _ _ _ (Wf.heap.size) (by simp)).below hWg
                        have BWg : Below w.heap.size w Wg := bstep (bel_alloc BWf _) hWg
                        have zWg := BWg.size
                        have yWg := hWg.size
                        (try simp at yWg)
                        clear o_Wfc0 o_Wfc1 o_Wff0 o_Wff1 t_Wfc0 t_Wfc1 t_Wff0 t_Wff1
                        clear hWg
                        obtain ⟨o_Wgl, o_Wgc0, o_Wgc1, o_Wgf0, o_Wgf1⟩ := id o_Wg
                        obtain ⟨t_Wgl, t_Wgc0, t_Wgc1, t_Wgf0, t_Wgf1⟩ := id t_Wg
                        obtain ⟨u_Wgl, u_Wgc0, u_Wgc1, u_Wgf0, u_Wgf1⟩ := id u_Wg
                        go_wp2_with fail
                        refine (unit_is M false _ HU.out).mono ?_
                        rintro e Y1 ⟨rfl, rfl⟩
                        go_wp2_with fail
                        go_quiet (fail)
                        go_wp2_with fail
                        refine (refTake_I z X M S _ hzm x0 m0 ml HS.out).mono ?_
                        rintro e Wh ⟨rfl, hWh⟩
                        have o_Wh : Box Wh (wo.heap.size) (.string z) (.int .i64 X) := (((o_Wg.alloc _).drewN _).alloc _).below hWh
                        have t_Wh : Box Wh (We.heap.size) (.string z) (.int .i64 (X + M)) := (((t_Wg.alloc _).drewN _).alloc _).below hWh
                        have u_Wh : Box Wh (Wf.heap.size) (.string ByteArray.empty) (.int .i64 0) := (((u_Wg.alloc _).drewN _).alloc _).below hWh
                        have v_Wh : Box Wh (Wg.heap.size) (.string ByteArray.empty) (.int .i64 0) := (((Box.new_at _ _ _ _ (Wg.heap.size) (by simp)).drewN _).alloc _).below hWh
                        have r_Wh : Box Wh (Wg.heap.size + 1) (.string ⟨#[]⟩) (.int .i64 0) := (Box.new_at _ _ _ _ (Wg.heap.size + 1) (by simp)).below hWh
                        have BWh : Below w.heap.size w Wh := bstep (bel_alloc (bel_drewN (bel_alloc BWg _) _) _) hWh
                        have zWh := BWh.size
                        have yWh := hWh.size
                        (try simp at yWh)
                        clear o_Wgc0 o_Wgc1 o_Wgf0 o_Wgf1 t_Wgc0 t_Wgc1 t_Wgf0 t_Wgf1 u_Wgc0 u_Wgc1 u_Wgf0 u_Wgf1
                        clear hWh
                        obtain ⟨o_Whl, o_Whc0, o_Whc1, o_Whf0, o_Whf1⟩ := id o_Wh
                        obtain ⟨t_Whl, t_Whc0, t_Whc1, t_Whf0, t_Whf1⟩ := id t_Wh
                        obtain ⟨u_Whl, u_Whc0, u_Whc1, u_Whf0, u_Whf1⟩ := id u_Wh
                        obtain ⟨v_Whl, v_Whc0, v_Whc1, v_Whf0, v_Whf1⟩ := id v_Wh
                        obtain ⟨r_Whl, r_Whc0, r_Whc1, r_Whf0, r_Whf1⟩ := id r_Wh
                        go_wp2_with fail
                        refine (refNone_any _).mono ?_
                        rintro e Wi ⟨rfl, hWi⟩
                        have o_Wi : Box Wi (wo.heap.size) (.string z) (.int .i64 X) := (o_Wh.far (by omega)).below hWi
                        have t_Wi : Box Wi (We.heap.size) (.string z) (.int .i64 (X + M)) := (t_Wh.far (by omega)).below hWi
                        have u_Wi : Box Wi (Wf.heap.size) (.string ByteArray.empty) (.int .i64 0) := (u_Wh.far (by omega)).below hWi
                        have v_Wi : Box Wi (Wg.heap.size) (.string ByteArray.empty) (.int .i64 0) := (v_Wh.far (by omega)).below hWi
                        have r_Wi : Box Wi (Wg.heap.size + 1) (.string z) (.int .i64 (X + M)) := (r_Wh.stored _ _).below hWi
                        have BWi : Below w.heap.size w Wi := bstep (bel_set2 BWh (by omega) _ _) hWi
                        have zWi := BWi.size
                        have yWi := hWi.size
                        (try simp at yWi)
                        clear o_Whc0 o_Whc1 o_Whf0 o_Whf1 t_Whc0 t_Whc1 t_Whf0 t_Whf1 u_Whc0 u_Whc1 u_Whf0 u_Whf1 v_Whc0 v_Whc1 v_Whf0 v_Whf1 r_Whc0 r_Whc1 r_Whf0 r_Whf1
                        clear hWi
                        obtain ⟨o_Wil, o_Wic0, o_Wic1, o_Wif0, o_Wif1⟩ := id o_Wi
                        obtain ⟨t_Wil, t_Wic0, t_Wic1, t_Wif0, t_Wif1⟩ := id t_Wi
                        obtain ⟨u_Wil, u_Wic0, u_Wic1, u_Wif0, u_Wif1⟩ := id u_Wi
                        obtain ⟨v_Wil, v_Wic0, v_Wic1, v_Wif0, v_Wif1⟩ := id v_Wi
                        obtain ⟨r_Wil, r_Wic0, r_Wic1, r_Wif0, r_Wif1⟩ := id r_Wi
                        go_wp2_with fail
                        refine (refNone_any _).mono ?_
                        rintro e Wk ⟨rfl, hWk⟩
                        have o_Wk : Box Wk (wo.heap.size) (.string z) (.int .i64 X) := (o_Wi.far (by omega)).below hWk
                        have t_Wk : Box Wk (We.heap.size) (.string z) (.int .i64 (X + M)) := (t_Wi.far (by omega)).below hWk
                        have u_Wk : Box Wk (Wf.heap.size) (.string ByteArray.empty) (.int .i64 0) := (u_Wi.far (by omega)).below hWk
                        have v_Wk : Box Wk (Wg.heap.size) (.string ByteArray.empty) (.int .i64 0) := (v_Wi.far (by omega)).below hWk
                        have r_Wk : Box Wk (Wg.heap.size + 1) (.string ByteArray.empty) (.int .i64 0) := (r_Wi.stored _ _).below hWk
                        have BWk : Below w.heap.size w Wk := bstep (bel_set2 BWi (by omega) _ _) hWk
                        have zWk := BWk.size
                        have yWk := hWk.size
                        (try simp at yWk)
                        clear o_Wic0 o_Wic1 o_Wif0 o_Wif1 t_Wic0 t_Wic1 t_Wif0 t_Wif1 u_Wic0 u_Wic1 u_Wif0 u_Wif1 v_Wic0 v_Wic1 v_Wif0 v_Wif1 r_Wic0 r_Wic1 r_Wif0 r_Wif1
                        clear hWk
                        obtain ⟨o_Wkl, o_Wkc0, o_Wkc1, o_Wkf0, o_Wkf1⟩ := id o_Wk
                        obtain ⟨t_Wkl, t_Wkc0, t_Wkc1, t_Wkf0, t_Wkf1⟩ := id t_Wk
                        obtain ⟨u_Wkl, u_Wkc0, u_Wkc1, u_Wkf0, u_Wkf1⟩ := id u_Wk
                        obtain ⟨v_Wkl, v_Wkc0, v_Wkc1, v_Wkf0, v_Wkf1⟩ := id v_Wk
                        obtain ⟨r_Wkl, r_Wkc0, r_Wkc1, r_Wkf0, r_Wkf1⟩ := id r_Wk
                        go_wp2_with fail
                        go_roundw
                        case rel => exact ⟨j2 + 1, by omega, by go_num, (o_Wk.far (by omega)), (bel_set2 BWk (by omega) _ _)⟩
                        case measure => simp [intOf]; omega
                    · have HU := Lib.hid hu
                      clear hu
                      by_cases hup : (z.size : Int) < upTo X M
                      · have ks := hup
                        have t5 : decide ((z.size : Int) < upTo X M) = true := by simpa using hup
                        as_aux_lemma =>
                          obtain ⟨o_wrl, o_wrc0, o_wrc1, o_wrf0, o_wrf1⟩ := id o_wr
                          go_wp2_with fail
                          refine (take_I_ok z X M S _ hzm x0 m0 ml HS.out).mono ?_
                          rintro e We ⟨rfl, hWe⟩
                          have o_We : Box We (wo.heap.size) (.string z) (.int .i64 X) := o_wr.below hWe
                          have BWe : Below w.heap.size w We := bstep Bwr hWe
                          have zWe := BWe.size
                          have yWe := hWe.size
                          (try simp at yWe)
                          clear o_wrc0 o_wrc1 o_wrf0 o_wrf1
                          clear hWe
                          obtain ⟨o_Wel, o_Wec0, o_Wec1, o_Wef0, o_Wef1⟩ := id o_We
                          go_wp2_with fail
                          refine (uint_neg z X M _ hzm x0 x1 MU.out).mono ?_
                          rintro e Wf ⟨rfl, hWf⟩
                          have o_Wf : Box Wf (wo.heap.size) (.string z) (.int .i64 X) := (o_We.alloc _).below hWf
                          have t_Wf : Box Wf (We.heap.size) (.string z) (.int .i64 (X + M)) := (Box.new_at _ _ _ _ (We.heap.size) (by simp)).below hWf
                          have BWf : Below w.heap.size w Wf := bstep (bel_alloc BWe _) hWf
                          have zWf := BWf.size
                          have yWf := hWf.size
                          (try simp at yWf)
                          clear o_Wec0 o_Wec1 o_Wef0 o_Wef1
                          clear hWf
                          obtain ⟨o_Wfl, o_Wfc0, o_Wfc1, o_Wff0, o_Wff1⟩ := id o_Wf
                          obtain ⟨t_Wfl, t_Wfc0, t_Wfc1, t_Wff0, t_Wff1⟩ := id t_Wf
                          go_wp2_with fail
                          refine (skip_short z X M _ (by omega) x0 x1 HU.out ks).mono ?_
                          rintro e Wg ⟨rfl, hWg⟩
                          have o_Wg : Box Wg (wo.heap.size) (.string z) (.int .i64 X) := (o_Wf.alloc _).below hWg
                          have t_Wg : Box Wg (We.heap.size) (.string z) (.int .i64 (X + M)) := (t_Wf.alloc _).below hWg
                          have u_Wg : Box Wg (Wf.heap.size) (.string ByteArray.empty) (.int .i64 0) := (Box.new_at _ _ _ _ (Wf.heap.size) (by simp)).below hWg
                          have BWg : Below w.heap.size w Wg := bstep (bel_alloc BWf _) hWg
                          have zWg := BWg.size
                          have yWg := hWg.size
                          (try simp at yWg)
                          clear o_Wfc0 o_Wfc1 o_Wff0 o_Wff1 t_Wfc0 t_Wfc1 t_Wff0 t_Wff1
                          clear hWg
                          obtain ⟨o_Wgl, o_Wgc0, o_Wgc1, o_Wgf0, o_Wgf1⟩ := id o_Wg
                          obtain ⟨t_Wgl, t_Wgc0, t_Wgc1, t_Wgf0, t_Wgf1⟩ := id t_Wg
                          obtain ⟨u_Wgl, u_Wgc0, u_Wgc1, u_Wgf0, u_Wgf1⟩ := id u_Wg
                          go_wp2_with fail
                          refine (unit_is M true _ HU.out).mono ?_
                          rintro e Y1 ⟨rfl, rfl⟩
                          go_wp2_with fail
                          go_quiet ((go_at_call 19; exact Calls.quiet_of_same ((refUp_any X M _ x0 (by omega) HU.out).mono fun _ _ h => ⟨h.1, h.2.symm⟩)))
                          go_wp2_with fail
                          refine (refTake_I z X M S _ hzm x0 m0 ml HS.out).mono ?_
                          rintro e Wh ⟨rfl, hWh⟩
                          have o_Wh : Box Wh (wo.heap.size) (.string z) (.int .i64 X) := (((o_Wg.alloc _).drewN _).alloc _).below hWh
                          have t_Wh : Box Wh (We.heap.size) (.string z) (.int .i64 (X + M)) := (((t_Wg.alloc _).drewN _).alloc _).below hWh
                          have u_Wh : Box Wh (Wf.heap.size) (.string ByteArray.empty) (.int .i64 0) := (((u_Wg.alloc _).drewN _).alloc _).below hWh
                          have v_Wh : Box Wh (Wg.heap.size) (.string ByteArray.empty) (.int .i64 0) := (((Box.new_at _ _ _ _ (Wg.heap.size) (by simp)).drewN _).alloc _).below hWh
                          have r_Wh : Box Wh (Wg.heap.size + 1) (.string ⟨#[]⟩) (.int .i64 0) := (Box.new_at _ _ _ _ (Wg.heap.size + 1) (by simp)).below hWh
                          have BWh : Below w.heap.size w Wh := bstep (bel_alloc (bel_drewN (bel_alloc BWg _) _) _) hWh
                          have zWh := BWh.size
                          have yWh := hWh.size
                          (try simp at yWh)
                          clear o_Wgc0 o_Wgc1 o_Wgf0 o_Wgf1 t_Wgc0 t_Wgc1 t_Wgf0 t_Wgf1 u_Wgc0 u_Wgc1 u_Wgf0 u_Wgf1
                          clear hWh
                          obtain ⟨o_Whl, o_Whc0, o_Whc1, o_Whf0, o_Whf1⟩ := id o_Wh
                          obtain ⟨t_Whl, t_Whc0, t_Whc1, t_Whf0, t_Whf1⟩ := id t_Wh
                          obtain ⟨u_Whl, u_Whc0, u_Whc1, u_Whf0, u_Whf1⟩ := id u_Wh
                          obtain ⟨v_Whl, v_Whc0, v_Whc1, v_Whf0, v_Whf1⟩ := id v_Wh
                          obtain ⟨r_Whl, r_Whc0, r_Whc1, r_Whf0, r_Whf1⟩ := id r_Wh
                          go_wp2_with fail
                          refine (refNone_any _).mono ?_
                          rintro e Wi ⟨rfl, hWi⟩
                          have o_Wi : Box Wi (wo.heap.size) (.string z) (.int .i64 X) := (o_Wh.far (by omega)).below hWi
                          have t_Wi : Box Wi (We.heap.size) (.string z) (.int .i64 (X + M)) := (t_Wh.far (by omega)).below hWi
                          have u_Wi : Box Wi (Wf.heap.size) (.string ByteArray.empty) (.int .i64 0) := (u_Wh.far (by omega)).below hWi
                          have v_Wi : Box Wi (Wg.heap.size) (.string ByteArray.empty) (.int .i64 0) := (v_Wh.far (by omega)).below hWi
                          have r_Wi : Box Wi (Wg.heap.size + 1) (.string z) (.int .i64 (X + M)) := (r_Wh.stored _ _).below hWi
                          have BWi : Below w.heap.size w Wi := bstep (bel_set2 BWh (by omega) _ _) hWi
                          have zWi := BWi.size
                          have yWi := hWi.size
                          (try simp at yWi)
                          clear o_Whc0 o_Whc1 o_Whf0 o_Whf1 t_Whc0 t_Whc1 t_Whf0 t_Whf1 u_Whc0 u_Whc1 u_Whf0 u_Whf1 v_Whc0 v_Whc1 v_Whf0 v_Whf1 r_Whc0 r_Whc1 r_Whf0 r_Whf1
                          clear hWi
                          obtain ⟨o_Wil, o_Wic0, o_Wic1, o_Wif0, o_Wif1⟩ := id o_Wi
                          obtain ⟨t_Wil, t_Wic0, t_Wic1, t_Wif0, t_Wif1⟩ := id t_Wi
                          obtain ⟨u_Wil, u_Wic0, u_Wic1, u_Wif0, u_Wif1⟩ := id u_Wi
                          obtain ⟨v_Wil, v_Wic0, v_Wic1, v_Wif0, v_Wif1⟩ := id v_Wi
                          obtain ⟨r_Wil, r_Wic0, r_Wic1, r_Wif0, r_Wif1⟩ := id r_Wi
                          go_wp2_with fail
                          refine (refNone_any _).mono ?_
                          rintro e Wk ⟨rfl, hWk⟩
                          have o_Wk : Box Wk (wo.heap.size) (.string z) (.int .i64 X) := (o_Wi.far (by omega)).below hWk
                          have t_Wk : Box Wk (We.heap.size) (.string z) (.int .i64 (X + M)) := (t_Wi.far (by omega)).below hWk
                          have u_Wk : Box Wk (Wf.heap.size) (.string ByteArray.empty) (.int .i64 0) := (u_Wi.far (by omega)).below hWk
                          have v_Wk : Box Wk (Wg.heap.size) (.string ByteArray.empty) (.int .i64 0) := (v_Wi.far (by omega)).below hWk
                          have r_Wk : Box Wk (Wg.heap.size + 1) (.string ByteArray.empty) (.int .i64 0) := (r_Wi.stored _ _).below hWk
                          have BWk : Below w.heap.size w Wk := bstep (bel_set2 BWi (by omega) _ _) hWk
                          have zWk := BWk.size
                          have yWk := hWk.size
                          (try simp at yWk)
                          clear o_Wic0 o_Wic1 o_Wif0 o_Wif1 t_Wic0 t_Wic1 t_Wif0 t_Wif1 u_Wic0 u_Wic1 u_Wif0 u_Wif1 v_Wic0 v_Wic1 v_Wif0 v_Wif1 r_Wic0 r_Wic1 r_Wif0 r_Wif1
                          clear hWk
                          obtain ⟨o_Wkl, o_Wkc0, o_Wkc1, o_Wkf0, o_Wkf1⟩ := id o_Wk
                          obtain ⟨t_Wkl, t_Wkc0, t_Wkc1, t_Wkf0, t_Wkf1⟩ := id t_Wk
                          obtain ⟨u_Wkl, u_Wkc0, u_Wkc1, u_Wkf0, u_Wkf1⟩ := id u_Wk
                          obtain ⟨v_Wkl, v_Wkc0, v_Wkc1, v_Wkf0, v_Wkf1⟩ := id v_Wk
                          obtain ⟨r_Wkl, r_Wkc0, r_Wkc1, r_Wkf0, r_Wkf1⟩ := id r_Wk
                          go_wp2_with fail
                          go_roundw
                          case rel => exact ⟨j2 + 1, by omega, by go_num, (o_Wk.far (by omega)), (bel_set2 BWk (by omega) _ _)⟩
                          case measure => simp [intOf]; omega
                      · have kl : upTo X M ≤ z.size := by omega
                        clear hup
                        as_aux_lemma =>
                          obtain ⟨o_wrl, o_wrc0, o_wrc1, o_wrf0, o_wrf1⟩ := id o_wr
                          go_wp2_with fail
                          refine (take_I_ok z X M S _ hzm x0 m0 ml HS.out).mono ?_
                          rintro e We ⟨rfl, hWe⟩
                          have o_We : Box We (wo.heap.size) (.string z) (.int .i64 X) := o_wr.below hWe
                          have BWe : Below w.heap.size w We := bstep Bwr hWe
                          have zWe := BWe.size
                          have yWe := hWe.size
                          (try simp at yWe)
                          clear o_wrc0 o_wrc1 o_wrf0 o_wrf1
                          clear hWe
                          obtain ⟨o_Wel, o_Wec0, o_Wec1, o_Wef0, o_Wef1⟩ := id o_We
                          go_wp2_with fail
                          refine (uint_neg z X M _ hzm x0 x1 MU.out).mono ?_
                          rintro e Wf ⟨rfl, hWf⟩
                          have o_Wf : Box Wf (wo.heap.size) (.string z) (.int .i64 X) := (o_We.alloc _).below hWf
                          have t_Wf : Box Wf (We.heap.size) (.string z) (.int .i64 (X + M)) := (Box.new_at _ _ _ _ (We.heap.size) (by simp)).below hWf
                          have BWf : Below w.heap.size w Wf := bstep (bel_alloc BWe _) hWf
                          have zWf := BWf.size
                          have yWf := hWf.size
                          (try simp at yWf)
                          clear o_Wec0 o_Wec1 o_Wef0 o_Wef1
                          clear hWf
                          obtain ⟨o_Wfl, o_Wfc0, o_Wfc1, o_Wff0, o_Wff1⟩ := id o_Wf
                          obtain ⟨t_Wfl, t_Wfc0, t_Wfc1, t_Wff0, t_Wff1⟩ := id t_Wf
                          go_wp2_with fail
                          refine (skip_ok z X M _ (by omega) x0 x1 HU.out kl).mono ?_
                          rintro e Wg ⟨rfl, hWg⟩
                          have o_Wg : Box Wg (wo.heap.size) (.string z) (.int .i64 X) := (o_Wf.alloc _).below hWg
                          have t_Wg : Box Wg (We.heap.size) (.string z) (.int .i64 (X + M)) := (t_Wf.alloc _).below hWg
                          have u_Wg : Box Wg (Wf.heap.size) (.string ByteArray.empty) (.int .i64 0) := (Box.new_at _ _ _ _ (Wf.heap.size) (by simp)).below hWg
                          have BWg : Below w.heap.size w Wg := bstep (bel_alloc BWf _) hWg
                          have zWg := BWg.size
                          have yWg := hWg.size
                          (try simp at yWg)
                          clear o_Wfc0 o_Wfc1 o_Wff0 o_Wff1 t_Wfc0 t_Wfc1 t_Wff0 t_Wff1
                          clear hWg
                          obtain ⟨o_Wgl, o_Wgc0, o_Wgc1, o_Wgf0, o_Wgf1⟩ := id o_Wg
                          obtain ⟨t_Wgl, t_Wgc0, t_Wgc1, t_Wgf0, t_Wgf1⟩ := id t_Wg
                          obtain ⟨u_Wgl, u_Wgc0, u_Wgc1, u_Wgf0, u_Wgf1⟩ := id u_Wg
                          go_wp2_with fail
                          refine (unit_is M true _ HU.out).mono ?_
                          rintro e Y1 ⟨rfl, rfl⟩
                          go_wp2_with fail
                          go_quiet ((go_at_call 19; exact Calls.quiet_of_same ((refUp_any X M _ x0 (by omega) HU.out).mono fun _ _ h => ⟨h.1, h.2.symm⟩)))
                          go_wp2_with fail
                          refine (refTake_I z X M S _ hzm x0 m0 ml HS.out).mono ?_
                          rintro e Wh ⟨rfl, hWh⟩
                          have o_Wh : Box Wh (wo.heap.size) (.string z) (.int .i64 X) := (((o_Wg.alloc _).drewN _).alloc _).below hWh
                          have t_Wh : Box Wh (We.heap.size) (.string z) (.int .i64 (X + M)) := (((t_Wg.alloc _).drewN _).alloc _).below hWh
                          have u_Wh : Box Wh (Wf.heap.size) (.string ByteArray.empty) (.int .i64 0) := (((u_Wg.alloc _).drewN _).alloc _).below hWh
                          have v_Wh : Box Wh (Wg.heap.size) (.string z) (.int .i64 (upTo X M)) := (((Box.new_at _ _ _ _ (Wg.heap.size) (by simp)).drewN _).alloc _).below hWh
                          have r_Wh : Box Wh (Wg.heap.size + 1) (.string ⟨#[]⟩) (.int .i64 0) := (Box.new_at _ _ _ _ (Wg.heap.size + 1) (by simp)).below hWh
                          have BWh : Below w.heap.size w Wh := bstep (bel_alloc (bel_drewN (bel_alloc BWg _) _) _) hWh
                          have zWh := BWh.size
                          have yWh := hWh.size
                          (try simp at yWh)
                          clear o_Wgc0 o_Wgc1 o_Wgf0 o_Wgf1 t_Wgc0 t_Wgc1 t_Wgf0 t_Wgf1 u_Wgc0 u_Wgc1 u_Wgf0 u_Wgf1
                          clear hWh
                          obtain ⟨o_Whl, o_Whc0, o_Whc1, o_Whf0, o_Whf1⟩ := id o_Wh
                          obtain ⟨t_Whl, t_Whc0, t_Whc1, t_Whf0, t_Whf1⟩ := id t_Wh
                          obtain ⟨u_Whl, u_Whc0, u_Whc1, u_Whf0, u_Whf1⟩ := id u_Wh
                          obtain ⟨v_Whl, v_Whc0, v_Whc1, v_Whf0, v_Whf1⟩ := id v_Wh
                          obtain ⟨r_Whl, r_Whc0, r_Whc1, r_Whf0, r_Whf1⟩ := id r_Wh
                          go_wp2_with fail
                          refine (refNone_any _).mono ?_
                          rintro e Wi ⟨rfl, hWi⟩
                          have o_Wi : Box Wi (wo.heap.size) (.string z) (.int .i64 X) := (o_Wh.far (by omega)).below hWi
                          have t_Wi : Box Wi (We.heap.size) (.string z) (.int .i64 (X + M)) := (t_Wh.far (by omega)).below hWi
                          have u_Wi : Box Wi (Wf.heap.size) (.string ByteArray.empty) (.int .i64 0) := (u_Wh.far (by omega)).below hWi
                          have v_Wi : Box Wi (Wg.heap.size) (.string z) (.int .i64 (upTo X M)) := (v_Wh.far (by omega)).below hWi
                          have r_Wi : Box Wi (Wg.heap.size + 1) (.string z) (.int .i64 (X + M)) := (r_Wh.stored _ _).below hWi
                          have BWi : Below w.heap.size w Wi := bstep (bel_set2 BWh (by omega) _ _) hWi
                          have zWi := BWi.size
                          have yWi := hWi.size
                          (try simp at yWi)
                          clear o_Whc0 o_Whc1 o_Whf0 o_Whf1 t_Whc0 t_Whc1 t_Whf0 t_Whf1 u_Whc0 u_Whc1 u_Whf0 u_Whf1 v_Whc0 v_Whc1 v_Whf0 v_Whf1 r_Whc0 r_Whc1 r_Whf0 r_Whf1
                          clear hWi
                          obtain ⟨o_Wil, o_Wic0, o_Wic1, o_Wif0, o_Wif1⟩ := id o_Wi
                          obtain ⟨t_Wil, t_Wic0, t_Wic1, t_Wif0, t_Wif1⟩ := id t_Wi
                          obtain ⟨u_Wil, u_Wic0, u_Wic1, u_Wif0, u_Wif1⟩ := id u_Wi
                          obtain ⟨v_Wil, v_Wic0, v_Wic1, v_Wif0, v_Wif1⟩ := id v_Wi
                          obtain ⟨r_Wil, r_Wic0, r_Wic1, r_Wif0, r_Wif1⟩ := id r_Wi
                          go_wp2_with fail
                          refine (refNone_any _).mono ?_
                          rintro e Wk ⟨rfl, hWk⟩
                          have o_Wk : Box Wk (wo.heap.size) (.string z) (.int .i64 X) := (o_Wi.far (by omega)).below hWk
                          have t_Wk : Box Wk (We.heap.size) (.string z) (.int .i64 (X + M)) := (t_Wi.far (by omega)).below hWk
                          have u_Wk : Box Wk (Wf.heap.size) (.string ByteArray.empty) (.int .i64 0) := (u_Wi.far (by omega)).below hWk
                          have v_Wk : Box Wk (Wg.heap.size) (.string z) (.int .i64 (upTo X M)) := (v_Wi.far (by omega)).below hWk
                          have r_Wk : Box Wk (Wg.heap.size + 1) (.string ByteArray.empty) (.int .i64 0) := (r_Wi.stored _ _).below hWk
                          have BWk : Below w.heap.size w Wk := bstep (bel_set2 BWi (by omega) _ _) hWk
                          have zWk := BWk.size
                          have yWk := hWk.size
                          (try simp at yWk)
                          clear o_Wic0 o_Wic1 o_Wif0 o_Wif1 t_Wic0 t_Wic1 t_Wif0 t_Wif1 u_Wic0 u_Wic1 u_Wif0 u_Wif1 v_Wic0 v_Wic1 v_Wif0 v_Wif1 r_Wic0 r_Wic1 r_Wif0 r_Wif1
                          clear hWk
                          obtain ⟨o_Wkl, o_Wkc0, o_Wkc1, o_Wkf0, o_Wkf1⟩ := id o_Wk
                          obtain ⟨t_Wkl, t_Wkc0, t_Wkc1, t_Wkf0, t_Wkf1⟩ := id t_Wk
                          obtain ⟨u_Wkl, u_Wkc0, u_Wkc1, u_Wkf0, u_Wkf1⟩ := id u_Wk
                          obtain ⟨v_Wkl, v_Wkc0, v_Wkc1, v_Wkf0, v_Wkf1⟩ := id v_Wk
                          obtain ⟨r_Wkl, r_Wkc0, r_Wkc1, r_Wkf0, r_Wkf1⟩ := id r_Wk
                          go_wp2_with fail
                          have o_L : Box ((Wk.setCell ⟨Wg.heap.size + 1, 0, none⟩ (.string ByteArray.empty)).setCell ⟨Wg.heap.size + 1, 1, none⟩ (.int .i64 0)) (wo.heap.size) (.string z) (.int .i64 X) := (o_Wk.far (by omega))
                          have v_L : Box ((Wk.setCell ⟨Wg.heap.size + 1, 0, none⟩ (.string ByteArray.empty)).setCell ⟨Wg.heap.size + 1, 1, none⟩ (.int .i64 0)) (Wg.heap.size) (.string z) (.int .i64 (upTo X M)) := (v_Wk.far (by omega))
                          have r_L : Box ((Wk.setCell ⟨Wg.heap.size + 1, 0, none⟩ (.string ByteArray.empty)).setCell ⟨Wg.heap.size + 1, 1, none⟩ (.int .i64 0)) (Wg.heap.size + 1) (.string ByteArray.empty) (.int .i64 0) := (r_Wk.stored _ _)
                          have BL : Below w.heap.size w ((Wk.setCell ⟨Wg.heap.size + 1, 0, none⟩ (.string ByteArray.empty)).setCell ⟨Wg.heap.size + 1, 1, none⟩ (.int .i64 0)) := (bel_set2 BWk (by omega) _ _)
                          clear o_Wkc0 o_Wkc1 o_Wkf0 o_Wkf1 t_Wkc0 t_Wkc1 t_Wkf0 t_Wkf1 u_Wkc0 u_Wkc1 u_Wkf0 u_Wkf1 v_Wkc0 v_Wkc1 v_Wkf0 v_Wkf1 r_Wkc0 r_Wkc1 r_Wkf0 r_Wkf1
                          generalize ((Wk.setCell ⟨Wg.heap.size + 1, 0, none⟩ (.string ByteArray.empty)).setCell ⟨Wg.heap.size + 1, 1, none⟩ (.int .i64 0)) = WL at o_L v_L r_L BL ⊢
                          have zL := BL.size
                          obtain ⟨oLl, oLc0, oLc1, oLf0, oLf1⟩ := id o_L
                          obtain ⟨vLl, vLc0, vLc1, vLf0, vLf1⟩ := id v_L
                          obtain ⟨rLl, rLc0, rLc1, rLf0, rLf1⟩ := id r_L
                          go_still_tail 7, (by kernel_rfl)
                          still_call ((refUp_any X M _ x0 (by omega) HU.out).mono fun _ _ h => ⟨h.1, h.2.symm⟩)
                          repeat still_step
                          refine wpStill_nil ?_
                          change wpList _ _ _ _ _ WL.drew
                          go_wp2
                          go_roundw
                          case rel => exact ⟨j2 + 1, by omega, by go_num, (o_L.drew.far (by omega)), bel_set2 BL.drew (by omega) _ _⟩
                          case measure => simp [intOf]; omega
              · have t2 : decide (M < 1) = true := by simp; omega
                have MU := Lib.hid (show M < 1 ∨ 7 < M by omega)
                have ml : X + M ≤ z.size := by omega
                have t4 : decide (z.size - X < M) = false := by simp; omega
                have HU := Lib.hid (show unitB M = false by simp [unitB]; omega)
                as_aux_lemma =>
                  obtain ⟨o_wrl, o_wrc0, o_wrc1, o_wrf0, o_wrf1⟩ := id o_wr
                  go_wp2_with fail
                  refine (take_I_ok z X M S _ hzm x0 m0 ml HS.out).mono ?_
                  rintro e We ⟨rfl, hWe⟩
                  have o_We : Box We (wo.heap.size) (.string z) (.int .i64 X) := o_wr.below hWe
                  have BWe : Below w.heap.size w We := bstep Bwr hWe
                  have zWe := BWe.size
                  have yWe := hWe.size
                  (try simp at yWe)
                  clear o_wrc0 o_wrc1 o_wrf0 o_wrf1
                  clear hWe
                  obtain ⟨o_Wel, o_Wec0, o_Wec1, o_Wef0, o_Wef1⟩ := id o_We
                  go_wp2_with fail
                  refine (uint_neg z X M _ hzm x0 x1 MU.out).mono ?_
                  rintro e Wf ⟨rfl, hWf⟩
                  have o_Wf : Box Wf (wo.heap.size) (.string z) (.int .i64 X) := (o_We.alloc _).below hWf
                  have t_Wf : Box Wf (We.heap.size) (.string z) (.int .i64 (X + M)) := (Box.new_at _ _ _ _ (We.heap.size) (by simp)).below hWf
                  have BWf : Below w.heap.size w Wf := bstep (bel_alloc BWe _) hWf
                  have zWf := BWf.size
                  have yWf := hWf.size
                  (try simp at yWf)
                  clear o_Wec0 o_Wec1 o_Wef0 o_Wef1
                  clear hWf
                  obtain ⟨o_Wfl, o_Wfc0, o_Wfc1, o_Wff0, o_Wff1⟩ := id o_Wf
                  obtain ⟨t_Wfl, t_Wfc0, t_Wfc1, t_Wff0, t_Wff1⟩ := id t_Wf
                  go_wp2_with fail
                  refine (skip_unit z X M _ hzm x0 x1 HU.out).mono ?_
                  rintro e Wg ⟨rfl, hWg⟩
                  have o_Wg : Box Wg (wo.heap.size) (.string z) (.int .i64 X) := (o_Wf.alloc _).below hWg
                  have t_Wg : Box Wg (We.heap.size) (.string z) (.int .i64 (X + M)) := (t_Wf.alloc _).below hWg
                  have u_Wg : Box Wg (Wf.heap.size) (.string ByteArray.empty) (.int .i64 0) := (Box.new_at _ _ _ _ (Wf.heap.size) (by simp)).below hWg
                  have BWg : Below w.heap.size w Wg := bstep (bel_alloc BWf _) hWg
                  have zWg := BWg.size
                  have yWg := hWg.size
                  (try simp at yWg)
                  clear o_Wfc0 o_Wfc1 o_Wff0 o_Wff1 t_Wfc0 t_Wfc1 t_Wff0 t_Wff1
                  clear hWg
                  obtain ⟨o_Wgl, o_Wgc0, o_Wgc1, o_Wgf0, o_Wgf1⟩ := id o_Wg
                  obtain ⟨t_Wgl, t_Wgc0, t_Wgc1, t_Wgf0, t_Wgf1⟩ := id t_Wg
                  obtain ⟨u_Wgl, u_Wgc0, u_Wgc1, u_Wgf0, u_Wgf1⟩ := id u_Wg
                  go_wp2_with fail
                  refine (unit_is M false _ HU.out).mono ?_
                  rintro e Y1 ⟨rfl, rfl⟩
                  go_wp2_with fail
                  go_quiet (fail)
                  go_wp2_with fail
                  refine (refTake_I z X M S _ hzm x0 m0 ml HS.out).mono ?_
                  rintro e Wh ⟨rfl, hWh⟩
                  have o_Wh : Box Wh (wo.heap.size) (.string z) (.int .i64 X) := (((o_Wg.alloc _).drewN _).alloc _).below hWh
                  have t_Wh : Box Wh (We.heap.size) (.string z) (.int .i64 (X + M)) := (((t_Wg.alloc _).drewN _).alloc _).below hWh
                  have u_Wh : Box Wh (Wf.heap.size) (.string ByteArray.empty) (.int .i64 0) := (((u_Wg.alloc _).drewN _).alloc _).below hWh
                  have v_Wh : Box Wh (Wg.heap.size) (.string ByteArray.empty) (.int .i64 0) := (((Box.new_at _ _ _ _ (Wg.heap.size) (by simp)).drewN _).alloc _).below hWh
                  have r_Wh : Box Wh (Wg.heap.size + 1) (.string ⟨#[]⟩) (.int .i64 0) := (Box.new_at _ _ _ _ (Wg.heap.size + 1) (by simp)).below hWh
                  have BWh : Below w.heap.size w Wh := bstep (bel_alloc (bel_drewN (bel_alloc BWg _) _) _) hWh
                  have zWh := BWh.size
                  have yWh := hWh.size
                  (try simp at yWh)
                  clear o_Wgc0 o_Wgc1 o_Wgf0 o_Wgf1 t_Wgc0 t_Wgc1 t_Wgf0 t_Wgf1 u_Wgc0 u_Wgc1 u_Wgf0 u_Wgf1
                  clear hWh
                  obtain ⟨o_Whl, o_Whc0, o_Whc1, o_Whf0, o_Whf1⟩ := id o_Wh
                  obtain ⟨t_Whl, t_Whc0, t_Whc1, t_Whf0, t_Whf1⟩ := id t_Wh
                  obtain ⟨u_Whl, u_Whc0, u_Whc1, u_Whf0, u_Whf1⟩ := id u_Wh
                  obtain ⟨v_Whl, v_Whc0, v_Whc1, v_Whf0, v_Whf1⟩ := id v_Wh
                  obtain ⟨r_Whl, r_Whc0, r_Whc1, r_Whf0, r_Whf1⟩ := id r_Wh
                  go_wp2_with fail
                  refine (refNone_any _).mono ?_
                  rintro e Wi ⟨rfl, hWi⟩
                  have o_Wi : Box Wi (wo.heap.size) (.string z) (.int .i64 X) := (o_Wh.far (by omega)).below hWi
                  have t_Wi : Box Wi (We.heap.size) (.string z) (.int .i64 (X + M)) := (t_Wh.far (by omega)).below hWi
                  have u_Wi : Box Wi (Wf.heap.size) (.string ByteArray.empty) (.int .i64 0) := (u_Wh.far (by omega)).below hWi
                  have v_Wi : Box Wi (Wg.heap.size) (.string ByteArray.empty) (.int .i64 0) := (v_Wh.far (by omega)).below hWi
                  have r_Wi : Box Wi (Wg.heap.size + 1) (.string z) (.int .i64 (X + M)) := (r_Wh.stored _ _).below hWi
                  have BWi : Below w.heap.size w Wi := bstep (bel_set2 BWh (by omega) _ _) hWi
                  have zWi := BWi.size
                  have yWi := hWi.size
                  (try simp at yWi)
                  clear o_Whc0 o_Whc1 o_Whf0 o_Whf1 t_Whc0 t_Whc1 t_Whf0 t_Whf1 u_Whc0 u_Whc1 u_Whf0 u_Whf1 v_Whc0 v_Whc1 v_Whf0 v_Whf1 r_Whc0 r_Whc1 r_Whf0 r_Whf1
                  clear hWi
                  obtain ⟨o_Wil, o_Wic0, o_Wic1, o_Wif0, o_Wif1⟩ := id o_Wi
                  obtain ⟨t_Wil, t_Wic0, t_Wic1, t_Wif0, t_Wif1⟩ := id t_Wi
                  obtain ⟨u_Wil, u_Wic0, u_Wic1, u_Wif0, u_Wif1⟩ := id u_Wi
                  obtain ⟨v_Wil, v_Wic0, v_Wic1, v_Wif0, v_Wif1⟩ := id v_Wi
                  obtain ⟨r_Wil, r_Wic0, r_Wic1, r_Wif0, r_Wif1⟩ := id r_Wi
                  go_wp2_with fail
                  refine (refNone_any _).mono ?_
                  rintro e Wk ⟨rfl, hWk⟩
                  have o_Wk : Box Wk (wo.heap.size) (.string z) (.int .i64 X) := (o_Wi.far (by omega)).below hWk
                  have t_Wk : Box Wk (We.heap.size) (.string z) (.int .i64 (X + M)) := (t_Wi.far (by omega)).below hWk
                  have u_Wk : Box Wk (Wf.heap.size) (.string ByteArray.empty) (.int .i64 0) := (u_Wi.far (by omega)).below hWk
                  have v_Wk : Box Wk (Wg.heap.size) (.string ByteArray.empty) (.int .i64 0) := (v_Wi.far (by omega)).below hWk
                  have r_Wk : Box Wk (Wg.heap.size + 1) (.string ByteArray.empty) (.int .i64 0) := (r_Wi.stored _ _).below hWk
                  have BWk : Below w.heap.size w Wk := bstep (bel_set2 BWi (by omega) _ _) hWk
                  have zWk := BWk.size
                  have yWk := hWk.size
                  (try simp at yWk)
                  clear o_Wic0 o_Wic1 o_Wif0 o_Wif1 t_Wic0 t_Wic1 t_Wif0 t_Wif1 u_Wic0 u_Wic1 u_Wif0 u_Wif1 v_Wic0 v_Wic1 v_Wif0 v_Wif1 r_Wic0 r_Wic1 r_Wif0 r_Wif1
                  clear hWk
                  obtain ⟨o_Wkl, o_Wkc0, o_Wkc1, o_Wkf0, o_Wkf1⟩ := id o_Wk
                  obtain ⟨t_Wkl, t_Wkc0, t_Wkc1, t_Wkf0, t_Wkf1⟩ := id t_Wk
                  obtain ⟨u_Wkl, u_Wkc0, u_Wkc1, u_Wkf0, u_Wkf1⟩ := id u_Wk
                  obtain ⟨v_Wkl, v_Wkc0, v_Wkc1, v_Wkf0, v_Wkf1⟩ := id v_Wk
                  obtain ⟨r_Wkl, r_Wkc0, r_Wkc1, r_Wkf0, r_Wkf1⟩ := id r_Wk
                  go_wp2_with fail
                  go_roundw
                  case rel => exact ⟨j2 + 1, by omega, by go_num, (o_Wk.far (by omega)), (bel_set2 BWk (by omega) _ _)⟩
                  case measure => simp [intOf]; omega
            · have mn : M < 0 := by omega
              have t1 : decide (M < 0) = true := by simp; omega
              have t2 : decide (M < 1) = true := by simp; omega
              have MU := Lib.hid (show M < 1 ∨ 7 < M by omega)
              have HU := Lib.hid (show unitB M = false by simp [unitB]; omega)
              as_aux_lemma =>
                obtain ⟨o_wrl, o_wrc0, o_wrc1, o_wrf0, o_wrf1⟩ := id o_wr
                go_wp2_with fail
                refine (take_neg z X M _ hzm x0 x1 mn).mono ?_
                rintro e We ⟨rfl, hWe⟩
                have o_We : Box We (wo.heap.size) (.string z) (.int .i64 X) := o_wr.below hWe
                have BWe : Below w.heap.size w We := bstep Bwr hWe
                have zWe := BWe.size
                have yWe := hWe.size
                (try simp at yWe)
                clear o_wrc0 o_wrc1 o_wrf0 o_wrf1
                clear hWe
                obtain ⟨o_Wel, o_Wec0, o_Wec1, o_Wef0, o_Wef1⟩ := id o_We
                go_wp2_with fail
                refine (uint_neg z X M _ hzm x0 x1 MU.out).mono ?_
                rintro e Wf ⟨rfl, hWf⟩
                have o_Wf : Box Wf (wo.heap.size) (.string z) (.int .i64 X) := (o_We.alloc _).below hWf
                have t_Wf : Box Wf (We.heap.size) (.string ByteArray.empty) (.int .i64 0) := (Box.new_at _ _ _ _ (We.heap.size) (by simp)).below hWf
                have BWf : Below w.heap.size w Wf := bstep (bel_alloc BWe _) hWf
                have zWf := BWf.size
                have yWf := hWf.size
                (try simp at yWf)
                clear o_Wec0 o_Wec1 o_Wef0 o_Wef1
                clear hWf
                obtain ⟨o_Wfl, o_Wfc0, o_Wfc1, o_Wff0, o_Wff1⟩ := id o_Wf
                obtain ⟨t_Wfl, t_Wfc0, t_Wfc1, t_Wff0, t_Wff1⟩ := id t_Wf
                go_wp2_with fail
                refine (skip_unit z X M _ hzm x0 x1 HU.out).mono ?_
                rintro e Wg ⟨rfl, hWg⟩
                have o_Wg : Box Wg (wo.heap.size) (.string z) (.int .i64 X) := (o_Wf.alloc _).below hWg
                have t_Wg : Box Wg (We.heap.size) (.string ByteArray.empty) (.int .i64 0) := (t_Wf.alloc _).below hWg
                have u_Wg : Box Wg (Wf.heap.size) (.string ByteArray.empty) (.int .i64 0) := (Box.new_at _ _ _ _ (Wf.heap.size) (by simp)).below hWg
                have BWg : Below w.heap.size w Wg := bstep (bel_alloc BWf _) hWg
                have zWg := BWg.size
                have yWg := hWg.size
                (try simp at yWg)
                clear o_Wfc0 o_Wfc1 o_Wff0 o_Wff1 t_Wfc0 t_Wfc1 t_Wff0 t_Wff1
                clear hWg
                obtain ⟨o_Wgl, o_Wgc0, o_Wgc1, o_Wgf0, o_Wgf1⟩ := id o_Wg
                obtain ⟨t_Wgl, t_Wgc0, t_Wgc1, t_Wgf0, t_Wgf1⟩ := id t_Wg
                obtain ⟨u_Wgl, u_Wgc0, u_Wgc1, u_Wgf0, u_Wgf1⟩ := id u_Wg
                go_wp2_with fail
                refine (unit_is M false _ HU.out).mono ?_
                rintro e Y1 ⟨rfl, rfl⟩
                go_wp2_with fail
                go_quiet (fail)
                go_wp2_with fail
                refine (refNone_any _).mono ?_
                rintro e Wi ⟨rfl, hWi⟩
                have o_Wi : Box Wi (wo.heap.size) (.string z) (.int .i64 X) := (((o_Wg.alloc _).drewN _).alloc _).below hWi
                have t_Wi : Box Wi (We.heap.size) (.string ByteArray.empty) (.int .i64 0) := (((t_Wg.alloc _).drewN _).alloc _).below hWi
                have u_Wi : Box Wi (Wf.heap.size) (.string ByteArray.empty) (.int .i64 0) := (((u_Wg.alloc _).drewN _).alloc _).below hWi
                have v_Wi : Box Wi (Wg.heap.size) (.string ByteArray.empty) (.int .i64 0) := (((Box.new_at _ _ _ _ (Wg.heap.size) (by simp)).drewN _).alloc _).below hWi
                have r_Wi : Box Wi (Wg.heap.size + 1) (.string ⟨#[]⟩) (.int .i64 0) := (Box.new_at _ _ _ _ (Wg.heap.size + 1) (by simp)).below hWi
                have BWi : Below w.heap.size w Wi := bstep (bel_alloc (bel_drewN (bel_alloc BWg _) _) _) hWi
                have zWi := BWi.size
                have yWi := hWi.size
                (try simp at yWi)
                clear o_Wgc0 o_Wgc1 o_Wgf0 o_Wgf1 t_Wgc0 t_Wgc1 t_Wgf0 t_Wgf1 u_Wgc0 u_Wgc1 u_Wgf0 u_Wgf1
                clear hWi
                obtain ⟨o_Wil, o_Wic0, o_Wic1, o_Wif0, o_Wif1⟩ := id o_Wi
                obtain ⟨t_Wil, t_Wic0, t_Wic1, t_Wif0, t_Wif1⟩ := id t_Wi
                obtain ⟨u_Wil, u_Wic0, u_Wic1, u_Wif0, u_Wif1⟩ := id u_Wi
                obtain ⟨v_Wil, v_Wic0, v_Wic1, v_Wif0, v_Wif1⟩ := id v_Wi
                obtain ⟨r_Wil, r_Wic0, r_Wic1, r_Wif0, r_Wif1⟩ := id r_Wi
                go_wp2_with fail
                refine (refNone_any _).mono ?_
                rintro e Wk ⟨rfl, hWk⟩
                have o_Wk : Box Wk (wo.heap.size) (.string z) (.int .i64 X) := (o_Wi.far (by omega)).below hWk
                have t_Wk : Box Wk (We.heap.size) (.string ByteArray.empty) (.int .i64 0) := (t_Wi.far (by omega)).below hWk
                have u_Wk : Box Wk (Wf.heap.size) (.string ByteArray.empty) (.int .i64 0) := (u_Wi.far (by omega)).below hWk
                have v_Wk : Box Wk (Wg.heap.size) (.string ByteArray.empty) (.int .i64 0) := (v_Wi.far (by omega)).below hWk
                have r_Wk : Box Wk (Wg.heap.size + 1) (.string ByteArray.empty) (.int .i64 0) := (r_Wi.stored _ _).below hWk
                have BWk : Below w.heap.size w Wk := bstep (bel_set2 BWi (by omega) _ _) hWk
                have zWk := BWk.size
                have yWk := hWk.size
                (try simp at yWk)
                clear o_Wic0 o_Wic1 o_Wif0 o_Wif1 t_Wic0 t_Wic1 t_Wif0 t_Wif1 u_Wic0 u_Wic1 u_Wif0 u_Wif1 v_Wic0 v_Wic1 v_Wif0 v_Wif1 r_Wic0 r_Wic1 r_Wif0 r_Wif1
                clear hWk
                obtain ⟨o_Wkl, o_Wkc0, o_Wkc1, o_Wkf0, o_Wkf1⟩ := id o_Wk
                obtain ⟨t_Wkl, t_Wkc0, t_Wkc1, t_Wkf0, t_Wkf1⟩ := id t_Wk
                obtain ⟨u_Wkl, u_Wkc0, u_Wkc1, u_Wkf0, u_Wkf1⟩ := id u_Wk
                obtain ⟨v_Wkl, v_Wkc0, v_Wkc1, v_Wkf0, v_Wkf1⟩ := id v_Wk
                obtain ⟨r_Wkl, r_Wkc0, r_Wkc1, r_Wkf0, r_Wkf1⟩ := id r_Wk
                go_wp2_with fail
                go_roundw
                case rel => exact ⟨j2 + 1, by omega, by go_num, (o_Wk.far (by omega)), (bel_set2 BWk (by omega) _ _)⟩
                case measure => simp [intOf]; omega
          · go_wp2
            go_roundw
            case rel => exact ⟨j + 1, by omega, by go_num, Bwr⟩
            case measure => simp [intOf]; omega
      · have HX := Lib.hid (show X < 0 ∨ (z.size : Int) < X by omega)
        clear hr
        go_wp2_with fail
        refine (refRight_no z X _ hzm HX.out).mono ?_
        rintro e Wa ⟨rfl, hWa⟩
        have o_Wa : Box Wa (wo.heap.size) (.string z) (.int .i64 X) := (Box.new_at _ _ _ _ (wo.heap.size) (by simp)).below hWa
        have BWa : Below w.heap.size w Wa := bstep (bel_alloc hB _) hWa
        have zWa := BWa.size
        have yWa := hWa.size
        (try simp at yWa)
        clear hWa
        obtain ⟨o_Wal, o_Wac0, o_Wac1, o_Waf0, o_Waf1⟩ := id o_Wa
        go_wp2_with fail
        refine (left_no z X _ hzm HX.out).mono ?_
        rintro e Wc ⟨rfl, hWc⟩
        have o_Wc : Box Wc (wo.heap.size) (.string z) (.int .i64 X) := o_Wa.below hWc
        have BWc : Below w.heap.size w Wc := bstep BWa hWc
        have zWc := BWc.size
        have yWc := hWc.size
        (try simp at yWc)
        clear o_Wac0 o_Wac1 o_Waf0 o_Waf1
        clear hWc
        obtain ⟨o_Wcl, o_Wcc0, o_Wcc1, o_Wcf0, o_Wcf1⟩ := id o_Wc
        go_wp2_with fail
        refine (check_no z X _ hzm HX.out).mono ?_
        rintro e Wd ⟨rfl, hWd⟩
        have o_Wd : Box Wd (wo.heap.size) (.string z) (.int .i64 X) := o_Wc.below hWd
        have BWd : Below w.heap.size w Wd := bstep BWc hWd
        have zWd := BWd.size
        have yWd := hWd.size
        (try simp at yWd)
        clear o_Wcc0 o_Wcc1 o_Wcf0 o_Wcf1
        clear hWd
        obtain ⟨o_Wdl, o_Wdc0, o_Wdc1, o_Wdf0, o_Wdf1⟩ := id o_Wd
        go_wp2_with fail
        go_loopw [86] (fun i wi => ∃ j2 : Nat, j2 ≤ 2 ∧ i = .int .i64 j2 ∧ Box wi wo.heap.size (.string z) (.int .i64 X) ∧ Below w.heap.size w wi) (fun i _ => 2 - (intOf i).toNat)
        case atStart => exact ⟨0, by omega, rfl, o_Wd, BWd⟩
        case round =>
          obtain ⟨j2, hj2, rfl, o_wr, Bwr⟩ := hrel
          have zwr := Bwr.size
          clear o_Wdc0 o_Wdc1 o_Wdf0 o_Wdf1 yWa  yWc yWd zWa  zWc zWd
          by_cases h2 : j2 < 2
          · obtain ⟨M, hidx2⟩ := idx33 n (k % 12) j2 h2
            as_aux_lemma =>
              obtain ⟨o_wrl, o_wrc0, o_wrc1, o_wrf0, o_wrf1⟩ := id o_wr
              go_wp2_with fail
              refine (take_bad z X M _ hzm HX.out).mono ?_
              rintro e We ⟨rfl, hWe⟩
              have o_We : Box We (wo.heap.size) (.string z) (.int .i64 X) := o_wr.below hWe
              have BWe : Below w.heap.size w We := bstep Bwr hWe
              have zWe := BWe.size
              have yWe := hWe.size
              (try simp at yWe)
              clear o_wrc0 o_wrc1 o_wrf0 o_wrf1
              clear hWe
              obtain ⟨o_Wel, o_Wec0, o_Wec1, o_Wef0, o_Wef1⟩ := id o_We
              go_wp2_with fail
              refine (uint_bad z X M _ hzm HX.out).mono ?_
              rintro e Wf ⟨rfl, hWf⟩
              have o_Wf : Box Wf (wo.heap.size) (.string z) (.int .i64 X) := (o_We.alloc _).below hWf
              have t_Wf : Box Wf (We.heap.size) (.string ByteArray.empty) (.int .i64 0) := (Box.new_at _ _ _ _ (We.heap.size) (by simp)).below hWf
              have BWf : Below w.heap.size w Wf := bstep (bel_alloc BWe _) hWf
              have zWf := BWf.size
              have yWf := hWf.size
              (try simp at yWf)
              clear o_Wec0 o_Wec1 o_Wef0 o_Wef1
              clear hWf
              obtain ⟨o_Wfl, o_Wfc0, o_Wfc1, o_Wff0, o_Wff1⟩ := id o_Wf
              obtain ⟨t_Wfl, t_Wfc0, t_Wfc1, t_Wff0, t_Wff1⟩ := id t_Wf
              go_wp2_with fail
              refine (skip_bad z X M _ hzm HX.out).mono ?_
              rintro e Wg ⟨rfl, hWg⟩
              have o_Wg : Box Wg (wo.heap.size) (.string z) (.int .i64 X) := (o_Wf.alloc _).below hWg
              have t_Wg : Box Wg (We.heap.size) (.string ByteArray.empty) (.int .i64 0) := (t_Wf.alloc _).below hWg
              have u_Wg : Box Wg (Wf.heap.size) (.string ByteArray.empty) (.int .i64 0) := (Box.new_at _ _ _ _ (Wf.heap.size) (by simp)).below hWg
              have BWg : Below w.heap.size w Wg := bstep (bel_alloc BWf _) hWg
              have zWg := BWg.size
              have yWg := hWg.size
              (try simp at yWg)
              clear o_Wfc0 o_Wfc1 o_Wff0 o_Wff1 t_Wfc0 t_Wfc1 t_Wff0 t_Wff1
              clear hWg
              obtain ⟨o_Wgl, o_Wgc0, o_Wgc1, o_Wgf0, o_Wgf1⟩ := id o_Wg
              obtain ⟨t_Wgl, t_Wgc0, t_Wgc1, t_Wgf0, t_Wgf1⟩ := id t_Wg
              obtain ⟨u_Wgl, u_Wgc0, u_Wgc1, u_Wgf0, u_Wgf1⟩ := id u_Wg
              go_wp2_with fail
              go_quiet (fail)
              go_wp2_with fail
              refine (refNone_any _).mono ?_
              rintro e Wi ⟨rfl, hWi⟩
              have o_Wi : Box Wi (wo.heap.size) (.string z) (.int .i64 X) := (((o_Wg.alloc _).drewN _).alloc _).below hWi
              have t_Wi : Box Wi (We.heap.size) (.string ByteArray.empty) (.int .i64 0) := (((t_Wg.alloc _).drewN _).alloc _).below hWi
              have u_Wi : Box Wi (Wf.heap.size) (.string ByteArray.empty) (.int .i64 0) := (((u_Wg.alloc _).drewN _).alloc _).below hWi
              have v_Wi : Box Wi (Wg.heap.size) (.string ByteArray.empty) (.int .i64 0) := (((Box.new_at _ _ _ _ (Wg.heap.size) (by simp)).drewN _).alloc _).below hWi
              have r_Wi : Box Wi (Wg.heap.size + 1) (.string ⟨#[]⟩) (.int .i64 0) := (Box.new_at _ _ _ _ (Wg.heap.size + 1) (by simp)).below hWi
              have BWi : Below w.heap.size w Wi := bstep (bel_alloc (bel_drewN (bel_alloc BWg _) _) _) hWi
              have zWi := BWi.size
              have yWi := hWi.size
              (try simp at yWi)
              clear o_Wgc0 o_Wgc1 o_Wgf0 o_Wgf1 t_Wgc0 t_Wgc1 t_Wgf0 t_Wgf1 u_Wgc0 u_Wgc1 u_Wgf0 u_Wgf1
              clear hWi
              obtain ⟨o_Wil, o_Wic0, o_Wic1, o_Wif0, o_Wif1⟩ := id o_Wi
              obtain ⟨t_Wil, t_Wic0, t_Wic1, t_Wif0, t_Wif1⟩ := id t_Wi
              obtain ⟨u_Wil, u_Wic0, u_Wic1, u_Wif0, u_Wif1⟩ := id u_Wi
              obtain ⟨v_Wil, v_Wic0, v_Wic1, v_Wif0, v_Wif1⟩ := id v_Wi
              obtain ⟨r_Wil, r_Wic0, r_Wic1, r_Wif0, r_Wif1⟩ := id r_Wi
              go_wp2_with fail
              refine (refNone_any _).mono ?_
              rintro e Wk ⟨rfl, hWk⟩
              have o_Wk : Box Wk (wo.heap.size) (.string z) (.int .i64 X) := (o_Wi.far (by omega)).below hWk
              have t_Wk : Box Wk (We.heap.size) (.string ByteArray.empty) (.int .i64 0) := (t_Wi.far (by omega)).below hWk
              have u_Wk : Box Wk (Wf.heap.size) (.string ByteArray.empty) (.int .i64 0) := (u_Wi.far (by omega)).below hWk
              have v_Wk : Box Wk (Wg.heap.size) (.string ByteArray.empty) (.int .i64 0) := (v_Wi.far (by omega)).below hWk
              have r_Wk : Box Wk (Wg.heap.size + 1) (.string ByteArray.empty) (.int .i64 0) := (r_Wi.stored _ _).below hWk
              have BWk : Below w.heap.size w Wk := bstep (bel_set2 BWi (by omega) _ _) hWk
              have zWk := BWk.size
              have yWk := hWk.size
              (try simp at yWk)
              clear o_Wic0 o_Wic1 o_Wif0 o_Wif1 t_Wic0 t_Wic1 t_Wif0 t_Wif1 u_Wic0 u_Wic1 u_Wif0 u_Wif1 v_Wic0 v_Wic1 v_Wif0 v_Wif1 r_Wic0 r_Wic1 r_Wif0 r_Wif1
              clear hWk
              obtain ⟨o_Wkl, o_Wkc0, o_Wkc1, o_Wkf0, o_Wkf1⟩ := id o_Wk
              obtain ⟨t_Wkl, t_Wkc0, t_Wkc1, t_Wkf0, t_Wkf1⟩ := id t_Wk
              obtain ⟨u_Wkl, u_Wkc0, u_Wkc1, u_Wkf0, u_Wkf1⟩ := id u_Wk
              obtain ⟨v_Wkl, v_Wkc0, v_Wkc1, v_Wkf0, v_Wkf1⟩ := id v_Wk
              obtain ⟨r_Wkl, r_Wkc0, r_Wkc1, r_Wkf0, r_Wkf1⟩ := id r_Wk
              go_wp2_with fail
              go_roundw
              case rel => exact ⟨j2 + 1, by omega, by go_num, (o_Wk.far (by omega)), (bel_set2 BWk (by omega) _ _)⟩
              case measure => simp [intOf]; omega
          · go_wp2
            go_roundw
            case rel => exact ⟨j + 1, by omega, by go_num, Bwr⟩
            case measure => simp [intOf]; omega
    · go_wp2
      go_ret
      exact ⟨rfl, hB⟩
end Go.Proofs.YtebaagmbnbbflaaDoor
