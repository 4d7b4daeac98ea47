/- The walk of ParityXors. -/
import Derived.Test.YtfagfenmampigaaP
import Derived.Test.YtfagfenmampigaaR
import Derived.Deep.DeepCutAuto
namespace Go.Proofs.Ytfagfenmampigaa
open Go.RowKit Go.ChangeShapes
/-- At most 200 octets. -/
def c200 (r : List UInt8) : List UInt8 := r.take 200
/-- The first k rows are cut. -/
def ctF (raw : List (List UInt8)) (k : Nat) : List (List UInt8) := (raw.take k).map c200 ++ raw.drop k
theorem ctF_length (raw : List (List UInt8)) (k : Nat) : (ctF raw k).length = raw.length := by simp [ctF]; omega
theorem ctF_zero (raw : List (List UInt8)) : ctF raw 0 = raw := by simp [ctF]
theorem ctF_all (raw : List (List UInt8)) : ctF raw raw.length = raw.map c200 := by simp [ctF]
theorem ctF_getD (raw : List (List UInt8)) (k : Nat) (h : k < raw.length) : (ctF raw k).getD k [] = raw.getD k [] := by
  have e : ((raw.take k).map c200).length = k := by simp; omega
  rw [ctF, List.getD_eq_getElem?_getD, List.getElem?_append_right (by omega), e, Nat.sub_self, List.getElem?_drop, Nat.add_zero, List.getD_eq_getElem?_getD]
theorem ctF_set (raw : List (List UInt8)) (k : Nat) (h : k < raw.length) : (stC (ctF raw k)).set k (.string (bs (c200 (raw.getD k [])))) = stC (ctF raw (k + 1)) := by
  have e : ((raw.take k).map c200).length = k := by simp; omega
  rw [stC, ← List.map_set (f := fun r => Value.string (bs r)), ctF, List.set_append_right _ _ (by omega), e, Nat.sub_self, List.drop_eq_getElem_cons h, List.set_cons_zero, ctF, stC, List.take_succ_eq_append_getElem h]
  simp only [List.map_append, List.map_cons, List.map_nil, List.append_assoc, List.cons_append, List.nil_append, List.getD_eq_getElem?_getD, List.getElem?_eq_getElem h, Option.getD_some]
theorem c200_bs (r : List UInt8) : (bs r).extract 0 (min ((bs r).size : Int) 200).toNat = bs (c200 r) := by
  apply ByteArray.ext
  apply Array.toList_inj.1
  rw [bs_size]
  simp only [c200, bs, ByteArray.data_extract, Array.toList_extract, List.extract, List.drop_zero, Nat.sub_zero]
  rw [show (min (r.length : Int) 200).toNat = min 200 r.length by omega]
  rw [← List.take_take, List.take_length]
theorem slice_min66 (A : Option Addr) (len cap : Nat) (hl : len ≤ cap) (wx : World) : (Instr.slice 29 (.slice A len cap) none (some (.int .i64 (min (len : Int) 66))) none).run Try.prog wx = .ok (.slice A (min len 66) cap) wx := by
  have := run_slice_h (P := Try.prog) (w := wx) 29 A len cap (by kernel_rfl) .i64 (min (len : Int) 66) (by omega) (by omega)
  rw [this, show (min (len : Int) 66).toNat = min len 66 by omega]
  have hs : (sizeOf (Try.prog.elem 29)).run Try.prog wx = .ok 1 wx := by kernel_rfl
  rw [hs]
  cases A <;> simp [sliced, Result.andThen, Addr.add]
set_option maxRecDepth 100000 in
theorem cut_any (S : ByteArray) (w : World) (hS : S.size ≤ 9223372036854775807) : Calls Try.prog 11 #[.string S] w fun e w' => e = .returned (.string (S.extract 0 (min (S.size : Int) 200).toNat)) ∧ w' = w := by
  go_enter Try.func11, Try.ntmps11
  go_wp2
  go_ret
  exact ⟨rfl, rfl⟩
/-- Whether rows are too many, or one of the first j too long. -/
def bdB (rows : List (List UInt8)) (j : Nat) : Bool := decide (64 < rows.length) || (rows.take j).any fun r => decide (1200 < r.length)
theorem bdB_zero (rows : List (List UInt8)) : bdB rows 0 = decide (64 < rows.length) := by simp [bdB]
theorem bdB_succ {rows : List (List UInt8)} {j : Nat} (h : j < rows.length) : bdB rows (j + 1) = (bdB rows j || decide (1200 < (rows.getD j []).length)) := by
  simp only [bdB, getD_rows h, List.any_append, List.any_cons, List.any_nil, Bool.or_false, Bool.or_assoc]
theorem bdB_all (rows : List (List UInt8)) : xorRes rows = if bdB rows rows.length then #[.string ⟨#[]⟩, .int .i64 3] else #[.string (bs (paL rows)), .int .i64 0] := by
  unfold xorRes bdB
  rw [List.take_length]
  by_cases h : rows.length ≤ 64 ∧ ∀ r ∈ rows, r.length ≤ 1200
  · rw [if_pos h, if_neg]
    simp only [Bool.or_eq_true, decide_eq_true_eq, List.any_eq_true, not_or, not_exists, not_and]
    exact ⟨by omega, fun r hr => by have := h.2 r hr; omega⟩
  · rw [if_neg h, if_pos]
    simp only [Bool.or_eq_true, decide_eq_true_eq, List.any_eq_true]
    by_cases h2 : 64 < rows.length
    · exact .inl h2
    · refine .inr (Classical.byContradiction fun h3 => h ⟨by omega, fun r hr => ?_⟩)
      by_cases h4 : 1200 < r.length
      · exact absurd ⟨r, hr, h4⟩ h3
      · omega
theorem repeatL_length (l : List UInt8) (n : Nat) : (Lib.repeatL l n).length = n * l.length := by
  induction n with
  | zero => simp [Lib.repeatL]
  | succ n ih => rw [Lib.repeatL, List.length_append, ih, Nat.succ_mul]; omega
theorem own_below {W V : World} {base n : Nat} {v : Value} {xs : List Value} (h : W.ownsRow base 9 1 v n xs) (hb : Below W.heap.size W V) (hs : v.ownBlock.isSome) : V.ownsRow base 9 1 v n xs :=
  h.kept (row := none) ⟨hb.os, hb.tape, hb.output, hb.size, fun k hk _ => hb.block k hk⟩ (.inr (fun e => by rw [e] at hs; cases hs))
theorem stC_set (rows : List (List UInt8)) (i : Nat) (r : List UInt8) : (stC rows).set i (.string (bs r)) = stC (rows.set i r) := by
  unfold stC; rw [List.map_set]
theorem idx44_0 (A B : Value) (w : World) : (Instr.index 44 (.agg #[A, B]) (.int .i64 0)).run Try.prog w = .ok A w := by kernel_rfl
theorem idx44_1 (A B : Value) (w : World) : (Instr.index 44 (.agg #[A, B]) (.int .i64 1)).run Try.prog w = .ok B w := by kernel_rfl
set_option maxRecDepth 1000000 in
set_option maxHeartbeats 8000000 in
theorem xors_true (A : Option Addr) (len cap : Nat) (ss : List (List UInt8)) (n_ at_ : Nat) (w : World) (hlen : ss.length = len) (hlc : len ≤ cap) (hcap : cap ≤ maxLen) (hn_ : n_ < 65536) (hat : at_ < 256) (h0 : A = none → cap = 0)
    (hA : ∀ k, k < len → ∃ b off, A = some ⟨b, off, none⟩ ∧ b < w.heap.size ∧ w.cell? ⟨b, off + k, none⟩ = some (.string (bs (ss.getD k []))) ∧ (ss.getD k []).length ≤ 9223372036854775807) :
    Calls Try.prog 5 #[.slice A len cap, .int .u16 (n_ : Int), .int .u8 (at_ : Int)] w fun e w' => e = .returned (.bool true) ∧ Below w.heap.size w w' := by
  have K0 : Wk w w [] := Wk.start
  unfold maxLen at hcap
  have hsl := slice_min66 A len cap hlc
  obtain ⟨q, hq⟩ : ∃ q, min len 66 = q := ⟨_, rfl⟩
  rw [hq] at hsl
  have hq66 : q ≤ 66 := by omega
  have hql : q ≤ len := by omega
  have HA := Lib.hid hA
  have HLS : (ss.take q).length = q := by rw [List.length_take]; omega
  clear hA hq
  go_enter Try.func5, Try.ntmps5
  go_upto_region 3 with (first
    | (go_at_call 10; (with_reducible refine (works_true _).mono ?_); rintro e V ⟨rfl, hb⟩; with_reducible replace K0 := Wk.step K0 hb; clear hb))
  have hO0 := new_row V
  have hB0 := bel_alloc V (.cells #[] 9)
  have hR0 : ∀ i, i < q → ∃ g o, A = some ⟨g, o, none⟩ ∧ (V.alloc (.cells #[] 9)).cell? ⟨g, o + i, none⟩ = some (.string (bs ((ss.take q).getD i []))) := fun i hi => by
    obtain ⟨b, off, e, hb, hc, _⟩ := HA.out i (by omega)
    refine ⟨b, off, e, ?_⟩
    rw [List.getD_eq_getElem?_getD, List.getElem?_take_of_lt hi, ← List.getD_eq_getElem?_getD]
    exact ((bstep K0.b hB0).cell (p := ⟨b, off + i, none⟩) hb).trans hc
  have hsq : (ss.take q).length = q := HLS
  have hbs : V.heap.size ≤ (V.alloc (.cells #[] 9)).heap.size := hB0.size
  go_wp2_with (refine wpList_append_rows rfl _ _ rfl V.heap.size _ 0 [] (ss.take q) rfl hO0 A q cap rfl hsq (by omega) (by omega) hbs (fun _ e => h0 e) hR0 ?_; intro v' w' hown hg hsm; obtain ⟨g, cap2, rfl⟩ := own_slice hown (hsm rfl))
  rw [Nat.zero_add] at hown
  rw [List.nil_append] at hown
  have hB1 := grown_below hO0 hg hbs
  have hwb : w.heap.size ≤ V.heap.size := K0.b.size
  have HL : Hid (w'.ownsRow V.heap.size 9 1 (.slice (some ⟨g, 0, none⟩) q cap2) q (stC (ctF (ss.take q) 0)) ∧ Wk w w' [] ∧ w.heap.size ≤ V.heap.size) := Lib.hid ⟨by rw [ctF_zero]; exact hown, ⟨bstep K0.b (hB0.trans hB1), fun _ h => absurd h List.not_mem_nil⟩, hwb⟩
  have HRAW := Lib.hid (And.intro hsq (fun k hk => (show ((ss.take q).getD k []).length ≤ 9223372036854775807 by
    rw [List.getD_eq_getElem?_getD, List.getElem?_take_of_lt hk, ← List.getD_eq_getElem?_getD]
    exact (HA.out k (by omega)).elim fun _ h => h.elim fun _ h => h.2.2.2)))
  generalize ss.take q = raw at HL HRAW
  generalize V.heap.size = base at HL ⊢
  clear hO0 hB0 hR0 hsq hbs hB1 hown hg hsm hwb HLS HA hlen hlc hcap h0 hql K0
  go_wp2
  go_loopw [28] (fun i wr => ∃ k : Nat, k ≤ q ∧ i = .int .i64 (k : Int) ∧ Hid (wr.ownsRow base 9 1 (.slice (some ⟨g, 0, none⟩) q cap2) q (stC (ctF raw k)) ∧ Wk w wr [] ∧ w.heap.size ≤ base)) (fun i _ => q - (intOf i).toNat)
  case atStart => exact ⟨0, by omega, rfl, HL⟩
  case round =>
    clear HL
    obtain ⟨k, hk, rfl, HL⟩ := hrel
    by_cases hlt : k < q
    · obtain ⟨hown, hK, hwb⟩ := HL.out
      have hkl : k < raw.length := by rw [HRAW.out.1]; exact hlt
      have hc := hown.cellAt k (by omega)
      have hf := hown.frozenAt k
      rw [stC_get (by rw [ctF_length]; exact hkl), ctF_getD _ _ hkl] at hc
      have hs := hown.stored k (.string (bs (c200 (raw.getD k []))))
      rw [ctF_set _ _ hkl] at hs
      have hb2 := hK.b.setCell (p := ⟨g, k, none⟩) (Nat.le_trans hwb (hown.lt g rfl).1) (.string (bs (c200 (raw.getD k []))))
      have hsz := HRAW.out.2 k hlt
      have hx := c200_bs (raw.getD k [])
      have HG := Lib.hid (And.intro hs (And.intro hb2 hwb))
      have hss : (bs (raw.getD k [])).size ≤ 9223372036854775807 := by rw [bs_size]; exact hsz
      have HCT := Lib.hid (fun W => cut_any (bs (raw.getD k [])) W hss)
      rw [hx] at HCT
      generalize bs (c200 (raw.getD k [])) = X at HCT HG
      generalize bs (raw.getD k []) = S at hc HCT
      have hki : (k : Int) < (q : Int) := by omega
      clear hown hK hwb hs hb2 hsz HL hx hss
      go_wp2_with (go_at_call 11; (with_reducible refine (HCT.out _).mono ?_); rintro e V1 ⟨rfl, rfl⟩)
      go_roundw
      case rel => exact ⟨k + 1, by omega, by go_num, Lib.hid ⟨HG.out.1.1, ⟨HG.out.2.1, fun _ h => absurd h List.not_mem_nil⟩, HG.out.2.2⟩⟩
      case measure => simp [intOf]; omega
    · obtain rfl : k = q := by omega
      obtain ⟨hown, hK, hwb⟩ := HL.out
      have hal : (ctF raw k) = raw.map c200 := by rw [← HRAW.out.1]; exact ctF_all raw
      rw [hal] at hown
      have hrl : (raw.map c200).length = k := by rw [List.length_map]; exact HRAW.out.1
      have hr1 : ∀ r ∈ raw.map c200, r.length ≤ 200 := fun r hr => by
        obtain ⟨x, _, rfl⟩ := List.mem_map.1 hr
        rw [c200, List.length_take]; omega
      have hrw := own_rw hown hrl
      have hglt : g < wr.heap.size := (hown.lt g rfl).2
      generalize raw.map c200 = rows at hrw hrl hr1
      clear hal HL HRAW hown hwb hsl
      have hO1 := new_row wr
      have hrw1 := hrw.below (bel_alloc wr (.cells #[] 9))
      have hba := bel_alloc wr (.cells #[] 9)
      go_upto_if 45 with (refine wpList_append_rows rfl _ _ rfl wr.heap.size _ 0 [] rows rfl hO1 (some ⟨g, 0, none⟩) k cap2 rfl hrl (by omega) (by omega) hba.size (fun _ e => by cases e) (hrw1.src hrl) ?_; intro v' w2 hown hg hsm; obtain ⟨g2, cap3, rfl⟩ := own_slice hown (hsm rfl))
      rw [Nat.zero_add, List.nil_append] at hown
      have hB2 := hba.trans (grown_below hO1 hg hba.size)
      have hK2 := Wk.step hK hB2
      have hg2 := hown.lt g2 rfl
      have hall2 := hrw.below hB2
      go_cut [9, 45] from 46 to 70 (fun _ _ wx => Hid (∃ rows2 : List (List UInt8), rows2.length = k ∧ (∀ r ∈ rows2, r.length ≤ 2000) ∧ Rw wx (some ⟨g2, 0, none⟩) rows2 ∧ Rw wx (some ⟨g, 0, none⟩) rows ∧ Wk w wx []))
      case first =>
        by_cases hk0 : k = 0
        · have hk1 : (k : Int) = 0 := by omega
          go_wp2
          go_meet
          exact Lib.hid ⟨rows, hrl, fun r hr => Nat.le_trans (hr1 r hr) (by decide), own_rw hown hrl, hall2, hK2⟩
        · have hk1 : (k : Int) ≠ 0 := by omega
          have hk2 : ((k : Int) == 0) = false := beq_false_of_ne hk1
          have hk3 : (0 : Int) < (k : Int) := by omega
          obtain ⟨x, hx⟩ : ∃ x, at_ % k = x := ⟨_, rfl⟩
          have hxk : x < k := by rw [← hx]; exact Nat.mod_lt _ (by omega)
          have hxi : (at_ : Int) % (k : Int) = (x : Int) := by rw [← hx]; rfl
          obtain ⟨_, _, e1, _, hcx⟩ := own_rw hown hrl x (by omega)
          cases e1
          rw [Nat.zero_add] at hcx
          have hrx : (rows.getD x []).length ≤ 200 := hr1 _ (by rw [List.getD_eq_getElem?_getD, List.getElem?_eq_getElem (show x < rows.length by omega)]; exact List.getElem_mem _)
          have hsz : (bs (rows.getD x [])).size ≤ 200 := by rw [bs_size]; exact hrx
          have hf2 := hown.frozenAt x
          generalize bs (rows.getD x []) = SI at hcx hsz
          have hsy : (SI ++ (⟨#[121]⟩ : ByteArray)).size = SI.size + 1 := by rw [ByteArray.size_append]; rfl
          obtain ⟨SY, hSY⟩ : ∃ T, SI ++ (⟨#[121]⟩ : ByteArray) = T := ⟨_, rfl⟩
          rw [hSY] at hsy
          have HXI := Lib.hid hxi
          go_upto_region 12 with fail
          have hq1 : IntKind.i64.wrap (at_ : Int) = (at_ : Int) := IntWalk.i64_in _ (by omega)
          have hq2 : (at_ : Int).tmod (k : Int) = (x : Int) := by rw [Int.tmod_eq_emod_of_nonneg (by omega)]; exact hxi
          have hq3 : IntKind.i64.wrap (x : Int) = (x : Int) := IntWalk.i64_in _ (by omega)
          have hq4 : IntKind.i64.wrap (n_ : Int) = (n_ : Int) := IntWalk.i64_in _ (by omega)
          obtain ⟨m, hm⟩ : ∃ m, n_ % 1300 = m := ⟨_, rfl⟩
          have hm2 : m < 1300 := by omega
          have hq5 : (n_ : Int).tmod 1300 = (m : Int) := by rw [Int.tmod_eq_emod_of_nonneg (by omega)]; omega
          have hq6 : IntKind.i64.wrap (m : Int) = (m : Int) := IntWalk.i64_in _ (by omega)
          have hq7 : ((SY.size : Int) == 0) = false := beq_false_of_ne (by omega)
          have hq7b : ¬ (SY.size : Int) = 0 := by omega
          have hq7c : ¬ SY = ByteArray.empty := fun h => by rw [h] at hsy; have h3 : ByteArray.empty.size = 0 := rfl; omega
          obtain ⟨d, hd⟩ : ∃ d, m / SY.size = d := ⟨_, rfl⟩
          have hq8 : (m : Int).tdiv (SY.size : Int) = (d : Int) := by rw [Int.tdiv_eq_ediv_of_nonneg (by omega), ← hd]; rfl
          have hdm : d ≤ m := by rw [← hd]; exact Nat.div_le_self _ _
          have hdl : d * SY.size ≤ m := by rw [← hd]; exact Nat.div_mul_le_self _ _
          have hq9 : IntKind.i64.wrap (d : Int) = (d : Int) := IntWalk.i64_in _ (by omega)
          have hq10 : IntKind.i64.wrap ((d : Int) + 1) = (d : Int) + 1 := IntWalk.i64_in _ (by omega)
          have hsd : SY.size * (d + 1) = d * SY.size + SY.size := by rw [Nat.mul_comm, Nat.succ_mul]
          have HKR : Hid (∀ W, Calls Try.prog 12 #[.string SY, .int .i64 ((d : Int) + 1)] W fun e w' => e = .returned (.string (bs (Lib.repeatL SY.data.toList (d + 1)))) ∧ Below W.heap.size W w') := Lib.hid (fun W => Try.strings_Repeat SY (d + 1) W (by omega) (by omega))
          have hrpl : (Lib.repeatL SY.data.toList (d + 1)).length ≤ 2000 := by
            rw [repeatL_length, show SY.data.toList.length = SY.size from rfl, Nat.mul_comm]; omega
          generalize Lib.repeatL SY.data.toList (d + 1) = rl at HKR hrpl
          have HRL := Lib.hid (rfl : bs rl = bs rl)
          obtain ⟨RP, hRP⟩ : ∃ R, bs rl = R := ⟨_, rfl⟩
          rw [hRP] at HKR
          have hxki : (x : Int) < (k : Int) := by omega
          have HF : Hid (∀ Y, Below w2.drew.heap.size w2.drew Y → (Y.cell? ⟨g2, x, none⟩ = some (.string SI) ∧ Y.frozen? ⟨g2, x, none⟩ = false)) := Lib.hid (fun Y hY => ⟨(hY.cell (p := ⟨g2, x, none⟩) hg2.2).trans hcx, (hY.frozen (p := ⟨g2, x, none⟩) hg2.2).trans hf2⟩)
          have HT : Hid True := Lib.hid trivial
          have HWW := Lib.hid (And.intro hown (And.intro hg2 (And.intro hB2 (And.intro hrw hK))))
          have HRR := Lib.hid (And.intro hrl (And.intro hr1 (And.intro hrpl hRP)))
          generalize ((at_ : Int) % (k : Int)) = xI at hxi ⊢
          subst hxi
          clear hown hg2 hB2 hrw hK hrl hr1 hrpl hRP hcx hf2 hrx hsz hsy hSY hm hd hdl hsd hx HXI hall2 hK2 hO1 hrw1 hba hg hsm hglt HRL
          refine region_anyC (fun _ => True) (fun w' => True) [] (by kernel_rfl) ?_
          refine anyC_takeS (i := 0) (oi := ⟨some 55, _, _, _, _, _⟩) (v := _) rfl (by kernel_rfl) (by kernel_rfl) (by kernel_rfl) (by kernel_rfl) (fun _ _ _ h => h) (Or.inl ⟨by rfl, fun w' hw' => (by clear hw'; go_simp; try with_reducible rfl)⟩) trivial (fun _ => HT.out) ?_
          try simp only [Act.put, List.setIfInBounds_toArray, List.set_cons_zero, List.set_cons_succ]
          refine anyC_takeS (i := 1) (oi := ⟨some 56, _, _, _, _, _⟩) (v := _) rfl (by kernel_rfl) (by kernel_rfl) (by kernel_rfl) (by kernel_rfl) (fun _ _ _ h => h) (Or.inl ⟨by rfl, fun w' hw' => (by clear hw'; go_simp; try with_reducible rfl)⟩) trivial (fun _ => HT.out) ?_
          try simp only [Act.put, List.setIfInBounds_toArray, List.set_cons_zero, List.set_cons_succ]
          refine anyC_takeS (i := 2) (oi := ⟨some 57, _, _, _, _, _⟩) (v := _) rfl (by kernel_rfl) (by kernel_rfl) (by kernel_rfl) (by kernel_rfl) (fun _ _ _ h => h) (Or.inl ⟨by rfl, fun w' hw' => (by clear hw'; go_simp; try with_reducible rfl)⟩) trivial (fun _ => HT.out) ?_
          try simp only [Act.put, List.setIfInBounds_toArray, List.set_cons_zero, List.set_cons_succ]
          refine anyC_takeS (i := 3) (oi := ⟨some 58, _, _, _, _, _⟩) (v := _) rfl (by kernel_rfl) (by kernel_rfl) (by kernel_rfl) (by kernel_rfl) (fun _ _ _ h => h) (Or.inl ⟨by rfl, fun w' hw' => (by clear hw'; go_simp; try with_reducible rfl)⟩) trivial (fun _ => HT.out) ?_
          try simp only [Act.put, List.setIfInBounds_toArray, List.set_cons_zero, List.set_cons_succ]
          refine anyC_takeS (i := 4) (oi := ⟨some 59, _, _, _, _, _⟩) (v := _) rfl (by kernel_rfl) (by kernel_rfl) (by kernel_rfl) (by kernel_rfl) (fun _ _ _ h => h) (Or.inl ⟨by rfl, fun w' hw' => (by clear hw'; go_simp; try with_reducible rfl)⟩) trivial (fun _ => HT.out) ?_
          try simp only [Act.put, List.setIfInBounds_toArray, List.set_cons_zero, List.set_cons_succ]
          refine anyC_takeS (i := 5) (oi := ⟨some 60, _, _, _, _, _⟩) (v := _) rfl (by kernel_rfl) (by kernel_rfl) (by kernel_rfl) (by kernel_rfl) (fun _ _ _ h => h) (Or.inl ⟨by rfl, fun w' hw' => (by clear hw'; go_simp; try with_reducible rfl)⟩) trivial (fun _ => HT.out) ?_
          try simp only [Act.put, List.setIfInBounds_toArray, List.set_cons_zero, List.set_cons_succ]
          refine anyC_takeS (i := 6) (oi := ⟨some 61, _, _, _, _, _⟩) (v := _) rfl (by kernel_rfl) (by kernel_rfl) (by kernel_rfl) (by kernel_rfl) (fun _ _ _ h => h) (Or.inl ⟨by rfl, fun w' hw' => (by clear hw'; go_simp; try with_reducible rfl)⟩) trivial (fun _ => HT.out) ?_
          try simp only [Act.put, List.setIfInBounds_toArray, List.set_cons_zero, List.set_cons_succ]
          refine anyC_takeS (i := 7) (oi := ⟨some 62, _, _, _, _, _⟩) (v := _) rfl (by kernel_rfl) (by kernel_rfl) (by kernel_rfl) (by kernel_rfl) (fun _ _ _ h => h) (Or.inl ⟨by rfl, fun w' hw' => (by clear hw'; go_simp; try with_reducible rfl)⟩) trivial (fun _ => HT.out) ?_
          try simp only [Act.put, List.setIfInBounds_toArray, List.set_cons_zero, List.set_cons_succ]
          refine anyC_takeS (i := 8) (oi := ⟨some 63, _, _, _, _, _⟩) (v := _) rfl (by kernel_rfl) (by kernel_rfl) (by kernel_rfl) (by kernel_rfl) (fun _ _ _ h => h) (Or.inl ⟨by rfl, fun w' hw' => (by clear hw'; go_simp; try with_reducible rfl)⟩) trivial (fun _ => HT.out) ?_
          try simp only [Act.put, List.setIfInBounds_toArray, List.set_cons_zero, List.set_cons_succ]
          refine anyC_takeS (i := 9) (oi := ⟨some 64, _, _, _, _, _⟩) (v := _) rfl (by kernel_rfl) (by kernel_rfl) (by kernel_rfl) (by kernel_rfl) (fun _ _ _ h => h) (Or.inl ⟨by rfl, fun w' hw' => (by clear hw'; go_simp; try with_reducible rfl)⟩) trivial (fun _ => HT.out) ?_
          try simp only [Act.put, List.setIfInBounds_toArray, List.set_cons_zero, List.set_cons_succ]
          refine anyC_takeS (i := 10) (oi := ⟨some 65, _, _, _, _, _⟩) (v := _) rfl (by kernel_rfl) (by kernel_rfl) (by kernel_rfl) (by kernel_rfl) (fun _ _ _ h => h) (Or.inl ⟨by rfl, fun w' hw' => (by clear hw'; go_simp; try with_reducible rfl)⟩) trivial (fun _ => HT.out) ?_
          try simp only [Act.put, List.setIfInBounds_toArray, List.set_cons_zero, List.set_cons_succ]
          refine anyC_takeS (i := 11) (oi := ⟨some 66, _, _, _, _, _⟩) (v := _) rfl (by kernel_rfl) (by kernel_rfl) (by kernel_rfl) (by kernel_rfl) (fun _ _ _ h => h) (Or.inl ⟨by rfl, fun w' hw' => (by clear hw'; go_simp; try with_reducible rfl)⟩) trivial (fun _ => HT.out) ?_
          try simp only [Act.put, List.setIfInBounds_toArray, List.set_cons_zero, List.set_cons_succ]
          refine anyC_takeS (i := 12) (oi := ⟨some 67, _, _, _, _, _⟩) (v := _) rfl (by kernel_rfl) (by kernel_rfl) (by kernel_rfl) (by kernel_rfl) (fun _ _ _ h => h) (Or.inl ⟨by rfl, fun w' hw' => (by clear hw'; go_simp; try with_reducible rfl)⟩) trivial (fun _ => HT.out) ?_
          try simp only [Act.put, List.setIfInBounds_toArray, List.set_cons_zero, List.set_cons_succ]
          refine anyC_takeS (i := 13) (oi := ⟨some 68, _, _, _, _, _⟩) (v := _) rfl (by kernel_rfl) (by kernel_rfl) (by kernel_rfl) (by kernel_rfl) (fun _ _ _ h => h) (Or.inl ⟨by rfl, fun w' hw' => (by clear hw'; go_simp; try with_reducible rfl)⟩) trivial (fun _ => HT.out) ?_
          try simp only [Act.put, List.setIfInBounds_toArray, List.set_cons_zero, List.set_cons_succ]
          refine anyC_keep (i := 14) (o := ⟨some 69, _, _, _, _, _⟩) (by kernel_rfl) rfl (fun K hK => ?_)
          rw [if_pos (by rfl)]
          go_wp2_with fail
          (with_reducible refine (HKR.out _).mono ?_)
          rintro e Y1 ⟨rfl, hb1⟩
          refine hK.out _ _ ⟨trivial, (fun _ => HT.out)⟩ ?_
          clear hK K
          try simp only [Act.put, List.setIfInBounds_toArray, List.set_cons_zero, List.set_cons_succ]
          refine anyC_takeS (i := 15) (oi := ⟨some 70, _, _, _, _, _⟩) (v := _) rfl (by kernel_rfl) (by kernel_rfl) (by kernel_rfl) (by kernel_rfl) (fun _ _ _ h => h) (Or.inl ⟨by rfl, fun w' hw' => (by clear hw'; go_simp; try with_reducible rfl)⟩) trivial (fun _ => HT.out) ?_
          try simp only [Act.put, List.setIfInBounds_toArray, List.set_cons_zero, List.set_cons_succ]
          refine anyC_keep (i := 16) (o := ⟨none, _, _, _, _, _⟩) (by kernel_rfl) rfl (fun K hK => ?_)
          rw [if_pos (by rfl)]
          have hfz := HF.out _ hb1
          go_simp
          refine hK.out _ _ ⟨trivial, (fun _ => HT.out)⟩ ?_
          clear hK K
          try simp only [Act.put, List.setIfInBounds_toArray, List.set_cons_zero, List.set_cons_succ]
          refine anyC_done (by kernel_rfl) ?_ _
          go_wp2
          go_meet
          obtain ⟨hown, hg2, hB2, hrw, hK⟩ := HWW.out
          obtain ⟨hrl, hr1, hrpl, hRP⟩ := HRR.out
          have hownY := own_below (W := w2.drew) hown hb1 rfl
          have hs := hownY.stored x (.string RP)
          rw [← hRP, stC_set] at hs
          have hw3 := (bstep hB2.drew hb1).setCell (p := ⟨g2, x, none⟩) hg2.1 (.string RP)
          refine Lib.hid ⟨rows.set x rl, by rw [List.length_set]; exact hrl, fun r hr => ?_, ?_, hrw.below hw3, Wk.step hK hw3⟩
          · rcases List.mem_or_eq_of_mem_set hr with h | h
            · exact Nat.le_trans (hr1 r h) (by decide)
            · rw [h]; exact hrpl
          · have h := own_rw hs.1 (by rw [List.length_set]; exact hrl)
            rw [hRP] at h
            exact h
      case rest =>
        obtain ⟨rows2, hl2, hr2, hrw2, hrwc, hKc⟩ := hcut.out
        have HIX : Hid (∀ j : Nat, j < 2 → ∃ gx capx rowsx, (∀ W : World, (Instr.index 44 (.agg #[.slice (some ⟨g, 0, none⟩) k cap2, .slice (some ⟨g2, 0, none⟩) k cap3]) (.int .i64 (j : Int))).run Try.prog W = .ok (.slice (some ⟨gx, 0, none⟩) k capx) W) ∧ rowsx.length = k ∧ (∀ r ∈ rowsx, r.length ≤ 2000) ∧ ∀ W, Rw W (some ⟨g, 0, none⟩) rows → Rw W (some ⟨g2, 0, none⟩) rows2 → Rw W (some ⟨gx, 0, none⟩) rowsx) := Lib.hid (fun j hj => by
          have h : j = 0 ∨ j = 1 := by omega
          rcases h with rfl | rfl
          · exact ⟨g, cap2, rows, fun W => idx44_0 _ _ W, hrl, fun r hr => Nat.le_trans (hr1 r hr) (by decide), fun W h _ => h⟩
          · exact ⟨g2, cap3, rows2, fun W => idx44_1 _ _ W, hl2, hr2, fun W _ h => h⟩)
        have HWC := Lib.hid (And.intro hrwc (And.intro hrw2 hKc))
        clear hcut hl2 hr2 hrw2 hrwc hKc hall2 hK2 hown hg2 hB2 hrw hK hrl hr1 hO1 hrw1 hba hg hsm hglt hn_ hat
        go_wp2
        go_loopw [74] (fun i wr => ∃ j : Nat, j ≤ 2 ∧ i = .int .i64 (j : Int) ∧ Hid (Rw wr (some ⟨g, 0, none⟩) rows ∧ Rw wr (some ⟨g2, 0, none⟩) rows2 ∧ Wk w wr [])) (fun i _ => 2 - (intOf i).toNat)
        case atStart => exact ⟨0, by omega, rfl, HWC⟩
        case round =>
          clear HWC
          obtain ⟨j, hj, rfl, HWC⟩ := hrel
          by_cases hj2 : j < 2
          · obtain ⟨gx, capx, rx, hix, hxl, hxr, hxw⟩ := HIX.out j hj2
            have hji : (j : Int) < 2 := by omega
            have hxw2 := hxw _ HWC.out.1 HWC.out.2.1
            have HX := Lib.hid (xor_any (some ⟨gx, 0, none⟩) capx rx _ hxw2 (by omega))
            rw [bdB_all, hxl] at HX
            have HRX := Lib.hid (fun W (h : Rw W (some ⟨gx, 0, none⟩) rx) => rxor_any (some ⟨gx, 0, none⟩) capx rx W h (by omega) hxr)
            rw [hxl] at HRX
            have HXW := Lib.hid hxw
            have HXL := Lib.hid (And.intro hxl hxr)
            clear hxl hxr hxw hxw2
            obtain ⟨X, E, hXE⟩ : ∃ (X : ByteArray) (E : Int), (if bdB rx k then (#[.string ⟨#[]⟩, .int .i64 3] : Array Value) else #[.string (bs (paL rx)), .int .i64 0]) = #[.string X, .int .i64 E] := by
              cases bdB rx k
              · exact ⟨_, _, rfl⟩
              · exact ⟨_, _, rfl⟩
            rw [hXE] at HX
            have HXE := Lib.hid hXE
            clear hXE
            go_upto_region 16 with fail
            clear hix
            go_wp2_with fail
            (with_reducible refine HX.out.mono ?_)
            rintro e Y ⟨rfl, hb⟩
            have HW5 : Hid (Rw Y (some ⟨g, 0, none⟩) rows ∧ Rw Y (some ⟨g2, 0, none⟩) rows2 ∧ Wk w Y []) := Lib.hid ⟨HWC.out.1.below hb, HWC.out.2.1.below hb, Wk.step HWC.out.2.2 hb⟩
            have HR5 := Lib.hid (HXW.out _ HW5.out.1 HW5.out.2.1)
            clear hb HX HWC
            go_upto_if 84 with fail
            go_cut [14, 84] from 85 to 86 (fun s14 _ wx => s14 = .int .i64 (if bdB rx 0 then 3 else 0) ∧ Y = wx)
            case first =>
              by_cases h64 : 64 < k
              · have h65 : (64 : Int) < (k : Int) := by omega
                go_wp2
                go_meet
                exact ⟨by rw [bdB_zero, HXL.out.1, decide_eq_true h64]; rfl, rfl⟩
              · have h65 : ¬ (64 : Int) < (k : Int) := by omega
                go_wp2
                go_meet
                exact ⟨by rw [bdB_zero, HXL.out.1, decide_eq_false h64]; rfl, rfl⟩
            case rest =>
              obtain ⟨rfl, rfl⟩ := hcut
              generalize hz : (if bdB rx 0 = true then (3 : Int) else 0) = z
              have HZ := Lib.hid hz
              clear hz
              go_wp2
              go_loopw [14, 87] (fun s14 i wr => ∃ t : Nat, t ≤ k ∧ i = .int .i64 (t : Int) ∧ s14 = .int .i64 (if bdB rx t then 3 else 0) ∧ Y = wr) (fun _ i _ => k - (intOf i).toNat)
              case atStart => exact ⟨0, by omega, rfl, by rw [HZ.out], rfl⟩
              case round =>
                obtain ⟨t, ht, rfl, rfl, rfl⟩ := hrel
                by_cases htk : t < k
                · obtain ⟨_, _, e1, _, hc⟩ := HR5.out t (by have := HXL.out.1; omega)
                  cases e1
                  rw [Nat.zero_add] at hc
                  have hst := bdB_succ (rows := rx) (j := t) (by have := HXL.out.1; omega)
                  have hsz : (bs (rx.getD t [])).size = (rx.getD t []).length := bs_size _
                  have hlt : (rx.getD t []).length ≤ 2000 := HXL.out.2 _ (by rw [List.getD_eq_getElem?_getD, List.getElem?_eq_getElem (by have := HXL.out.1; omega)]; exact List.getElem_mem _)
                  have hti : (t : Int) < (k : Int) := by omega
                  generalize (rx.getD t []).length = lr at hst hsz hlt
                  generalize bs (rx.getD t []) = S at hc hsz
                  have HST := Lib.hid hst
                  clear hst
                  generalize hzt : (if bdB rx t = true then (3 : Int) else 0) = zt
                  have HZT := Lib.hid hzt
                  clear hzt
                  by_cases hlong : 1200 < lr
                  · have hl3 : (1200 : Int) < (S.size : Int) := by omega
                    clear hsz
                    go_wp2
                    go_roundw
                    case rel => exact ⟨t + 1, by omega, by go_num, by rw [HST.out, decide_eq_true hlong, Bool.or_true]; rfl, by first | rfl | trivial⟩
                    case measure => simp [intOf]; omega
                  · have hl3 : ¬ (1200 : Int) < (S.size : Int) := by omega
                    clear hsz
                    go_wp2
                    go_roundw
                    case rel => exact ⟨t + 1, by omega, by go_num, by rw [HST.out, decide_eq_false hlong, Bool.or_false, HZT.out], by first | rfl | trivial⟩
                    case measure => simp [intOf]; omega
                · obtain rfl : t = k := by omega
                  have h := HXE.out
                  clear HXE HZ
                  cases hb : bdB rx t
                  · rw [hb] at h
                    simp at h
                    obtain ⟨rfl, rfl⟩ := h
                    have HRX2 := Lib.hid (HRX.out Y HR5.out)
                    generalize bs (paL rx) = P at HRX2 ⊢
                    simp only [Bool.false_eq_true, if_false]
                    have HW6 := HW5
                    go_wp2_with (go_at_call 22; (with_reducible refine HRX2.out.mono ?_); rintro e Y2 ⟨rfl, hb2⟩; have HW6 : Hid (Rw Y2 (some ⟨g, 0, none⟩) rows ∧ Rw Y2 (some ⟨g2, 0, none⟩) rows2 ∧ Wk w Y2 []) := Lib.hid ⟨HW5.out.1.below hb2, HW5.out.2.1.below hb2, Wk.step HW5.out.2.2 hb2⟩; clear hb2)
                    go_roundw
                    case rel => exact ⟨j + 1, by omega, by go_num, HW6⟩
                    case measure => simp [intOf]; omega
                  · rw [hb] at h
                    simp at h
                    obtain ⟨rfl, rfl⟩ := h
                    simp only [if_true]
                    go_wp2
                    go_roundw
                    case rel => exact ⟨j + 1, by omega, by go_num, HW5⟩
                    case measure => simp [intOf]; omega
          · obtain rfl : j = 2 := by omega
            have HK9 := HWC.out.2.2
            go_wp2
            go_ret
            exact ⟨rfl, HK9.b⟩
end Go.Proofs.Ytfagfenmampigaa
