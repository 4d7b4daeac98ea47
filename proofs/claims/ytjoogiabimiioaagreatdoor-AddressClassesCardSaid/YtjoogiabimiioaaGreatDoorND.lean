/- Contracts of read. -/
import Derived.Test.YtjoogiabimiioaaGreatDoorNC
import Derived.WalkMore
namespace Go.Proofs.YtjoogiabimiioaaGreatDoor
open Go.RowKit Go.ChangeShapes
attribute [local go_sem] Oper.semAt_some
theorem run_store_fn85 {P : Program} (w : World) (a : Addr) (m : Mode) (fn : Fn) (x y : Array Value) : (store a (.func fn x y) m).run P w = stored P w a (.func fn x y) m := run_store P w a _ m rfl
attribute [local go_sem] run_store_fn85

set_option maxRecDepth 100000 in
set_option maxHeartbeats 16000000 in
theorem read85_any (tt g np base : Nat) (row : List Nat) (c : UInt8) (s : List UInt8) (w : World) (hb : base = 10 ∨ base = 16) (hnp : np ≤ 8) (hrow : row.length = np) (hs : s.length ≤ 1000)
    (hg : w.heap[g]? = some (.cells (rwK .u16 row) tt (0, 0))) :
    Calls Tryz.prog 85 #[.slice (some ⟨g, 0, none⟩) np np, .string (bs s), .string ⟨#[c]⟩, .int .i64 (base : Int)] w fun e w' =>
      e = .returned (.tuple #[.int .i64 ((rdP np base 65535 0 (splP c s)).1.length : Int), .bool (rdP np base 65535 0 (splP c s)).2]) ∧ Only g w w' ∧ w'.heap[g]? = some (.cells (rwK .u16 (plc row (rdP np base 65535 0 (splP c s)).1)) tt (0, 0)) := by
  have hgz : g < w.heap.size := (Array.getElem?_eq_some_iff.1 hg).1
  obtain ⟨S, hS⟩ : ∃ X, bs s = X := ⟨_, rfl⟩
  obtain ⟨SEP, hSEP⟩ : ∃ X : ByteArray, ⟨#[c]⟩ = X := ⟨_, rfl⟩
  obtain ⟨D, hD⟩ : ∃ X, bs (digL base) = X := ⟨_, rfl⟩
  obtain ⟨V0, hV0⟩ : ∃ V, (((w.alloc (.cells #[.slice (some ⟨g, 0, none⟩) np np] 125)).alloc (.cells #[.int .i64 (base : Int)] 3)).alloc (.cells #[.int .i64 0] 3)).alloc (.cells #[.bool false] 4) = V := ⟨_, rfl⟩
  obtain ⟨V1, hV1⟩ : ∃ V, V0.alloc (.cells #[.string D] 9) = V := ⟨_, rfl⟩
  obtain ⟨V2, hV2⟩ : ∃ V, (V1.alloc (.cells #[.nilFunc] 145)).setCell ⟨w.heap.size + 5, 0, none⟩ (.func (.func 122) #[] #[.pointer (some ⟨w.heap.size + 4, 0, none⟩)]) = V := ⟨_, rfl⟩
  obtain ⟨V3, hV3⟩ : ∃ V, ((V2.alloc (.cells #[.string S] 9)).alloc (.cells #[.string SEP] 9)).alloc (.cells #[.int .i64 0] 3) = V := ⟨_, rfl⟩
  have hz0 : V0.heap.size = w.heap.size + 4 := by rw [← hV0]; simp
  have hz1 : V1.heap.size = w.heap.size + 5 := by rw [← hV1]; simp [hz0]
  have hz2 : V2.heap.size = w.heap.size + 6 := by rw [← hV2]; simp [World.setCell, hz1]
  have hz3 : V3.heap.size = w.heap.size + 9 := by rw [← hV3]; simp [hz2]
  have ha := five_at w _ _ _ _ _ V1 (by rw [← hV1, ← hV0])
  have hb3 := three_at V2 _ _ _ V3 hV3
  rw [hz2] at hb3
  have hn5 : (V1.alloc (.cells #[.nilFunc] 145)).heap[w.heap.size + 5]? = some (.cells #[.nilFunc] 145 (0, 0)) := by rw [← hz1]; exact heap_alloc_new V1 _
  have h25 : V2.heap[w.heap.size + 5]? = some (.cells #[.func (.func 122) #[] #[.pointer (some ⟨w.heap.size + 4, 0, none⟩)]] 145 (0, 0)) := by rw [← hV2]; exact box_set hn5
  have h2o : ∀ j, j < w.heap.size + 5 → V3.heap[j]? = V1.heap[j]? := fun j hj => by
    rw [hb3.2.2.2 j (by omega), ← hV2, heap_setCell_other _ ⟨w.heap.size + 5, 0, none⟩ j _ (by show j ≠ w.heap.size + 5; omega), Below.heap_alloc V1 _ j (by omega)]
  have hO : Only g w V3 := by
    rw [← hV3, ← hV2, ← hV1, ← hV0]
    exact (((((((((Only.refl g w).alloc _).alloc _).alloc _).alloc _).alloc _).alloc _).setNew (by omega) _ _).alloc _ |>.alloc _).alloc _
  have hR : Rm .u16 125 tt w base np g (plc row []) 0 false V3 := by
    exact ⟨(h2o _ (by omega)).trans ha.1, (h2o _ (by omega)).trans ha.2.1, (h2o _ (by omega)).trans ha.2.2.1, (h2o _ (by omega)).trans ha.2.2.2.1, by rw [hD]; exact (h2o _ (by omega)).trans ha.2.2.2.2.1, (hb3.2.2.2 _ (by omega)).trans h25, (h2o _ (by omega)).trans ((ha.2.2.2.2.2 g hgz).trans hg), hO, hgz⟩
  have h6 := hb3.1
  have h7 := hb3.2.1
  have h8 := hb3.2.2.1
  have HSEQ : Hid (SeqX Fence.wide 4 Tryz.prog 139 #[.pointer (some ⟨w.heap.size + 7, 0, none⟩), .pointer (some ⟨w.heap.size + 6, 0, none⟩), .pointer (some ⟨w.heap.size + 8, 0, none⟩)] enS (KpT (w.heap.size + 7) (w.heap.size + 6) (w.heap.size + 8)) (fun xs => xs = splP c s) (fun pre => pre <+: splP c s) (fun p => p.length ≤ 1000) (s.length + 1) (w.heap.size + 6) V3) :=
    Lib.hid (spl_seq 4 _ _ _ c s V3 (by decide) (by omega) (by omega) hs (by rw [hSEP]; exact h7) (by rw [hS]; exact h6) h8)
  have HDG := Lib.hid (fun W => digits_any base hb W)
  have HSP := Lib.hid (fun W => split_any S SEP W)
  have HRM := Lib.hid hR
  have HV := Lib.hid (And.intro hV1 (And.intro hV2 (And.intro hV3 (And.intro hz0 (And.intro hz1 (And.intro hz2 hz3))))))
  have HP := Lib.hid (And.intro hb (And.intro hnp (And.intro hrow hs)))
  have HD := Lib.hid hD
  rw [hS, hSEP]
  rw [hD] at HDG
  have hc7 : V0.cell? ⟨w.heap.size + 1, 0, none⟩ = some (.int .i64 (base : Int)) := by
    exact cell_of_row V0 (w.heap.size + 1) 0 #[.int .i64 (base : Int)] 3 (0, 0) (four_at w _ _ _ _ V0 hV0)
  have hc10 : (V1.alloc (.cells #[.nilFunc] 145)).cell? ⟨w.heap.size + 5, 0, none⟩ = some .nilFunc := cell_of_row _ _ 0 #[.nilFunc] 145 (0, 0) hn5
  have hf10 : (V1.alloc (.cells #[.nilFunc] 145)).frozen? ⟨w.heap.size + 5, 0, none⟩ = false := frozen_of_row _ _ _ _ _ hn5
  clear ha hb3 hn5 h25 h2o hg h6 h7 h8 hR hO hb hnp hrow hs hS hSEP hD hV1 hV2 hV3 hz0 hz1 hz2 hz3
  refine (callsIn_wide (n := 5)).1 ?_
  refine callsIn_of_wp_marks Tryz.func85 rfl trivial ?_ rfl
  simp only [Tryz.ntmps85, List.size_toArray, List.length_cons, List.length_nil, Nat.reduceAdd, Nat.reduceSub, Array.replicate_succ, Array.replicate_zero, List.push_toArray, List.append_toArray, List.nil_append, List.cons_append]
  refine wpIn_wide.2 ?_
  go_upto_region 1 with fail
  go_step3
  go_wp2_with fail
  (with_reducible refine (HDG.out _).mono ?_)
  rintro e W1 ⟨rfl, hw1⟩
  rw [HV.out.1] at hw1
  subst hw1
  rw [HV.out.2.2.2.1]
  have hv2 := HV.out.2.1
  have hv1z := HV.out.2.2.2.2.1
  go_wp2_with fail
  go_step3
  go_wp2_with fail
  (with_reducible refine (HSP.out _).mono ?_)
  rintro e W3 ⟨rfl, hw3⟩
  rw [HV.out.2.2.1] at hw3
  subst hw3
  rw [HV.out.2.2.2.2.2.1]
  clear hv2 hv1z hc7 hc10 hf10 hV0 HSP HDG
  go_wp2_with fail
  refine (wpIn_wide (n := 5)).1 ?_
  have HZ3 := Lib.hid HV.out.2.2.2.2.2.2
  clear HV
  refine rangeS rfl (by decide) (gf := 139) (lb := #[.pointer (some ⟨w.heap.size + 7, 0, none⟩), .pointer (some ⟨w.heap.size + 6, 0, none⟩), .pointer (some ⟨w.heap.size + 8, 0, none⟩)]) rfl trivial (enters_of Tryz.func139 (by kernel_rfl) rfl) (b := w.heap.size + 6) (by have := HZ3.out; omega) HSEQ.out (fun h k => h.trans k)
    (fun W A A' hA => ⟨World.putObj_heap_other (by have := HZ3.out; omega), World.putObj_heap_other (by have := HZ3.out; omega), World.putObj_heap_other (by have := HZ3.out; omega)⟩) (fun _ => rfl)
    (fun pre W => ∃ vs, Acc np base 65535 pre vs ∧ Rm .u16 125 tt w base np g (plc row vs) vs.length (decide (pre ≠ [])) W)
    (fun cd pre W => cd = .exit 0 ∧ ∃ pre0 x vs, pre = pre0 ++ [x] ∧ Acc np base 65535 pre0 vs ∧ (pre0.length = np ∨ parO base 65535 x = none) ∧ Rm .u16 125 tt w base np g (plc row vs) vs.length false W)
    (fun pre A B rw' h hg hr => (by obtain ⟨vs, h1, h2⟩ := h; exact ⟨vs, h1, h2.grown hg (fun r e => by have := hr r e; have := HZ3.out; omega)⟩))
    (fun cd pre A B rw' h hg hr => (by obtain ⟨e0, p0, x, vs, e1, h1, h3, h2⟩ := h; exact ⟨e0, p0, x, vs, e1, h1, h3, h2.grown hg (fun r e => by have := hr r e; have := HZ3.out; omega)⟩))
    ⟨[], ⟨rfl, Nat.zero_le _⟩, HRM.out⟩
    (fun x : List UInt8 => { tmps := #[.slice (some ⟨g, 0, none⟩) np np, .string S, .string SEP, .int .i64 (base : Int), .pointer (some ⟨w.heap.size, 0, none⟩), undef, undef, .pointer (some ⟨w.heap.size + 1, 0, none⟩), .pointer (some ⟨w.heap.size + 2, 0, none⟩), .pointer (some ⟨w.heap.size + 3, 0, none⟩), .pointer (some ⟨w.heap.size + 5, 0, none⟩), .string (bs x), undef, undef, undef, undef, .int .i64 (base : Int), .func (.func 122) #[] #[.pointer (some ⟨w.heap.size + 4, 0, none⟩)], .string S, .string SEP, .func (.func 139) #[] #[.pointer (some ⟨w.heap.size + 7, 0, none⟩), .pointer (some ⟨w.heap.size + 6, 0, none⟩), .pointer (some ⟨w.heap.size + 8, 0, none⟩)], .string (bs x), undef, undef, undef, undef, undef, undef, undef, undef, undef, undef, undef, undef, undef, undef, undef, undef, undef, undef, undef, undef, undef, undef, undef, undef, undef, undef, undef, undef, undef, undef, undef, undef, undef, undef, undef, undef, undef, undef, undef, undef, undef, undef, undef, undef, undef, undef, undef, undef, undef, undef, undef, undef, undef, undef], defers := [] }) ?assign ?body ?done ?stop
  case assign =>
    intro l x W K' hK
    clear HSEQ HRM HP HZ3
    gi_wp2
    exact hK
  case body =>
    rintro l pre x W hx1000 ⟨vs, hacc, hrm⟩ _
    clear HSEQ HRM
    have HA := Lib.hid hacc
    have HX1 := Lib.hid hx1000
    clear hx1000
    have HW0 : Hid (Rw .u16 125 tt w base np g (plc row vs) vs.length (decide (pre ≠ [])) W W) := Lib.hid ⟨hrm, ⟨Nat.le_refl _, fun _ _ h _ => h⟩, ⟨rfl, rfl, rfl⟩⟩
    clear hacc hrm
    obtain ⟨X, hX⟩ : ∃ X, bs x = X := ⟨_, rfl⟩
    have hXs : X.size = x.length := by rw [← hX]; exact bs_size x
    have hXl : X.toList = x := by rw [← hX, Lib.toList_data]; exact bs_data x
    have c9 : W.cell? ⟨w.heap.size + 3, 0, none⟩ = some (.bool (decide (pre ≠ []))) := cell_of_row _ _ 0 _ 4 (0, 0) HW0.out.m.r
    have f9 : W.frozen? ⟨w.heap.size + 3, 0, none⟩ = false := frozen_of_row _ _ _ _ _ HW0.out.m.r
    have HW1 := Lib.hid (HW0.out.rtSet false)
    have c8 : (W.setCell ⟨w.heap.size + 3, 0, none⟩ (.bool false)).cell? ⟨w.heap.size + 2, 0, none⟩ = some (.int .i64 (vs.length : Int)) := cell_of_row _ _ 0 _ 3 (0, 0) HW1.out.m.c
    have c4 : (W.setCell ⟨w.heap.size + 3, 0, none⟩ (.bool false)).cell? ⟨w.heap.size, 0, none⟩ = some (.slice (some ⟨g, 0, none⟩) np np) := cell_of_row _ _ 0 _ 125 (0, 0) HW1.out.m.p
    generalize decide (pre ≠ []) = rt0 at c9 HW0
    have HXX := Lib.hid hX
    have hvl : vs.length ≤ np := by rw [← HA.out.len]; exact HA.out.2
    clear hX
    rw [HXX.out]
    by_cases hfull : vs.length = np
    · have e1 : (vs.length : Int) = (np : Int) := by omega
      have HF := Lib.hid hfull
      clear hfull hvl hXl
      gi_wp2
      exact ⟨HW1.out.k, rfl, pre, x, vs, rfl, HA.out, .inl (by rw [HA.out.len]; exact HF.out), HW1.out.m⟩
    · have e1 : ((vs.length : Int) == (np : Int)) = false := beq_false_of_ne (by omega)
      have e2 : ¬ (vs.length : Int) = (np : Int) := by omega
      have HV := Lib.hid (show vs.length < np by omega)
      clear hfull hvl
      rcases x with _ | ⟨b, r⟩
      · clear hXs
        gi_wp2
        exact ⟨HW1.out.k, rfl, pre, [], vs, rfl, HA.out, .inr (if_pos (.inl rfl)), HW1.out.m⟩
      · have e3 : ¬ X.toList = [] := by rw [hXl]; simp
        have e4 : (X.toList == []) = false := beq_false_of_ne e3
        have e5 : X.toList.isEmpty = false := by rw [hXl]; rfl
        have hx0 : 0 < X.size := by rw [hXs]; simp
        have hx1 : (0 : Int) < (X.size : Int) := by omega
        have HXs := Lib.hid hXs
        clear hXs
        have hi0 : ∀ W, (Instr.index 9 (.string X) (.int .i64 0)).run Tryz.prog W = .ok (.int .u8 (b.toNat : Int)) W := fun W => by
          have h := idx_str X 0 hx0 W
          have hb0 : X[0] = b := by
            have h2 := bs_idx (b :: r) 0 (by rw [bs_size]; simp)
            simp only [HXX.out] at h2
            rw [h2]
            rfl
          rw [hb0] at h
          exact h
        by_cases hb48 : b = 48
        · have e6 : (b.toNat : Int) = 48 := by rw [hb48]; rfl
          by_cases hr : r = []
          · have e7 : X.toList = [48] := by rw [hXl, hb48, hr]
            have HOK : Hid (parO base 65535 (b :: r) = valO base 65535 (b :: r) 0) := Lib.hid (if_neg (by simp [hb48, hr]))
            have HBR := Lib.hid (show (b :: r) = X.toList from hXl.symm)
            have e8 : (X.toList != [48]) = false := by rw [e7]; rfl
            have e9 : (X.toList == [48]) = true := beq_iff_eq.2 e7
            clear hXl hb48 hr HBR
            gi_wp2
            clear e8 e9
            clear e3 e4 e5 e6 e7
            have HXL : Hid ((b :: r).length ≤ 1000) := HX1
            clear c8 c4 c9 f9 hi0 hx0 hx1 e1 e2
            generalize W.setCell ⟨w.heap.size + 3, 0, none⟩ (.bool false) = W1 at HW1 ⊢
            obtain ⟨x, hx⟩ : ∃ x, b :: r = x := ⟨_, rfl⟩
            rw [hx] at HOK HXX HXs HXL
            have HBX := Lib.hid hx
            clear hx
            gi_loopw [12, 13, 14, 15, 41] (fun n _ _ _ i wr => ∃ (j m : Nat), j ≤ x.length ∧ n = .int .i64 (m : Int) ∧ i = .int .i64 (j : Int) ∧ Hid (m ≤ 65535 ∧ valO base 65535 x 0 = valO base 65535 (x.drop j) m) ∧ Hid (Rw .u16 125 tt w base np g (plc row vs) vs.length false W wr)) (fun _ _ _ _ i _ => x.length - (intOf i).toNat)
            case atStart => exact ⟨0, 0, Nat.zero_le _, rfl, rfl, Lib.hid ⟨Nat.zero_le _, rfl⟩, HW1⟩
            case round =>
              clear HW1
              obtain ⟨j, m, hj, rfl, rfl, HM, HW⟩ := hrel
              by_cases hlt : j < x.length
              · have hjS : j < X.size := by rw [HXs.out]; exact hlt
                have hji : (j : Int) < (X.size : Int) := by omega
                have hidx := fun W => idx_str X j hjS W
                have hcj : X[j] = x.getD j 0 := by
                  have h2 := bs_idx x j (by rw [bs_size]; exact hlt)
                  simp only [HXX.out] at h2
                  exact h2
                obtain ⟨ch, hch⟩ : ∃ ch, x.getD j 0 = ch := ⟨_, rfl⟩
                rw [hch] at hcj
                simp only [hcj] at hidx
                have hdrop : x.drop j = ch :: x.drop (j + 1) := by
                  rw [List.drop_eq_getElem_cons hlt, ← hch, List.getD_eq_getElem?_getD, List.getElem?_eq_getElem hlt]
                  rfl
                have hval : valO base 65535 (x.drop j) m = if dgV base ch < 0 ∨ 65535 < m * base + (dgV base ch).toNat then none else valO base 65535 (x.drop (j + 1)) (m * base + (dgV base ch).toNat) := by rw [hdrop]; rfl
                have hd1 := dgV_ge base ch
                have hd2 := dgV_lt base HP.out.1 ch
                have HD1 := Lib.hid (dig1_any base ch (w.heap.size + 4) wr.drew HW.out.drew.m.dg)
                have HWd := Lib.hid HW.out.drew
                have c10 : wr.drew.cell? ⟨w.heap.size + 5, 0, none⟩ = some (.func (.func 122) #[] #[.pointer (some ⟨w.heap.size + 4, 0, none⟩)]) := cell_of_row _ _ 0 _ 145 (0, 0) HWd.out.m.d
                have hbb : base ≤ 16 := by rcases HP.out.1 with h | h <;> omega
                have hqb : m * base ≤ 65535 * 16 := Nat.mul_le_mul HM.out.1 hbb
                obtain ⟨q, hq⟩ : ∃ q, m * base = q := ⟨_, rfl⟩
                have hmb : (m : Int) * (base : Int) = (q : Int) := by rw [← hq]; exact (Int.natCast_mul m base).symm
                rw [hq] at hval hqb
                obtain ⟨d, hd⟩ : ∃ d, dgV base ch = d := ⟨_, rfl⟩
                rw [hd] at hval hd1 hd2 HD1
                rw [HM.out.2] at HOK
                have HVAL := Lib.hid hval
                have HQ := Lib.hid (And.intro hmb (And.intro hqb (And.intro hd1 hd2)))
                have HLT := Lib.hid hlt
                have HJ := Lib.hid hj
                clear hval hdrop hcj hch hd hq hbb hmb hqb hd1 hd2 hlt hj hjS
                gi_wp2
                gi_region_with (refine ⟨trivial, ((callsIn_wide.2 HD1.out).inRound _).mono ?_⟩; rintro e' W3 ⟨rfl, rfl⟩)
                all_goals (
                  clear hidx c10
                  have c7 : wr.drew.cell? ⟨w.heap.size + 1, 0, none⟩ = some (.int .i64 (base : Int)) := cell_of_row _ _ 0 _ 3 (0, 0) HWd.out.m.bb
                  by_cases hneg : d < 0
                  · have HNO : Hid (parO base 65535 x = none) := Lib.hid (by rw [HOK.out, HVAL.out, if_pos (.inl hneg)])
                    have hdn : ¬ 0 ≤ d := by omega
                    clear HVAL HOK HM hneg hji
                    gi_wp2
                    exact ⟨HWd.out.k, rfl, pre, x, by rw [HBX.out], vs, HA.out, .inr HNO.out, HWd.out.m⟩
                  · obtain ⟨e, he⟩ : ∃ e : Nat, d = (e : Int) := ⟨d.toNat, by omega⟩
                    subst he
                    rw [Int.toNat_natCast] at HVAL
                    obtain ⟨m2, hm2⟩ : ∃ m2, q + e = m2 := ⟨_, rfl⟩
                    have hqe : (q : Int) + (e : Int) = (m2 : Int) := by omega
                    have he0 : (0 : Int) ≤ (e : Int) := by omega
                    have hqb := HQ.out.2.1
                    have he16 : e < 16 := by have := HQ.out.2.2.2; omega
                    have HWW := Lib.hid (And.intro (w64_nat (x := q) (by omega)) (w64_nat (x := m2) (by omega)))
                    have hmb := HQ.out.1
                    have HWJ : Hid (wrap64 ((j : Int) + 1) = (j : Int) + 1) := Lib.hid (w64_nat (x := j + 1) (by have := HLT.out; have := HXL.out; omega))
                    rw [hm2] at HVAL
                    clear hneg hm2 hqb he16 hji
                    have hxor : wrap64 (bits BinOp.xor IntKind.u16 (if IntKind.u16.signed = true then -1 else IntKind.u16.max) 0) = 65535 := by decide +kernel
                    by_cases hgt : 65535 < m2
                    · have HNO : Hid (parO base 65535 x = none) := Lib.hid (by rw [HOK.out, HVAL.out, if_pos (.inr hgt)])
                      have hgi : (65535 : Int) < (m2 : Int) := by omega
                      clear HVAL HOK HM hgt
                      obtain ⟨hw1, hw2⟩ := HWW.out
                      gi_wp2
                      exact ⟨HWd.out.k, rfl, pre, x, by rw [HBX.out], vs, HA.out, .inr HNO.out, HWd.out.m⟩
                    · have hgi : ¬ (65535 : Int) < (m2 : Int) := by omega
                      have HNX : Hid (m2 ≤ 65535 ∧ valO base 65535 x 0 = valO base 65535 (x.drop (j + 1)) m2) := Lib.hid ⟨by omega, by rw [HM.out.2, HVAL.out, if_neg (by rintro (h | h); omega; omega)]⟩
                      have hw1 := HWW.out.1
                      have hgi2 : ¬ (65535 : Int) < wrap64 (m2 : Int) := by rw [HWW.out.2]; exact hgi
                      clear HVAL hgt HOK HM
                      gi_wp2
                      clear hw1 hgi2
                      exact ⟨⟨j + 1, m2, by have := HLT.out; omega, by first | rfl | rw [HWW.out.2], by rw [HWJ.out]; rfl, HNX, HWd⟩, by rw [HWJ.out]; have := HLT.out; simp [intOf]; omega⟩)
              · have hjl : j = x.length := by omega
                have hcond : ¬ (j : Int) < (X.size : Int) := by have := HXs.out; omega
                have hpar : parO base 65535 x = some m := by rw [HOK.out, HM.out.2, hjl, List.drop_length]; rfl
                have hvl := HV.out
                have hrl : (plc row vs).length = np := by rw [plc_length row vs (by have := HP.out.2.2.1; omega)]; exact HP.out.2.2.1
                have c4 : wr.cell? ⟨w.heap.size, 0, none⟩ = some (.slice (some ⟨g, 0, none⟩) np np) := cell_of_row _ _ 0 _ 125 (0, 0) HW.out.m.p
                have c8 : wr.cell? ⟨w.heap.size + 2, 0, none⟩ = some (.int .i64 (vs.length : Int)) := cell_of_row _ _ 0 _ 3 (0, 0) HW.out.m.c
                have cP := HW.out.m.cellP (i := vs.length) (by omega)
                have fP : wr.frozen? ⟨g, vs.length, none⟩ = false := frozen_of_row _ _ _ _ _ HW.out.m.pl
                have HW2 := Lib.hid (HW.out.plSet vs.length m)
                obtain ⟨n1, hn1⟩ : ∃ n1, vs.length + 1 = n1 := ⟨_, rfl⟩
                have hn1i : (vs.length : Int) + 1 = (n1 : Int) := by omega
                have HW3 := Lib.hid (HW2.out.cntSet n1)
                have HW4 := Lib.hid (HW3.out.rtSet true)
                have c82 : (wr.setCell ⟨g, vs.length, none⟩ (kv .u16 m)).cell? ⟨w.heap.size + 2, 0, none⟩ = some (.int .i64 (vs.length : Int)) := cell_of_row _ _ 0 _ 3 (0, 0) HW2.out.m.c
                have f82 : (wr.setCell ⟨g, vs.length, none⟩ (kv .u16 m)).frozen? ⟨w.heap.size + 2, 0, none⟩ = false := frozen_of_row _ _ _ _ _ HW2.out.m.c
                have c93 : ((wr.setCell ⟨g, vs.length, none⟩ (kv .u16 m)).setCell ⟨w.heap.size + 2, 0, none⟩ (.int .i64 (n1 : Int))).cell? ⟨w.heap.size + 3, 0, none⟩ = some (.bool false) := cell_of_row _ _ 0 _ 4 (0, 0) HW3.out.m.r
                have f93 : ((wr.setCell ⟨g, vs.length, none⟩ (kv .u16 m)).setCell ⟨w.heap.size + 2, 0, none⟩ (.int .i64 (n1 : Int))).frozen? ⟨w.heap.size + 3, 0, none⟩ = false := frozen_of_row _ _ _ _ _ HW3.out.m.r
                have cR0 : wr.cell? ⟨w.heap.size + 3, 0, none⟩ = some (.bool false) := cell_of_row _ _ 0 _ 4 (0, 0) HW.out.m.r
                have fR0 : wr.frozen? ⟨w.heap.size + 3, 0, none⟩ = false := frozen_of_row _ _ _ _ _ HW.out.m.r
                have fC0 : wr.frozen? ⟨w.heap.size + 2, 0, none⟩ = false := frozen_of_row _ _ _ _ _ HW.out.m.c
                have hwm : IntKind.u16.wrap (m : Int) = (m : Int) := by rw [IntKind.wrap_u16]; have := HM.out.1; omega
                have hb0 : (0 : Int) ≤ (vs.length : Int) := by omega
                have hb1 : (vs.length : Int) < (np : Int) := by omega
                have HFIN : Hid (Acc np base 65535 (pre ++ [x]) (vs ++ [m]) ∧ Rm .u16 125 tt w base np g (plc row (vs ++ [m])) (vs ++ [m]).length true (((wr.setCell ⟨g, vs.length, none⟩ (kv .u16 m)).setCell ⟨w.heap.size + 2, 0, none⟩ (.int .i64 (n1 : Int))).setCell ⟨w.heap.size + 3, 0, none⟩ (.bool true))) := Lib.hid (by
                  have h1 := HW4.out.m
                  rw [plc_set row vs m (by have := HP.out.2.2.1; omega)] at h1
                  refine ⟨⟨by rw [List.map_append, List.map_append, HA.out.1, List.map_cons, List.map_nil, hpar]; rfl, by have := HA.out.len; rw [List.length_append, List.length_cons, List.length_nil]; omega⟩, ?_⟩
                  rw [show (vs ++ [m]).length = n1 by rw [List.length_append, List.length_cons, List.length_nil]; exact hn1]
                  exact h1)
                have hwn : wrap64 (n1 : Int) = (n1 : Int) := w64_nat (x := n1) (by have := HP.out.2.1; omega)
                clear hpar hrl hjl HM HOK hn1 hj
                unfold kv at *
                gi_wp2
                exact ⟨HW4.out.k, HW4.out.t, vs ++ [m], by rw [HBX.out]; exact HFIN.out.1, by (first | rw [decide_eq_false (show ¬ pre ++ [b :: r] = [] by simp)] | rw [decide_eq_true (show pre ++ [b :: r] ≠ [] by simp)]); exact HFIN.out.2⟩
          · have e7 : ¬ X.toList = [48] := by rw [hXl, hb48]; simpa using hr
            have e8 : (X.toList != [48]) = true := bne_iff_ne.2 e7
            have e9 : (X.toList == [48]) = false := beq_false_of_ne e7
            have HNO : Hid (parO base 65535 (b :: r) = none) := Lib.hid (if_pos (.inr ⟨by simp [hb48], by simpa [hb48] using hr⟩))
            clear hXl hb48 hr
            gi_wp2
            exact ⟨HW1.out.k, rfl, pre, b :: r, vs, rfl, HA.out, .inr HNO.out, HW1.out.m⟩
        · have e6 : ((b.toNat : Int) == 48) = false := beq_false_of_ne (fun e => hb48 (by apply UInt8.toNat_inj.1; show b.toNat = 48; omega))
          have e7 : ¬ (b.toNat : Int) = 48 := fun e => hb48 (by apply UInt8.toNat_inj.1; show b.toNat = 48; omega)
          have HOK : Hid (parO base 65535 (b :: r) = valO base 65535 (b :: r) 0) := Lib.hid (if_neg (by simp [hb48]))
          clear hXl hb48
          gi_wp2
          clear e3 e4 e5 e6 e7
          have HXL : Hid ((b :: r).length ≤ 1000) := HX1
          clear c8 c4 c9 f9 hi0 hx0 hx1 e1 e2
          generalize W.setCell ⟨w.heap.size + 3, 0, none⟩ (.bool false) = W1 at HW1 ⊢
          obtain ⟨x, hx⟩ : ∃ x, b :: r = x := ⟨_, rfl⟩
          rw [hx] at HOK HXX HXs HXL
          have HBX := Lib.hid hx
          clear hx
          gi_loopw [12, 13, 14, 15, 41] (fun n _ _ _ i wr => ∃ (j m : Nat), j ≤ x.length ∧ n = .int .i64 (m : Int) ∧ i = .int .i64 (j : Int) ∧ Hid (m ≤ 65535 ∧ valO base 65535 x 0 = valO base 65535 (x.drop j) m) ∧ Hid (Rw .u16 125 tt w base np g (plc row vs) vs.length false W wr)) (fun _ _ _ _ i _ => x.length - (intOf i).toNat)
          case atStart => exact ⟨0, 0, Nat.zero_le _, rfl, rfl, Lib.hid ⟨Nat.zero_le _, rfl⟩, HW1⟩
          case round =>
            clear HW1
            obtain ⟨j, m, hj, rfl, rfl, HM, HW⟩ := hrel
            by_cases hlt : j < x.length
            · have hjS : j < X.size := by rw [HXs.out]; exact hlt
              have hji : (j : Int) < (X.size : Int) := by omega
              have hidx := fun W => idx_str X j hjS W
              have hcj : X[j] = x.getD j 0 := by
                have h2 := bs_idx x j (by rw [bs_size]; exact hlt)
                simp only [HXX.out] at h2
                exact h2
              obtain ⟨ch, hch⟩ : ∃ ch, x.getD j 0 = ch := ⟨_, rfl⟩
              rw [hch] at hcj
              simp only [hcj] at hidx
              have hdrop : x.drop j = ch :: x.drop (j + 1) := by
                rw [List.drop_eq_getElem_cons hlt, ← hch, List.getD_eq_getElem?_getD, List.getElem?_eq_getElem hlt]
                rfl
              have hval : valO base 65535 (x.drop j) m = if dgV base ch < 0 ∨ 65535 < m * base + (dgV base ch).toNat then none else valO base 65535 (x.drop (j + 1)) (m * base + (dgV base ch).toNat) := by rw [hdrop]; rfl
              have hd1 := dgV_ge base ch
              have hd2 := dgV_lt base HP.out.1 ch
              have HD1 := Lib.hid (dig1_any base ch (w.heap.size + 4) wr.drew HW.out.drew.m.dg)
              have HWd := Lib.hid HW.out.drew
              have c10 : wr.drew.cell? ⟨w.heap.size + 5, 0, none⟩ = some (.func (.func 122) #[] #[.pointer (some ⟨w.heap.size + 4, 0, none⟩)]) := cell_of_row _ _ 0 _ 145 (0, 0) HWd.out.m.d
              have hbb : base ≤ 16 := by rcases HP.out.1 with h | h <;> omega
              have hqb : m * base ≤ 65535 * 16 := Nat.mul_le_mul HM.out.1 hbb
              obtain ⟨q, hq⟩ : ∃ q, m * base = q := ⟨_, rfl⟩
              have hmb : (m : Int) * (base : Int) = (q : Int) := by rw [← hq]; exact (Int.natCast_mul m base).symm
              rw [hq] at hval hqb
              obtain ⟨d, hd⟩ : ∃ d, dgV base ch = d := ⟨_, rfl⟩
              rw [hd] at hval hd1 hd2 HD1
              rw [HM.out.2] at HOK
              have HVAL := Lib.hid hval
              have HQ := Lib.hid (And.intro hmb (And.intro hqb (And.intro hd1 hd2)))
              have HLT := Lib.hid hlt
              have HJ := Lib.hid hj
              clear hval hdrop hcj hch hd hq hbb hmb hqb hd1 hd2 hlt hj hjS
              gi_wp2
              gi_region_with (refine ⟨trivial, ((callsIn_wide.2 HD1.out).inRound _).mono ?_⟩; rintro e' W3 ⟨rfl, rfl⟩)
              all_goals (
                clear hidx c10
                have c7 : wr.drew.cell? ⟨w.heap.size + 1, 0, none⟩ = some (.int .i64 (base : Int)) := cell_of_row _ _ 0 _ 3 (0, 0) HWd.out.m.bb
                by_cases hneg : d < 0
                · have HNO : Hid (parO base 65535 x = none) := Lib.hid (by rw [HOK.out, HVAL.out, if_pos (.inl hneg)])
                  have hdn : ¬ 0 ≤ d := by omega
                  clear HVAL HOK HM hneg hji
                  gi_wp2
                  exact ⟨HWd.out.k, rfl, pre, x, by rw [HBX.out], vs, HA.out, .inr HNO.out, HWd.out.m⟩
                · obtain ⟨e, he⟩ : ∃ e : Nat, d = (e : Int) := ⟨d.toNat, by omega⟩
                  subst he
                  rw [Int.toNat_natCast] at HVAL
                  obtain ⟨m2, hm2⟩ : ∃ m2, q + e = m2 := ⟨_, rfl⟩
                  have hqe : (q : Int) + (e : Int) = (m2 : Int) := by omega
                  have he0 : (0 : Int) ≤ (e : Int) := by omega
                  have hqb := HQ.out.2.1
                  have he16 : e < 16 := by have := HQ.out.2.2.2; omega
                  have HWW := Lib.hid (And.intro (w64_nat (x := q) (by omega)) (w64_nat (x := m2) (by omega)))
                  have hmb := HQ.out.1
                  have HWJ : Hid (wrap64 ((j : Int) + 1) = (j : Int) + 1) := Lib.hid (w64_nat (x := j + 1) (by have := HLT.out; have := HXL.out; omega))
                  rw [hm2] at HVAL
                  clear hneg hm2 hqb he16 hji
                  have hxor : wrap64 (bits BinOp.xor IntKind.u16 (if IntKind.u16.signed = true then -1 else IntKind.u16.max) 0) = 65535 := by decide +kernel
                  by_cases hgt : 65535 < m2
                  · have HNO : Hid (parO base 65535 x = none) := Lib.hid (by rw [HOK.out, HVAL.out, if_pos (.inr hgt)])
                    have hgi : (65535 : Int) < (m2 : Int) := by omega
                    clear HVAL HOK HM hgt
                    obtain ⟨hw1, hw2⟩ := HWW.out
                    gi_wp2
                    exact ⟨HWd.out.k, rfl, pre, x, by rw [HBX.out], vs, HA.out, .inr HNO.out, HWd.out.m⟩
                  · have hgi : ¬ (65535 : Int) < (m2 : Int) := by omega
                    have HNX : Hid (m2 ≤ 65535 ∧ valO base 65535 x 0 = valO base 65535 (x.drop (j + 1)) m2) := Lib.hid ⟨by omega, by rw [HM.out.2, HVAL.out, if_neg (by rintro (h | h); omega; omega)]⟩
                    have hw1 := HWW.out.1
                    have hgi2 : ¬ (65535 : Int) < wrap64 (m2 : Int) := by rw [HWW.out.2]; exact hgi
                    clear HVAL hgt HOK HM
                    gi_wp2
                    clear hw1 hgi2
                    exact ⟨⟨j + 1, m2, by have := HLT.out; omega, by first | rfl | rw [HWW.out.2], by rw [HWJ.out]; rfl, HNX, HWd⟩, by rw [HWJ.out]; have := HLT.out; simp [intOf]; omega⟩)
            · have hjl : j = x.length := by omega
              have hcond : ¬ (j : Int) < (X.size : Int) := by have := HXs.out; omega
              have hpar : parO base 65535 x = some m := by rw [HOK.out, HM.out.2, hjl, List.drop_length]; rfl
              have hvl := HV.out
              have hrl : (plc row vs).length = np := by rw [plc_length row vs (by have := HP.out.2.2.1; omega)]; exact HP.out.2.2.1
              have c4 : wr.cell? ⟨w.heap.size, 0, none⟩ = some (.slice (some ⟨g, 0, none⟩) np np) := cell_of_row _ _ 0 _ 125 (0, 0) HW.out.m.p
              have c8 : wr.cell? ⟨w.heap.size + 2, 0, none⟩ = some (.int .i64 (vs.length : Int)) := cell_of_row _ _ 0 _ 3 (0, 0) HW.out.m.c
              have cP := HW.out.m.cellP (i := vs.length) (by omega)
              have fP : wr.frozen? ⟨g, vs.length, none⟩ = false := frozen_of_row _ _ _ _ _ HW.out.m.pl
              have HW2 := Lib.hid (HW.out.plSet vs.length m)
              obtain ⟨n1, hn1⟩ : ∃ n1, vs.length + 1 = n1 := ⟨_, rfl⟩
              have hn1i : (vs.length : Int) + 1 = (n1 : Int) := by omega
              have HW3 := Lib.hid (HW2.out.cntSet n1)
              have HW4 := Lib.hid (HW3.out.rtSet true)
              have c82 : (wr.setCell ⟨g, vs.length, none⟩ (kv .u16 m)).cell? ⟨w.heap.size + 2, 0, none⟩ = some (.int .i64 (vs.length : Int)) := cell_of_row _ _ 0 _ 3 (0, 0) HW2.out.m.c
              have f82 : (wr.setCell ⟨g, vs.length, none⟩ (kv .u16 m)).frozen? ⟨w.heap.size + 2, 0, none⟩ = false := frozen_of_row _ _ _ _ _ HW2.out.m.c
              have c93 : ((wr.setCell ⟨g, vs.length, none⟩ (kv .u16 m)).setCell ⟨w.heap.size + 2, 0, none⟩ (.int .i64 (n1 : Int))).cell? ⟨w.heap.size + 3, 0, none⟩ = some (.bool false) := cell_of_row _ _ 0 _ 4 (0, 0) HW3.out.m.r
              have f93 : ((wr.setCell ⟨g, vs.length, none⟩ (kv .u16 m)).setCell ⟨w.heap.size + 2, 0, none⟩ (.int .i64 (n1 : Int))).frozen? ⟨w.heap.size + 3, 0, none⟩ = false := frozen_of_row _ _ _ _ _ HW3.out.m.r
              have cR0 : wr.cell? ⟨w.heap.size + 3, 0, none⟩ = some (.bool false) := cell_of_row _ _ 0 _ 4 (0, 0) HW.out.m.r
              have fR0 : wr.frozen? ⟨w.heap.size + 3, 0, none⟩ = false := frozen_of_row _ _ _ _ _ HW.out.m.r
              have fC0 : wr.frozen? ⟨w.heap.size + 2, 0, none⟩ = false := frozen_of_row _ _ _ _ _ HW.out.m.c
              have hwm : IntKind.u16.wrap (m : Int) = (m : Int) := by rw [IntKind.wrap_u16]; have := HM.out.1; omega
              have hb0 : (0 : Int) ≤ (vs.length : Int) := by omega
              have hb1 : (vs.length : Int) < (np : Int) := by omega
              have HFIN : Hid (Acc np base 65535 (pre ++ [x]) (vs ++ [m]) ∧ Rm .u16 125 tt w base np g (plc row (vs ++ [m])) (vs ++ [m]).length true (((wr.setCell ⟨g, vs.length, none⟩ (kv .u16 m)).setCell ⟨w.heap.size + 2, 0, none⟩ (.int .i64 (n1 : Int))).setCell ⟨w.heap.size + 3, 0, none⟩ (.bool true))) := Lib.hid (by
                have h1 := HW4.out.m
                rw [plc_set row vs m (by have := HP.out.2.2.1; omega)] at h1
                refine ⟨⟨by rw [List.map_append, List.map_append, HA.out.1, List.map_cons, List.map_nil, hpar]; rfl, by have := HA.out.len; rw [List.length_append, List.length_cons, List.length_nil]; omega⟩, ?_⟩
                rw [show (vs ++ [m]).length = n1 by rw [List.length_append, List.length_cons, List.length_nil]; exact hn1]
                exact h1)
              have hwn : wrap64 (n1 : Int) = (n1 : Int) := w64_nat (x := n1) (by have := HP.out.2.1; omega)
              clear hpar hrl hjl HM HOK hn1 hj
              unfold kv at *
              gi_wp2
              exact ⟨HW4.out.k, HW4.out.t, vs ++ [m], by rw [HBX.out]; exact HFIN.out.1, by (first | rw [decide_eq_false (show ¬ pre ++ [b :: r] = [] by simp)] | rw [decide_eq_true (show pre ++ [b :: r] ≠ [] by simp)]); exact HFIN.out.2⟩
  case done =>
    rintro D xs W hD hS ⟨vs, hacc, hrm⟩ hK
    subst hS
    have hres := rdP_all hacc
    rw [decide_eq_true (splP_ne c s)] at hrm
    have HRES := Lib.hid hres
    have HM := Lib.hid hrm
    have HK := Lib.hid (And.intro hK hD)
    clear hres hrm hK hD HSEQ HRM hacc
    have c8 : W.drew.cell? ⟨w.heap.size + 2, 0, none⟩ = some (.int .i64 (vs.length : Int)) := cell_of_row _ _ 0 _ 3 (0, 0) HM.out.c
    have f8 : W.drew.frozen? ⟨w.heap.size + 2, 0, none⟩ = false := frozen_of_row _ _ _ _ _ HM.out.c
    have cW8 : W.cell? ⟨w.heap.size + 2, 0, none⟩ = some (.int .i64 (vs.length : Int)) := cell_of_row _ _ 0 _ 3 (0, 0) HM.out.c
    have fW8 : W.frozen? ⟨w.heap.size + 2, 0, none⟩ = false := frozen_of_row _ _ _ _ _ HM.out.c
    have cW9 : W.cell? ⟨w.heap.size + 3, 0, none⟩ = some (.bool true) := cell_of_row _ _ 0 _ 4 (0, 0) HM.out.r
    have fW9 : W.frozen? ⟨w.heap.size + 3, 0, none⟩ = false := frozen_of_row _ _ _ _ _ HM.out.r
    have c9 : W.drew.cell? ⟨w.heap.size + 3, 0, none⟩ = some (.bool true) := cell_of_row _ _ 0 _ 4 (0, 0) HM.out.r
    have f9 : W.drew.frozen? ⟨w.heap.size + 3, 0, none⟩ = false := frozen_of_row _ _ _ _ _ HM.out.r
    have HM1 := Lib.hid ((HM.out.grown (V := W.drew) (rw' := none) ⟨rfl, rfl, rfl, Nat.le_refl _, fun _ _ _ => rfl⟩ (fun r e => by cases e)).cntSet vs.length)
    have HM2 := Lib.hid (HM1.out.rtSet true)
    have c91 : (W.drew.setCell ⟨w.heap.size + 2, 0, none⟩ (.int .i64 (vs.length : Int))).cell? ⟨w.heap.size + 3, 0, none⟩ = some (.bool true) := cell_of_row _ _ 0 _ 4 (0, 0) HM1.out.r
    have f91 : (W.drew.setCell ⟨w.heap.size + 2, 0, none⟩ (.int .i64 (vs.length : Int))).frozen? ⟨w.heap.size + 3, 0, none⟩ = false := frozen_of_row _ _ _ _ _ HM1.out.r
    have hK2 : ((W.drew.setCell ⟨w.heap.size + 2, 0, none⟩ (.int .i64 (vs.length : Int))).setCell ⟨w.heap.size + 3, 0, none⟩ (.bool true)).heap[D]? = some (.deferred (some [])) :=
      (heap_setCell_other _ ⟨w.heap.size + 3, 0, none⟩ D _ (by show D ≠ w.heap.size + 3; have := HK.out.2; have := HZ3.out; omega)).trans ((heap_setCell_other _ ⟨w.heap.size + 2, 0, none⟩ D _ (by show D ≠ w.heap.size + 2; have := HK.out.2; have := HZ3.out; omega)).trans HK.out.1)
    have HM3 := Lib.hid (HM2.out.grown (grownBy_putObj' _ D (.deferred none)) (fun r e => by cases e; have := HK.out.2; have := HZ3.out; omega))
    have HKK := Lib.hid hK2
    clear hK2 HK
    go_wp2_with fail
    go_region
    all_goals (
      go_wp2
      refine ⟨by simp, .inl ⟨_, _, rfl, run_takeDeferred HKK.out, ?_⟩⟩
      exact ⟨.tuple #[.int .i64 (vs.length : Int), .bool true], results_read _ Tryz.results85 _ _ _ _ _ _ rfl rfl (cell_of_row _ _ 0 _ 3 (0, 0) HM3.out.c) (cell_of_row _ _ 0 _ 4 (0, 0) HM3.out.r), by rw [HRES.out], HM3.out.o, by rw [HRES.out]; exact HM3.out.pl⟩)
  case stop =>
    rintro D cd pre W hD hS ⟨rfl, pre0, x, vs, hp, hacc, hx, hrm⟩ hK
    obtain ⟨rest, hrest⟩ := hS
    have hres : rdP np base 65535 0 (splP c s) = (vs, false) := by
      rw [← hrest, hp, List.append_assoc]
      exact rdP_stop hacc hx
    have HRES := Lib.hid hres
    have HM := Lib.hid hrm
    have HK := Lib.hid (And.intro hK hD)
    clear hres hrm hK hD HSEQ HRM hacc hx hp hrest
    have c8 : W.drew.cell? ⟨w.heap.size + 2, 0, none⟩ = some (.int .i64 (vs.length : Int)) := cell_of_row _ _ 0 _ 3 (0, 0) HM.out.c
    have f8 : W.drew.frozen? ⟨w.heap.size + 2, 0, none⟩ = false := frozen_of_row _ _ _ _ _ HM.out.c
    have cW8 : W.cell? ⟨w.heap.size + 2, 0, none⟩ = some (.int .i64 (vs.length : Int)) := cell_of_row _ _ 0 _ 3 (0, 0) HM.out.c
    have fW8 : W.frozen? ⟨w.heap.size + 2, 0, none⟩ = false := frozen_of_row _ _ _ _ _ HM.out.c
    have cW9 : W.cell? ⟨w.heap.size + 3, 0, none⟩ = some (.bool false) := cell_of_row _ _ 0 _ 4 (0, 0) HM.out.r
    have fW9 : W.frozen? ⟨w.heap.size + 3, 0, none⟩ = false := frozen_of_row _ _ _ _ _ HM.out.r
    have c9 : W.drew.cell? ⟨w.heap.size + 3, 0, none⟩ = some (.bool false) := cell_of_row _ _ 0 _ 4 (0, 0) HM.out.r
    have f9 : W.drew.frozen? ⟨w.heap.size + 3, 0, none⟩ = false := frozen_of_row _ _ _ _ _ HM.out.r
    have HM1 := Lib.hid ((HM.out.grown (V := W.drew) (rw' := none) ⟨rfl, rfl, rfl, Nat.le_refl _, fun _ _ _ => rfl⟩ (fun r e => by cases e)).cntSet vs.length)
    have HM2 := Lib.hid (HM1.out.rtSet false)
    have c91 : (W.drew.setCell ⟨w.heap.size + 2, 0, none⟩ (.int .i64 (vs.length : Int))).cell? ⟨w.heap.size + 3, 0, none⟩ = some (.bool false) := cell_of_row _ _ 0 _ 4 (0, 0) HM1.out.r
    have f91 : (W.drew.setCell ⟨w.heap.size + 2, 0, none⟩ (.int .i64 (vs.length : Int))).frozen? ⟨w.heap.size + 3, 0, none⟩ = false := frozen_of_row _ _ _ _ _ HM1.out.r
    have hK2 : ((W.drew.setCell ⟨w.heap.size + 2, 0, none⟩ (.int .i64 (vs.length : Int))).setCell ⟨w.heap.size + 3, 0, none⟩ (.bool false)).heap[D]? = some (.deferred (some [])) :=
      (heap_setCell_other _ ⟨w.heap.size + 3, 0, none⟩ D _ (by show D ≠ w.heap.size + 3; have := HK.out.2; have := HZ3.out; omega)).trans ((heap_setCell_other _ ⟨w.heap.size + 2, 0, none⟩ D _ (by show D ≠ w.heap.size + 2; have := HK.out.2; have := HZ3.out; omega)).trans HK.out.1)
    have HM3 := Lib.hid (HM2.out.grown (grownBy_putObj' _ D (.deferred none)) (fun r e => by cases e; have := HK.out.2; have := HZ3.out; omega))
    have HKK := Lib.hid hK2
    clear hK2 HK
    gi_wp2
    go_wp2_with fail
    go_region
    all_goals (
      go_wp2
      refine ⟨by simp, .inl ⟨_, _, rfl, run_takeDeferred HKK.out, ?_⟩⟩
      exact ⟨.tuple #[.int .i64 (vs.length : Int), .bool false], results_read _ Tryz.results85 _ _ _ _ _ _ rfl rfl (cell_of_row _ _ 0 _ 3 (0, 0) HM3.out.c) (cell_of_row _ _ 0 _ 4 (0, 0) HM3.out.r), by rw [HRES.out], HM3.out.o, by rw [HRES.out]; exact HM3.out.pl⟩)
end Go.Proofs.YtjoogiabimiioaaGreatDoor
