/- The reference of layer 7: Host, cut, four, sixteen, bit, Within. -/
import Derived.Test.YtjoogiabimiioaaGreatDoorPH
import Derived.Test.YtjoogiabimiioaaGreatDoorPI
namespace Go.Proofs.YtjoogiabimiioaaGreatDoor
open Go.RowKit Go.ChangeShapes
set_option maxRecDepth 100000 in
set_option maxHeartbeats 2000000 in
theorem rHost_any (S : ByteArray) (w : World) : Calls Tryz.prog 22 #[.string S] w fun e w' => e = .returned (.bool (hostB S)) ∧ w' = w := by
  unfold hostB
  by_cases h4 : S.size = 4
  · have e1 : (S.size : Int) = 4 := by omega
    rw [show (S.size == 4) = true from beq_iff_eq.2 h4]
    go_enter Tryz.func22, Tryz.ntmps22
    go_wp2
    go_ret
    exact ⟨rfl, rfl⟩
  · have e1 : ((S.size : Int) == 4) = false := beq_false_of_ne (by omega)
    have e2 : ¬ (S.size : Int) = 4 := by omega
    rw [show (S.size == 4) = false from beq_false_of_ne h4, Bool.false_or]
    by_cases h16 : S.size = 16
    · have e3 : (S.size : Int) = 16 := by omega
      rw [show (S.size == 16) = true from beq_iff_eq.2 h16]
      clear e1 e2
      go_enter Tryz.func22, Tryz.ntmps22
      go_wp2
      go_ret
      exact ⟨rfl, rfl⟩
    · have e3 : ((S.size : Int) == 16) = false := beq_false_of_ne (by omega)
      have e4 : ¬ (S.size : Int) = 16 := by omega
      rw [show (S.size == 16) = false from beq_false_of_ne h16]
      go_enter Tryz.func22, Tryz.ntmps22
      go_wp2
      go_ret
      exact ⟨rfl, rfl⟩
set_option maxRecDepth 100000 in
set_option maxHeartbeats 2000000 in
theorem cut_any (S : ByteArray) (w : World) : Calls Tryz.prog 11 #[.string S] w fun e w' => (∃ Z : ByteArray, Z.size ≤ 60 ∧ e = .returned (.string Z)) ∧ Below w.heap.size w w' := by
  obtain ⟨m, z, hz, hzl, hm, hmS⟩ := cut_m S 60 60 rfl
  have hsl : ∀ W, (Instr.slice 9 (.string S) none (some (.int .i64 (m : Int))) none).run Tryz.prog W = .ok (.string (bs z)) W := fun W => by
    rw [run_slice_string_h (P := Tryz.prog) (w := W) 9 (s := S) Tryz.underlying9 .i64 (m : Int) (by omega) (by omega), Int.toNat_natCast, hz]
  have HZ := Lib.hid hzl
  clear hz hzl
  go_enter Tryz.func11, Tryz.ntmps11
  go_wp2
  go_ret
  exact ⟨⟨bs z, HZ.out, rfl⟩, by go_grown⟩
theorem u8_in (x : UInt8) : IntKind.u8.wrap (x.toNat : Int) = (x.toNat : Int) := by have := x.toNat_lt; rw [IntKind.wrap_u8]; omega
set_option maxRecDepth 100000 in
theorem four44_lit (a b c d : UInt8) (za zb zc zd : Int) (w : World) (ha : za = (a.toNat : Int)) (hb : zb = (b.toNat : Int)) (hc : zc = (c.toNat : Int)) (hd : zd = (d.toNat : Int)) :
    Calls Tryz.prog 44 #[.int .i64 za, .int .i64 zb, .int .i64 zc, .int .i64 zd] w fun e w' => e = .returned (.string (bs [a, b, c, d])) ∧ Below w.heap.size w w' := by
  subst ha hb hc hd
  have ua := u8_in a
  have ub := u8_in b
  have uc := u8_in c
  have ud := u8_in d
  have hr := heap_alloc_new w (.cells (byC [a, b, c, d]).toArray 5)
  have hcv := run_convert_bytes_back (P := Tryz.prog) (w.alloc (.cells (byC [a, b, c, d]).toArray 5)) 54 9 5 ⟨w.heap.size, 0, none⟩ 4 [a, b, c, d] Tryz.underlying54 Tryz.underlying5 Tryz.underlying9 (fun j hj => by
    rw [WideShapes.add_plain, cell_of_row _ w.heap.size (0 + j) _ 5 (0, 0) hr]
    rw [Nat.zero_add, List.getElem?_toArray]; exact byC_get hj)
  change (convert 54 9 (.slice (some ⟨w.heap.size, 0, none⟩) 4 4)).run Tryz.prog (w.alloc (.cells #[by8 a, by8 b, by8 c, by8 d] 5)) = .ok (.string (bs [a, b, c, d])) _ at hcv
  generalize bs [a, b, c, d] = R at hcv ⊢
  clear hr
  go_enter Tryz.func44, Tryz.ntmps44
  go_wp2
  go_ret
  exact ⟨rfl, by go_grown⟩
def C16o : Array Value := (List.replicate 16 (Value.int .u8 0)).toArray
theorem make16c (w : World) : (Instr.makeSlice 54 (.int .i64 16) (.int .i64 16)).run Tryz.prog w = .ok (.slice (some ⟨w.heap.size, 0, none⟩) 16 16) (w.alloc (.cells C16o 5)) := by kernel_rfl
/-- Two octets, and fourteen octets 0. -/
def si (a b : UInt8) : List UInt8 := a :: b :: List.replicate 14 0
set_option maxRecDepth 100000 in
set_option maxHeartbeats 2000000 in
theorem sixteen_lit (a b : UInt8) (za zb : Int) (w : World) (ha : za = (a.toNat : Int)) (hb : zb = (b.toNat : Int)) :
    Calls Tryz.prog 58 #[.int .i64 za, .int .i64 zb] w fun e w' => e = .returned (.string (bs (si a b))) ∧ Below w.heap.size w w' := by
  subst ha hb
  have ua := u8_in a
  have ub := u8_in b
  have hmk := make16c
  have hV0 := heap_alloc_new w (.cells C16o 5)
  have hB0 := (Below.refl w.heap.size w).alloc (Nat.le_refl _) (.cells C16o 5)
  obtain ⟨V, hV⟩ : ∃ V, w.alloc (.cells C16o 5) = V := ⟨_, rfl⟩
  rw [hV] at hV0 hB0
  have c0 : V.cell? ⟨w.heap.size, 0, none⟩ = some (.int .u8 0) := cell_of_row _ _ 0 _ 5 (0, 0) hV0
  have f0 : V.frozen? ⟨w.heap.size, 0, none⟩ = false := frozen_of_row _ _ _ _ _ hV0
  have hV1 := heap_setCell_same V w.heap.size 0 C16o 5 (by8 a) hV0
  have hB1 := below_setCell hB0 (Nat.le_refl _) 0 (by8 a)
  have c1 : (V.setCell ⟨w.heap.size, 0, none⟩ (by8 a)).cell? ⟨w.heap.size, 1, none⟩ = some (.int .u8 0) := cell_of_row _ _ 1 _ 5 (0, 0) hV1
  have f1 : (V.setCell ⟨w.heap.size, 0, none⟩ (by8 a)).frozen? ⟨w.heap.size, 1, none⟩ = false := frozen_of_row _ _ _ _ _ hV1
  have hV2 := heap_setCell_same _ w.heap.size 1 _ 5 (by8 b) hV1
  have HB := Lib.hid (below_setCell hB1 (Nat.le_refl _) 1 (by8 b))
  have hcs : ((C16o.setIfInBounds 0 (by8 a)).setIfInBounds 1 (by8 b)) = (byC (si a b)).toArray := by rfl
  have hcv : (convert 54 9 (.slice (some ⟨w.heap.size, 0, none⟩) 16 16)).run Tryz.prog ((V.setCell ⟨w.heap.size, 0, none⟩ (by8 a)).setCell ⟨w.heap.size, 1, none⟩ (by8 b)) = .ok (.string (bs (si a b))) ((V.setCell ⟨w.heap.size, 0, none⟩ (by8 a)).setCell ⟨w.heap.size, 1, none⟩ (by8 b)) := by
    refine run_convert_bytes_back (P := Tryz.prog) _ 54 9 5 ⟨w.heap.size, 0, none⟩ 16 (si a b) Tryz.underlying54 Tryz.underlying5 Tryz.underlying9 (fun j hj => ?_)
    rw [WideShapes.add_plain, cell_of_row _ w.heap.size (0 + j) _ 5 (0, 0) hV2, hcs]
    rw [Nat.zero_add, List.getElem?_toArray]; exact byC_get hj
  generalize bs (si a b) = R at hcv ⊢
  clear hcs hV0 hV1 hV2 hB0 hB1
  go_enter Tryz.func58, Tryz.ntmps58
  go_upto_region 2 with fail
  clear hV hmk
  go_wp2
  go_ret
  exact ⟨rfl, HB.out⟩
set_option maxRecDepth 100000 in
set_option maxHeartbeats 2000000 in
theorem bit_any (S : ByteArray) (i : Nat) (w : World) (hi : i < 8 * S.size) (hS : S.size ≤ 1000) :
    Calls Tryz.prog 60 #[.string S, .int .i64 (i : Int)] w fun e w' => e = .returned (.bool (bitL S.data.toList i)) ∧ w' = w := by
  obtain ⟨q, hq⟩ : ∃ q, i / 8 = q := ⟨_, rfl⟩
  obtain ⟨r, hr⟩ : ∃ r, i % 8 = r := ⟨_, rfl⟩
  have hqS : q < S.size := by omega
  have hqI : (q : Int) < (S.size : Int) := by omega
  have q1 : (i : Int) / 8 = (q : Int) := by omega
  have q2 : (i : Int).tdiv 8 = (q : Int) := by rw [Int.tdiv_eq_ediv_of_nonneg (by omega)]; omega
  obtain ⟨r1, r2⟩ := mods i 8 r hr
  change (i : Int) % 8 = (r : Int) at r1
  change (i : Int).tmod 8 = (r : Int) at r2
  obtain ⟨k, hk⟩ : ∃ k, 7 - r = k := ⟨_, rfl⟩
  have k1 : (7 : Int) - (r : Int) = (k : Int) := by omega
  have k2 : IntKind.u64.wrap (k : Int) = (k : Int) := IntWalk.u64_in _ (by omega)
  have g1 : S.data.toList.getD q 0 = S[q] := by
    rw [List.getD_eq_getElem?_getD, List.getElem?_eq_getElem (by simpa using hqS)]; rfl
  obtain ⟨x, hx⟩ : ∃ x, S[q].toNat = x := ⟨_, rfl⟩
  have wq := w64_nat (x := q) (by omega)
  have hxl : x < 256 := by rw [← hx]; exact S[q].toNat_lt
  obtain ⟨y, hy⟩ : ∃ y, x / 2 ^ k = y := ⟨_, rfl⟩
  have hyl : y < 256 := by rw [← hy]; have := Nat.div_le_self x (2 ^ k); omega
  have hy1 : (x : Int) / 2 ^ k = (y : Int) := by rw [← hy]; simp
  have ha : bits .and .u8 (y : Int) 1 = ((y % 2 : Nat) : Int) := by
    show IntKind.u8.wrap ((BitVec.ofInt 8 (y : Int) &&& BitVec.ofInt 8 1).toNat : Int) = _
    rw [BitVec.toNat_and, BitVec.ofInt_natCast, BitVec.toNat_ofNat, Nat.mod_eq_of_lt (by omega), show (BitVec.ofInt 8 1).toNat = 1 from rfl, Nat.and_one_is_mod, IntKind.wrap_u8]
    omega
  have hb : bitL S.data.toList i = ((y % 2 : Nat) == 1) := by
    unfold bitL
    rw [hq, hr, hk, g1, hx, Nat.testBit_eq_decide_div_mod_eq, hy]
    rfl
  rw [hb]
  obtain ⟨z, hz⟩ : ∃ z, y % 2 = z := ⟨_, rfl⟩
  rw [hz] at ha ⊢
  have hzb : (z == 1) = ((z : Int) == 1) := by rw [Bool.eq_iff_iff, beq_iff_eq, beq_iff_eq]; omega
  rw [hzb]
  clear hb hz hy g1 hk hq hr hzb hi hS hxl hyl
  go_enter Tryz.func60, Tryz.ntmps60
  go_wp2
  go_ret
  exact ⟨rfl, rfl⟩
set_option maxRecDepth 100000 in
set_option maxHeartbeats 4000000 in
theorem rWithin_any (S P : ByteArray) (n : Nat) (w : World) (hn : n ≤ 8 * P.size) (hP : P.size ≤ 1000) (hS : S.size ≤ 1000) :
    Calls Tryz.prog 29 #[.string S, .string P, .int .i64 (n : Int)] w fun e w' => e = .returned (.bool (wiB S P n)) ∧ w' = w := by
  by_cases hsz : S.size = P.size
  · have e1 : (S.size : Int) = (P.size : Int) := by omega
    have e2 : ((S.size : Int) != (P.size : Int)) = false := by rw [bne_eq_false_iff_eq]; exact e1
    have HB1 := Lib.hid (fun (i : Nat) (h : i < n) W => bit_any S i W (by omega) hS)
    have HB2 := Lib.hid (fun (i : Nat) (h : i < n) W => bit_any P i W (by omega) hP)
    have hi := wiB_iff S P n hn
    obtain ⟨R, hR⟩ : ∃ R, wiB S P n = R := ⟨_, rfl⟩
    rw [hR] at hi ⊢
    have HI := Lib.hid hi
    clear hi hR
    have HS := Lib.hid hsz
    have HN := Lib.hid (show n ≤ 8000 by omega)
    clear hsz hn hP hS
    go_enter Tryz.func29, Tryz.ntmps29
    go_upto_region 4 with fail
    go_loopw [7] (fun i wr => ∃ k : Nat, k ≤ n ∧ i = .int .i64 (k : Int) ∧ Hid (∀ j, j < k → bitL S.data.toList j = bitL P.data.toList j) ∧ w = wr) (fun i _ => n - (intOf i).toNat)
    case atStart => exact ⟨0, by omega, rfl, Lib.hid (fun j h => absurd h (Nat.not_lt_zero j)), rfl⟩
    case round =>
      obtain ⟨k, hk, rfl, HK, rfl⟩ := hrel
      by_cases hlt : k < n
      · have hki : (k : Int) < (n : Int) := by omega
        have A1 := Lib.hid (HB1.out k hlt)
        have A2 := Lib.hid (HB2.out k hlt)
        obtain ⟨a, ha⟩ : ∃ a, bitL S.data.toList k = a := ⟨_, rfl⟩
        obtain ⟨b, hb⟩ : ∃ b, bitL P.data.toList k = b := ⟨_, rfl⟩
        simp only [ha] at A1
        simp only [hb] at A2
        have HAB := Lib.hid (And.intro ha hb)
        clear ha hb
        have HWK : Hid (wrap64 ((k : Int) + 1) = (k : Int) + 1) := Lib.hid (w64_nat (x := k + 1) (by have := HN.out; omega))
        have HLT := Lib.hid hlt
        clear hlt hk
        rcases a with _ | _ <;> rcases b with _ | _
        all_goals
          go_wp2_with (go_at_call 60; (first | (with_reducible refine (A1.out _).mono ?_) | (with_reducible refine (A2.out _).mono ?_)); rintro e V ⟨rfl, rfl⟩)
          first
            | (go_ret
               refine ⟨?_, rfl⟩
               have : R = false := by
                 rw [← Bool.not_eq_true, HI.out]
                 rintro ⟨_, h⟩
                 have := h k HLT.out
                 rw [HAB.out.1, HAB.out.2] at this
                 cases this
               rw [this]; rfl)
            | (refine ⟨⟨k + 1, by have := HLT.out; omega, by (first | rfl | (rw [HWK.out]; rfl)), Lib.hid fun j hj => ?_, by (first | trivial | rfl)⟩, by rw [HWK.out]; have := HLT.out; simp [intOf]; omega⟩
               rcases Nat.lt_or_ge j k with h | h
               · exact HK.out j h
               · rw [show j = k by omega, HAB.out.1, HAB.out.2])
      · obtain rfl : k = n := by omega
        obtain rfl : R = true := HI.out.2 ⟨HS.out, HK.out⟩
        clear HK HI HB1 HB2
        go_wp2
        go_ret
        exact ⟨rfl, rfl⟩
  · have e1 : ¬ (S.size : Int) = (P.size : Int) := by omega
    have e2 : ((S.size : Int) != (P.size : Int)) = true := bne_iff_ne.2 e1
    have e3 : ((S.size : Int) == (P.size : Int)) = false := beq_false_of_ne e1
    unfold wiB
    rw [show (S.size == P.size) = false from beq_false_of_ne hsz, Bool.false_and, Bool.false_and]
    go_enter Tryz.func29, Tryz.ntmps29
    go_wp2
    go_ret
    exact ⟨rfl, rfl⟩
end Go.Proofs.YtjoogiabimiioaaGreatDoor
