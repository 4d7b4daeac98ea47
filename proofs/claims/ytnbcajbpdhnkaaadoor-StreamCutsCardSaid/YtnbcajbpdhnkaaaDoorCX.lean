/- The walk of StreamCuts. -/
import Derived.Test.YtnbcajbpdhnkaaaDoorUX
import Derived.Deep.QuietTactic
import Derived.BigQuiet
import Derived.Deep.RegionHeld3
import Derived.Deep.Cut
namespace Go.Proofs.YtnbcajbpdhnkaaaDoor
open Go.RowKit Go.ChangeShapes

theorem appO_take (k n : List UInt8) (c : Nat) (s : List UInt8) (m : Nat) (h : m ≤ s.length) : appO k n c (s.take m) = (appO k n c s).take m := by
  apply list_ext_getD
  · rw [appO_length, List.length_take, List.length_take, appO_length]
  · intro i hi
    rw [appO_length, List.length_take] at hi
    have e : ∀ l : List UInt8, (l.take m).getD i 0 = l.getD i 0 := fun l => by
      rw [List.getD_eq_getElem?_getD, List.getElem?_take_of_lt (by omega), ← List.getD_eq_getElem?_getD]
    rw [appO_get _ _ _ _ _ (by rw [List.length_take]; omega), e, e, appO_get _ _ _ _ _ (by omega)]
theorem strB_far (k n : List UInt8) (c v i : Nat) : strB k n (c + v) i = strB k n c (64 * v + i) := by
  unfold strB
  rw [show c + (64 * v + i) / 64 = c + v + i / 64 by omega, show (64 * v + i) % 64 = i % 64 by omega]
theorem appO_drop (k n : List UInt8) (c : Nat) (s : List UInt8) (v : Nat) : appO k n (c + v) (s.drop (64 * v)) = (appO k n c s).drop (64 * v) := by
  apply list_ext_getD
  · rw [appO_length, List.length_drop, List.length_drop, appO_length]
  · intro i hi
    rw [appO_length, List.length_drop] at hi
    have e : ∀ l : List UInt8, (l.drop (64 * v)).getD i 0 = l.getD (64 * v + i) 0 := fun l => by
      rw [List.getD_eq_getElem?_getD, List.getElem?_drop, ← List.getD_eq_getElem?_getD]
    rw [appO_get _ _ _ _ _ (by rw [List.length_drop]; omega), e, e, appO_get _ _ _ _ _ (by omega), strB_far]
theorem appO_zeros (k n : List UInt8) (c L i : Nat) (h : i < L) : (appO k n c (List.replicate L 0)).getD i 0 = strB k n c i := by
  rw [appO_get _ _ _ _ _ (by rw [List.length_replicate]; exact h), List.getD_eq_getElem?_getD, List.getElem?_replicate, if_pos h]
  show (0 : UInt8) ^^^ _ = _
  rw [UInt8.zero_xor]
theorem cut_emod (a b m : Nat) (h : a % (b + 1) = m) : (a : Int) % ((b : Int) + 1) = (m : Int) := by rw [← h, Int.natCast_emod]; rfl
theorem cut_tmod (a b m : Nat) (h : a % (b + 1) = m) : (a : Int).tmod ((b : Int) + 1) = (m : Int) := by
  rw [Int.tmod_eq_emod_of_nonneg (Int.natCast_nonneg _)]; exact cut_emod a b m h
set_option maxRecDepth 1000000 in
set_option maxHeartbeats 8000000 in
theorem cuts_true (s1 s2 s3 : ByteArray) (cnt cut : Nat) (w : World) (hD : Digits w) (_h1 : s1.size ≤ maxLen) (_h2 : s2.size ≤ maxLen) (_h3 : s3.size ≤ maxLen) (_hcnt : cnt ≤ 4294967295) (_hcut : cut ≤ 65535) :
    Calls Tryd.prog 6 #[.string s1, .string s2, .int .u32 (cnt : Int), .string s3, .int .u16 (cut : Int)] w fun e w' => e = .returned (.bool true) ∧ Below w.heap.size w w' := by
  have K0 := Wk.start hD
  unfold maxLen at _h1 _h2 _h3
  obtain ⟨m1, z1, hz1, hl1, i1, j1⟩ := cut_m s1 32 32 rfl
  obtain ⟨m2, z2, hz2, hl2, i2, j2⟩ := cut_m s2 12 12 rfl
  obtain ⟨m3, z3, hz3, hl3, i3, j3⟩ := cut_m s3 300 300 rfl
  obtain ⟨k, hk⟩ : ∃ k, sizL z1 32 = k := ⟨_, rfl⟩
  obtain ⟨n, hn⟩ : ∃ k, sizL z2 12 = k := ⟨_, rfl⟩
  have hkl : k.length = 32 := by rw [← hk, sizL_length]
  have hnl : n.length = 12 := by rw [← hn, sizL_length]
  obtain ⟨c, hc⟩ : ∃ c, cnt % 4294967288 = c := ⟨_, rfl⟩
  have hcb : (c : Int) ≤ 4294967287 := by omega
  have hcm : ((cnt : Int) % 4294967288) = (c : Int) := by omega
  have q1 : ∀ w, Calls Tryd.prog 13 #[.string (s1.extract 0 m1), .int .i64 32] w fun e w' => e = .returned (.string (bs k)) ∧ Below w.heap.size w w' := fun w => by
    rw [← hk, hz1]; exact sized_any z1 32 w (by decide) (by omega)
  have q2 : ∀ w, Calls Tryd.prog 13 #[.string (s2.extract 0 m2), .int .i64 12] w fun e w' => e = .returned (.string (bs n)) ∧ Below w.heap.size w w' := fun w => by
    rw [← hn, hz2]; exact sized_any z2 12 w (by decide) (by omega)
  obtain ⟨a, ha⟩ : ∃ a, appO k n c z3 = a := ⟨_, rfl⟩
  have hal : a.length = z3.length := by rw [← ha, appO_length]
  have q3 : ∀ w, Calls Tryd.prog 14 #[.string (bs k), .string (bs n), .int .i64 (c : Int), .string (bs z3)] w fun e w' => e = .returned (.tuple #[.string (bs a), .int .i64 0]) ∧ Below w.heap.size w w' := fun w => by
    rw [← ha]; exact apply_ok k n c z3 w hkl hnl (by omega) (by omega) (by omega)
  obtain ⟨L, hL⟩ : ∃ L, z3.length = L := ⟨_, rfl⟩
  have hL3 : L ≤ 300 := by omega
  obtain ⟨m, hm⟩ : ∃ m, cut % (L + 1) = m := ⟨_, rfl⟩
  have hmL : m ≤ L := by have := Nat.mod_lt cut (show 0 < L + 1 by omega); omega
  have hmi : (cut : Int) % ((L : Int) + 1) = (m : Int) := cut_emod cut L m hm
  obtain ⟨v, hv⟩ : ∃ v, m / 64 = v := ⟨_, rfl⟩
  have hvi : (m : Int) / 64 = (v : Int) := by omega
  have hv64 : 64 * v ≤ L := by omega
  have hv4 : v ≤ 4 := by omega
  have q4 : ∀ w, Calls Tryd.prog 14 #[.string (bs k), .string (bs n), .int .i64 (c : Int), .string (bs (z3.take m))] w fun e w' => e = .returned (.tuple #[.string (bs (a.take m)), .int .i64 0]) ∧ Below w.heap.size w w' := fun w => by
    have h := apply_ok k n c (z3.take m) w hkl hnl (by omega) (by rw [List.length_take]; omega) (by rw [List.length_take]; omega)
    rw [appO_take _ _ _ _ _ (by omega), ha] at h
    exact h
  have q5 : ∀ w, Calls Tryd.prog 14 #[.string (bs k), .string (bs n), .int .i64 ((c : Int) + (v : Int)), .string (bs (z3.drop (64 * v)))] w fun e w' => e = .returned (.tuple #[.string (bs (a.drop (64 * v))), .int .i64 0]) ∧ Below w.heap.size w w' := fun w => by
    have h := apply_ok k n (c + v) (z3.drop (64 * v)) w hkl hnl (by omega) (by rw [List.length_drop]; omega) (by rw [List.length_drop]; omega)
    rw [appO_drop, ha, Int.natCast_add] at h
    exact h
  obtain ⟨ze, hze⟩ : ∃ ze, appO k n c (List.replicate L 0) = ze := ⟨_, rfl⟩
  have q6 : ∀ w, Calls Tryd.prog 18 #[.string ⟨#[0]⟩, .int .i64 (L : Int)] w fun e w' => e = .returned (.string (rp 0 L)) ∧ Below w.heap.size w w' := fun w => repeat_any 0 L w (by omega)
  have q7 : ∀ w, Calls Tryd.prog 14 #[.string (bs k), .string (bs n), .int .i64 (c : Int), .string (rp 0 L)] w fun e w' => e = .returned (.tuple #[.string (bs ze), .int .i64 0]) ∧ Below w.heap.size w w' := fun w => by
    rw [← hze]; exact apply_ok k n c (List.replicate L 0) w hkl hnl (by omega) (by rw [List.length_replicate]; omega) (by rw [List.length_replicate]; omega)
  have hzel : ze.length = L := by rw [← hze, appO_length, List.length_replicate]
  have g1 : ∀ i (h : i < (bs z3).size), (bs z3)[i] = z3.getD i 0 := fun i h => bs_idx z3 i h
  have g2 : ∀ i (h : i < (bs a).size), (bs a)[i] = z3.getD i 0 ^^^ strB k n c i := fun i h => by
    rw [bs_idx, ← ha, appO_get]; rw [bs_size, hal] at h; exact h
  have g3 : ∀ i (h : i < (bs ze).size), (bs ze)[i] = strB k n c i := fun i h => by
    rw [bs_idx, ← hze, appO_zeros]; rw [bs_size, hzel] at h; exact h
  have hs1 : (bs z3).size = L := by rw [bs_size, hL]
  have hs2 : (bs a).size = L := by rw [bs_size, hal, hL]
  have hs3 : (bs ze).size = L := by rw [bs_size, hzel]
  have e3 : s3.extract 0 m3 = bs z3 := hz3
  have sl : ∀ (l : List UInt8) (wx : World), l.length = L → (Instr.slice 9 (.string (bs l)) none (some (.int .i64 (m : Int))) none).run Tryd.prog wx = .ok (.string (bs (l.take m))) wx := fun l wx hl => by
    have := run_slice_string_h (P := Tryd.prog) (w := wx) (t := 9) (s := bs l) Tryd.underlying9 .i64 (m : Int) (by omega) (by rw [bs_size, hl]; omega)
    rw [this, ext_bs, List.drop_zero]; rfl
  have sd : ∀ (l : List UInt8) (wx : World), l.length = L → (Instr.slice 9 (.string (bs l)) (some (.int .i64 (64 * (v : Int)))) none none).run Tryd.prog wx = .ok (.string (bs (l.drop (64 * v)))) wx := fun l wx hl => by
    have := run_slice_string_l (P := Tryd.prog) (w := wx) 9 (s := bs l) Tryd.underlying9 .i64 (64 * (v : Int)) (by omega) (by rw [bs_size, hl]; omega)
    rw [this, ext_bs, show (64 * (v : Int)).toNat = 64 * v by omega, bs_size, bs_data, List.take_of_length_le (by rw [List.length_drop]; exact Nat.le_refl _)]
  have sl1 := fun wx => sl z3 wx hL
  have sl2 := fun wx => sl a wx (by omega)
  have sd1 := fun wx => sd z3 wx hL
  have sd2 := fun wx => sd a wx (by omega)
  obtain ⟨T1, hT1⟩ : ∃ T, bs (z3.take m) = T := ⟨_, rfl⟩
  obtain ⟨A1, hA1⟩ : ∃ T, bs (a.take m) = T := ⟨_, rfl⟩
  obtain ⟨T2, hT2⟩ : ∃ T, bs (z3.drop (64 * v)) = T := ⟨_, rfl⟩
  obtain ⟨A2, hA2⟩ : ∃ T, bs (a.drop (64 * v)) = T := ⟨_, rfl⟩
  obtain ⟨T, hT⟩ : ∃ T, bs z3 = T := ⟨_, rfl⟩
  obtain ⟨A, hA⟩ : ∃ T, bs a = T := ⟨_, rfl⟩
  obtain ⟨E, hE⟩ : ∃ T, bs ze = T := ⟨_, rfl⟩
  obtain ⟨KK, hKK⟩ : ∃ T, bs k = T := ⟨_, rfl⟩
  obtain ⟨NN, hNN⟩ : ∃ T, bs n = T := ⟨_, rfl⟩
  rw [hKK] at q1
  rw [hNN] at q2
  rw [hT] at e3 g1 hs1 sl1 sd1
  rw [hA] at g2 hs2 sl2 sd2
  rw [hE] at g3 hs3
  rw [hT1] at sl1
  rw [hA1] at sl2
  rw [hT2] at sd1
  rw [hA2] at sd2
  rw [hKK, hNN, hT, hA] at q3
  rw [hKK, hNN, hT1, hA1] at q4
  rw [hKK, hNN, hT2, hA2] at q5
  rw [hKK, hNN, hE] at q7
  obtain ⟨R, hR⟩ : ∃ R, rp 0 L = R := ⟨_, rfl⟩
  rw [hR] at q6 q7
  obtain ⟨F, hF⟩ : ∃ F : Nat → UInt8, F = strB k n c := ⟨_, rfl⟩
  obtain ⟨Z, hZ⟩ : ∃ Z : Nat → UInt8, Z = fun i => z3.getD i 0 := ⟨_, rfl⟩
  have g1' : ∀ i (h : i < T.size), T[i] = Z i := fun i h => by rw [g1 i h, hZ]
  have g2' : ∀ i (h : i < A.size), A[i] = Z i ^^^ F i := fun i h => by rw [g2 i h, hZ, hF]
  have g3' : ∀ i (h : i < E.size), E[i] = F i := fun i h => by rw [g3 i h, hF]
  have Q1 := Lib.hid q1
  have Q2 := Lib.hid q2
  have Q3 := Lib.hid q3
  have Q4 := Lib.hid q4
  have Q5 := Lib.hid q5
  have Q6 := Lib.hid q6
  have Q7 := Lib.hid q7
  have G1 := Lib.hid g1'
  have G2 := Lib.hid g2'
  have G3 := Lib.hid g3'
  have E3 := Lib.hid e3
  have w4 : wrap64 (cut : Int) = (cut : Int) := IntWalk.wrap64_in _ (by omega)
  have w5 : (cut : Int).tmod ((L : Int) + 1) = (m : Int) := cut_tmod cut L m hm
  have w6 : (m : Int) ≤ (L : Int) := by omega
  have w7 : 64 * (v : Int) ≤ (L : Int) := by omega
  have w1 : IntKind.i64.wrap (64 * (v : Int)) = 64 * (v : Int) := IntWalk.i64_in _ (by omega)
  have w2 : IntKind.i64.wrap ((c : Int) + (v : Int)) = (c : Int) + (v : Int) := IntWalk.i64_in _ (by omega)
  clear sl sd hR hF hZ hT hA hE hT1 hA1 hT2 hA2 hKK hNN q1 q2 q3 q4 q5 q6 q7 g1 g2 g3 g1' g2' g3' hal ha hzel hze hkl hnl hk hn hz1 hz2 hz3 hl1 hl2 hl3 hc hL hD e3 _hcnt _hcut hm hv
  go_enter Tryd.func6, Tryd.ntmps6
  go_wp2_with fail
  refine (works_true _ K0.d).mono ?_
  rintro e W1 ⟨rfl, hb⟩
  have K1 := K0.step hb
  clear hb K0
  go_upto_region 3 with fail
  go_cut [0, 1, 3] (fun a0 a1 a3 wx => a0 = .string KK ∧ a1 = .string NN ∧ a3 = .string T ∧ Wk w wx [])
  case first =>
    have e3 := E3.out
    clear sl1 sl2 sd1 sd2 w1 w2 hmi hvi w4 w5 w6 w7
    go_region_held3 (fun _ => True)
      (first | trivial)
      (first
      | (go_at_call 13; (first | (with_reducible refine (Q1.out _).mono ?_) | (with_reducible refine (Q2.out _).mono ?_)); rintro e V ⟨rfl, hb⟩; (repeat (with_reducible replace hb := bel_of_drew hb)); with_reducible replace K1 := Wk.step (by assumption) hb; clear hb))
    all_goals go_wp2_with fail
    all_goals go_meet
    all_goals exact ⟨rfl, rfl, rfl, by assumption⟩
  case rest =>
    obtain ⟨rfl, rfl, rfl, K2⟩ := hcut
    clear K1
    go_wp2_with (go_at_call 14; (with_reducible refine (Q3.out _).mono ?_); rintro e V ⟨rfl, hb⟩; with_reducible replace K2 := Wk.step K2 hb; clear hb)
    go_region_held3 (fun _ => True)
      (first | trivial)
      (first
      | (go_at_call 17; (with_reducible refine (same_any _ _).mono ?_); rintro e X ⟨rfl, rfl⟩)
      | (go_at_call 14; (with_reducible refine (Q4.out _).mono ?_); rintro e V ⟨rfl, hb⟩; (repeat (with_reducible replace hb := bel_of_drew hb)); with_reducible obtain ⟨K3, hp, hz⟩ := Wk.cell1 (by assumption) hb; clear hb)
      | (go_at_call 29; (with_reducible refine (same1_yes _ _ _ (by assumption)).mono ?_); rintro e V ⟨rfl, rfl⟩))
    go_wp2_with fail
    go_region_held3 (fun _ => True)
      (first | trivial)
      (first
      | (go_at_call 17; (with_reducible refine (same_any _ _).mono ?_); rintro e X ⟨rfl, rfl⟩)
      | (go_at_call 14; (with_reducible refine (Q5.out _).mono ?_); rintro e V ⟨rfl, hb⟩; (repeat (with_reducible replace hb := bel_of_drew hb)); with_reducible obtain ⟨K4, hp4, hz4⟩ := Wk.cell1 (by assumption) hb; clear hb)
      | (go_at_call 29; (with_reducible refine (same1_yes _ _ _ (by assumption)).mono ?_); rintro e V ⟨rfl, rfl⟩))
    clear sl1 sl2 sd1 sd2 w4 w5 w6 w7 w1 w2
    have K5 := K4
    clear K4
    go_wp2_with (first
      | (go_at_call 18; go_loud ((with_reducible refine (Q6.out _).mono ?_); rintro e V ⟨rfl, hb⟩; (repeat (with_reducible replace hb := bel_of_drew hb)); with_reducible replace K5 := Wk.step K5 hb; clear hb))
      | (go_at_call 14; go_loud ((with_reducible refine (Q7.out _).mono ?_); rintro e V ⟨rfl, hb⟩; (repeat (with_reducible replace hb := bel_of_drew hb)); with_reducible replace K5 := Wk.step K5 hb; clear hb)))
    have HK5 := Lib.hid K5
    clear K5
    go_loopw [123] (fun i wr => ∃ j : Nat, j ≤ L ∧ i = .int .i64 j ∧ Hid (Wk w wr [])) (fun i _ => L - (intOf i).toNat)
    case atStart => exact ⟨0, by omega, rfl, HK5⟩
    case round =>
      clear HK5
      obtain ⟨j, hj, rfl, HK⟩ := hrel
      by_cases hlt : j < L
      · have hjT : j < T.size := by omega
        have hjA : j < A.size := by omega
        have hjE : j < E.size := by omega
        have t1 := G1.out j hjT
        have t2 := G2.out j hjA
        have t3 := G3.out j hjE
        have hx : bits .xor .u8 (E[j].toNat : Int) (T[j].toNat : Int) = (A[j].toNat : Int) := by
          rw [u8_xor, t1, t2, t3, UInt8.xor_comm]
        have jl : (j : Int) < (L : Int) := by omega
        have j0 : (0 : Int) ≤ (j : Int) := by omega
        clear t1 t2 t3
        go_wp2
        go_quiet (fail)
        go_wp2
        go_roundw
        case rel => exact ⟨j + 1, by omega, by go_num, Lib.hid (HK.out.drewN nq)⟩
        case measure => simp [intOf]; omega
      · obtain rfl : j = L := by omega
        go_wp2
        go_ret
        exact ⟨rfl, HK.out.b⟩
end Go.Proofs.YtnbcajbpdhnkaaaDoor
