/- The walk of StreamUndoes. -/
import Derived.Test.YtnbcajbpdhnkaaaDoorSZ
import Derived.Deep.QuietTactic
import Derived.BigQuiet
import Derived.Deep.RegionHeld3
import Derived.Deep.Cut
namespace Go.Proofs.YtnbcajbpdhnkaaaDoor
open Go.RowKit Go.ChangeShapes

/-- The first n octets, at most. -/
theorem cut_m (s : ByteArray) (n : Nat) (y : Int) (hy : y = (n : Int)) : ∃ (m : Nat) (z : List UInt8), s.extract 0 m = bs z ∧ z.length ≤ n ∧ min (s.size : Int) y = (m : Int) ∧ (m : Int) ≤ (s.size : Int) := by
  subst hy
  refine ⟨min s.size n, (s.extract 0 (min s.size n)).data.toList, rfl, ?_, ?_, by omega⟩
  · have : (s.extract 0 (min s.size n)).size ≤ n := by rw [ByteArray.size_extract]; omega
    exact this
  · omega
theorem appO_get (k n : List UInt8) (c : Nat) (s : List UInt8) (i : Nat) (h : i < s.length) : (appO k n c s).getD i 0 = s.getD i 0 ^^^ strB k n c i := by simp [appO, appN, List.getD_eq_getElem?_getD, h]
theorem appO_back (k n : List UInt8) (c : Nat) (s : List UInt8) : appO k n c (appO k n c s) = s := by
  apply list_ext_getD
  · rw [appO_length, appO_length]
  · intro i hi
    rw [appO_length, appO_length] at hi
    rw [appO_get _ _ _ _ _ (by rw [appO_length]; exact hi), appO_get _ _ _ _ _ hi, UInt8.xor_assoc, UInt8.xor_self, UInt8.xor_zero]
theorem bs_idx (l : List UInt8) (i : Nat) (h : i < (bs l).size) : (bs l)[i] = l.getD i 0 := by
  rw [List.getD_eq_getElem?_getD, List.getElem?_eq_getElem (by rw [bs_size] at h; exact h)]; rfl
theorem Wk.drewN {w W : World} {ps : List (Nat × Obj)} (h : Wk w W ps) : ∀ n, Wk w (W.drewN n) ps
  | 0 => h
  | n + 1 => (h.drewN n).drew
set_option maxRecDepth 1000000 in
set_option maxHeartbeats 8000000 in
theorem undoes_true (s1 s2 s3 : ByteArray) (cnt : Nat) (w : World) (hD : Digits w) (_h1 : s1.size ≤ maxLen) (_h2 : s2.size ≤ maxLen) (_h3 : s3.size ≤ maxLen) (_hcnt : cnt ≤ 4294967295) :
    Calls Tryd.prog 5 #[.string s1, .string s2, .int .u32 (cnt : Int), .string s3] w fun e w' => e = .returned (.bool true) ∧ Below w.heap.size w w' := by
  have K0 := Wk.start hD
  unfold maxLen at _h1 _h2 _h3
  obtain ⟨m1, z1, hz1, hl1, i1, j1⟩ := cut_m s1 32 32 rfl
  obtain ⟨m2, z2, hz2, hl2, i2, j2⟩ := cut_m s2 12 12 rfl
  obtain ⟨m3, z3, hz3, hl3, i3, j3⟩ := cut_m s3 300 300 rfl
  obtain ⟨k, hk⟩ : ∃ k, sizL z1 32 = k := ⟨_, rfl⟩
  obtain ⟨n, hn⟩ : ∃ k, sizL z2 12 = k := ⟨_, rfl⟩
  have hkl : k.length = 32 := by rw [← hk, sizL_length]
  have hnl : n.length = 12 := by rw [← hn, sizL_length]
  obtain ⟨c, hc⟩ : ∃ c, cnt % 4294967288 = c := ⟨_, rfl⟩
  have hcb : (c : Int) ≤ 4294967287 := by omega
  have hcm : ((cnt : Int) % 4294967288) = (c : Int) := by omega
  have q1 : ∀ w, Calls Tryd.prog 13 #[.string (s1.extract 0 m1), .int .i64 32] w fun e w' => e = .returned (.string (bs k)) ∧ Below w.heap.size w w' := fun w => by
    rw [← hk, hz1]; exact sized_any z1 32 w (by decide) (by omega)
  have q2 : ∀ w, Calls Tryd.prog 13 #[.string (s2.extract 0 m2), .int .i64 12] w fun e w' => e = .returned (.string (bs n)) ∧ Below w.heap.size w w' := fun w => by
    rw [← hn, hz2]; exact sized_any z2 12 w (by decide) (by omega)
  obtain ⟨a, ha⟩ : ∃ a, appO k n c z3 = a := ⟨_, rfl⟩
  have hal : a.length = z3.length := by rw [← ha, appO_length]
  have q3 : ∀ w, Calls Tryd.prog 14 #[.string (bs k), .string (bs n), .int .i64 (c : Int), .string (bs z3)] w fun e w' => e = .returned (.tuple #[.string (bs a), .int .i64 0]) ∧ Below w.heap.size w w' := fun w => by
    rw [← ha]; exact apply_ok k n c z3 w hkl hnl (by omega) (by omega) (by omega)
  have q4 : ∀ w, Calls Tryd.prog 14 #[.string (bs k), .string (bs n), .int .i64 (c : Int), .string (bs a)] w fun e w' => e = .returned (.tuple #[.string (bs z3), .int .i64 0]) ∧ Below w.heap.size w w' := fun w => by
    have h := apply_ok k n c a w hkl hnl (by omega) (by omega) (by omega)
    rw [← ha, appO_back, ha] at h
    exact h
  have q5 : ∀ (i : Nat) (w : World), i < 300 → ∃ b : ByteArray, b.size = 64 ∧ (∀ (hx : i % 64 < b.size), b[i % 64] = strB k n c i) ∧ Calls Tryd.prog 10 #[.string (bs k), .string (bs n), .int .i64 ((c : Int) + ((i / 64 : Nat) : Int))] w fun e w' => e = .returned (.tuple #[.string b, .int .i64 0]) ∧ Below w.heap.size w w' := fun i w hi =>
    ⟨bs (blockO k n (c + i / 64)), by rw [bs_size, blockO_length], fun hx => by rw [bs_idx]; rfl, by have h := block_ok k n (c + i / 64) w hkl hnl (by omega); rw [Int.natCast_add] at h; exact h⟩
  obtain ⟨L, hL⟩ : ∃ L, z3.length = L := ⟨_, rfl⟩
  have hL3 : L ≤ 300 := by omega
  have g1 : ∀ i (h : i < (bs z3).size), (bs z3)[i] = z3.getD i 0 := fun i h => bs_idx z3 i h
  have g2 : ∀ i (h : i < (bs a).size), (bs a)[i] = z3.getD i 0 ^^^ strB k n c i := fun i h => by
    rw [bs_idx, ← ha, appO_get]; rw [bs_size, hal] at h; exact h
  have hs1 : (bs z3).size = L := by rw [bs_size, hL]
  have hs2 : (bs a).size = L := by rw [bs_size, hal, hL]
  have e3 : s3.extract 0 m3 = bs z3 := hz3
  obtain ⟨T, hT⟩ : ∃ T, bs z3 = T := ⟨_, rfl⟩
  obtain ⟨A, hA⟩ : ∃ T, bs a = T := ⟨_, rfl⟩
  obtain ⟨KK, hKK⟩ : ∃ T, bs k = T := ⟨_, rfl⟩
  obtain ⟨NN, hNN⟩ : ∃ T, bs n = T := ⟨_, rfl⟩
  rw [hKK] at q1
  rw [hNN] at q2
  rw [hT] at e3 g1 hs1
  rw [hA] at g2 hs2
  rw [hKK, hNN, hT, hA] at q3 q4
  rw [hKK, hNN] at q5
  obtain ⟨F, hF⟩ : ∃ F : Nat → UInt8, F = strB k n c := ⟨_, rfl⟩
  obtain ⟨Z, hZ⟩ : ∃ Z : Nat → UInt8, Z = fun i => z3.getD i 0 := ⟨_, rfl⟩
  have g1' : ∀ i (h : i < T.size), T[i] = Z i := fun i h => by rw [g1 i h, hZ]
  have g2' : ∀ i (h : i < A.size), A[i] = Z i ^^^ F i := fun i h => by rw [g2 i h, hZ, hF]
  have q5' : ∀ (i : Nat) (w : World), i < 300 → ∃ b : ByteArray, b.size = 64 ∧ (∀ (hx : i % 64 < b.size), b[i % 64] = F i) ∧ Calls Tryd.prog 10 #[.string KK, .string NN, .int .i64 ((c : Int) + ((i / 64 : Nat) : Int))] w fun e w' => e = .returned (.tuple #[.string b, .int .i64 0]) ∧ Below w.heap.size w w' := by rw [hF]; exact q5
  have Q1 := Lib.hid q1
  have Q2 := Lib.hid q2
  have Q3 := Lib.hid q3
  have Q4 := Lib.hid q4
  have Q5 := Lib.hid q5'
  have G1 := Lib.hid g1'
  have G2 := Lib.hid g2'
  have E3 := Lib.hid e3
  clear hF hZ hT hA hKK hNN q1 q2 q3 q4 q5 q5' g1 g2 g1' g2' hal ha hkl hnl hk hn hz1 hz2 hz3 hl1 hl2 hl3 hc hL hD e3 _hcnt
  go_enter Tryd.func5, Tryd.ntmps5
  go_wp2_with fail
  refine (works_true _ K0.d).mono ?_
  rintro e W1 ⟨rfl, hb⟩
  have K1 := K0.step hb
  clear hb K0
  go_upto_region 3 with fail
  go_cut [0, 1, 3] (fun a0 a1 a3 wx => a0 = .string KK ∧ a1 = .string NN ∧ a3 = .string T ∧ Wk w wx [])
  case first =>
    have e3 := E3.out
    go_region_held3 (fun _ => True)
      (first | trivial)
      (first
      | (go_at_call 13; (first | (with_reducible refine (Q1.out _).mono ?_) | (with_reducible refine (Q2.out _).mono ?_)); rintro e V ⟨rfl, hb⟩; (repeat (with_reducible replace hb := bel_of_drew hb)); with_reducible replace K1 := Wk.step (by assumption) hb; clear hb))
    all_goals go_wp2_with fail
    all_goals go_meet
    all_goals exact ⟨rfl, rfl, rfl, by assumption⟩
  case rest =>
    obtain ⟨rfl, rfl, rfl, K2⟩ := hcut
    clear K1
    go_wp2_with (first
      | (go_at_call 14; (first
          | ((with_reducible refine (Q3.out _).mono ?_); rintro e V ⟨rfl, hb⟩; with_reducible replace K2 := Wk.step K2 hb; clear hb)
          | ((with_reducible refine (Q4.out _).mono ?_); rintro e V ⟨rfl, hb⟩; obtain ⟨K3, hp, hz⟩ := Wk.cell1 K2 hb; clear hb K2)))
      | (go_at_call 17; (with_reducible refine (same_any _ _).mono ?_); rintro e X ⟨rfl, rfl⟩)
      | (go_at_call 29; (with_reducible refine (same1_yes _ _ _ hp).mono ?_); rintro e V ⟨rfl, rfl⟩))
    clear hp hz
    have HK3 := Lib.hid K3
    have HS1 := Lib.hid hs1
    have HS2 := Lib.hid hs2
    clear K3
    go_loopw [69] (fun i wr => ∃ j : Nat, j ≤ L ∧ i = .int .i64 j ∧ Hid (Wk w wr [])) (fun i _ => L - (intOf i).toNat)
    case atStart => exact ⟨0, by omega, rfl, HK3⟩
    case round =>
      clear HK3
      obtain ⟨j, hj, rfl, HK⟩ := hrel
      by_cases hlt : j < L
      · obtain ⟨b, hb64, hbi, hq⟩ := Q5.out j wr (by omega)
        obtain ⟨q, hqq⟩ : ∃ q, j / 64 = q := ⟨_, rfl⟩
        obtain ⟨m, hm⟩ : ∃ m, j % 64 = m := ⟨_, rfl⟩
        have q1 : (j : Int) / 64 = (q : Int) := by omega
        have m1' : (j : Int) % 64 = (m : Int) := by omega
        rw [hqq] at hq
        rw [hm] at hbi
        have hm64 : m < 64 := by omega
        have m2' : (j : Int).tmod 64 = (m : Int) := by rw [Int.tmod_eq_emod_of_nonneg (by omega)]; omega
        have jl : (j : Int) < (L : Int) := by omega
        have ml : (m : Int) < 64 := by omega
        have j0 : (0 : Int) ≤ (j : Int) := by omega
        have hbs : (b.size : Int) = 64 := by omega
        have hbm : m < b.size := by omega
        have hbi2 : b[m]'hbm = F j := hbi hbm
        have hjT : j < T.size := by omega
        have hjA : j < A.size := by omega
        have t1 := G1.out j hjT
        have t2 := G2.out j hjA
        have hx : bits .xor .u8 (T[j].toNat : Int) (A[j].toNat : Int) = ((F j).toNat : Int) := by
          rw [u8_xor, t1, t2, ← UInt8.xor_assoc, UInt8.xor_self, UInt8.zero_xor]
        have hn2 : (((F j).toNat : Int) != ((b[m]'hbm).toNat : Int)) = false := by rw [hbi2]; simp
        have HQ := Lib.hid hq
        have hqb : (c : Int) + (q : Int) ≤ 4294967295 := by omega
        clear hq hbi hbi2 t1 t2 hqq hm
        by_cases hsk : ((m : Int) != 0) = true ∧ ((j : Int) + 1 != (L : Int)) = true
        · obtain ⟨k1, k2⟩ := hsk
          go_wp2
          go_roundw
          case rel => exact ⟨j + 1, by omega, by go_num, HK⟩
          case measure => simp [intOf]; omega
        · by_cases k1 : ((m : Int) != 0) = true
          · have k2 : ((j : Int) + 1 != (L : Int)) = false := by
              cases h : ((j : Int) + 1 != (L : Int))
              · rfl
              · exact absurd ⟨k1, h⟩ hsk
            clear hsk
            go_wp2_with (go_at_call 10; (with_reducible refine (HQ.out).mono ?_); rintro e V ⟨rfl, hb⟩; have HK4 := Lib.hid (Wk.step HK.out hb); clear hb)
            go_quiet (fail)
            go_wp2
            go_roundw
            case rel => exact ⟨j + 1, by omega, by go_num, Lib.hid (HK4.out.drewN nq)⟩
            case measure => simp [intOf]; omega
          · have k1' : ((m : Int) != 0) = false := by simpa using k1
            clear hsk k1
            go_wp2_with (go_at_call 10; (with_reducible refine (HQ.out).mono ?_); rintro e V ⟨rfl, hb⟩; have HK4 := Lib.hid (Wk.step HK.out hb); clear hb)
            go_quiet (fail)
            go_wp2
            go_roundw
            case rel => exact ⟨j + 1, by omega, by go_num, Lib.hid (HK4.out.drewN nq)⟩
            case measure => simp [intOf]; omega
      · obtain rfl : j = L := by omega
        go_wp2
        go_ret
        exact ⟨rfl, HK.out.b⟩
end Go.Proofs.YtnbcajbpdhnkaaaDoor
