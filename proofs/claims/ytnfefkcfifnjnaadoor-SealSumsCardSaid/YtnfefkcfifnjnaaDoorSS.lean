/- The walk of SealSums. -/
import Derived.Test.YtnfefkcfifnjnaaDoorSX
import Derived.Test.YtnfefkcfifnjnaaDoorWB
import Derived.Deep.QuietTactic
import Derived.BigQuiet
namespace Go.Proofs.YtnfefkcfifnjnaaDoor
open Go.RowKit Go.ChangeShapes
set_option maxRecDepth 1000000 in
set_option maxHeartbeats 8000000 in
theorem sums_true (s1 s2 : ByteArray) (w : World) (hD : Digits w) (_h1 : s1.size ≤ maxLen) (_h2 : s2.size ≤ maxLen) :
    Calls Tryd.prog 7 #[.string s1, .string s2] w fun e w' => e = .returned (.bool true) ∧ Below w.heap.size w w' := by
  have K0 := Wk.start hD
  unfold maxLen at _h1 _h2
  obtain ⟨m1, z1, hz1, hl1, i1, j1⟩ := cut_m s1 32 32 rfl
  obtain ⟨m2, z2, hz2, hl2, i2, j2⟩ := cut_m s2 200 200 rfl
  obtain ⟨k, hk⟩ : ∃ k, sizL z1 32 = k := ⟨_, rfl⟩
  have hkl : k.length = 32 := by rw [← hk, sizL_length]
  have q1 : ∀ w, Calls Tryd.prog 14 #[.string (s1.extract 0 m1), .int .i64 32] w fun e w' => e = .returned (.string (bs k)) ∧ Below w.heap.size w w' := fun w => by
    rw [← hk, hz1]; exact sized_any z1 32 w (by decide) (by omega)
  obtain ⟨t, ht⟩ : ∃ t, tagO k z2 = t := ⟨_, rfl⟩
  obtain ⟨u, hu⟩ : ∃ t, tagO (k.take 16 ++ List.replicate 16 0) z2 = t := ⟨_, rfl⟩
  have htl : t.length = 16 := by rw [← ht, tagO_length]
  have hul : u.length = 16 := by rw [← hu, tagO_length]
  have q2 : ∀ w, Calls Tryd.prog 16 #[.string (bs k), .string (bs z2)] w fun e w' => e = .returned (.tuple #[.string (bs t), .int .i64 0]) ∧ Below w.heap.size w w' := fun w => by
    rw [← ht]; exact tag_ok k z2 w hkl (by omega)
  have q3 : ∀ w, Calls Tryd.prog 16 #[.string ((bs k).extract 0 16 ++ rp 0 16), .string (bs z2)] w fun e w' => e = .returned (.tuple #[.string (bs u), .int .i64 0]) ∧ Below w.heap.size w w' := fun w => by
    have h := tag_ok (k.take 16 ++ List.replicate 16 0) z2 w (by rw [List.length_append, List.length_take, List.length_replicate]; omega) (by omega)
    rw [hu, bs_append] at h
    rw [ext_bs, bs_data, List.drop_zero]
    exact h
  have q4 : ∀ w, Calls Tryd.prog 16 #[.string (bs k), .string ⟨#[]⟩] w fun e w' => e = .returned (.tuple #[.string ((bs k).extract 16 32), .int .i64 0]) ∧ Below w.heap.size w w' := fun w => by
    have h := tag_ok k [] w hkl (by decide)
    rw [tag_none k hkl] at h
    rw [ext_bs, bs_data, List.take_of_length_le (by rw [List.length_drop]; omega)]
    exact h
  have q5 : ∀ w, Calls Tryd.prog 16 #[.string (rp 0 16 ++ (bs k).extract 16 32), .string (bs z2)] w fun e w' => e = .returned (.tuple #[.string ((bs k).extract 16 32), .int .i64 0]) ∧ Below w.heap.size w w' := fun w => by
    have h := tag_ok (List.replicate 16 0 ++ k.drop 16) z2 w (by rw [List.length_append, List.length_drop, List.length_replicate]; omega) (by omega)
    rw [tag_zero _ _ (by rw [List.length_drop]; omega), bs_append] at h
    rw [ext_bs, bs_data, List.take_of_length_le (by rw [List.length_drop]; omega)]
    exact h
  obtain ⟨A, hA⟩ : ∃ A, accN (facN k) z2 ((z2.length + 15) / 16) = A := ⟨_, rfl⟩
  obtain ⟨q, hq⟩ : ∃ q, num (k.drop 16) = q := ⟨_, rfl⟩
  have gt : ∀ i (h : i < (bs t).size), ((bs t)[i]).toNat = (A + q) / 256 ^ i % 256 := fun i h => by
    rw [bs_size, htl] at h
    rw [bs_idx, ← ht]
    unfold tagO
    rw [hA, hq, octV_get _ _ _ h, UInt8.toNat_ofNat_of_lt' (Nat.mod_lt _ (by decide))]
  have gu : ∀ i (h : i < (bs u).size), ((bs u)[i]).toNat = A / 256 ^ i % 256 := fun i h => by
    rw [bs_size, hul] at h
    rw [bs_idx, ← hu, tag_half k z2 hkl, hA, octV_get _ _ _ h, UInt8.toNat_ofNat_of_lt' (Nat.mod_lt _ (by decide))]
  have gk : ∀ i (h : 16 + i < (bs k).size), ((bs k)[16 + i]).toNat = q / 256 ^ i % 256 := fun i h => by
    rw [bs_idx, ← hq, ← num_get, List.getD_eq_getElem?_getD, List.getD_eq_getElem?_getD, List.getElem?_drop]
  have st : (bs t).size = 16 := by rw [bs_size, htl]
  have su : (bs u).size = 16 := by rw [bs_size, hul]
  have sk : (bs k).size = 32 := by rw [bs_size, hkl]
  have sz : (bs z2).size ≤ 200 := hl2
  have sx : ((bs k).extract 16 32).size = 16 := by rw [ByteArray.size_extract]; omega
  have sy : ((bs k).extract 0 16).size = 16 := by rw [ByteArray.size_extract]; omega
  have sr : (rp 0 16).size = 16 := rp_size _ _
  have e2 : s2.extract 0 m2 = bs z2 := hz2
  obtain ⟨T, hT⟩ : ∃ T, bs t = T := ⟨_, rfl⟩
  obtain ⟨U, hU⟩ : ∃ T, bs u = T := ⟨_, rfl⟩
  obtain ⟨KK, hKK⟩ : ∃ T, bs k = T := ⟨_, rfl⟩
  obtain ⟨ZZ, hZZ⟩ : ∃ T, bs z2 = T := ⟨_, rfl⟩
  rw [hKK] at q1 q2 q3 q4 q5 gk sk sx sy
  rw [hZZ] at q2 q3 q5 e2 sz
  rw [hT] at q2 gt st
  rw [hU] at q3 gu su
  obtain ⟨X, hX⟩ : ∃ X, KK.extract 16 32 = X := ⟨_, rfl⟩
  obtain ⟨Y, hY⟩ : ∃ X, KK.extract 0 16 = X := ⟨_, rfl⟩
  have hX' : KK.extract 16 32 = X := hX
  have hY' : KK.extract 0 16 = Y := hY
  rw [hX] at q4 q5 sx
  rw [hY] at q3 sy
  have Q1 := Lib.hid q1
  have Q2 := Lib.hid q2
  have Q3 := Lib.hid q3
  have Q4 := Lib.hid q4
  have Q5 := Lib.hid q5
  have GT := Lib.hid gt
  have GU := Lib.hid gu
  have GK := Lib.hid gk
  have E2 := Lib.hid e2
  clear q1 q2 q3 q4 q5 gt gu gk hT hU hKK hZZ hA hq ht hu hk hkl htl hul hz1 hz2 hl1 hl2 hX hY hD e2
  go_enter Tryd.func7, Tryd.ntmps7
  go_wp2_with fail
  refine (worksQ_true _ K0.d).mono ?_
  rintro e W1 ⟨rfl, hb⟩
  have K1 := K0.step hb
  clear hb K0
  go_upto_region 3 with fail
  go_cut [0, 1] (fun a0 a1 wx => a0 = .string KK ∧ a1 = .string ZZ ∧ Wk w wx [])
  case first =>
    have e2 := E2.out
    go_region_held3 (fun _ => True)
      (first | trivial)
      (first
      | (go_at_call 14; (with_reducible refine (Q1.out _).mono ?_); rintro e V ⟨rfl, hb⟩; (repeat (with_reducible replace hb := bel_of_drew hb)); have K2 := Wk.step K1 hb; clear hb))
    all_goals go_wp2_with fail
    all_goals go_meet
    all_goals exact ⟨rfl, rfl, K2⟩
  case rest =>
    obtain ⟨rfl, rfl, K2⟩ := hcut
    clear K1
    go_upto_region 5 with (first | (go_at_call 16; (with_reducible refine (Q2.out _).mono ?_); rintro e V ⟨rfl, hb⟩; have K3 := Wk.step K2 hb; clear hb))
    go_cut [0, 1, 5, 6, 7, 8] (fun a0 a1 a5 a6 a7 a8 wx => a0 = .string KK ∧ a1 = .string ZZ ∧ a5 = .string T ∧ a6 = .int .i64 0 ∧ a7 = .string U ∧ a8 = .int .i64 0 ∧ Wk w wx [])
    case first =>
      go_region_held3 (fun _ => True)
        (first | trivial)
        (first
        | (go_at_call 28; (with_reducible refine (zerosQ_any 16 16 _ rfl (by decide)).mono ?_); rintro e V ⟨rfl, hb⟩; (repeat (with_reducible replace hb := bel_of_drew hb)); have K4 := Wk.step K3 hb; clear hb)
        | (go_at_call 16; (with_reducible refine (Q3.out _).mono ?_); rintro e V ⟨rfl, hb⟩; (repeat (with_reducible replace hb := bel_of_drew hb)); have K5 := Wk.step K4 hb; clear hb))
      all_goals go_wp2_with fail
      all_goals go_meet
      all_goals exact ⟨rfl, rfl, rfl, rfl, rfl, rfl, K5⟩
    case rest =>
      obtain ⟨rfl, rfl, rfl, rfl, rfl, rfl, K6⟩ := hcut
      clear K2 K3
      go_upto_region 6 with fail
      go_cut [0, 5, 7, 80] (fun a0 a5 a7 a80 wx => a0 = .string KK ∧ a5 = .string T ∧ a7 = .string U ∧ a80 = .bool false ∧ Wk w wx [])
      case first =>
        go_region_held3 (fun _ => True)
          (first | trivial)
          (first
          | (go_at_call 24; (with_reducible refine (sameQ_any _ _).mono ?_); rintro e X ⟨rfl, rfl⟩)
          | (go_at_call 16; (first | ((with_reducible refine (Q4.out _).mono ?_); rintro e V ⟨rfl, hb⟩; (repeat (with_reducible replace hb := bel_of_drew hb)); obtain ⟨K7, hp7, hz7⟩ := Wk.cell1 K6 hb; clear hb) | ((with_reducible refine (Q5.out _).mono ?_); rintro e V ⟨rfl, hb⟩; (repeat (with_reducible replace hb := bel_of_drew hb)); obtain ⟨K9, hp9, hz9⟩ := Wk.keep1 K8 hp8 hz8 hb; clear hb)))
          | (go_at_call 28; (with_reducible refine (zerosQ_any 16 16 _ rfl (by decide)).mono ?_); rintro e V ⟨rfl, hb⟩; (repeat (with_reducible replace hb := bel_of_drew hb)); obtain ⟨K8, hp8, hz8⟩ := Wk.cell1 K7 hb; clear hb)
          | (go_at_call 52; (first | (with_reducible refine (sameQ1_yes _ _ _ hp7).mono ?_) | (with_reducible refine (sameQ1_yes _ _ _ hp9).mono ?_)); rintro e V ⟨rfl, rfl⟩))
        all_goals go_wp2_with fail
        all_goals go_meet
        all_goals exact ⟨rfl, rfl, rfl, rfl, K9⟩
      case rest =>
        obtain ⟨rfl, rfl, rfl, rfl, K10⟩ := hcut
        clear K6
        go_wp2_with fail
        have HK10 := Lib.hid K10
        clear K10
        go_loopw [9, 81] (fun c i wr => ∃ j : Nat, j ≤ 16 ∧ i = .int .i64 j ∧ c = .int .i64 ((cry A q j : Nat) : Int) ∧ Hid (Wk w wr [])) (fun _ i _ => 16 - (intOf i).toNat)
        case atStart => exact ⟨0, by omega, rfl, by simp [cry, Nat.mod_one], HK10⟩
        case round =>
          clear HK10
          obtain ⟨j, hj, rfl, rfl, HK⟩ := hrel
          by_cases hlt : j < 16
          · have t1 := GU.out j (by omega)
            have t2 := GK.out j (by omega)
            have t3 := GT.out j (by omega)
            obtain ⟨p1, p2⟩ := cry_step A q j
            have p3 := cry_le A q j
            obtain ⟨c, hc⟩ : ∃ c, cry A q j = c := ⟨_, rfl⟩
            obtain ⟨x, hx⟩ : ∃ c, A / 256 ^ j % 256 = c := ⟨_, rfl⟩
            obtain ⟨y, hy⟩ : ∃ c, q / 256 ^ j % 256 = c := ⟨_, rfl⟩
            obtain ⟨z, hz⟩ : ∃ c, (A + q) / 256 ^ j % 256 = c := ⟨_, rfl⟩
            obtain ⟨s, hs⟩ : ∃ s, c + (x + y) = s := ⟨_, rfl⟩
            have hx2 : x < 256 := by rw [← hx]; exact Nat.mod_lt _ (by decide)
            have hy2 : y < 256 := by rw [← hy]; exact Nat.mod_lt _ (by decide)
            rw [hx] at t1 p1 p2
            rw [hy] at t2 p1 p2
            rw [hz] at t3 p1
            rw [hc] at p1 p2 p3 ⊢
            rw [hs] at p1 p2
            have i16 : (j : Int) < 16 := by omega
            have i0 : (0 : Int) ≤ (j : Int) := by omega
            have i32 : (16 : Int) + (j : Int) < 32 := by omega
            have j0 : (0 : Int) ≤ 16 + (j : Int) := by omega
            have jn : ((16 : Int) + (j : Int)).toNat = 16 + j := by omega
            have u1 : ((U[j]'(by omega)).toNat : Int) = (x : Int) := by rw [t1]
            have u2 : ((KK[16 + j]'(by omega)).toNat : Int) = (y : Int) := by rw [t2]
            have u3 : ((T[j]'(by omega)).toNat : Int) = (z : Int) := by rw [t3]
            have a1 : IntKind.i64.wrap (x : Int) = (x : Int) := IntWalk.i64_in _ (by omega)
            have a2 : IntKind.i64.wrap (y : Int) = (y : Int) := IntWalk.i64_in _ (by omega)
            have a3 : IntKind.i64.wrap ((x : Int) + (y : Int)) = (x : Int) + (y : Int) := IntWalk.i64_in _ (by omega)
            have a4 : IntKind.i64.wrap ((c : Int) + ((x : Int) + (y : Int))) = (s : Int) := by rw [IntWalk.i64_in _ (by omega)]; omega
            have a5 : IntKind.u8.wrap (s : Int) = (z : Int) := by rw [IntKind.wrap_u8']; omega
            have a6 : (s : Int) / 256 = ((cry A q (j + 1) : Nat) : Int) := by rw [← p2]; simp
            have e16 : IntKind.i64.wrap ((16 : Int) + (j : Int)) = 16 + (j : Int) := IntWalk.i64_in _ (by omega)
            clear hc hx hy hz hs p1 p2 t1 t2 t3
            go_wp2
            go_quiet (fail)
            go_wp2
            go_roundw
            case rel => exact ⟨j + 1, by omega, by go_num, rfl, Lib.hid (HK.out.drewN nq)⟩
            case measure => simp [intOf]; omega
          · obtain rfl : j = 16 := by omega
            go_wp2
            go_ret
            exact ⟨rfl, HK.out.b⟩
end Go.Proofs.YtnfefkcfifnjnaaDoor
