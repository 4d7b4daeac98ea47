/- DigestKnown returns true. -/
import Derived.Test.YtfdeegafdaobdaaDoorKA
namespace Go.Proofs.YtfdeegafdaobdaaDoor
open Go.RowKit Go.ChangeShapes
/-- The lengths of the blocks that are tried. -/
def nsL : List Nat := [55, 56, 63, 64, 119, 120]
theorem ns_idx (k : Nat) (hk : k < 6) (wx : World) : (Instr.index 70 (.agg #[.int .i64 55, .int .i64 56, .int .i64 63, .int .i64 64, .int .i64 119, .int .i64 120]) (.int .i64 (k : Int))).run Tryd.prog wx = .ok (.int .i64 ((nsL.getD k 0 : Nat) : Int)) wx := by
  rcases (by omega : k = 0 ∨ k = 1 ∨ k = 2 ∨ k = 3 ∨ k = 4 ∨ k = 5) with rfl | rfl | rfl | rfl | rfl | rfl <;> kernel_rfl
theorem ns_le (k : Nat) (hk : k < 6) : 1 ≤ nsL.getD k 0 ∧ nsL.getD k 0 ≤ 120 := by
  match k, hk with
  | 0, _ | 1, _ | 2, _ | 3, _ | 4, _ | 5, _ => decide
theorem zTwo (n : Nat) (h1 : 1 ≤ n) (h2 : n ≤ 120) : ∃ p u m p' u' m', Ret 22 #[hsV IW ByteArray.empty 0, .string (rp 122 (n - 1))] (.tuple #[hsV p u m, .int .i64 0]) ∧ Ret 22 #[hsV p u m, .string ⟨#[122]⟩] (.tuple #[hsV p' u' m', .int .i64 0]) ∧ Ret 25 #[hsV p' u' m'] (.tuple #[.string (bs (sumB (List.replicate n 122))), .int .i64 0]) := by
  have a := zMore [] (List.replicate (n - 1) 122) (by decide) (by rw [List.length_replicate]; omega)
  have b := zMore (List.replicate (n - 1) 122) [122] (by rw [List.length_replicate]; omega) (by decide)
  rw [List.nil_append, mk_nil] at a
  rw [show List.replicate (n - 1) (122 : UInt8) ++ [122] = List.replicate n 122 by
    rw [show ([122] : List UInt8) = List.replicate 1 122 from rfl, List.replicate_append_replicate, Nat.sub_add_cancel h1]] at b
  exact ⟨_, _, _, _, _, _, a, b, zEnd (List.replicate n 122) (by rw [List.length_replicate]; omega)⟩
set_option maxRecDepth 1000000 in
set_option maxHeartbeats 8000000 in
theorem known_true (w : World) (hD : Digits w) :
    Calls Tryd.prog 9 #[] w fun e w' => e = .returned (.bool true) ∧ Below w.heap.size w w' := by
  have K0 := Wk.start hD
  have HD := Lib.hid hD
  clear hD
  obtain ⟨p, cM, cE⟩ := zMoreFull
  obtain ⟨v, cN⟩ := zNone
  obtain ⟨E, hE, cX⟩ := zEndMax
  have tE : (((bs E).size : Int) == 32) = true := by rw [bs_size, hE]; rfl
  obtain ⟨p2, hp2⟩ : ∃ x, v.w = x := ⟨_, rfl⟩
  obtain ⟨u2, hu2⟩ : ∃ x, bs v.tail = x := ⟨_, rfl⟩
  obtain ⟨n2, hn2⟩ : ∃ x, (v.count : Int) = x := ⟨_, rfl⟩
  rw [hp2, hu2, hn2] at cN
  have cS := zSum 4096 (by decide)
  have hDl : (sumB (List.replicate 4096 122)).length = 32 := sumB_length _
  obtain ⟨D, hDD⟩ : ∃ D, sumB (List.replicate 4096 122) = D := ⟨_, rfl⟩
  rw [hDD] at cS cE hDl
  have tD : (((bs D).size : Int) == 32) = true := by rw [bs_size, hDl]; rfl
  have CM := Lib.hid cM
  have CE := Lib.hid cE
  have CN := Lib.hid cN
  have CX := Lib.hid cX
  have CS := Lib.hid cS
  have hs63 := zSlice 63 63 rfl (by decide)
  have hs64 := zSlice 64 64 rfl (by decide)
  clear cM cE cN cX cS hDD hDl hE hp2 hu2 hn2
  go_enter Tryd.func9, Tryd.ntmps9
  go_wp2_with fail
  refine (works_true _ K0.d).mono ?_
  rintro e W1 ⟨rfl, h1⟩
  have KW1 := K0.step h1
  clear h1 K0
  go_wp2_with fail
  (with_reducible refine (zR4097 _).mono ?_)
  rintro e W2 ⟨rfl, hb⟩
  have KW2 := KW1.step hb
  clear hb KW1
  go_wp2_with fail
  (with_reducible refine (zR4096 _).mono ?_)
  rintro e W3 ⟨rfl, hb⟩
  have KW3 := KW2.step hb
  clear hb KW2
  go_wp2_with fail
  (with_reducible refine (CS.out _).mono ?_)
  rintro e W4 ⟨rfl, hb⟩
  have KW4 := KW3.step hb
  clear hb KW3
  go_wp2_with fail
  (with_reducible refine (start_any _).mono ?_)
  rintro e W5 ⟨rfl, hb⟩
  have KW5 := KW4.step hb
  clear hb KW4
  go_wp2_with fail
  (with_reducible refine (CM.out _).mono ?_)
  rintro e W6 ⟨rfl, hb⟩
  have KW6 := KW5.step hb
  clear hb KW5
  have KA := KW6.add (hsO p ⟨#[]⟩ 4096)
  clear KW6
  go_wp2_with fail
  (with_reducible refine (start_any _).mono ?_)
  rintro e W7 ⟨rfl, hb⟩
  have KW7 := KA.step hb
  clear hb KA
  go_wp2_with fail
  (with_reducible refine (zLong0 _).mono ?_)
  rintro e W8 ⟨rfl, hb⟩
  have KW8 := KW7.step hb
  clear hb KW7
  go_wp2_with fail
  (with_reducible refine (zBad _).mono ?_)
  rintro e W9 ⟨rfl, hb⟩
  have KW9 := (KW8.alloc _).step hb
  clear hb KW8
  go_wp2_with fail
  (with_reducible refine (zLong1 _).mono ?_)
  rintro e W10 ⟨rfl, hb⟩
  have KW10 := (KW9.alloc _).step hb
  clear hb KW9
  go_wp2_with fail
  (with_reducible refine (CN.out _).mono ?_)
  rintro e W11 ⟨rfl, hb⟩
  have KW11 := (KW10.alloc _).step hb
  clear hb KW10
  go_wp2_with fail
  (with_reducible refine (zBig _).mono ?_)
  rintro e W12 ⟨rfl, hb⟩
  have KW12 := (KW11.alloc _).step hb
  clear hb KW11
  go_wp2_with fail
  (with_reducible refine (CX.out _).mono ?_)
  rintro e W13 ⟨rfl, hb⟩
  have KW13 := (KW12.alloc _).step hb
  clear hb KW12
  go_upto_region 13 with fail
  obtain ⟨g, hg⟩ : ∃ g, W6.heap.size = g := ⟨_, rfl⟩
  rw [hg] at KW13
  try rw [hg]
  go_cut [19] (fun s19 wx => s19 = .bool true ∧ Below w.heap.size w wx)
  case first =>
    as_aux_lemma =>
      generalize hW : W13 = W at KW13 ⊢
      clear hW
      simp only [List.append_eq, List.cons_append, List.nil_append]
      go_region_held3 (fun w' => ((w'.cell? ⟨g, 0, none⟩ = some (wd p.a) ∧ w'.cell? ⟨g, 1, none⟩ = some (wd p.b) ∧ w'.cell? ⟨g, 2, none⟩ = some (wd p.c) ∧ w'.cell? ⟨g, 3, none⟩ = some (wd p.d)) ∧ (w'.cell? ⟨g, 4, none⟩ = some (wd p.e) ∧ w'.cell? ⟨g, 5, none⟩ = some (wd p.f) ∧ w'.cell? ⟨g, 6, none⟩ = some (wd p.g) ∧ w'.cell? ⟨g, 7, none⟩ = some (wd p.h))) ∧ (w'.cell? ⟨g, 8, none⟩ = some (.string ⟨#[]⟩) ∧ w'.cell? ⟨g, 9, none⟩ = some (.int .i64 4096)))
        (first | (with_reducible exact Wk.hs (by assumption) List.mem_cons_self) | exact Wk.hs (Wk.alloc (by assumption) _) List.mem_cons_self | exact Wk.hs (Wk.drew (Wk.alloc (by assumption) _)) List.mem_cons_self | exact Wk.hs (Wk.drew (by assumption)) List.mem_cons_self)
        (first
          | (go_at_call 30; (with_reducible refine (same_any _ _).mono ?_); rintro e X ⟨rfl, rfl⟩)
          | (go_at_call 32; (with_reducible refine (fails_any _ _).mono ?_); rintro e X ⟨rfl, rfl⟩)
          | (go_at_call 25; (first | (with_reducible refine (CE.out _).mono ?_) | (with_reducible refine (zEndBad _).mono ?_)); rintro e V ⟨rfl, hb⟩; (repeat (with_reducible replace hb := bel_of_drew hb)); with_reducible obtain ⟨K, hp, hz⟩ := Wk.cell1 (by assumption) hb; clear hb)
          | (go_at_call 27; (first | (with_reducible refine (zCk1 _).mono ?_) | (with_reducible refine (zCk2 _).mono ?_) | (with_reducible refine (zCk3 _).mono ?_)); rintro e V ⟨rfl, hb⟩; (repeat (with_reducible replace hb := bel_of_drew hb)); with_reducible have K := Wk.step (by assumption) hb; clear hb)
          | (go_at_call 53; (with_reducible refine (same1_yes _ _ _ (by assumption)).mono ?_); rintro e V ⟨rfl, rfl⟩)
          | (go_at_call 55; (with_reducible refine (fails1_yes _ _ _ (by assumption)).mono ?_); rintro e V ⟨rfl, rfl⟩))
      all_goals go_wp2_with fail
      all_goals go_meet
      all_goals exact ⟨rfl, Wk.b (by assumption)⟩
  case rest =>
    obtain ⟨rfl, hB⟩ := hcut
    clear KW13 hg W1 W2 W3 W4 W5 W6 W7 CE CM CN CX tE tD hs63 hs64
    have K20 : Wk w wc [] := ⟨hB, HD.out.below hB, fun _ h => absurd h List.not_mem_nil⟩
    go_upto_region 14 with fail
    go_cut [19] (fun s19 wx => s19 = .bool true ∧ Below w.heap.size w wx)
    case first =>
      as_aux_lemma =>
        go_wp2_with (first
        | (go_at_call 32; (with_reducible refine (fails_any _ _).mono ?_); rintro e X ⟨rfl, rfl⟩)
        | (go_at_call 30; (with_reducible refine (same_any _ _).mono ?_); rintro e X ⟨rfl, rfl⟩)
        | (go_at_call 18; (first | (with_reducible refine (zMac1 _).mono ?_) | (with_reducible refine (zMac2 _).mono ?_)); rintro e V ⟨rfl, hb⟩; (repeat (with_reducible replace hb := bel_of_drew hb)); with_reducible obtain ⟨K, hp, hz⟩ := Wk.cell1 (by assumption) hb; clear hb)
        | (go_at_call 28; (first | (with_reducible refine (zDer1 _).mono ?_) | (with_reducible refine (zDer2 _).mono ?_) | (with_reducible refine (zDer3 _).mono ?_) | (with_reducible refine (zDer4 _).mono ?_) | (with_reducible refine (zDer5 _).mono ?_)); rintro e V ⟨rfl, hb⟩; (repeat (with_reducible replace hb := bel_of_drew hb)); with_reducible obtain ⟨K, hp, hz⟩ := Wk.cell1 (by assumption) hb; clear hb)
        | (go_at_call 53; (with_reducible refine (same1_yes _ _ _ (by assumption)).mono ?_); rintro e V ⟨rfl, rfl⟩)
        | (go_at_call 55; (with_reducible refine (fails1_yes _ _ _ (by assumption)).mono ?_); rintro e V ⟨rfl, rfl⟩))
        all_goals go_meet
        all_goals exact ⟨rfl, Wk.b (by assumption)⟩
    case rest =>
    obtain ⟨rfl, hBe⟩ := hcut
    clear K20
    go_wp2_with fail
    go_loopw [218] (fun i wr => ∃ k : Nat, k ≤ 6 ∧ i = .int .i64 k ∧ Below w.heap.size w wr) (fun i _ => 6 - (intOf i).toNat)
    case atStart => exact ⟨0, Nat.zero_le _, rfl, hBe⟩
    case round =>
      obtain ⟨k, hk, rfl, hBr⟩ := hrel
      by_cases hlt : k < 6
      · have hix := ns_idx k hlt
        have hns := ns_le k hlt
        obtain ⟨n, hn⟩ : ∃ n, nsL.getD k 0 = n := ⟨_, rfl⟩
        rw [hn] at hix hns
        obtain ⟨n1, n2⟩ := hns
        obtain ⟨p, u, m, p', u', m', c1, c2, c3⟩ := zTwo n n1 n2
        have cS := zSum n (by omega)
        obtain ⟨o, ho⟩ : ∃ o, bs (sumB (List.replicate n 122)) = o := ⟨_, rfl⟩
        rw [ho] at c3 cS
        have hsn := zSlice n n rfl (by omega)
        have hex2 : (rp 122 4096).extract 0 ((n : Int) - 1).toNat = rp 122 (n - 1) := by
          have h := zSlice (n - 1) ((n : Int) - 1) (by omega) (by omega) w
          have h2 := run_slice_string_h (P := Tryd.prog) (w := w) (t := 9) (s := rp 122 4096) Tryd.underlying9 .i64 ((n : Int) - 1) (by omega) (by rw [rp_size]; omega)
          rw [h2] at h
          injection h with h _
          injection h
        have hex3 : (rp 122 4096).extract 0 (n - 1) = rp 122 (n - 1) := by
          have h := hex2
          rw [show ((n : Int) - 1).toNat = n - 1 by omega] at h
          exact h
        have hsm := zSlice (n - 1) ((n : Int) - 1) (by omega) (by omega)
        have hn5 : (1 : Int) ≤ (n : Int) := by omega
        have C1 := Lib.hid c1
        have C2 := Lib.hid c2
        have C3 := Lib.hid c3
        have CS2 := Lib.hid cS
        have K21 : Wk w wr [] := ⟨hBr, HD.out.below hBr, fun _ h => absurd h List.not_mem_nil⟩
        have hw1 : IntKind.i64.wrap ((n : Int) - 1) = (n : Int) - 1 := IntWalk.i64_in _ ⟨by omega, by omega⟩
        have hn0 : (0 : Int) ≤ (n : Int) - 1 := by omega
        have hn3 : (n : Int) - 1 ≤ ((rp 122 4096).size : Int) := by rw [rp_size]; omega
        have hn4 : (n : Int) ≤ ((rp 122 4096).size : Int) := by rw [rp_size]; omega
        clear c1 c2 c3 cS ho hn
        go_upto_region 19 with (go_at_call 15; (with_reducible refine (CS2.out _).mono ?_); rintro e V1 ⟨rfl, hb⟩; have K22 := K21.step hb; clear hb)
        go_region_held3 (fun _ => True) (first | trivial) (first
          | (go_at_call 21; (with_reducible refine (start_any _).mono ?_); rintro e V2 ⟨rfl, hb⟩; (repeat (with_reducible replace hb := bel_of_drew hb)); (first | (with_reducible have K23 := K22.step hb; clear hb) | (with_reducible have K23c := (K22.add (.cells #[.int .u32 0, .int .u32 0, .int .u32 0, .int .u32 0, .int .u32 0, .int .u32 0, .int .u32 0, .int .u32 0, .string ⟨#[]⟩, .int .i64 0] 44)).step hb; clear hb)))
          | (go_at_call 22; (with_reducible refine (C1.out _).mono ?_); rintro e V3 ⟨rfl, hb⟩; (repeat (with_reducible replace hb := bel_of_drew hb)); (first | (with_reducible have K24 := K23.step hb; clear hb) | ((with_reducible have K24b := (K23.add (.cells #[.int .u32 0, .int .u32 0, .int .u32 0, .int .u32 0, .int .u32 0, .int .u32 0, .int .u32 0, .int .u32 0, .string ⟨#[]⟩, .int .i64 0] 44)).step hb); have hh : Hz V3 V2.heap.size := K24b.heap List.mem_cons_self; obtain ⟨⟨e0, e1, e2, e3, e4, e5, e6, e7⟩, e8, e9⟩ := hh.cells; have f0 := Hz.free hh 0; have f1 := Hz.free hh 1; have f2 := Hz.free hh 2; have f3 := Hz.free hh 3; have f4 := Hz.free hh 4; have f5 := Hz.free hh 5; have f6 := Hz.free hh 6; have f7 := Hz.free hh 7; have f8 := Hz.free hh 8; have f9 := Hz.free hh 9; have HH := Lib.hid hh; clear hb hh) | ((with_reducible have K24c := K23c.step hb); have hh : Hz V3 V1.heap.size := K24c.heap List.mem_cons_self; obtain ⟨⟨e0, e1, e2, e3, e4, e5, e6, e7⟩, e8, e9⟩ := hh.cells; have f0 := Hz.free hh 0; have f1 := Hz.free hh 1; have f2 := Hz.free hh 2; have f3 := Hz.free hh 3; have f4 := Hz.free hh 4; have f5 := Hz.free hh 5; have f6 := Hz.free hh 6; have f7 := Hz.free hh 7; have f8 := Hz.free hh 8; have f9 := Hz.free hh 9; have HH := Lib.hid hh; clear hb hh))))
        all_goals go_wp2_with fail
        all_goals (with_reducible refine (C2.out _).mono ?_)
        all_goals rintro e V4 ⟨rfl, hb⟩
        all_goals (first | (with_reducible have K25 := (K24.alloc _).step hb) | (have K25 : Wk w V4 [] := Wk.step (W := put10 V3 V2.heap.size p u m) ⟨put10_below K24b.b K23.b.size p u m, HD.out.below (put10_below K24b.b K23.b.size p u m), fun _ h => absurd h List.not_mem_nil⟩ hb) | (have K25 : Wk w V4 [] := Wk.step (W := put10 V3 V1.heap.size p u m) ⟨put10_below K24c.b K22.b.size p u m, HD.out.below (put10_below K24c.b K22.b.size p u m), fun _ h => absurd h List.not_mem_nil⟩ hb))
        all_goals clear hb
        all_goals
          go_upto_region 21 with fail
          have K26 := K25.add (hsO p' u' m')
          generalize hV5 : V4.alloc (hsO p' u' m') = V5 at K26 ⊢
          clear hV5
          go_region_held3 (fun w' => ((w'.cell? ⟨V4.heap.size, 0, none⟩ = some (wd p'.a) ∧ w'.cell? ⟨V4.heap.size, 1, none⟩ = some (wd p'.b) ∧ w'.cell? ⟨V4.heap.size, 2, none⟩ = some (wd p'.c) ∧ w'.cell? ⟨V4.heap.size, 3, none⟩ = some (wd p'.d)) ∧ (w'.cell? ⟨V4.heap.size, 4, none⟩ = some (wd p'.e) ∧ w'.cell? ⟨V4.heap.size, 5, none⟩ = some (wd p'.f) ∧ w'.cell? ⟨V4.heap.size, 6, none⟩ = some (wd p'.g) ∧ w'.cell? ⟨V4.heap.size, 7, none⟩ = some (wd p'.h))) ∧ (w'.cell? ⟨V4.heap.size, 8, none⟩ = some (.string u') ∧ w'.cell? ⟨V4.heap.size, 9, none⟩ = some (.int .i64 m')))
            (first | (with_reducible exact Wk.hs (by assumption) List.mem_cons_self) | exact Wk.hs (Wk.alloc (by assumption) _) List.mem_cons_self | exact Wk.hs (Wk.drew (Wk.alloc (by assumption) _)) List.mem_cons_self | exact Wk.hs (Wk.drew (by assumption)) List.mem_cons_self)
            (first
              | (go_at_call 30; (with_reducible refine (same_any _ _).mono ?_); rintro e X ⟨rfl, rfl⟩)
              | (go_at_call 25; (with_reducible refine (C3.out _).mono ?_); rintro e V ⟨rfl, hb⟩; (repeat (with_reducible replace hb := bel_of_drew hb)); with_reducible obtain ⟨K, hp, hz⟩ := Wk.cell1 (by assumption) hb; clear hb)
              | (go_at_call 53; (with_reducible refine (same1_yes _ _ _ (by assumption)).mono ?_); rintro e V ⟨rfl, rfl⟩))
          all_goals go_wp2_with fail
          all_goals go_roundw
          all_goals first
            | exact ⟨k + 1, by omega, by go_num, Wk.b (by assumption)⟩
            | (simp [intOf]; omega)
      · obtain rfl : k = 6 := by omega
        have K30 : Wk w wr [] := ⟨hBr, HD.out.below hBr, fun _ h => absurd h List.not_mem_nil⟩
        go_wp2_with (go_at_call 10; refine (works_true _ K30.d).mono ?_; rintro e W9 ⟨rfl, hb⟩)
        go_ret
        exact ⟨rfl, (K30.step hb).b⟩
end Go.Proofs.YtfdeegafdaobdaaDoor
