/- The walk of ParityChecks: the law returns true. -/
import Derived.Test.YtfagfenmampigaaAE
namespace Go.Proofs.Ytfagfenmampigaa
open Go.RowKit Go.ChangeShapes
set_option maxRecDepth 1000000 in
set_option maxHeartbeats 8000000 in
theorem checks_true (kind crc : Int) (S : ByteArray) (n c : Nat) (w : World) (hS : S.size ≤ 9223372036854775807) (hn : n < 65536) (hc : c < 4294967296) :
    Calls Try.prog 3 #[.int .i64 kind, .int .i64 crc, .string S, .int .u16 (n : Int), .int .u32 (c : Int)] w fun e w' => e = .returned (.bool true) ∧ Below w.heap.size w w' := by
  have K0 : Wk w w [] := Wk.start
  have HCS := Lib.hid (fun W => cut_any S W hS)
  obtain ⟨BS, hBS⟩ : ∃ BS, S.extract 0 (min (S.size : Int) 200).toNat = BS := ⟨_, rfl⟩
  have hl1 : BS.size ≤ 200 := by rw [← hBS, ByteArray.size_extract]; omega
  rw [hBS] at HCS
  obtain ⟨z, hz⟩ : ∃ z, BS.size = z := ⟨_, rfl⟩
  rw [hz] at hl1
  obtain ⟨SY, hSY⟩ : ∃ T, BS ++ (⟨#[120]⟩ : ByteArray) = T := ⟨_, rfl⟩
  have hsy : SY.size = z + 1 := by rw [← hSY, ByteArray.size_append, hz]; rfl
  obtain ⟨m, hm⟩ : ∃ m, n % 4200 = m := ⟨_, rfl⟩
  have hm2 : m < 4200 := by omega
  have hq4 : IntKind.i64.wrap (n : Int) = (n : Int) := IntWalk.i64_in _ (by omega)
  have hq5 : (n : Int).tmod 4200 = (m : Int) := by rw [Int.tmod_eq_emod_of_nonneg (by omega)]; omega
  have hq5b : (n : Int) % 4200 = (m : Int) := by omega
  have hq6 : IntKind.i64.wrap (m : Int) = (m : Int) := IntWalk.i64_in _ (by omega)
  have hq11 : IntKind.i64.wrap ((z : Int) + 1) = (z : Int) + 1 := IntWalk.i64_in _ (by omega)
  have hq7 : ((z : Int) + 1 == 0) = false := beq_false_of_ne (by omega)
  have hq7b : ¬ (z : Int) + 1 = 0 := by omega
  obtain ⟨d, hd⟩ : ∃ d, m / (z + 1) = d := ⟨_, rfl⟩
  have hq8 : (m : Int).tdiv ((z : Int) + 1) = (d : Int) := by rw [Int.tdiv_eq_ediv_of_nonneg (by omega), ← hd]; rfl
  have hdm : d ≤ m := by rw [← hd]; exact Nat.div_le_self _ _
  have hq9 : IntKind.i64.wrap (d : Int) = (d : Int) := IntWalk.i64_in _ (by omega)
  have hq10 : IntKind.i64.wrap ((d : Int) + 1) = (d : Int) + 1 := IntWalk.i64_in _ (by omega)
  have hlen := rep_le SY.data.toList d m (by rw [show SY.data.toList.length = SY.size from rfl, hsy, hd]; exact Nat.le_refl _) (by rw [show SY.data.toList.length = SY.size from rfl, hsy]; omega)
  rw [show SY.data.toList.length = SY.size from rfl, hsy] at hlen
  have hrsz : SY.size * (d + 1) = (Lib.repeatL SY.data.toList (d + 1)).length := by rw [repeatL_length, show SY.data.toList.length = SY.size from rfl, Nat.mul_comm]
  have HKR : Hid (∀ W, Calls Try.prog 12 #[.string SY, .int .i64 ((d : Int) + 1)] W fun e w' => e = .returned (.string (bs (Lib.repeatL SY.data.toList (d + 1)))) ∧ Below W.heap.size W w') := Lib.hid (fun W => Try.strings_Repeat SY (d + 1) W (by omega) (by omega))
  obtain ⟨LG, hLG⟩ : ∃ R, bs (Lib.repeatL SY.data.toList (d + 1)) = R := ⟨_, rfl⟩
  have hll : LG.size ≤ 5000 := by rw [← hLG, bs_size]; omega
  rw [hLG] at HKR
  have HST := Lib.hid (And.intro (show BS.size ≤ 5000 by omega) hll)
  clear hS hBS hm hd hdm hlen hrsz hLG hll
  go_enter Try.func3, Try.ntmps3
  go_upto_region 5 with (first
    | (go_at_call 10; (with_reducible refine (works_true _).mono ?_); rintro e V ⟨rfl, hb⟩; with_reducible replace K0 := Wk.step K0 hb; clear hb)
    | (go_at_call 11; (with_reducible refine (HCS.out _).mono ?_); rintro e V1 ⟨rfl, rfl⟩)
    | (go_at_call 12; (with_reducible refine (HKR.out _).mono ?_); rintro e V2 ⟨rfl, hb⟩; with_reducible replace K0 := Wk.step K0 hb; clear hb))
  clear HCS HKR hq4 hq5 hq5b hq6 hq11 hq7 hq7b hq8 hq9 hq10 hz hSY hsy hm2 hl1
  have HK0 := Lib.hid K0
  clear K0
  have hqc : IntKind.i64.wrap (c : Int) = (c : Int) := IntWalk.i64_in _ (by omega)
  go_wp2
  go_loopw [12] (fun i wr => ∃ k : Nat, k ≤ 4 ∧ i = .int .i64 (k : Int) ∧ Hid (Wk w wr [])) (fun i _ => 4 - (intOf i).toNat)
  case atStart => exact ⟨0, by omega, rfl, HK0⟩
  case round =>
    clear HK0
    obtain ⟨k, hk, rfl, HK⟩ := hrel
    by_cases hk4 : k < 4
    · have hki : (k : Int) ≤ 3 := by omega
      obtain ⟨L, hL⟩ : ∃ L : Array Value, L = #[.int .i64 kind, .int .i64 crc, .int .i64 (k : Int), .int .i64 crc, .int .i64 (k : Int), .int .i64 (c : Int)] := ⟨_, rfl⟩
      have hb28 := built28 kind crc (k : Int) crc (k : Int) (c : Int)
      rw [← hL] at hb28
      have HB28 := Lib.hid hb28
      have HIX : Hid (∀ j : Nat, j < 3 → ∃ K X : Int, ∀ W, (Instr.index 28 (.agg L) (.int .i64 (j : Int))).run Try.prog W = .ok (.agg #[.int .i64 K, .int .i64 X]) W) := Lib.hid (by rw [hL]; exact idx28 _ _ _ _ _ _)
      clear hL hb28
      go_upto_region 9 with (refine wpList_plain (o := ⟨some 54, _, _, _, _, _⟩) rfl fun K hK => ?_; refine wp_buildTo 28 _ rfl L (by simp only [List.map_toArray, List.map_cons, List.map_nil]; exact HB28.out) ?_; refine hK _ _ ?_; clear hK K)
      clear HB28
      go_wp2
      go_loopw [55] (fun i wr => ∃ j : Nat, j ≤ 3 ∧ i = .int .i64 (j : Int) ∧ Hid (Wk w wr [])) (fun i _ => 3 - (intOf i).toNat)
      case atStart => exact ⟨0, by omega, rfl, HK⟩
      case round =>
        clear HK
        obtain ⟨j, hj, rfl, HK⟩ := hrel
        by_cases hj3 : j < 3
        · have hji : (j : Int) < 3 := by omega
          obtain ⟨K, X, hix⟩ := HIX.out j hj3
          have K1 := HK.out
          have hz27 := zero27
          have hrow : (wr.alloc (.cells Z27 27)).heap[wr.heap.size]? = some (.cells Z27 27 (0, 0)) := heap_alloc_new wr _
          clear HK HIX
          go_upto_region 11 with (refine wpList_plain (o := ⟨none, _, _, _, _, _⟩) rfl fun K0 hK => ?_; refine wp_store_row 27 _ _ rfl wr.heap.size #[.int .i64 K, .int .i64 X] rfl rfl 27 _ hrow (by rw [size27]; rfl) (by rfl) (by simp [Value.oneCell']) ?_; refine hK _ _ ?_; clear hK K0)
          have K2' := K1.laid Z27 #[.int .i64 K, .int .i64 X] 27
          generalize (wr.alloc (.cells Z27 27)).setRow wr.heap.size #[.int .i64 K, .int .i64 X] = V6 at K2' ⊢
          generalize wr.heap.size = g2 at K2' ⊢
          clear hrow hz27 K1 hix
          have K3' := K2'.made #[.string BS, .string LG] 9
          have HK6 := Lib.hid K3'
          clear K2' K3'
          obtain ⟨q, hq⟩ : ∃ q, 1 + j / 2 = q := ⟨_, rfl⟩
          have hq1 : q = 1 ∨ q = 2 := by omega
          have hq2 : (1 : Int) + (j : Int).tdiv 2 = (q : Int) := by rw [Int.tdiv_eq_ediv_of_nonneg (by omega)]; omega
          have hq3 : (1 : Int) + (j : Int) / 2 = (q : Int) := by omega
          have hsl := slice_q29 V6.heap.size q (by omega)
          obtain ⟨i9, h91, h92, h93, _⟩ := info_parts info9b
          have HFL := Lib.hid (fill2 BS LG)
          have H9 := Lib.hid (And.intro h91 (And.intro h92 h93))
          clear h91 h92 h93
          go_upto_region 12 with (refine wpList_plain (o := ⟨some 61, _, _, _, _, _⟩) rfl fun K0 hK => ?_; refine wp_buildSlice 29 9 2 _ rfl #[.string BS, .string LG] i9 (.string ⟨#[]⟩) Try.underlying29 H9.out.1 H9.out.2.1 (by rw [H9.out.2.2]; decide) (by rw [H9.out.2.2]; decide) (by rw [H9.out.2.2]; simp only [List.map_toArray, List.map_cons, List.map_nil]; exact HFL.out) ?_; refine hK _ _ ?_; clear hK K0)
          clear HFL H9 hsl hq2 hq3
          generalize V6.alloc (.cells #[.string BS, .string LG] 9) = V7 at HK6 ⊢
          generalize V6.heap.size = g3 at HK6 ⊢
          go_wp2
          go_loopw [67] (fun i wr => ∃ t : Nat, t ≤ q ∧ i = .int .i64 (t : Int) ∧ Hid (Wk w wr [(g3, .cells #[.string BS, .string LG] 9 (0, 0)), (g2, .cells #[.int .i64 K, .int .i64 X] 27 (0, 0))])) (fun i _ => q - (intOf i).toNat)
          case atStart => exact ⟨0, by omega, rfl, HK6⟩
          case round =>
            clear HK6
            obtain ⟨t, ht, rfl, HK6⟩ := hrel
            by_cases htq : t < q
            · have hti : (t : Int) < (q : Int) := by omega
              obtain ⟨T, hTs, hTc⟩ : ∃ T : ByteArray, T.size ≤ 5000 ∧ wr.cell? ⟨g3, t, none⟩ = some (.string T) := by
                have h2 := HK6.out.k _ List.mem_cons_self
                have h3 : t = 0 ∨ t = 1 := by omega
                rcases h3 with rfl | rfl
                · exact ⟨BS, HST.out.1, cell_of_row _ g3 0 _ 9 (0, 0) h2⟩
                · exact ⟨LG, HST.out.2, cell_of_row _ g3 1 _ 9 (0, 0) h2⟩
              go_upto_region 14 with fail
              clear hTc
              obtain ⟨tz, htz⟩ : ∃ tz, T.size = tz := ⟨_, rfl⟩
              rw [htz] at hTs
              go_cut [86] from 71 to 86 (fun s86 wx => (∃ tb : Bool, s86 = .bool tb ∧ (tb = true → 600 < tz)) ∧ wr = wx)
              case first =>
                have HTZ := Lib.hid htz
                by_cases hk1 : k = 1
                · have hk1b : ((k : Int) == 1) = true := by rw [hk1]; rfl
                  clear hk1
                  by_cases hj2 : j = 2
                  · have hj2b : ((j : Int) == 2) = true := by rw [hj2]; rfl
                    clear hj2
                    by_cases h6 : 600 < tz
                    · have h6i : (600 : Int) < (tz : Int) := by omega
                      by_cases h4 : tz ≤ 4096
                      · have h4i : (tz : Int) ≤ 4096 := by omega
                        go_wp2
                        go_meet
                        exact ⟨⟨_, rfl, fun _ => h6⟩, rfl⟩
                      · have h4i : ¬ (tz : Int) ≤ 4096 := by omega
                        go_wp2
                        go_meet
                        exact ⟨⟨_, rfl, fun h => by cases h⟩, rfl⟩
                    · have h6i : ¬ (600 : Int) < (tz : Int) := by omega
                      go_wp2
                      go_meet
                      exact ⟨⟨_, rfl, fun h => by cases h⟩, rfl⟩
                  · have hj2b : ((j : Int) == 2) = false := beq_false_of_ne (by omega)
                    have hj2c : ¬ (j : Int) = 2 := by omega
                    go_wp2
                    go_meet
                    exact ⟨⟨_, rfl, fun h => by cases h⟩, rfl⟩
                · have hk1b : ((k : Int) == 1) = false := beq_false_of_ne (by omega)
                  have hk1c : ¬ (k : Int) = 1 := by omega
                  go_wp2
                  go_meet
                  exact ⟨⟨_, rfl, fun h => by cases h⟩, rfl⟩
              case rest =>
              obtain ⟨⟨tb, rfl, htb⟩, rfl⟩ := hcut
              go_upto_if 86 with fail
              go_cut [16] from 87 to 88 (fun s16 wx => (∃ T' : ByteArray, s16 = .string T' ∧ T'.size ≤ 5000) ∧ wr = wx)
              case first =>
                have HTZ := Lib.hid htz
                cases tb
                · go_wp2
                  go_meet
                  exact ⟨⟨_, rfl, by rw [HTZ.out]; omega⟩, rfl⟩
                · have h6 := htb rfl
                  have h6i : (600 : Int) ≤ (tz : Int) := by omega
                  clear htb
                  go_wp2
                  go_meet
                  exact ⟨⟨_, rfl, by rw [ByteArray.size_extract]; omega⟩, rfl⟩
              case rest =>
              obtain ⟨⟨U, rfl, hU⟩, rfl⟩ := hcut
              clear htz hTs htb
              obtain ⟨uz, huz⟩ : ∃ uz, U.size = uz := ⟨_, rfl⟩
              obtain ⟨M, E, D, F, r0, r1, hm1, hm2, hr0, hr1, hcase⟩ := chk_fact K X U
              rw [huz] at hcase hU
              have HM1 := Lib.hid hm1
              have HM2 := Lib.hid hm2
              have HR0 := Lib.hid hr0
              have HR1 := Lib.hid hr1
              have HCASE := Lib.hid hcase
              have hcl : ∀ W : World, Wk w W [(g3, .cells #[.string BS, .string LG] 9 (0, 0)), (g2, .cells #[.int .i64 K, .int .i64 X] 27 (0, 0))] → W.cell? ⟨g2, 0, none⟩ = some (.int .i64 K) ∧ W.cell? ⟨g2, 1, none⟩ = some (.int .i64 X) := fun W h => by
                have h2 := h.k _ (List.mem_cons_of_mem _ List.mem_cons_self)
                exact ⟨cell_of_row _ g2 0 _ 27 (0, 0) h2, cell_of_row _ g2 1 _ 27 (0, 0) h2⟩
              have K1 := HK6.out
              obtain ⟨c0, c1⟩ := hcl _ K1
              have HCL := Lib.hid hcl
              clear hm1 hm2 hr0 hr1 hcase hcl HK6
              go_upto_region 18 with (first
                | (go_at_call 13; (with_reducible refine (HM1.out _).mono ?_); rintro e Z1 ⟨rfl, hb⟩; with_reducible replace K1 := Wk.step K1 hb; obtain ⟨c0, c1⟩ := HCL.out _ K1; clear hb)
                | (go_at_call 14; (with_reducible refine (HM2.out _).mono ?_); rintro e Z2 ⟨rfl, hb⟩; with_reducible replace K1 := Wk.step K1 hb; obtain ⟨c0, c1⟩ := HCL.out _ K1; clear hb))
              clear HM1 HM2
              rcases HCASE.out with ⟨rfl, rfl, rfl, rfl, rfl, rfl⟩ | ⟨rfl, rfl, hs, rfl, rfl, rfl, hd⟩ | ⟨rfl, rfl, hs, rfl, rfl, rfl, rfl⟩ | ⟨rfl, rfl, hs, rfl, rfl, hm, hd⟩ | ⟨rfl, rfl, hs, rfl, rfl, rfl, rfl⟩
              · skip
                have HT1 := Lib.hid (fun W => told_err 2 W (by decide))
                have HT2 := Lib.hid (fun W => told_err 2 W (by decide))
                clear HCASE
                go_wp2_with (first
                  | (go_at_call 15; (with_reducible refine (HR0.out _).mono ?_); rintro e Y0 ⟨rfl, rfl⟩)
                  | (go_at_call 15; (with_reducible refine (HR1.out _).mono ?_); rintro e Y1 ⟨rfl, rfl⟩)
                  | (go_at_call 18; (with_reducible refine (HT1.out _).mono ?_); rintro e Y4 ⟨rfl, rfl⟩)
                  | (go_at_call 18; (with_reducible refine (HT2.out _).mono ?_); rintro e Y5 ⟨rfl, rfl⟩))
                go_roundw
                case rel => exact ⟨t + 1, by omega, by go_num, Lib.hid K1⟩
                case measure => simp [intOf]; omega
              · have hsi : ¬ (4096 : Int) < (uz : Int) := by omega
                have HD := Lib.hid hd
                clear hd
                have HT1 := Lib.hid (fun W => told_err 2 W (by decide))
                have HT2 := Lib.hid (fun W => told_ok D W)
                clear HCASE
                go_wp2_with (first
                  | (go_at_call 15; (with_reducible refine (HR0.out _).mono ?_); rintro e Y0 ⟨rfl, rfl⟩)
                  | (go_at_call 15; (with_reducible refine (HR1.out _).mono ?_); rintro e Y1 ⟨rfl, rfl⟩)
                  | (go_at_call 17; (with_reducible refine (HD.out _).mono ?_); rintro e Y3 ⟨rfl, hb⟩; with_reducible replace K1 := Wk.step K1 hb; obtain ⟨c0, c1⟩ := HCL.out _ K1; clear hb)
                  | (go_at_call 18; (with_reducible refine (HT1.out _).mono ?_); rintro e Y4 ⟨rfl, rfl⟩)
                  | (go_at_call 18; (with_reducible refine (HT2.out _).mono ?_); rintro e Y5 ⟨rfl, rfl⟩))
                go_roundw
                case rel => exact ⟨t + 1, by omega, by go_num, Lib.hid K1⟩
                case measure => simp [intOf]; omega
              · have hsi : (4096 : Int) < (uz : Int) := by omega
                have HT1 := Lib.hid (fun W => told_err 2 W (by decide))
                have HT2 := Lib.hid (fun W => told_err 3 W (by decide))
                clear HCASE
                go_wp2_with (first
                  | (go_at_call 15; (with_reducible refine (HR0.out _).mono ?_); rintro e Y0 ⟨rfl, rfl⟩)
                  | (go_at_call 15; (with_reducible refine (HR1.out _).mono ?_); rintro e Y1 ⟨rfl, rfl⟩)
                  | (go_at_call 18; (with_reducible refine (HT1.out _).mono ?_); rintro e Y4 ⟨rfl, rfl⟩)
                  | (go_at_call 18; (with_reducible refine (HT2.out _).mono ?_); rintro e Y5 ⟨rfl, rfl⟩))
                go_roundw
                case rel => exact ⟨t + 1, by omega, by go_num, Lib.hid K1⟩
                case measure => simp [intOf]; omega
              · have hsi : ¬ (4096 : Int) < (uz : Int) := by omega
                have HD := Lib.hid hd
                clear hd
                have HM := Lib.hid hm
                clear hm
                have HT1 := Lib.hid (fun W => told_ok M W)
                have HT2 := Lib.hid (fun W => told_ok D W)
                clear HCASE
                go_wp2_with (first
                  | (go_at_call 15; (with_reducible refine (HR0.out _).mono ?_); rintro e Y0 ⟨rfl, rfl⟩)
                  | (go_at_call 15; (with_reducible refine (HR1.out _).mono ?_); rintro e Y1 ⟨rfl, rfl⟩)
                  | (go_at_call 16; (with_reducible refine (HM.out _).mono ?_); rintro e Y2 ⟨rfl, hb⟩; with_reducible replace K1 := Wk.step K1 hb; obtain ⟨c0, c1⟩ := HCL.out _ K1; clear hb)
                  | (go_at_call 17; (with_reducible refine (HD.out _).mono ?_); rintro e Y3 ⟨rfl, hb⟩; with_reducible replace K1 := Wk.step K1 hb; obtain ⟨c0, c1⟩ := HCL.out _ K1; clear hb)
                  | (go_at_call 18; (with_reducible refine (HT1.out _).mono ?_); rintro e Y4 ⟨rfl, rfl⟩)
                  | (go_at_call 18; (with_reducible refine (HT2.out _).mono ?_); rintro e Y5 ⟨rfl, rfl⟩))
                go_roundw
                case rel => exact ⟨t + 1, by omega, by go_num, Lib.hid K1⟩
                case measure => simp [intOf]; omega
              · have hsi : (4096 : Int) < (uz : Int) := by omega
                have HT1 := Lib.hid (fun W => told_err 3 W (by decide))
                have HT2 := Lib.hid (fun W => told_err 3 W (by decide))
                clear HCASE
                go_wp2_with (first
                  | (go_at_call 15; (with_reducible refine (HR0.out _).mono ?_); rintro e Y0 ⟨rfl, rfl⟩)
                  | (go_at_call 15; (with_reducible refine (HR1.out _).mono ?_); rintro e Y1 ⟨rfl, rfl⟩)
                  | (go_at_call 18; (with_reducible refine (HT1.out _).mono ?_); rintro e Y4 ⟨rfl, rfl⟩)
                  | (go_at_call 18; (with_reducible refine (HT2.out _).mono ?_); rintro e Y5 ⟨rfl, rfl⟩))
                go_roundw
                case rel => exact ⟨t + 1, by omega, by go_num, Lib.hid K1⟩
                case measure => simp [intOf]; omega
            · obtain rfl : t = q := by omega
              have HK7 : Hid (Wk w wr []) := Lib.hid (HK6.out.less (fun x hx => absurd hx List.not_mem_nil))
              clear HK6
              go_wp2
              go_roundw
              case rel => exact ⟨j + 1, by omega, by go_num, HK7⟩
              case measure => simp [intOf]; omega
        · obtain rfl : j = 3 := by omega
          go_wp2
          go_roundw
          case rel => exact ⟨k + 1, by omega, by go_num, HK⟩
          case measure => simp [intOf]; omega
    · obtain rfl : k = 4 := by omega
      go_wp2
      go_ret
      exact ⟨rfl, HK.out.b⟩
end Go.Proofs.Ytfagfenmampigaa
