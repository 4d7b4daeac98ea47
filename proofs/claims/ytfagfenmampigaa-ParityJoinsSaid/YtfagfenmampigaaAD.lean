/- The walk of ParityJoins: the law returns true. -/
import Derived.Test.YtfagfenmampigaaAC
import Derived.Great.BuildSlice
namespace Go.Proofs.Ytfagfenmampigaa
open Go.RowKit Go.ChangeShapes
theorem wp_buildTo {P : Program} {o : Oper} {a : Act} {w : World} {K : Act → World → Prop} {Q : Exit → Act → World → Prop} (t : TypeId) (parts : Array (Nat × Operand)) (ho : o.op = .build t parts)
    (cells : Array Value) (hf : P.built t (parts.map fun (i, x) => (i, a.eval x)).toList = some cells) (h : K (a.put o.dst (.agg cells)) w) : o.wp P a w K Q :=
  wp_build t parts ho (by rw [hf]; rfl) (by rw [hf]; exact h)
set_option maxRecDepth 1000000 in
set_option maxHeartbeats 8000000 in
theorem joins_true (kind a b n : Int) (S T : ByteArray) (c d k_ : Nat) (w : World) (hS : S.size ≤ 9223372036854775807) (hT : T.size ≤ 9223372036854775807) (hc : c < 4294967296) (hd : d < 4294967296) (hk_ : k_ < 65536) :
    Calls Try.prog 4 #[.int .i64 kind, .int .i64 a, .int .i64 b, .int .i64 n, .string S, .string T, .int .u32 (c : Int), .int .u32 (d : Int), .int .u16 (k_ : Int)] w fun e w' => e = .returned (.bool true) ∧ Below w.heap.size w w' := by
  have K0 : Wk w w [] := Wk.start
  have HCS := Lib.hid (fun W => cut_any S W hS)
  have HCT := Lib.hid (fun W => cut_any T W hT)
  obtain ⟨ls, hls⟩ : ∃ ls, ct S = ls := ⟨_, rfl⟩
  obtain ⟨lt, hlt⟩ : ∃ lt, ct T = lt := ⟨_, rfl⟩
  have hxs : S.extract 0 (min (S.size : Int) 200).toNat = bs ls := by rw [← hls]; rfl
  have hxt : T.extract 0 (min (T.size : Int) 200).toNat = bs lt := by rw [← hlt]; rfl
  rw [hxs] at HCS
  rw [hxt] at HCT
  have hl1 : ls.length ≤ 200 := by rw [← hls]; exact ct_le S
  have hl2 : lt.length ≤ 200 := by rw [← hlt]; exact ct_le T
  have HRS : Hid (∀ b W, Calls Try.prog 17 #[.int .i64 (if b then 2 else 1), .string (bs ls)] W fun e w' => e = .returned (.int .i64 ((moreN (kC b) 0 ls : Nat) : Int)) ∧ Below W.heap.size W w') := Lib.hid (fun b W => rcrc_any b ls W (by omega))
  have HRT : Hid (∀ b W, Calls Try.prog 17 #[.int .i64 (if b then 2 else 1), .string (bs lt)] W fun e w' => e = .returned (.int .i64 ((moreN (kC b) 0 lt : Nat) : Int)) ∧ Below W.heap.size W w') := Lib.hid (fun b W => rcrc_any b lt W (by omega))
  have HRST : Hid (∀ b W, Calls Try.prog 17 #[.int .i64 (if b then 2 else 1), .string (bs ls ++ bs lt)] W fun e w' => e = .returned (.int .i64 ((moreN (kC b) 0 (ls ++ lt) : Nat) : Int)) ∧ Below W.heap.size W w') := Lib.hid (fun b W => by
    rw [← bs_append]; exact rcrc_any b (ls ++ lt) W (by rw [List.length_append]; omega))
  have h0W : isW 0 := by unfold isW; decide
  have HJ : Hid (∀ b W, Calls Try.prog 19 #[.int .i64 (if b then 2 else 1), .int .i64 ((moreN (kC b) 0 ls : Nat) : Int), .int .i64 ((moreN (kC b) 0 lt : Nat) : Int), .int .i64 ((bs lt).size : Int)] W fun e w' => e = .returned (.tuple #[.int .i64 ((moreN (kC b) 0 (ls ++ lt) : Nat) : Int), .int .i64 0]) ∧ Below W.heap.size W w') := Lib.hid (fun b W => by
    have h := join_yes b (moreN (kC b) 0 ls) (moreN (kC b) 0 lt) lt.length W (more_le (kC_W b) h0W ls) (more_le (kC_W b) h0W lt) (by omega) (fun h => by rw [List.length_eq_zero_iff.1 h, moreN_nil])
    rw [join_more, ← moreN_append] at h
    exact h)
  have hsl : (bs ls).size ≤ 200 := by rw [bs_size]; exact hl1
  have htl : (bs lt).size ≤ 200 := by rw [bs_size]; exact hl2
  generalize bs ls = BS at HCS HRS HRST hsl
  generalize bs lt = BT at HCT HRT HRST HJ htl
  obtain ⟨tl, htl2⟩ : ∃ tl, BT.size = tl := ⟨_, rfl⟩
  rw [htl2] at HJ htl
  clear hS hT hls hlt hxs hxt hl1 hl2 h0W
  go_enter Try.func4, Try.ntmps4
  go_upto_region 4 with (first
    | (go_at_call 10; (with_reducible refine (works_true _).mono ?_); rintro e V ⟨rfl, hb⟩; with_reducible replace K0 := Wk.step K0 hb; clear hb)
    | (go_at_call 11; (with_reducible refine (HCS.out _).mono ?_); rintro e V1 ⟨rfl, rfl⟩)
    | (go_at_call 11; (with_reducible refine (HCT.out _).mono ?_); rintro e V2 ⟨rfl, rfl⟩))
  clear HCS HCT
  have HK0 := Lib.hid K0
  clear K0
  go_wp2
  go_loopw [19] (fun i wr => ∃ k : Nat, k ≤ 4 ∧ i = .int .i64 (k : Int) ∧ Hid (Wk w wr [])) (fun i _ => 4 - (intOf i).toNat)
  case atStart => exact ⟨0, by omega, rfl, HK0⟩
  case round =>
    clear HK0
    obtain ⟨k, hk, rfl, HK⟩ := hrel
    by_cases hk4 : k < 4
    · have hki : (k : Int) ≤ 3 := by omega
      obtain ⟨m, hm⟩ : ∃ m, k % 2 = m := ⟨_, rfl⟩
      have hm2 : m < 2 := by omega
      have hq1 : (k : Int).tmod 2 = (m : Int) := by rw [Int.tmod_eq_emod_of_nonneg (by omega)]; omega
      have hq2 : (k : Int) % 2 = (m : Int) := by omega
      obtain ⟨bb, hbb⟩ : ∃ bb : Bool, (1 : Int) + (m : Int) = if bb then 2 else 1 := by
        by_cases h : m = 1
        · exact ⟨true, by rw [h]; rfl⟩
        · exact ⟨false, by rw [show m = 0 by omega]; rfl⟩
      have HRS1 := Lib.hid (HRS.out bb)
      have HRT1 := Lib.hid (HRT.out bb)
      have HRST1 := Lib.hid (HRST.out bb)
      have HJ1 := Lib.hid (HJ.out bb)
      generalize moreN (kC bb) 0 ls = ns at HRS1 HJ1
      generalize moreN (kC bb) 0 lt = nt at HRT1 HJ1
      generalize moreN (kC bb) 0 (ls ++ lt) = nst at HRST1 HJ1
      have hbb1 : (1 : Int) + (m : Int) = 1 + (m : Int) := rfl
      generalize (if bb then (2 : Int) else 1) = K2 at HRS1 HRT1 HRST1 HJ1 hbb
      clear hbb1 hm
      obtain ⟨r, hr⟩ : ∃ r, k_ % 2000 = r := ⟨_, rfl⟩
      have hr2 : r < 2000 := by omega
      have hq3 : (k_ : Int).tmod 2000 = (r : Int) := by rw [Int.tmod_eq_emod_of_nonneg (by omega)]; omega
      have hq4 : (k_ : Int) % 2000 = (r : Int) := by omega
      have hq5 : IntKind.i64.wrap (c : Int) = (c : Int) := IntWalk.i64_in _ (by omega)
      have hq6 : IntKind.i64.wrap (d : Int) = (d : Int) := IntWalk.i64_in _ (by omega)
      clear hr
      have hz40 := zero40
      have K1 := HK.out
      go_wp2_with fail
      (with_reducible refine (HRS1.out _).mono ?_)
      rintro e V3 ⟨rfl, hb⟩
      replace K1 := Wk.step K1 hb
      clear hb
      go_wp2_with fail
      (with_reducible refine (HRT1.out _).mono ?_)
      rintro e V4 ⟨rfl, hb⟩
      replace K1 := Wk.step K1 hb
      clear hb HRS1 HRT1 HRS HRT HRST HJ HK
      obtain ⟨L, hL⟩ : ∃ L : Array Value, L = #[.int .i64 kind, .int .i64 a, .int .i64 b, .int .i64 n, .int .i64 (k : Int), .int .i64 a, .int .i64 b, .int .i64 n, .int .i64 (k : Int), .int .i64 (c : Int), .int .i64 (d : Int), .int .i64 (r : Int), .int .i64 K2, .int .i64 (ns : Int), .int .i64 (nt : Int), .int .i64 (tl : Int)] := ⟨_, rfl⟩
      have hb40 := built40 kind a b n (k : Int) a b n (k : Int) (c : Int) (d : Int) (r : Int) K2 (ns : Int) (nt : Int) (tl : Int)
      rw [← hL] at hb40
      have HB40 := Lib.hid hb40
      have HIX : Hid (∀ j : Nat, j < 4 → ∃ K X Y N : Int, ∀ W, (Instr.index 40 (.agg L) (.int .i64 (j : Int))).run Try.prog W = .ok (.agg #[.int .i64 K, .int .i64 X, .int .i64 Y, .int .i64 N]) W) := Lib.hid (by rw [hL]; exact idx40 _ _ _ _ _ _ _ _ _ _ _ _ _ _ _ _)
      have hLs : L.size = 16 := by rw [hL]; rfl
      have hL1 : L.all (·.oneCell') = true := by rw [hL]; simp [Value.oneCell']
      have HL := Lib.hid (And.intro hLs hL1)
      have HL13 := Lib.hid (show L[13]? = some (.int .i64 (ns : Int)) ∧ L[14]? = some (.int .i64 (nt : Int)) by rw [hL]; exact ⟨rfl, rfl⟩)
      clear hL hb40 hLs hL1
      have hrow : (V4.alloc (.cells Z40 40)).heap[V4.heap.size]? = some (.cells Z40 40 (0, 0)) := heap_alloc_new V4 _
      have hzs : Z40.size = 16 := rfl
      go_upto_region 8 with (first
        | (refine wpList_plain (o := ⟨some 73, _, _, _, _, _⟩) rfl fun K hK => ?_; refine wp_buildTo 40 _ rfl L (by simp only [List.map_toArray, List.map_cons, List.map_nil]; exact HB40.out) ?_; refine hK _ _ ?_; clear hK K)
        | (refine wpList_plain (o := ⟨none, _, _, _, _, _⟩) rfl fun K hK => ?_; refine wp_store_row 40 _ _ rfl V4.heap.size L rfl rfl 40 _ hrow (by rw [size40, HL.out.1]) (by rw [HL.out.1, hzs]) HL.out.2 ?_; refine hK _ _ ?_; clear hK K))
      have K2' := K1.laid Z40 L 40
      generalize (V4.alloc (.cells Z40 40)).setRow V4.heap.size L = V5 at K2' ⊢
      generalize V4.heap.size = g at K2' ⊢
      clear hrow hzs hz40 K1 HB40
      have hR40 := K2'.k _ (List.mem_cons_self)
      have HK5 := Lib.hid K2'
      clear K2'
      go_upto_region 9 with (refine wpList_plain (o := ⟨some 74, _, _, _, _, _⟩) rfl fun K hK => ?_; refine wp_load_row 40 _ rfl g rfl 40 L (0, 0) _ hR40 Try.underlying40 rfl (by rw [size40, HL.out.1]) ?_; refine hK _ _ ?_; clear hK K)
      clear hR40
      go_wp2
      go_loopw [75] (fun i wr => ∃ j : Nat, j ≤ 4 ∧ i = .int .i64 (j : Int) ∧ Hid (Wk w wr [(g, .cells L 40 (0, 0))])) (fun i _ => 4 - (intOf i).toNat)
      case atStart => exact ⟨0, by omega, rfl, HK5⟩
      case round =>
        clear HK5
        obtain ⟨j, hj, rfl, HK5⟩ := hrel
        by_cases hj4 : j < 4
        · have hji : (j : Int) < 4 := by omega
          obtain ⟨K, X, Y, N, hix⟩ := HIX.out j hj4
          obtain ⟨J, E, r1, r2, hjn, hr1, hr2, hcase⟩ := row_fact K X Y N
          have HJN := Lib.hid hjn
          have HR1 := Lib.hid hr1
          have HR2 := Lib.hid hr2
          have HCASE := Lib.hid hcase
          clear hjn hr1 hr2 hcase
          have K1 := HK5.out
          have hz39 := zero39
          have hrow : (wr.alloc (.cells Z39 39)).heap[wr.heap.size]? = some (.cells Z39 39 (0, 0)) := heap_alloc_new wr _
          clear HK5 HIX
          go_upto_region 11 with (refine wpList_plain (o := ⟨none, _, _, _, _, _⟩) rfl fun K0 hK => ?_; refine wp_store_row 39 _ _ rfl wr.heap.size #[.int .i64 K, .int .i64 X, .int .i64 Y, .int .i64 N] rfl rfl 39 _ hrow (by rw [size39]; rfl) (by rfl) (by simp [Value.oneCell']) ?_; refine hK _ _ ?_; clear hK K0)
          have K2' := K1.laid Z39 #[.int .i64 K, .int .i64 X, .int .i64 Y, .int .i64 N] 39
          generalize (wr.alloc (.cells Z39 39)).setRow wr.heap.size #[.int .i64 K, .int .i64 X, .int .i64 Y, .int .i64 N] = V6 at K2' ⊢
          generalize wr.heap.size = g2 at K2' ⊢
          clear hrow hz39 K1 hix
          have HK6 := Lib.hid K2'
          have hcl : ∀ W : World, Wk w W [(g2, .cells #[.int .i64 K, .int .i64 X, .int .i64 Y, .int .i64 N] 39 (0, 0)), (g, .cells L 40 (0, 0))] → W.cell? ⟨g2, 0, none⟩ = some (.int .i64 K) ∧ W.cell? ⟨g2, 1, none⟩ = some (.int .i64 X) ∧ W.cell? ⟨g2, 2, none⟩ = some (.int .i64 Y) ∧ W.cell? ⟨g2, 3, none⟩ = some (.int .i64 N) := fun W h => by
            have h2 := h.k _ List.mem_cons_self
            exact ⟨cell_of_row _ g2 0 _ 39 (0, 0) h2, cell_of_row _ g2 1 _ 39 (0, 0) h2, cell_of_row _ g2 2 _ 39 (0, 0) h2, cell_of_row _ g2 3 _ 39 (0, 0) h2⟩
          obtain ⟨c0, c1, c2, c3⟩ := hcl _ K2'
          have HCL := Lib.hid hcl
          clear K2' hcl
          go_wp2_with fail
          (with_reducible refine (HJN.out _).mono ?_)
          rintro e V7 ⟨rfl, hb⟩
          have HK7 := Lib.hid (HK6.out.step hb)
          clear hb HJN HK6 c0 c1 c2 c3
          obtain ⟨c0, c1, c2, c3⟩ := HCL.out _ HK7.out
          clear HCL
          go_upto_region 12 with fail
          rcases HCASE.out with ⟨rfl, rfl, n1, n2, n3, rfl, hj20⟩ | ⟨rfl, rfl, hbad⟩
          · have HJ20 := Lib.hid hj20
            have HR2' := Lib.hid (HR2.out rfl)
            clear hj20 HCASE HR2
            go_cut [23, 24, 25] from 90 to 121 (fun s23 s24 s25 wx => s23 = .int .i64 J ∧ s24 = .int .i64 0 ∧ s25 = .bool true ∧ V7 = wx)
            case first =>
              clear HJ20
              by_cases hN : 0 < N
              · clear n3
                go_wp2_with (first
                | (go_at_call 15; (with_reducible refine (HR1.out _).mono ?_); rintro e V8 ⟨rfl, rfl⟩)
                | (go_at_call 15; (with_reducible refine (HR2'.out _).mono ?_); rintro e V8 ⟨rfl, rfl⟩))
                go_meet
                exact ⟨rfl, rfl, rfl, rfl⟩
              · obtain rfl : Y = 0 := by omega
                clear n3
                go_wp2_with (first
                | (go_at_call 15; (with_reducible refine (HR1.out _).mono ?_); rintro e V8 ⟨rfl, rfl⟩)
                | (go_at_call 15; (with_reducible refine (HR2'.out _).mono ?_); rintro e V8 ⟨rfl, rfl⟩))
                go_meet
                exact ⟨rfl, rfl, rfl, rfl⟩
            case rest =>
              obtain ⟨rfl, rfl, rfl, rfl⟩ := hcut
              have HK8 : Hid (Wk w V7 [(g, .cells L 40 (0, 0))]) := Lib.hid ⟨HK7.out.b, fun x hx => HK7.out.k x (List.mem_cons_of_mem _ hx)⟩
              clear HK7 HR1 HR2'
              by_cases hN2 : N ≤ 2000
              · have HJ21 := Lib.hid (HJ20.out hN2)
                clear HJ20
                go_wp2_with (go_at_call 20; (with_reducible refine (HJ21.out _).mono ?_); rintro e V8 ⟨rfl, rfl⟩)
                go_roundw
                case rel => exact ⟨j + 1, by omega, by go_num, HK8⟩
                case measure => simp [intOf]; omega
              · clear HJ20
                go_wp2
                go_roundw
                case rel => exact ⟨j + 1, by omega, by go_num, HK8⟩
                case measure => simp [intOf]; omega
          · have HBAD := Lib.hid hbad
            clear hbad HCASE
            go_cut [23, 24, 25] from 90 to 121 (fun s23 s24 s25 wx => s23 = .int .i64 0 ∧ s24 = .int .i64 2 ∧ s25 = .bool false ∧ V7 = wx)
            case first =>
              rcases HBAD.out with rfl | ⟨rfl, rfl⟩ | ⟨rfl, rfl, hN⟩
              · clear HBAD HR2
                go_wp2_with (go_at_call 15; (with_reducible refine (HR1.out _).mono ?_); rintro e V8 ⟨rfl, rfl⟩)
                go_meet
                exact ⟨rfl, rfl, rfl, rfl⟩
              · have HR2' := Lib.hid (HR2.out rfl)
                clear HBAD HR2
                go_wp2_with (first
                | (go_at_call 15; (with_reducible refine (HR1.out _).mono ?_); rintro e V8 ⟨rfl, rfl⟩)
                | (go_at_call 15; (with_reducible refine (HR2'.out _).mono ?_); rintro e V8 ⟨rfl, rfl⟩))
                go_meet
                exact ⟨rfl, rfl, rfl, rfl⟩
              · have HR2' := Lib.hid (HR2.out rfl)
                clear HBAD HR2
                rcases hN with hN | hN | ⟨rfl, hY⟩
                · go_wp2_with (first
                  | (go_at_call 15; (with_reducible refine (HR1.out _).mono ?_); rintro e V8 ⟨rfl, rfl⟩)
                  | (go_at_call 15; (with_reducible refine (HR2'.out _).mono ?_); rintro e V8 ⟨rfl, rfl⟩))
                  go_meet
                  exact ⟨rfl, rfl, rfl, rfl⟩
                · have hN0 : 0 ≤ N := by omega
                  go_wp2_with (first
                  | (go_at_call 15; (with_reducible refine (HR1.out _).mono ?_); rintro e V8 ⟨rfl, rfl⟩)
                  | (go_at_call 15; (with_reducible refine (HR2'.out _).mono ?_); rintro e V8 ⟨rfl, rfl⟩))
                  go_meet
                  exact ⟨rfl, rfl, rfl, rfl⟩
                · have hY2 : (Y == 0) = false := beq_false_of_ne hY
                  go_wp2_with (first
                  | (go_at_call 15; (with_reducible refine (HR1.out _).mono ?_); rintro e V8 ⟨rfl, rfl⟩)
                  | (go_at_call 15; (with_reducible refine (HR2'.out _).mono ?_); rintro e V8 ⟨rfl, rfl⟩))
                  go_meet
                  exact ⟨rfl, rfl, rfl, rfl⟩
            case rest =>
              obtain ⟨rfl, rfl, rfl, rfl⟩ := hcut
              have HK8 : Hid (Wk w V7 [(g, .cells L 40 (0, 0))]) := Lib.hid ⟨HK7.out.b, fun x hx => HK7.out.k x (List.mem_cons_of_mem _ hx)⟩
              clear HK7 HR1 HR2 HBAD
              go_wp2
              go_roundw
              case rel => exact ⟨j + 1, by omega, by go_num, HK8⟩
              case measure => simp [intOf]; omega
        · obtain rfl : j = 4 := by omega
          have hR40 := HK5.out.k _ List.mem_cons_self
          have hc13 : wr.cell? ⟨g, 13, none⟩ = some (.int .i64 (ns : Int)) := (cell_of_row _ g 13 _ 40 (0, 0) hR40).trans HL13.out.1
          have hc14 : wr.cell? ⟨g, 14, none⟩ = some (.int .i64 (nt : Int)) := (cell_of_row _ g 14 _ 40 (0, 0) hR40).trans HL13.out.2
          have HK6 : Hid (Wk w wr []) := Lib.hid ⟨HK5.out.b, fun x hx => absurd hx List.not_mem_nil⟩
          clear hR40 HIX HL HL13 HK5
          go_wp2_with fail
          (with_reducible refine (HJ1.out _).mono ?_)
          rintro e V7 ⟨rfl, hb⟩
          have HK7 := Lib.hid (HK6.out.step hb)
          clear hb HJ1 HK6 hc13 hc14
          go_wp2_with fail
          (with_reducible refine (HRST1.out _).mono ?_)
          rintro e V8 ⟨rfl, hb⟩
          have HK8 := Lib.hid (HK7.out.step hb)
          clear hb HRST1 HK7
          go_wp2
          go_roundw
          case rel => exact ⟨k + 1, by omega, by go_num, HK8⟩
          case measure => simp [intOf]; omega
    · obtain rfl : k = 4 := by omega
      go_wp2
      go_ret
      exact ⟨rfl, HK.out.b⟩
end Go.Proofs.Ytfagfenmampigaa
