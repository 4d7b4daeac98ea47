/- DigestKeys returns true. -/
import Derived.Test.YtfdeegafdaobdaaDoorPX
import Derived.Test.YtfdeegafdaobdaaDoorPB
import Derived.Lib.ConvBytes
namespace Go.Proofs.YtfdeegafdaobdaaDoor
open Go.RowKit Go.ChangeShapes
theorem Oc.other {w : World} {g : Nat} {l : List UInt8} (h : Oc w g l) {a : Addr} (ha : g ≠ a.block) (v : Value) : Oc (w.setCell a v) g l := by
  have hb : (w.setCell a v).heap[g]? = w.heap[g]? := heap_setCell_other w a g v ha
  intro j hj
  obtain ⟨h1, h2⟩ := h j hj
  exact ⟨(World.cell?_of_block (a := ⟨g, j, none⟩) hb).trans h1, (by rw [← h2]; unfold World.frozen?; rw [hb])⟩
theorem Oc.below {w V : World} {g : Nat} {l : List UInt8} (h : Oc w g l) (hb : Below w.heap.size w V) (hg : g < w.heap.size) : Oc V g l := fun j hj =>
  ⟨(hb.cell (p := ⟨g, j, none⟩) hg).trans (h j hj).1, (hb.frozen (p := ⟨g, j, none⟩) hg).trans (h j hj).2⟩
/-- A string's octets in a new row. -/
theorem bytes_made (s : ByteArray) (w : World) : ∃ cap W1, (convert 9 65 (.string s)).run Tryd.prog w = .ok (.slice (some ⟨w.heap.size, 0, none⟩) s.size cap) W1 ∧ Oc W1 w.heap.size s.data.toList ∧ Below w.heap.size w W1 ∧ w.heap.size < W1.heap.size := by
  refine ⟨_, _, Lib.run_convert_string_bytes w 9 65 5 s Tryd.underlying9 Tryd.underlying65 Tryd.underlying5, fun j hj => ⟨Lib.bytesWorld_cell w 5 s j hj, ?_⟩, ?_, by rw [Lib.bytesWorld_size]; omega⟩
  · have hlt : j < (Lib.bytesCells w 5 s).size := by
      have hj' : j < s.data.size := hj
      unfold Lib.bytesCells; rw [Array.size_append, Array.size_map]; omega
    unfold World.frozen?
    dsimp only
    rw [Lib.bytesWorld_at_new]
    dsimp only
    rw [Bool.and_eq_false_iff]
    exact .inl (decide_eq_false (by omega))
  · exact ⟨rfl, rfl, rfl, by rw [Lib.bytesWorld_size]; omega, fun k hk => Lib.bytesWorld_at_old w 5 s k hk⟩
/-- What a walk carries beside the row of octets that is read at last. -/
structure Wo (w W : World) (g : Nat) (l : List UInt8) : Prop where
  k : Wk w W []
  o : Oc W g l
  z : g < W.heap.size
theorem Wo.step {w W V : World} {g : Nat} {l : List UInt8} (h : Wo w W g l) (hb : Below W.heap.size W V) : Wo w V g l := ⟨h.k.step hb, h.o.below hb h.z, Nat.lt_of_lt_of_le h.z hb.size⟩
theorem Wo.cell1 {w W V : World} {g : Nat} {l : List UInt8} {x : Value} {t : TypeId} (h : Wo w W g l) (hb : Below (W.alloc (.cells #[x] t)).heap.size (W.alloc (.cells #[x] t)) V) : Wo w V g l ∧ V.cell? ⟨W.heap.size, 0, none⟩ = some x :=
  ⟨h.step (pstep hb).2, (pstep hb).1⟩
theorem Wo.alloc {w W : World} {g : Nat} {l : List UInt8} (h : Wo w W g l) (o : Obj) : Wo w (W.alloc o) g l := h.step ((Below.refl _ W).alloc (Nat.le_refl _) o)
theorem Wo.drew {w W : World} {g : Nat} {l : List UInt8} (h : Wo w W g l) : Wo w W.drew g l := h.step ((Below.refl _ W).drew)
theorem Wo.conv {w W : World} {g : Nat} {l : List UInt8} (h : Wo w W g l) (cap : Nat) (hl : l.length = 64) : (convert 65 9 (.slice (some ⟨g, 0, none⟩) 64 cap)).run Tryd.prog W = .ok (.string (bs l)) W := by
  have := run_convert_bytes_back (P := Tryd.prog) W 65 9 5 ⟨g, 0, none⟩ cap l Tryd.underlying65 Tryd.underlying5 Tryd.underlying9 fun j hj => by
    have hadd : (⟨g, 0, none⟩ : Addr).add j = ⟨g, j, none⟩ := by unfold Addr.add; split <;> simp_all
    rw [hadd, (h.o j hj).1, List.getD_eq_getElem?_getD, List.getElem?_eq_getElem hj]
    rfl
  rw [hl] at this
  exact this
theorem bytes_made64 (s : ByteArray) (l : List UInt8) (hl : l.length = 64) (hs : s = bs l) (w : World) : ∃ cap W1, (convert 9 65 (.string s)).run Tryd.prog w = .ok (.slice (some ⟨w.heap.size, 0, none⟩) 64 cap) W1 ∧ Oc W1 w.heap.size l ∧ Below w.heap.size w W1 ∧ w.heap.size < W1.heap.size := by
  subst hs
  obtain ⟨cap, W1, h1, h2, h3, h4⟩ := bytes_made (bs l) w
  rw [bs_size, hl] at h1
  exact ⟨cap, W1, h1, h2, h3, h4⟩
set_option maxRecDepth 1000000 in
set_option maxHeartbeats 8000000 in
theorem keys_true (s t : ByteArray) (n : Nat) (w : World) (hD : Digits w) (hs : s.size ≤ maxLen) (ht : t.size ≤ maxLen) (hn : n ≤ 255) :
    Calls Tryd.prog 7 #[.string s, .string t, .int .u8 n] w fun e w' => e = .returned (.bool true) ∧ Below w.heap.size w w' := by
  have K0 := Wk.start hD
  unfold maxLen at hs ht
  obtain ⟨z, hz, hz1⟩ := cut_list s 300
  obtain ⟨y, hy, hy1⟩ := cut_list t 300
  obtain ⟨sh, hsh⟩ : ∃ sh, (if 64 < z.length then sumB z else z) = sh := ⟨_, rfl⟩
  have hl64 : sh.length ≤ 64 := by
    rw [← hsh]; split
    · rw [sumB_length]; decide
    · omega
  have hmac : macB z y = macS sh y := by
    rw [← hsh]; split
    · exact macB_long _ _ (by assumption)
    · exact macB_short _ _ (by omega)
  obtain ⟨M, hM⟩ : ∃ M, macS sh y = M := ⟨_, rfl⟩
  obtain ⟨S, hS⟩ : ∃ S, sumB z = S := ⟨_, rfl⟩
  obtain ⟨j, hj⟩ : ∃ j, n % (65 - sh.length) = j := ⟨_, rfl⟩
  have hj1 : sh.length + j ≤ 64 := by have := Nat.mod_lt n (show 0 < 65 - sh.length by omega); omega
  have hjm : (n : Int) % (65 - ((bs sh).size : Int)) = (j : Int) := by
    rw [← hj, Int.natCast_emod, bs_size]; congr 1; omega
  obtain ⟨I, hI⟩ : ∃ I, sumB (padK sh 54 ++ y) = I := ⟨_, rfl⟩
  have hMl : M.length = 32 := by rw [← hM, macS_sum]; exact sumB_length _
  have hIl : I.length = 32 := by rw [← hI]; exact sumB_length _
  have p54 : (padK sh 54).length = 64 := padK_length _ _ hl64
  have p92 : (padK sh 92).length = 64 := padK_length _ _ hl64
  have c1 : ∀ w, Calls Tryd.prog 18 #[.string (bs z), .string (bs y)] w fun e w' => e = .returned (.tuple #[.string (bs M), .int .i64 0]) ∧ Below w.heap.size w w' := fun w => by
    rw [← hM, ← hmac]; exact mac_ok z y w (by omega) (by omega)
  have c2 : ∀ w, Calls Tryd.prog 15 #[.string (bs z)] w fun e w' => e = .returned (.tuple #[.string (bs S), .int .i64 0]) ∧ Below w.heap.size w w' := fun w => by
    rw [← hS]; exact sum_ok z w (by omega)
  have c3 : ∀ w, Calls Tryd.prog 18 #[.string (bs sh), .string (bs y)] w fun e w' => e = .returned (.tuple #[.string (bs M), .int .i64 0]) ∧ Below w.heap.size w w' := fun w => by
    rw [← hM, ← macB_short _ _ hl64]; exact mac_ok sh y w (by omega) (by omega)
  have c4 : ∀ w, Calls Tryd.prog 18 #[.string (bs sh ++ rp 0 j), .string (bs y)] w fun e w' => e = .returned (.tuple #[.string (bs M), .int .i64 0]) ∧ Below w.heap.size w w' := fun w => by
    have hlz : (sh ++ List.replicate j 0).length ≤ 64 := by simpa using hj1
    unfold rp
    rw [bs_append, ← hM, ← macS_zeros sh y j hj1, ← macB_short _ _ hlz]; exact mac_ok _ y w (by omega) (by omega)
  have c5 : ∀ w, Calls Tryd.prog 15 #[.string (bs (padK sh 54) ++ bs y)] w fun e w' => e = .returned (.tuple #[.string (bs I), .int .i64 0]) ∧ Below w.heap.size w w' := fun w => by
    rw [bs_append, ← hI]; exact sum_ok _ w (by simp; omega)
  have c6 : ∀ w, Calls Tryd.prog 15 #[.string (bs (padK sh 92) ++ bs I)] w fun e w' => e = .returned (.tuple #[.string (bs M), .int .i64 0]) ∧ Below w.heap.size w w' := fun w => by
    rw [bs_append, ← hM, macS_sum, hI]; exact sum_ok _ w (by simp; omega)
  have c7 : ∀ w, Calls Tryd.prog 20 #[.string ⟨#[0]⟩, .int .i64 (j : Int)] w fun e w' => e = .returned (.string (rp 0 j)) ∧ Below w.heap.size w w' := fun w => kRep 0 j j w rfl (by omega)
  have c8 : ∀ w, Calls Tryd.prog 20 #[.string ⟨#[0]⟩, .int .i64 (64 - ((bs sh).size : Int))] w fun e w' => e = .returned (.string (rp 0 (64 - sh.length))) ∧ Below w.heap.size w w' := fun w => kRep 0 (64 - sh.length) _ w (by rw [bs_size]; omega) (by omega)
  have lz : (bs z).size ≤ 300 := hz1
  have ly : (bs y).size ≤ 300 := hy1
  have lsh : (bs sh).size ≤ 64 := hl64
  have lM : (bs M).size ≤ 32 := by rw [bs_size]; omega
  have lI : (bs I).size ≤ 32 := by rw [bs_size]; omega
  have lp1 : (bs (padK sh 54)).size ≤ 64 := by rw [bs_size]; omega
  have lp2 : (bs (padK sh 92)).size ≤ 64 := by rw [bs_size]; omega
  have lr1 : (rp 0 j).size ≤ 64 := by rw [rp_size]; omega
  have lr2 : (rp 0 (64 - sh.length)).size ≤ 64 := by rw [rp_size]; omega
  have t1 : (((bs M).size : Int) != 32) = false := by rw [bs_size, hMl]; rfl
  have HQL : Hid ((sh ++ List.replicate (64 - sh.length) 0).length = 64) := Lib.hid (by rw [List.length_append, List.length_replicate]; omega)
  have HP54 : Hid (padK sh 54 = chg (sh ++ List.replicate (64 - sh.length) 0) 54 64) := Lib.hid (by rw [chg_all _ 54 64 HQL.out, padK])
  have HP92 : Hid (padK sh 92 = chg (sh ++ List.replicate (64 - sh.length) 0) 92 64) := Lib.hid (by rw [chg_all _ 92 64 HQL.out, padK])
  have C1 := Lib.hid c1
  have C2 := Lib.hid c2
  have C3 := Lib.hid c3
  have C4 := Lib.hid c4
  have C5 := Lib.hid c5
  have C6 := Lib.hid c6
  have C7 := Lib.hid c7
  have C8 := Lib.hid c8
  have HZ := Lib.hid (And.intro hz hy)
  have HD := Lib.hid hD
  have HSH := Lib.hid hsh
  have HS := Lib.hid hS
  clear hD c1 c2 c3 c4 c5 c6 c7 c8 hz hy hM hS hj hI hmac hsh hz1 hy1 hMl hIl p54 p92
  go_enter Tryd.func7, Tryd.ntmps7
  go_wp2_with fail
  refine (works_true _ K0.d).mono ?_
  rintro e W1 ⟨rfl, h1⟩
  have K1 := K0.step h1
  clear h1 K0
  go_upto_region 3 with fail
  go_quiet ((fail))
  have HZ1 := HZ.out.1
  have HZ2 := HZ.out.2
  have K2 : Wk w (W1.drewN nq) [] := K1.drewN nq
  rw [show ((300 : Nat) : Int) = 300 from rfl] at HZ1 HZ2
  rw [HZ1, HZ2]
  clear HZ1 HZ2 K1
  generalize W1.drewN nq = W2 at K2 ⊢
  go_wp2_with fail
  (with_reducible refine (C1.out _).mono ?_)
  rintro e W3 ⟨rfl, hb⟩
  have K3 := K2.step hb
  clear hb K2
  go_wp2_with fail
  (with_reducible refine (C2.out _).mono ?_)
  rintro e W4 ⟨rfl, hb⟩
  have K4 := K3.step hb
  clear hb K3
  go_upto_region 9 with fail
  go_upto_if 55 with (fail)
  go_cut [11] (fun s11 wx => s11 = .string (bs sh) ∧ wx = W4)
  case first =>
    by_cases h : 64 < z.length
    · have tt : decide ((64 : Int) < ((bs z).size : Int)) = true := decide_eq_true (by rw [bs_size]; omega)
      have tt2 : 64 < (bs z).size := by rw [bs_size]; omega
      have HE : Hid (S = sh) := Lib.hid (by rw [← HS.out, ← HSH.out, if_pos h])
      clear h
      go_wp2
      go_meet
      exact ⟨by rw [HE.out], rfl⟩
    · have tt : decide ((64 : Int) < ((bs z).size : Int)) = false := decide_eq_false (by rw [bs_size]; omega)
      have tt2 : (bs z).size ≤ 64 := by rw [bs_size]; omega
      have HE : Hid (z = sh) := Lib.hid (by rw [← HSH.out, if_neg h])
      clear h
      go_wp2
      go_meet
      exact ⟨by rw [HE.out], rfl⟩
  case rest =>
    obtain ⟨rfl, rfl⟩ := hcut
    go_wp2_with fail
    (with_reducible refine (C7.out _).mono ?_)
    rintro e W5 ⟨rfl, hb⟩
    have K5 := K4.step hb
    clear hb K4
    go_wp2_with fail
    (with_reducible refine (C8.out _).mono ?_)
    rintro e W6 ⟨rfl, hb⟩
    have K6 := K5.step hb
    clear hb K5
    obtain ⟨cap1, W7, hrun1, hO1, hb7, hz7⟩ := bytes_made64 (bs sh ++ rp 0 (64 - sh.length)) _ HQL.out (by unfold rp; rw [bs_append]) W6
    have K7 := K6.step hb7
    go_wp2_with fail
    (with_reducible refine (C8.out _).mono ?_)
    rintro e W8 ⟨rfl, hb⟩
    have K8 := K7.step hb
    have hO2 := hO1.below hb hz7
    have hz8 := Nat.lt_of_lt_of_le hz7 hb.size
    clear hb K7 hrun1 hO1 hb7
    obtain ⟨cap2, W9, hrun2, hO3, hb9, hz9⟩ := bytes_made64 (bs sh ++ rp 0 (64 - sh.length)) _ HQL.out (by unfold rp; rw [bs_append]) W8
    have K9 := K8.step hb9
    have hO4 := hO2.below hb9 hz8
    have hg1 := K6.b.size
    have hg2 := K8.b.size
    clear hO2 hz7 hz9 hb9 K8 K6
    go_wp2
    clear hrun2
    obtain ⟨ql, hql⟩ : ∃ ql, sh ++ List.replicate (64 - sh.length) 0 = ql := ⟨_, rfl⟩
    rw [hql] at HQL HP54 HP92 hO3 hO4
    have HO1 := Lib.hid hO4
    have HO2 := Lib.hid hO3
    have HB0 := Lib.hid K9.b
    have hg3 : W6.heap.size < W8.heap.size := hz8
    clear hO3 hO4 hql hz8 K9
    obtain ⟨g1, h1⟩ : ∃ g1, W6.heap.size = g1 := ⟨_, rfl⟩
    obtain ⟨g2, h2⟩ : ∃ g2, W8.heap.size = g2 := ⟨_, rfl⟩
    rw [h1] at hg1 hg3 HO1 ⊢
    rw [h2] at hg2 hg3 HO2 ⊢
    clear h1 h2
    have hg4 : g1 ≠ g2 := Nat.ne_of_lt hg3
    have hxr := u8_xor
    go_loopw [82] (fun i wr => ∃ k : Nat, k ≤ 64 ∧ i = .int .i64 k ∧ Hid (Oc wr g1 (chg ql 54 k)) ∧ Hid (Oc wr g2 (chg ql 92 k)) ∧ Below w.heap.size w wr) (fun i _ => 64 - (intOf i).toNat)
    case atStart => exact ⟨0, Nat.zero_le _, rfl, HO1, HO2, HB0.out⟩
    case round =>
      obtain ⟨k, hk, rfl, HC1, HC2, hBr⟩ := hrel
      by_cases hlt : k < 64
      · obtain ⟨c0, f0⟩ := HC1.out k (by rw [chg_length _ _ _ (by rw [HQL.out]; exact hk), HQL.out]; exact hlt)
        obtain ⟨d0, e0⟩ := HC2.out k (by rw [chg_length _ _ _ (by rw [HQL.out]; exact hk), HQL.out]; exact hlt)
        have hs1 := HC1.out.set k ((chg ql 54 k).getD k 0 ^^^ 54)
        rw [chg_step ql 54 k (by rw [HQL.out]; exact hlt)] at hs1
        have hs2 := (HC2.out.other (a := ⟨g1, k, none⟩) (Ne.symm hg4) (by8 ((chg ql 54 k).getD k 0 ^^^ 54))).set k ((chg ql 92 k).getD k 0 ^^^ 92)
        rw [chg_step ql 92 k (by rw [HQL.out]; exact hlt)] at hs2
        have hs1' := hs1.other (a := ⟨g2, k, none⟩) hg4 (by8 ((chg ql 92 k).getD k 0 ^^^ 92))
        have hx : bits .xor .u8 (((chg ql 54 k).getD k 0).toNat : Int) 54 = ((((chg ql 54 k).getD k 0) ^^^ 54).toNat : Int) := u8_xor ((chg ql 54 k).getD k 0) 54
        have hy : bits .xor .u8 (((chg ql 92 k).getD k 0).toNat : Int) 92 = ((((chg ql 92 k).getD k 0) ^^^ 92).toNat : Int) := u8_xor ((chg ql 92 k).getD k 0) 92
        obtain ⟨x, hxe⟩ : ∃ x, (chg ql 54 k).getD k 0 = x := ⟨_, rfl⟩
        obtain ⟨y', hye⟩ : ∃ x, (chg ql 92 k).getD k 0 = x := ⟨_, rfl⟩
        rw [hxe] at c0 hs1' hx hs2
        rw [hye] at d0 hs1' hy hs2
        have HS1 := Lib.hid hs1'
        have HS2 := Lib.hid hs2
        clear hs1 hs2 hs1' hxe hye hxr
        go_wp2
        go_roundw
        case rel => exact ⟨k + 1, by omega, by go_num, HS1, HS2, (hBr.setCell (by omega) _).setCell (by omega) _⟩
        case measure => simp [intOf]; omega
      · obtain rfl : k = 64 := by omega
        have hlen : (chg ql 54 64).length = 64 := by rw [chg_length _ _ _ (by rw [HQL.out]; exact Nat.le_refl _), HQL.out]
        have hcv : (convert 65 9 (.slice (some ⟨g1, 0, none⟩) 64 cap1)).run Tryd.prog wr = .ok (.string (bs (chg ql 54 64))) wr := by
          have := run_convert_bytes_back (P := Tryd.prog) wr 65 9 5 ⟨g1, 0, none⟩ cap1 (chg ql 54 64) Tryd.underlying65 Tryd.underlying5 Tryd.underlying9 fun j hj => by
            have hadd : (⟨g1, 0, none⟩ : Addr).add j = ⟨g1, j, none⟩ := by unfold Addr.add; split <;> simp_all
            rw [hadd, (HC1.out j hj).1, List.getD_eq_getElem?_getD, List.getElem?_eq_getElem hj]
            rfl
          rw [hlen] at this
          exact this
        rw [← HP54.out] at hcv
        have hO2 : Oc wr g2 (padK sh 92) := by rw [HP92.out]; exact HC2.out
        have hgz : g2 < wr.heap.size := by
          have h0 := hO2 0 (by rw [HP92.out, chg_length _ _ _ (by rw [HQL.out]; exact Nat.le_refl _), HQL.out]; decide)
          exact World.block_lt_of_cell? wr ⟨g2, 0, none⟩ h0.1
        have K10 : Wk w wr [] := ⟨hBr, HD.out.below hBr, fun _ h => absurd h List.not_mem_nil⟩
        have h92 : (padK sh 92).length = 64 := by rw [HP92.out, chg_length _ _ _ (by rw [HQL.out]; exact Nat.le_refl _), HQL.out]
        have H92 := Lib.hid h92
        clear hlen hxr HC1 HC2 hBr h92
        have O1 : Wo w wr g2 (padK sh 92) := ⟨K10, hO2, hgz⟩
        clear hO2 K10
        go_wp2_with fail
        (with_reducible refine (C5.out _).mono ?_)
        rintro e W11 ⟨rfl, hb⟩
        have O2 := O1.step hb
        clear hb O1 hcv
        have hcv := O2.conv cap2 H92.out
        go_wp2_with fail
        have hcat : ¬ 9223372036854775807 < (bs (padK sh 92)).size + (bs I).size := by omega
        go_region_held3 (fun w' => (convert 65 9 (.slice (some ⟨g2, 0, none⟩) 64 cap2)).run Tryd.prog w' = .ok (.string (bs (padK sh 92))) w')
          (first | exact Wo.conv (by assumption) cap2 H92.out | exact Wo.conv (Wo.alloc (by assumption) _) cap2 H92.out | exact Wo.conv (Wo.drew (Wo.alloc (by assumption) _)) cap2 H92.out | exact Wo.conv (Wo.drew (by assumption)) cap2 H92.out)
          (first
            | (go_at_call 30; (with_reducible refine (same_any _ _).mono ?_); rintro e X ⟨rfl, rfl⟩)
            | (go_at_call 18; (first | (with_reducible refine (C3.out _).mono ?_) | (with_reducible refine (C4.out _).mono ?_)); rintro e V ⟨rfl, hb⟩; (repeat (with_reducible replace hb := bel_of_drew hb)); with_reducible obtain ⟨O, hp⟩ := Wo.cell1 (by assumption) hb; clear hb)
            | (go_at_call 15; (with_reducible refine (C6.out _).mono ?_); rintro e V ⟨rfl, hb⟩; (repeat (with_reducible replace hb := bel_of_drew hb)); with_reducible obtain ⟨O, hp⟩ := Wo.cell1 (by assumption) hb; clear hb)
            | (go_at_call 53; (with_reducible refine (same1_yes _ _ _ (by assumption)).mono ?_); rintro e V ⟨rfl, rfl⟩))
        all_goals go_wp2
        all_goals go_ret
        all_goals exact ⟨rfl, Wk.b (Wo.k (by assumption))⟩
end Go.Proofs.YtfdeegafdaobdaaDoor
