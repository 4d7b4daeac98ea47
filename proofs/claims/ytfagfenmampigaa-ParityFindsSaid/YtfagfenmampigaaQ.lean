/- The walk of ParityFinds. -/
import Derived.Test.YtfagfenmampigaaP
namespace Go.Proofs.Ytfagfenmampigaa
open Go.RowKit Go.ChangeShapes
/-- At most 100 octets. -/
def c100 (r : List UInt8) : List UInt8 := r.take 100
/-- The first k rows are cut. -/
def ctK (raw : List (List UInt8)) (k : Nat) : List (List UInt8) := (raw.take k).map c100 ++ raw.drop k
theorem ctK_length (raw : List (List UInt8)) (k : Nat) : (ctK raw k).length = raw.length := by simp [ctK]; omega
theorem ctK_zero (raw : List (List UInt8)) : ctK raw 0 = raw := by simp [ctK]
theorem ctK_all (raw : List (List UInt8)) : ctK raw raw.length = raw.map c100 := by simp [ctK]
theorem ctK_getD (raw : List (List UInt8)) (k : Nat) (h : k < raw.length) : (ctK raw k).getD k [] = raw.getD k [] := by
  have e : ((raw.take k).map c100).length = k := by simp; omega
  rw [ctK, List.getD_eq_getElem?_getD, List.getElem?_append_right (by omega), e, Nat.sub_self, List.getElem?_drop, Nat.add_zero, List.getD_eq_getElem?_getD]
theorem ctK_set (raw : List (List UInt8)) (k : Nat) (h : k < raw.length) : (stC (ctK raw k)).set k (.string (bs (c100 (raw.getD k [])))) = stC (ctK raw (k + 1)) := by
  have e : ((raw.take k).map c100).length = k := by simp; omega
  rw [stC, ← List.map_set (f := fun r => Value.string (bs r)), ctK, List.set_append_right _ _ (by omega), e, Nat.sub_self, List.drop_eq_getElem_cons h, List.set_cons_zero, ctK, stC, List.take_succ_eq_append_getElem h]
  simp only [List.map_append, List.map_cons, List.map_nil, List.append_assoc, List.cons_append, List.nil_append, List.getD_eq_getElem?_getD, List.getElem?_eq_getElem h, Option.getD_some]
theorem c100_bs (r : List UInt8) : (bs r).extract 0 (min ((bs r).size : Int) 100).toNat = bs (c100 r) := by
  apply ByteArray.ext
  apply Array.toList_inj.1
  rw [bs_size]
  simp only [c100, bs, ByteArray.data_extract, Array.toList_extract, List.extract, List.drop_zero, Nat.sub_zero]
  rw [show (min (r.length : Int) 100).toNat = min 100 r.length by omega]
  rw [← List.take_take, List.take_length]
set_option maxRecDepth 1000000 in
set_option maxHeartbeats 8000000 in
theorem finds_true (A : Option Addr) (len cap : Nat) (ss : List (List UInt8)) (at_ : Nat) (w : World) (hlen : ss.length = len) (hlc : len ≤ cap) (hcap : cap ≤ maxLen) (hat : at_ < 256) (h0 : A = none → cap = 0)
    (hA : ∀ k, k < len → ∃ b off, A = some ⟨b, off, none⟩ ∧ b < w.heap.size ∧ w.cell? ⟨b, off + k, none⟩ = some (.string (bs (ss.getD k []))) ∧ (ss.getD k []).length ≤ 9223372036854775807) :
    Calls Try.prog 8 #[.slice A len cap, .int .u8 (at_ : Int)] w fun e w' => e = .returned (.bool true) ∧ Below w.heap.size w w' := by
  have K0 : Wk w w [] := Wk.start
  unfold maxLen at hcap
  have hsl := slice_min20 A len cap hlc
  obtain ⟨q, hq⟩ : ∃ q, min len 20 = q := ⟨_, rfl⟩
  rw [hq] at hsl
  have hq20 : q ≤ 20 := by omega
  have hql : q ≤ len := by omega
  have HA := Lib.hid hA
  have HLS : (ss.take q).length = q := by rw [List.length_take]; omega
  clear hA hq
  go_enter Try.func8, Try.ntmps8
  go_upto_region 3 with (first
    | (go_at_call 10; (with_reducible refine (works_true _).mono ?_); rintro e V ⟨rfl, hb⟩; with_reducible replace K0 := Wk.step K0 hb; clear hb))
  have hO0 : (V.alloc (.cells #[] 9)).ownsRow V.heap.size 9 1 (.slice (some ⟨V.heap.size, 0, none⟩) 0 0) 0 (stC []) := World.ownsRow_lit V #[] 0 (Nat.le_refl _) (by decide) rfl
  have hB0 : Below V.heap.size V (V.alloc (.cells #[] 9)) := (Below.refl _ V).alloc (Nat.le_refl _) _
  have hR0 : ∀ i, i < q → ∃ g o, A = some ⟨g, o, none⟩ ∧ (V.alloc (.cells #[] 9)).cell? ⟨g, o + i, none⟩ = some (.string (bs ((ss.take q).getD i []))) := fun i hi => by
    obtain ⟨b, off, e, hb, hc, _⟩ := HA.out i (by omega)
    refine ⟨b, off, e, ?_⟩
    rw [List.getD_eq_getElem?_getD, List.getElem?_take_of_lt hi, ← List.getD_eq_getElem?_getD]
    exact ((bstep K0.b hB0).cell (p := ⟨b, off + i, none⟩) hb).trans hc
  have hsq : (ss.take q).length = q := HLS
  have hbs : V.heap.size ≤ (V.alloc (.cells #[] 9)).heap.size := hB0.size
  go_wp2_with (refine wpList_append_rows rfl _ _ rfl V.heap.size _ 0 [] (ss.take q) rfl hO0 A q cap rfl hsq (by omega) (by omega) hbs (fun _ e => h0 e) hR0 ?_; intro v' w' hown hg hsm; obtain ⟨g, cap2, rfl⟩ := own_slice hown (hsm rfl))
  rw [Nat.zero_add] at hown
  rw [List.nil_append] at hown
  have hB1 := grown_below hO0 hg hbs
  have hwb : w.heap.size ≤ V.heap.size := K0.b.size
  have HL : Hid (w'.ownsRow V.heap.size 9 1 (.slice (some ⟨g, 0, none⟩) q cap2) q (stC (ctK (ss.take q) 0)) ∧ Wk w w' [] ∧ w.heap.size ≤ V.heap.size) := Lib.hid ⟨by rw [ctK_zero]; exact hown, ⟨bstep K0.b (hB0.trans hB1), fun _ h => absurd h List.not_mem_nil⟩, hwb⟩
  have HRAW := Lib.hid (And.intro hsq (fun k hk => (show ((ss.take q).getD k []).length ≤ 9223372036854775807 by
    rw [List.getD_eq_getElem?_getD, List.getElem?_take_of_lt hk, ← List.getD_eq_getElem?_getD]
    exact (HA.out k (by omega)).elim fun _ h => h.elim fun _ h => h.2.2.2)))
  generalize ss.take q = raw at HL HRAW
  generalize V.heap.size = base at HL ⊢
  clear hO0 hB0 hR0 hsq hbs hB1 hown hg hsm hwb HLS HA hlen hlc hcap h0 hql K0
  go_wp2
  go_loopw [24] (fun i wr => ∃ k : Nat, k ≤ q ∧ i = .int .i64 (k : Int) ∧ Hid (wr.ownsRow base 9 1 (.slice (some ⟨g, 0, none⟩) q cap2) q (stC (ctK raw k)) ∧ Wk w wr [] ∧ w.heap.size ≤ base)) (fun i _ => q - (intOf i).toNat)
  case atStart => exact ⟨0, by omega, rfl, HL⟩
  case round =>
    clear HL
    obtain ⟨k, hk, rfl, HL⟩ := hrel
    by_cases hlt : k < q
    · obtain ⟨hown, hK, hwb⟩ := HL.out
      have hkl : k < raw.length := by rw [HRAW.out.1]; exact hlt
      have hc := hown.cellAt k (by omega)
      have hf := hown.frozenAt k
      rw [stC_get (by rw [ctK_length]; exact hkl), ctK_getD _ _ hkl] at hc
      have hs := (World.ownsRow.drew hown).stored k (.string (bs (c100 (raw.getD k []))))
      rw [ctK_set _ _ hkl] at hs
      have hb2 := (hK.b.drew).setCell (p := ⟨g, k, none⟩) (Nat.le_trans hwb (hown.lt g rfl).1) (.string (bs (c100 (raw.getD k []))))
      have hsz := HRAW.out.2 k hlt
      have hx := c100_bs (raw.getD k [])
      have HG := Lib.hid (And.intro hs (And.intro hb2 hwb))
      have hss : (bs (raw.getD k [])).size ≤ 9223372036854775807 := by rw [bs_size]; exact hsz
      generalize bs (c100 (raw.getD k [])) = X at hx HG
      generalize bs (raw.getD k []) = S at hc hx hss
      have HF := Lib.hid (And.intro hc hf)
      have HU0 := Lib.hid (show wr.drew.cell? ⟨g, k, none⟩ = some (.string S) from hc)
      have hki : (k : Int) < (q : Int) := by omega
      have hm0 : (0 : Int) ≤ min (S.size : Int) 100 := by omega
      have hm1 : min (S.size : Int) 100 ≤ (S.size : Int) := by omega
      clear hown hK hwb hc hf hs hb2 hsz HL
      go_upto_region 7 with fail
      refine region_anyC (fun _ => True) (fun w' => w'.cell? ⟨g, k, none⟩ = some (.string S)) [14] (by kernel_rfl) ?_
      refine anyC_takeS (i := 0) (oi := ⟨some 27, _, _, _, _, _⟩) (v := _) rfl (by kernel_rfl) (by kernel_rfl) (by kernel_rfl) (by kernel_rfl) (fun _ _ _ h => h) (Or.inl ⟨by rfl, fun w' hw' => (by clear hw'; go_simp; try with_reducible rfl)⟩) trivial (fun _ => HU0.out) ?_
      try simp only [Act.put, List.setIfInBounds_toArray, List.set_cons_zero, List.set_cons_succ]
      refine anyC_takeS (i := 1) (oi := ⟨some 28, _, _, _, _, _⟩) (v := _) rfl (by kernel_rfl) (by kernel_rfl) (by kernel_rfl) (by kernel_rfl) (fun _ _ _ h => h) (Or.inl ⟨by rfl, fun w' hw' => (by clear hw'; go_simp; try with_reducible rfl)⟩) trivial (fun _ => HU0.out) ?_
      try simp only [Act.put, List.setIfInBounds_toArray, List.set_cons_zero, List.set_cons_succ]
      refine anyC_takeS (i := 2) (oi := ⟨some 29, _, _, _, _, _⟩) (v := _) rfl (by kernel_rfl) (by kernel_rfl) (by kernel_rfl) (by kernel_rfl) (fun _ _ _ h => h) (Or.inl ⟨by rfl, fun w' hw' => (by clear hw'; go_simp; try with_reducible rfl)⟩) trivial (fun _ => HU0.out) ?_
      try simp only [Act.put, List.setIfInBounds_toArray, List.set_cons_zero, List.set_cons_succ]
      refine anyC_takeS (i := 3) (oi := ⟨some 30, _, _, _, _, _⟩) (v := _) rfl (by kernel_rfl) (by kernel_rfl) (by kernel_rfl) (by kernel_rfl) (fun _ _ _ h => h) (Or.inl ⟨by rfl, fun w' hw' => (by clear hw'; go_simp; try with_reducible rfl)⟩) trivial (fun _ => HU0.out) ?_
      try simp only [Act.put, List.setIfInBounds_toArray, List.set_cons_zero, List.set_cons_succ]
      refine anyC_takeS (i := 4) (oi := ⟨some 31, _, _, _, _, _⟩) (v := _) rfl (by kernel_rfl) (by kernel_rfl) (by kernel_rfl) (by kernel_rfl) (fun _ _ _ h => h) (Or.inl ⟨by rfl, fun w' hw' => (by clear hw'; go_simp; try with_reducible rfl)⟩) trivial (fun _ => HU0.out) ?_
      try simp only [Act.put, List.setIfInBounds_toArray, List.set_cons_zero, List.set_cons_succ]
      refine anyC_takeU (i := 5) (oi := ⟨some 32, _, _, _, _, _⟩) (v := _) rfl (by kernel_rfl) (by kernel_rfl) (by kernel_rfl) (by kernel_rfl) (fun _ _ _ h => h) (Or.inl ⟨by rfl, fun w' hw' => (by obtain u1 := hw'; go_simp; try with_reducible rfl)⟩) trivial HU0.out ?_
      try simp only [Act.put, List.setIfInBounds_toArray, List.set_cons_zero, List.set_cons_succ]
      refine anyC_takeS (i := 6) (oi := ⟨some 33, _, _, _, _, _⟩) (v := _) rfl (by kernel_rfl) (by kernel_rfl) (by kernel_rfl) (by kernel_rfl) (fun _ _ _ h => h) (Or.inl ⟨by rfl, fun w' hw' => (by clear hw'; go_simp; try with_reducible rfl)⟩) trivial (fun _ => HU0.out) ?_
      try simp only [Act.put, List.setIfInBounds_toArray, List.set_cons_zero, List.set_cons_succ]
      refine anyC_takeS (i := 7) (oi := ⟨some 34, _, _, _, _, _⟩) (v := _) rfl (by kernel_rfl) (by kernel_rfl) (by kernel_rfl) (by kernel_rfl) (fun _ _ _ h => h) (Or.inl ⟨by rfl, fun w' hw' => (by clear hw'; go_simp; try with_reducible rfl)⟩) trivial (fun _ => HU0.out) ?_
      try simp only [Act.put, List.setIfInBounds_toArray, List.set_cons_zero, List.set_cons_succ]
      refine anyC_takeS (i := 8) (oi := ⟨some 35, _, _, _, _, _⟩) (v := _) rfl (by kernel_rfl) (by kernel_rfl) (by kernel_rfl) (by kernel_rfl) (fun _ _ _ h => h) (Or.inl ⟨by rfl, fun w' hw' => (by clear hw'; go_simp; try with_reducible rfl)⟩) trivial (fun _ => HU0.out) ?_
      try simp only [Act.put, List.setIfInBounds_toArray, List.set_cons_zero, List.set_cons_succ]
      refine anyC_takeU (i := 9) (oi := ⟨some 36, _, _, _, _, _⟩) (v := _) rfl (by kernel_rfl) (by kernel_rfl) (by kernel_rfl) (by kernel_rfl) (fun _ _ _ h => h) (Or.inl ⟨by rfl, fun w' hw' => (by obtain u1 := hw'; go_simp; try with_reducible rfl)⟩) trivial HU0.out ?_
      try simp only [Act.put, List.setIfInBounds_toArray, List.set_cons_zero, List.set_cons_succ]
      refine anyC_takeS (i := 10) (oi := ⟨some 37, _, _, _, _, _⟩) (v := _) rfl (by kernel_rfl) (by kernel_rfl) (by kernel_rfl) (by kernel_rfl) (fun _ _ _ h => h) (Or.inl ⟨by rfl, fun w' hw' => (by clear hw'; go_simp; try with_reducible rfl)⟩) trivial (fun _ => HU0.out) ?_
      try simp only [Act.put, List.setIfInBounds_toArray, List.set_cons_zero, List.set_cons_succ]
      refine anyC_takeS (i := 11) (oi := ⟨some 38, _, _, _, _, _⟩) (v := _) rfl (by kernel_rfl) (by kernel_rfl) (by kernel_rfl) (by kernel_rfl) (fun _ _ _ h => h) (Or.inl ⟨by rfl, fun w' hw' => (by clear hw'; go_simp; try with_reducible rfl)⟩) trivial (fun _ => HU0.out) ?_
      try simp only [Act.put, List.setIfInBounds_toArray, List.set_cons_zero, List.set_cons_succ]
      refine anyC_takeS (i := 12) (oi := ⟨some 39, _, _, _, _, _⟩) (v := _) rfl (by kernel_rfl) (by kernel_rfl) (by kernel_rfl) (by kernel_rfl) (fun _ _ _ h => h) (Or.inl ⟨by rfl, fun w' hw' => (by clear hw'; go_simp; try with_reducible rfl)⟩) trivial (fun _ => HU0.out) ?_
      try simp only [Act.put, List.setIfInBounds_toArray, List.set_cons_zero, List.set_cons_succ]
      refine anyC_takeS (i := 13) (oi := ⟨some 40, _, _, _, _, _⟩) (v := _) rfl (by kernel_rfl) (by kernel_rfl) (by kernel_rfl) (by kernel_rfl) (fun _ _ _ h => h) (Or.inl ⟨by rfl, fun w' hw' => (by clear hw'; go_simp; try with_reducible rfl)⟩) trivial (fun _ => HU0.out) ?_
      try simp only [Act.put, List.setIfInBounds_toArray, List.set_cons_zero, List.set_cons_succ]
      refine anyC_keep (i := 14) (o := ⟨none, _, _, _, _, _⟩) (by kernel_rfl) rfl (fun K hK => ?_)
      rw [if_pos (by rfl)]
      obtain ⟨c3, f3⟩ := HF.out
      go_simp
      refine hK.out _ _ ⟨trivial, (fun h => absurd h (by decide))⟩ ?_
      clear hK K
      try simp only [Act.put, List.setIfInBounds_toArray, List.set_cons_zero, List.set_cons_succ]
      refine anyC_done (by kernel_rfl) ?_ _
      go_wp2
      go_roundw
      case rel => exact ⟨k + 1, by omega, by go_num, Lib.hid ⟨HG.out.1.1, ⟨HG.out.2.1, fun _ h => absurd h List.not_mem_nil⟩, HG.out.2.2⟩⟩
      case measure => simp [intOf]; omega
    · obtain rfl : k = q := by omega
      obtain ⟨hown, hK, hwb⟩ := HL.out
      have hal : (ctK raw k) = raw.map c100 := by rw [← HRAW.out.1]; exact ctK_all raw
      rw [hal] at hown
      have hrl : (raw.map c100).length = k := by rw [List.length_map]; exact HRAW.out.1
      have hr1 : ∀ r ∈ raw.map c100, r.length ≤ 100 := fun r hr => by
        obtain ⟨x, _, rfl⟩ := List.mem_map.1 hr
        rw [c100, List.length_take]; omega
      have hrw := own_rw hown hrl
      have hjc := own_cap hown
      have hgl : w.heap.size ≤ g ∧ g < wr.heap.size := ⟨Nat.le_trans hwb (hown.lt g rfl).1, (hown.lt g rfl).2⟩
      generalize raw.map c100 = rows at hrw hrl hr1
      clear hal HL HRAW hown hwb
      have HX := Lib.hid (fun W (h : Rw W (some ⟨g, 0, none⟩) rows) => xor_any (some ⟨g, 0, none⟩) cap2 rows W h (by omega))
      rw [xorRes_yes (by omega) (fun r hr => Nat.le_trans (hr1 r hr) (by decide)), hrl] at HX
      have HR1 := Lib.hid (And.intro hrl hr1)
      have hpl : (bs (paL rows)).size = mxl rows := by rw [bs_size, paL_length]
      have hml := mxl_le hr1
      have HP := Lib.hid (rfl : bs (paL rows) = bs (paL rows))
      obtain ⟨P, hP⟩ : ∃ P, bs (paL rows) = P := ⟨_, rfl⟩
      rw [hP] at HX hpl
      have HPP := Lib.hid hP
      clear hP HP
      have HW := Lib.hid (And.intro hrw (And.intro hK hgl))
      clear hrw hK hgl hrl hr1
      go_wp2_with fail
      (with_reducible refine (HX.out _ HW.out.1).mono ?_)
      rintro e V2 ⟨rfl, hb⟩
      have HW2 : Hid (Rw V2 (some ⟨g, 0, none⟩) rows ∧ Wk w V2 [] ∧ w.heap.size ≤ g ∧ g < V2.heap.size) := Lib.hid ⟨HW.out.1.below hb, Wk.step HW.out.2.1 hb, HW.out.2.2.1, Nat.lt_of_lt_of_le HW.out.2.2.2 hb.size⟩
      clear HW hb
      go_wp2
      go_loopw [8, 51] (fun s8 i wr => ∃ j : Nat, j ≤ k ∧ i = .int .i64 (j : Int) ∧ s8 = .int .i64 ((mxl (rows.take j) : Nat) : Int) ∧ wr = V2) (fun _ i _ => k - (intOf i).toNat)
      case atStart => exact ⟨0, by omega, rfl, rfl, rfl⟩
      case round =>
        obtain ⟨j, hj, rfl, rfl, rfl⟩ := hrel
        by_cases hlt : j < k
        · obtain ⟨g', o, e, hg', hc⟩ := HW2.out.1 j (by have := HR1.out.1; omega)
          cases e
          rw [Nat.zero_add] at hc
          have hmx : mxl (rows.take (j + 1)) = max (mxl (rows.take j)) (rows.getD j []).length := by
            rw [getD_rows (by have := HR1.out.1; omega), mxl_append, mxl_one]
          have hsz : (bs (rows.getD j [])).size = (rows.getD j []).length := bs_size _
          have hm1 : mxl (rows.take j) ≤ 100 := mxl_le fun r hr => HR1.out.2 r (List.mem_of_mem_take hr)
          have hm2 : (rows.getD j []).length ≤ 100 := HR1.out.2 _ (by rw [List.getD_eq_getElem?_getD, List.getElem?_eq_getElem (by have := HR1.out.1; omega)]; exact List.getElem_mem _)
          generalize mxl (rows.take j) = mj at hmx hm1 ⊢
          have HM := Lib.hid hmx
          generalize (rows.getD j []).length = lj at hsz hm2 HM hmx
          generalize bs (rows.getD j []) = S at hc hsz
          have hji : (j : Int) < (k : Int) := by omega
          clear hmx hg'
          go_wp2
          go_roundw
          case rel => exact ⟨j + 1, by omega, by go_num, by rw [HM.out]; congr 1; omega, trivial⟩
          case measure => simp [intOf]; omega
        · obtain rfl : j = k := by omega
          have htk : rows.take j = rows := List.take_of_length_le (by have := HR1.out.1; omega)
          rw [htk]
          have hz0 : List.replicate (mxl rows) 0 = paL (rows ++ [paL rows]) := (paL_self rows).symm
          have HXX := Lib.hid (fun g' c' W (h : Rw W (some ⟨g', 0, none⟩) (rows ++ [paL rows])) => xor_any (some ⟨g', 0, none⟩) c' (rows ++ [paL rows]) W h (by rw [List.length_append, List.length_singleton]; have := HR1.out.1; omega))
          rw [xorRes_yes (by rw [List.length_append, List.length_singleton]; have := HR1.out.1; omega) (fun r hr => by
            rcases List.mem_append.1 hr with h | h
            · exact Nat.le_trans (HR1.out.2 r h) (by decide)
            · rw [List.mem_singleton.1 h, paL_length]; omega), ← hz0, List.length_append, List.length_singleton, HR1.out.1] at HXX
          have HKR := Lib.hid (fun W => kRep 0 (mxl rows) _ W rfl (by omega))
          obtain ⟨M, hM⟩ : ∃ M, mxl rows = M := ⟨_, rfl⟩
          rw [hM] at HXX HKR hpl hml ⊢
          have HMX := Lib.hid hM
          have HXX : Hid (∀ g' c' W, Rw W (some ⟨g', 0, none⟩) (rows ++ [paL rows]) → Calls Try.prog 21 #[.slice (some ⟨g', 0, none⟩) (j + 1) c'] W fun e w' => e = .returned (.tuple #[.string (rp 0 M), .int .i64 0]) ∧ Below W.heap.size W w') := HXX
          obtain ⟨Z, hZ⟩ : ∃ Z, rp 0 M = Z := ⟨_, rfl⟩
          rw [hZ] at HXX HKR
          clear hz0 hZ hM htk HX
          go_wp2_with fail
          (with_reducible refine (HKR.out _).mono ?_)
          rintro e V3 ⟨rfl, hb3⟩
          go_wp2_with fail
          (with_reducible refine (same_any _ _).mono ?_)
          rintro e V4 ⟨rfl, hp, hz, hb4⟩
          have hw4 : Rw V4 (some ⟨g, 0, none⟩) rows := (HW2.out.1.below hb3).below hb4
          have hK4 := Wk.step (Wk.step HW2.out.2.1 hb3) hb4
          have hg4 : g < V4.heap.size := Nat.lt_of_lt_of_le (Nat.lt_of_lt_of_le HW2.out.2.2.2 hb3.size) hb4.size
          have hn4 := new_row V4
          have hw4a := hw4.below (bel_alloc V4 (.cells #[] 9))
          clear hb3 hb4
          generalize V3.heap.size = gp at hp hz ⊢
          have hlp : (rows ++ [paL rows]).length = j + 1 := by rw [List.length_append, List.length_singleton, HR1.out.1]
          go_upto_region 20 with (first
            | (refine wpList_append_rowsG (by rfl) _ _ rfl V4.heap.size _ 0 [] rows rfl hn4 (some ⟨g, 0, none⟩) j cap2 rfl HR1.out.1 (by omega) (by omega) (bel_alloc V4 _).size (fun _ e => by cases e) (hw4a.src HR1.out.1) ?_; intro v5 W5 hown hg hsm; obtain ⟨g5, cap5, rfl⟩ := own_slice hown (hsm rfl); rw [Nat.zero_add, List.nil_append] at hown; have hb45 := (bel_alloc V4 (.cells #[] 9)).trans (grown_below hn4 hg (bel_alloc V4 _).size); have hownB := hown.alloc (.cells #[.string P] 9); have hsrc := one_src W5 (paL rows); rw [HPP.out] at hsrc; have hbsB := Nat.le_trans hb45.size (bel_alloc W5 (.cells #[.string P] 9)).size; have hb4B := hb45.trans ((bel_alloc W5 (.cells #[.string P] 9)).mono hb45.size); clear hg hsm hown hn4 hw4a)
            | (refine wpList_append_rowsG (by rfl) _ _ rfl V4.heap.size _ j rows [paL rows] rfl hownB (some ⟨W5.heap.size, 0, none⟩) 1 1 rfl rfl (by omega) (by decide) hbsB (fun _ e => by cases e) hsrc ?_; intro v6 W6 hown hg hsm; obtain ⟨g6, cap6, rfl⟩ := own_slice hown (hsm rfl); have hb46 := hb4B.trans (grown_below hownB hg hbsB); have hrw6 := own_rw hown hlp; clear hg hsm hown hownB hsrc hbsB hb4B hb45)
            | (go_at_call 21; (with_reducible refine (HXX.out _ _ _ hrw6).mono ?_); rintro e V7 ⟨rfl, hb7⟩; have hb47 := bstep hb46 hb7; clear hb7 hrw6)
            | (go_at_call 44; (with_reducible refine (same1_yes _ _ _ ((hb47.cell (p := ⟨gp, 0, none⟩) hz).trans hp)).mono ?_); rintro e V8 ⟨rfl, rfl⟩))
          have hK7 : Wk w V7 [] := Wk.step hK4 hb47
          have hw7 := hw4.below hb47
          have hg7 : g < V7.heap.size := Nat.lt_of_lt_of_le hg4 hb47.size
          clear hb46 hb47 hp hz hK4 hw4 hg4 HW2 HKR HXX hlp
          by_cases hj0 : j = 0
          · have hj1 : (j : Int) = 0 := by omega
            go_wp2
            go_ret
            exact ⟨rfl, hK7.b⟩
          · have hj1 : (j : Int) ≠ 0 := by omega
            have hj2 : ((j : Int) == 0) = false := beq_false_of_ne hj1
            have hj3 : decide ((j : Int) = 0) = false := decide_eq_false hj1
            go_upto_region 23 with fail
            clear hj1 hj2 hj3
            obtain ⟨x, hx⟩ : ∃ x, at_ % j = x := ⟨_, rfl⟩
            have hxj : x < j := by rw [← hx]; exact Nat.mod_lt _ (by omega)
            have hxi : (at_ : Int) % (j : Int) = (x : Int) := by rw [← hx]; rfl
            generalize ((at_ : Int) % (j : Int)) = xI at hxi ⊢
            subst hxi
            clear hx hsl hat hpl
            have hrl := HR1.out.1
            -- the slices
            obtain ⟨o5, c5, hlo0, ho5⟩ := slice_lo29 g j cap2 (x + 1) (by omega) hjc
            have hlo : ∀ wx : World, (Instr.slice 29 (.slice (some ⟨g, 0, none⟩) j cap2) (some (.int .i64 ((x : Int) + 1))) none none).run Try.prog wx = .ok (.slice (some ⟨g, o5, none⟩) (j - (x + 1)) c5) wx := fun wx => by
              rw [show ((x : Int) + 1) = ((x + 1 : Nat) : Int) by omega]; exact hlo0 wx
            have hhi := slice_hi29 g j cap2 x (by omega)
            have hwx : IntKind.i64.wrap ((x : Int) + 1) = (x : Int) + 1 := IntWalk.i64_in _ (by omega)
            -- the worlds
            have own0 := World.ownsRow_lit (e := 9) (size := 1) V7.drew #[Value.string P] 1 (Nat.le_refl _) (by decide) rfl
            have e0 : (#[Value.string P] : Array Value).toList = stC [paL rows] := by rw [← HPP.out]; rfl
            rw [e0] at own0
            have hba := bel_alloc V7.drew (.cells #[.string P] 9)
            have hwA : Rw (V7.drew.alloc (.cells #[.string P] 9)) (some ⟨g, 0, none⟩) rows := Rw.below (W := V7.drew) hw7 hba
            have hR1 : ∀ i, i < j - (x + 1) → ∃ g' o', (some ⟨g, o5, none⟩ : Option Addr) = some ⟨g', o', none⟩ ∧ (V7.drew.alloc (.cells #[.string P] 9)).cell? ⟨g', o' + i, none⟩ = some (.string (bs ((rows.drop (x + 1)).getD i []))) := fun i hi => by
              obtain ⟨g', o', e, _, hc⟩ := hwA (x + 1 + i) (by omega)
              cases e
              refine ⟨g, o5, rfl, ?_⟩
              rw [ho5 (by omega), List.getD_eq_getElem?_getD, List.getElem?_drop, ← List.getD_eq_getElem?_getD]
              rw [Nat.zero_add] at hc
              exact hc
            obtain ⟨v1, W1, hr1, hown1, hg1, hsm1⟩ := append_rows 29 _ _ _ 1 [paL rows] (rows.drop (x + 1)) own0 (some ⟨g, o5, none⟩) (j - (x + 1)) c5 (by rw [List.length_drop]; omega) (by decide) (by omega) hba.size (fun _ e => by cases e) hR1
            obtain ⟨ga, ca, rfl⟩ := own_slice hown1 (hsm1 rfl)
            have hb1 := hba.trans (grown_below own0 hg1 hba.size)
            have hw1 : Rw W1 (some ⟨g, 0, none⟩) rows := Rw.below (W := V7.drew) hw7 hb1
            have hR2 : ∀ i, i < x → ∃ g' o', (some ⟨g, 0, none⟩ : Option Addr) = some ⟨g', o', none⟩ ∧ W1.cell? ⟨g', o' + i, none⟩ = some (.string (bs ((rows.take x).getD i []))) := fun i hi => by
              obtain ⟨g', o', e, _, hc⟩ := hw1 i (by omega)
              cases e
              refine ⟨g, 0, rfl, ?_⟩
              rw [List.getD_eq_getElem?_getD, List.getElem?_take_of_lt hi, ← List.getD_eq_getElem?_getD]
              exact hc
            obtain ⟨v2, W2, hr2, hown2, hg2, hsm2⟩ := append_rows 29 W1 _ _ _ _ (rows.take x) hown1 (some ⟨g, 0, none⟩) x cap2 (by rw [List.length_take]; omega) (by omega) (by omega) hb1.size (fun _ e => by cases e) hR2
            obtain ⟨gb, cb, rfl⟩ := own_slice hown2 (hsm2 rfl)
            have hb2 := hb1.trans (grown_below hown1 hg2 hb1.size)
            have hw2 : Rw W2 (some ⟨g, 0, none⟩) rows := Rw.below (W := V7.drew) hw7 hb2
            have hnj : 1 + (j - (x + 1)) + x = j := by omega
            rw [hnj] at hown2 hr2
            have hrw2 := own_rw hown2 (by rw [List.length_append, List.length_append, List.length_singleton, List.length_drop, List.length_take]; omega)
            have hK2 : Wk w W2 [] := Wk.step (hK7.drew) hb2
            have hgW2 : g < W2.heap.size := Nat.lt_of_lt_of_le hg7 hb2.size
            obtain ⟨_, _, e1, _, hcx⟩ := hw2 x (by omega)
            cases e1
            rw [Nat.zero_add] at hcx
            have HA1 := Lib.hid hr1
            have HA2 := Lib.hid hr2
            have HT : Hid True := Lib.hid trivial
            have HGS := Lib.hid (And.intro hrw2 (And.intro hK2 hgW2))
            have HCX := Lib.hid hcx
            have hsplit : rows = rows.take x ++ rows.getD x [] :: rows.drop (x + 1) := by
              conv => lhs; rw [← List.take_append_drop x rows, List.drop_eq_getElem_cons (show x < rows.length by omega)]
              rw [List.getD_eq_getElem?_getD, List.getElem?_eq_getElem (show x < rows.length by omega)]; rfl
            have hlost := paL_lost (rows.take x) (rows.drop (x + 1)) (rows.getD x [])
            rw [← hsplit] at hlost
            have hol : ([paL rows] ++ rows.drop (x + 1) ++ rows.take x).length = j := by rw [List.length_append, List.length_append, List.length_singleton, List.length_drop, List.length_take]; omega
            have hrx : (rows.getD x []).length ≤ 100 := HR1.out.2 _ (by rw [List.getD_eq_getElem?_getD, List.getElem?_eq_getElem (show x < rows.length by omega)]; exact List.getElem_mem _)
            have hrm : (rows.getD x []).length ≤ M := by
              rw [← HMX.out]
              exact mxl_mem (by rw [List.getD_eq_getElem?_getD, List.getElem?_eq_getElem (show x < rows.length by omega)]; exact List.getElem_mem _)
            have HXO := Lib.hid (fun W (h : Rw W (some ⟨gb, 0, none⟩) ([paL rows] ++ rows.drop (x + 1) ++ rows.take x)) => xor_any (some ⟨gb, 0, none⟩) cb ([paL rows] ++ rows.drop (x + 1) ++ rows.take x) W h (by rw [hol]; omega))
            rw [xorRes_yes (by rw [hol]; omega) (fun r hr => by
              rcases List.mem_append.1 hr with h | h
              · rcases List.mem_append.1 h with h | h
                · rw [List.mem_singleton.1 h, paL_length, HMX.out]; omega
                · exact Nat.le_trans (HR1.out.2 r (List.mem_of_mem_drop h)) (by decide)
              · exact Nat.le_trans (HR1.out.2 r (List.mem_of_mem_take h)) (by decide)), hlost, hol, bs_append, HMX.out] at HXO
            have HKR2 := Lib.hid (fun W => kRep 0 (M - (rows.getD x []).length) ((M : Int) - ((bs (rows.getD x [])).size : Int)) W (by rw [bs_size]; omega) (by omega))
            have hsI : (bs (rows.getD x [])).size = (rows.getD x []).length := bs_size _
            have hz2s : (rp 0 (M - (rows.getD x []).length)).size ≤ 100 := by rw [rp_size]; omega
            have HXO : Hid (∀ W, Rw W (some ⟨gb, 0, none⟩) ([paL rows] ++ rows.drop (x + 1) ++ rows.take x) → Calls Try.prog 21 #[.slice (some ⟨gb, 0, none⟩) j cb] W fun e w' => e = .returned (.tuple #[.string (bs (rows.getD x []) ++ rp 0 (M - (rows.getD x []).length)), .int .i64 0]) ∧ Below W.heap.size W w') := HXO
            generalize (rows.getD x []).length = lx at HKR2 hsI hz2s HXO hrx hrm
            generalize bs (rows.getD x []) = SI at HKR2 hsI HXO HCX
            generalize rp 0 (M - lx) = Z2 at HKR2 hz2s HXO
            obtain ⟨TT, hTT⟩ : ∃ T, SI ++ Z2 = T := ⟨_, rfl⟩
            rw [hTT] at HXO
            have hwsub : IntKind.i64.wrap ((M : Int) - (SI.size : Int)) = (M : Int) - (SI.size : Int) := IntWalk.i64_in _ (by omega)
            have hszS : SI.size ≤ 100 := by omega
            have hxij : (x : Int) < (j : Int) := by omega
            have hcat : ¬ 9223372036854775807 < SI.size + Z2.size := by omega
            clear hsI
            clear hlo0 ho5 own0 e0 hba hwA hR1 hr1 hown1 hg1 hsm1 hb1 hw1 hR2 hr2 hown2 hg2 hsm2 hb2 hw2 hrw2 hK2 hgW2 hcx hsplit hlost hol hrl hK7 hw7 hg7 hnj HR1 HMX HPP
            refine region_anyC (fun _ => True) (fun w' => True) [] (by kernel_rfl) ?_
            refine anyC_takeS (i := 0) (oi := ⟨some 88, _, _, _, _, _⟩) (v := _) rfl (by kernel_rfl) (by kernel_rfl) (by kernel_rfl) (by kernel_rfl) (fun _ _ _ h => h) (Or.inl ⟨by rfl, fun w' hw' => (by clear hw'; go_simp; try with_reducible rfl)⟩) trivial (fun _ => HT.out) ?_
            try simp only [Act.put, List.setIfInBounds_toArray, List.set_cons_zero, List.set_cons_succ]
            refine anyC_takeS (i := 2) (oi := ⟨some 90, _, _, _, _, _⟩) (v := _) rfl (by kernel_rfl) (by kernel_rfl) (by kernel_rfl) (by kernel_rfl) (fun _ _ _ h => h) (Or.inl ⟨by rfl, fun w' hw' => (by clear hw'; go_simp; try with_reducible rfl)⟩) trivial (fun _ => HT.out) ?_
            try simp only [Act.put, List.setIfInBounds_toArray, List.set_cons_zero, List.set_cons_succ]
            refine anyC_takeS (i := 3) (oi := ⟨some 91, _, _, _, _, _⟩) (v := _) rfl (by kernel_rfl) (by kernel_rfl) (by kernel_rfl) (by kernel_rfl) (fun _ _ _ h => h) (Or.inl ⟨by rfl, fun w' hw' => (by clear hw'; go_simp; try with_reducible rfl)⟩) trivial (fun _ => HT.out) ?_
            try simp only [Act.put, List.setIfInBounds_toArray, List.set_cons_zero, List.set_cons_succ]
            refine anyC_takeS (i := 4) (oi := ⟨some 92, _, _, _, _, _⟩) (v := _) rfl (by kernel_rfl) (by kernel_rfl) (by kernel_rfl) (by kernel_rfl) (fun _ _ _ h => h) (Or.inl ⟨by rfl, fun w' hw' => (by clear hw'; go_simp; try with_reducible rfl)⟩) trivial (fun _ => HT.out) ?_
            try simp only [Act.put, List.setIfInBounds_toArray, List.set_cons_zero, List.set_cons_succ]
            refine anyC_takeS (i := 5) (oi := ⟨some 93, _, _, _, _, _⟩) (v := _) rfl (by kernel_rfl) (by kernel_rfl) (by kernel_rfl) (by kernel_rfl) (fun _ _ _ h => h) (Or.inl ⟨by rfl, fun w' hw' => (by clear hw'; go_simp; try with_reducible rfl)⟩) trivial (fun _ => HT.out) ?_
            try simp only [Act.put, List.setIfInBounds_toArray, List.set_cons_zero, List.set_cons_succ]
            refine anyC_takeS (i := 7) (oi := ⟨some 95, _, _, _, _, _⟩) (v := _) rfl (by kernel_rfl) (by kernel_rfl) (by kernel_rfl) (by kernel_rfl) (fun _ _ _ h => h) (Or.inl ⟨by rfl, fun w' hw' => (by clear hw'; go_simp; try with_reducible rfl)⟩) trivial (fun _ => HT.out) ?_
            try simp only [Act.put, List.setIfInBounds_toArray, List.set_cons_zero, List.set_cons_succ]
            refine anyC_takeS (i := 8) (oi := ⟨some 96, _, _, _, _, _⟩) (v := _) rfl (by kernel_rfl) (by kernel_rfl) (by kernel_rfl) (by kernel_rfl) (fun _ _ _ h => h) (Or.inl ⟨by rfl, fun w' hw' => (by clear hw'; go_simp; try with_reducible rfl)⟩) trivial (fun _ => HT.out) ?_
            try simp only [Act.put, List.setIfInBounds_toArray, List.set_cons_zero, List.set_cons_succ]
            refine anyC_takeS (i := 9) (oi := ⟨some 97, _, _, _, _, _⟩) (v := _) rfl (by kernel_rfl) (by kernel_rfl) (by kernel_rfl) (by kernel_rfl) (fun _ _ _ h => h) (Or.inl ⟨by rfl, fun w' hw' => (by clear hw'; go_simp; try with_reducible rfl)⟩) trivial (fun _ => HT.out) ?_
            try simp only [Act.put, List.setIfInBounds_toArray, List.set_cons_zero, List.set_cons_succ]
            refine anyC_keep (i := 1) (o := ⟨some 89, _, _, _, _, _⟩) (by kernel_rfl) rfl (fun K hK => ?_)
            rw [if_pos (by rfl)]
            go_simp
            refine hK.out _ _ ⟨trivial, (fun _ => HT.out)⟩ ?_
            clear hK K
            try simp only [Act.put, List.setIfInBounds_toArray, List.set_cons_zero, List.set_cons_succ]
            refine anyC_keep (i := 6) (o := ⟨some 94, _, _, _, _, _⟩) (by kernel_rfl) rfl (fun K hK => ?_)
            rw [if_pos (by rfl)]
            refine oper_append (.tmp 89) (.tmp 93) rfl rfl rfl HA1.out ?_
            refine hK.out _ _ ⟨trivial, (fun _ => HT.out)⟩ ?_
            clear hK K
            try simp only [Act.put, List.setIfInBounds_toArray, List.set_cons_zero, List.set_cons_succ]
            refine anyC_keep (i := 10) (o := ⟨some 98, _, _, _, _, _⟩) (by kernel_rfl) rfl (fun K hK => ?_)
            rw [if_pos (by rfl)]
            refine oper_append (.tmp 94) (.tmp 97) rfl rfl rfl HA2.out ?_
            refine hK.out _ _ ⟨trivial, (fun _ => HT.out)⟩ ?_
            clear hK K
            try simp only [Act.put, List.setIfInBounds_toArray, List.set_cons_zero, List.set_cons_succ]
            refine anyC_takeS (i := 11) (oi := ⟨some 12, _, _, _, _, _⟩) (v := _) rfl (by kernel_rfl) (by kernel_rfl) (by kernel_rfl) (by kernel_rfl) (fun _ _ _ h => h) (Or.inl ⟨by rfl, fun w' hw' => (by clear hw'; go_simp; try with_reducible rfl)⟩) trivial (fun _ => HT.out) ?_
            try simp only [Act.put, List.setIfInBounds_toArray, List.set_cons_zero, List.set_cons_succ]
            refine anyC_done (by kernel_rfl) ?_ _
            clear HA1 HA2 hlo hhi
            go_upto_region 24 with fail
            have HU0 : Hid (W2.drew.cell? ⟨g, x, none⟩ = some (.string SI)) := Lib.hid HCX.out
            refine region_anyC (fun _ => True) (fun w' => w'.cell? ⟨g, x, none⟩ = some (.string SI)) [] (by kernel_rfl) ?_
            refine anyC_takeS (i := 0) (oi := ⟨some 99, _, _, _, _, _⟩) (v := _) rfl (by kernel_rfl) (by kernel_rfl) (by kernel_rfl) (by kernel_rfl) (fun _ _ _ h => h) (Or.inl ⟨by rfl, fun w' hw' => (by clear hw'; go_simp; try with_reducible rfl)⟩) trivial (fun _ => HU0.out) ?_
            try simp only [Act.put, List.setIfInBounds_toArray, List.set_cons_zero, List.set_cons_succ]
            refine anyC_takeS (i := 1) (oi := ⟨some 100, _, _, _, _, _⟩) (v := _) rfl (by kernel_rfl) (by kernel_rfl) (by kernel_rfl) (by kernel_rfl) (fun _ _ _ h => h) (Or.inl ⟨by rfl, fun w' hw' => (by clear hw'; go_simp; try with_reducible rfl)⟩) trivial (fun _ => HU0.out) ?_
            try simp only [Act.put, List.setIfInBounds_toArray, List.set_cons_zero, List.set_cons_succ]
            refine anyC_takeS (i := 2) (oi := ⟨some 101, _, _, _, _, _⟩) (v := _) rfl (by kernel_rfl) (by kernel_rfl) (by kernel_rfl) (by kernel_rfl) (fun _ _ _ h => h) (Or.inl ⟨by rfl, fun w' hw' => (by clear hw'; go_simp; try with_reducible rfl)⟩) trivial (fun _ => HU0.out) ?_
            try simp only [Act.put, List.setIfInBounds_toArray, List.set_cons_zero, List.set_cons_succ]
            refine anyC_takeU (i := 3) (oi := ⟨some 102, _, _, _, _, _⟩) (v := _) rfl (by kernel_rfl) (by kernel_rfl) (by kernel_rfl) (by kernel_rfl) (fun _ _ _ h => h) (Or.inl ⟨by rfl, fun w' hw' => (by obtain u1 := hw'; go_simp; try with_reducible rfl)⟩) trivial HU0.out ?_
            try simp only [Act.put, List.setIfInBounds_toArray, List.set_cons_zero, List.set_cons_succ]
            refine anyC_takeS (i := 4) (oi := ⟨some 103, _, _, _, _, _⟩) (v := _) rfl (by kernel_rfl) (by kernel_rfl) (by kernel_rfl) (by kernel_rfl) (fun _ _ _ h => h) (Or.inl ⟨by rfl, fun w' hw' => (by clear hw'; go_simp; try with_reducible rfl)⟩) trivial (fun _ => HU0.out) ?_
            try simp only [Act.put, List.setIfInBounds_toArray, List.set_cons_zero, List.set_cons_succ]
            refine anyC_takeS (i := 5) (oi := ⟨some 104, _, _, _, _, _⟩) (v := _) rfl (by kernel_rfl) (by kernel_rfl) (by kernel_rfl) (by kernel_rfl) (fun _ _ _ h => h) (Or.inl ⟨by rfl, fun w' hw' => (by clear hw'; go_simp; try with_reducible rfl)⟩) trivial (fun _ => HU0.out) ?_
            try simp only [Act.put, List.setIfInBounds_toArray, List.set_cons_zero, List.set_cons_succ]
            refine anyC_takeS (i := 6) (oi := ⟨some 105, _, _, _, _, _⟩) (v := _) rfl (by kernel_rfl) (by kernel_rfl) (by kernel_rfl) (by kernel_rfl) (fun _ _ _ h => h) (Or.inl ⟨by rfl, fun w' hw' => (by clear hw'; go_simp; try with_reducible rfl)⟩) trivial (fun _ => HU0.out) ?_
            try simp only [Act.put, List.setIfInBounds_toArray, List.set_cons_zero, List.set_cons_succ]
            refine anyC_takeS (i := 7) (oi := ⟨some 106, _, _, _, _, _⟩) (v := _) rfl (by kernel_rfl) (by kernel_rfl) (by kernel_rfl) (by kernel_rfl) (fun _ _ _ h => h) (Or.inl ⟨by rfl, fun w' hw' => (by clear hw'; go_simp; try with_reducible rfl)⟩) trivial (fun _ => HU0.out) ?_
            try simp only [Act.put, List.setIfInBounds_toArray, List.set_cons_zero, List.set_cons_succ]
            refine anyC_takeU (i := 8) (oi := ⟨some 107, _, _, _, _, _⟩) (v := _) rfl (by kernel_rfl) (by kernel_rfl) (by kernel_rfl) (by kernel_rfl) (fun _ _ _ h => h) (Or.inl ⟨by rfl, fun w' hw' => (by obtain u1 := hw'; go_simp; try with_reducible rfl)⟩) trivial HU0.out ?_
            try simp only [Act.put, List.setIfInBounds_toArray, List.set_cons_zero, List.set_cons_succ]
            refine anyC_takeS (i := 9) (oi := ⟨some 108, _, _, _, _, _⟩) (v := _) rfl (by kernel_rfl) (by kernel_rfl) (by kernel_rfl) (by kernel_rfl) (fun _ _ _ h => h) (Or.inl ⟨by rfl, fun w' hw' => (by clear hw'; go_simp; try with_reducible rfl)⟩) trivial (fun _ => HU0.out) ?_
            try simp only [Act.put, List.setIfInBounds_toArray, List.set_cons_zero, List.set_cons_succ]
            refine anyC_takeS (i := 10) (oi := ⟨some 109, _, _, _, _, _⟩) (v := _) rfl (by kernel_rfl) (by kernel_rfl) (by kernel_rfl) (by kernel_rfl) (fun _ _ _ h => h) (Or.inl ⟨by rfl, fun w' hw' => (by clear hw'; go_simp; try with_reducible rfl)⟩) trivial (fun _ => HU0.out) ?_
            try simp only [Act.put, List.setIfInBounds_toArray, List.set_cons_zero, List.set_cons_succ]
            refine anyC_takeS (i := 14) (oi := ⟨some 113, _, _, _, _, _⟩) (v := _) rfl (by kernel_rfl) (by kernel_rfl) (by kernel_rfl) (by kernel_rfl) (fun _ _ _ h => h) (Or.inl ⟨by rfl, fun w' hw' => (by clear hw'; go_simp; try with_reducible rfl)⟩) trivial (fun _ => HU0.out) ?_
            try simp only [Act.put, List.setIfInBounds_toArray, List.set_cons_zero, List.set_cons_succ]
            refine anyC_keep (i := 11) (o := ⟨some 110, _, _, _, _, _⟩) (by kernel_rfl) rfl (fun K hK => ?_)
            rw [if_pos (by rfl)]
            go_wp2_with fail
            (with_reducible refine (HKR2.out _).mono ?_)
            rintro e Y1 ⟨rfl, hb1⟩
            have HU1 := Lib.hid ((hb1.cell (p := ⟨g, x, none⟩) HGS.out.2.2).trans HU0.out)
            refine hK.out _ _ ⟨trivial, (fun _ => HU1.out)⟩ ?_
            clear hK K
            try simp only [Act.put, List.setIfInBounds_toArray, List.set_cons_zero, List.set_cons_succ]
            refine anyC_takeS (i := 12) (oi := ⟨some 111, _, _, _, _, _⟩) (v := _) rfl (by kernel_rfl) (by kernel_rfl) (by kernel_rfl) (by kernel_rfl) (fun _ _ _ h => h) (Or.inl ⟨by rfl, fun w' hw' => (by clear hw'; go_simp; try with_reducible rfl)⟩) trivial (fun _ => HU1.out) ?_
            try simp only [Act.put, List.setIfInBounds_toArray, List.set_cons_zero, List.set_cons_succ]
            refine anyC_keep (i := 13) (o := ⟨some 112, _, _, _, _, _⟩) (by kernel_rfl) rfl (fun K hK => ?_)
            rw [if_pos (by rfl)]
            go_wp2_with fail
            (with_reducible refine (same_any _ _).mono ?_)
            rintro e Y2 ⟨rfl, hp2, hz2, hb2⟩
            have hb12 := bstep hb1 hb2
            have hwY := Rw.below (W := W2.drew) HGS.out.1 hb12
            have HU2 := Lib.hid ((hb12.cell (p := ⟨g, x, none⟩) HGS.out.2.2).trans HU0.out)
            refine hK.out _ _ ⟨trivial, (fun _ => HU2.out)⟩ ?_
            clear hK K
            try simp only [Act.put, List.setIfInBounds_toArray, List.set_cons_zero, List.set_cons_succ]
            refine anyC_keep (i := 15) (o := ⟨some 114, _, _, _, _, _⟩) (by kernel_rfl) rfl (fun K hK => ?_)
            rw [if_pos (by rfl)]
            go_wp2_with fail
            (with_reducible refine (HXO.out _ hwY).mono ?_)
            rintro e Y3 ⟨rfl, hb3⟩
            have hb13 := bstep hb12 hb3
            have HU3 := Lib.hid ((hb13.cell (p := ⟨g, x, none⟩) HGS.out.2.2).trans HU0.out)
            refine hK.out _ _ ⟨trivial, (fun _ => HU3.out)⟩ ?_
            clear hK K
            try simp only [Act.put, List.setIfInBounds_toArray, List.set_cons_zero, List.set_cons_succ]
            refine anyC_takeS (i := 16) (oi := ⟨some 115, _, _, _, _, _⟩) (v := _) rfl (by kernel_rfl) (by kernel_rfl) (by kernel_rfl) (by kernel_rfl) (fun _ _ _ h => h) (Or.inl ⟨by rfl, fun w' hw' => (by clear hw'; go_simp; try with_reducible rfl)⟩) trivial (fun _ => HU3.out) ?_
            try simp only [Act.put, List.setIfInBounds_toArray, List.set_cons_zero, List.set_cons_succ]
            refine anyC_takeS (i := 17) (oi := ⟨some 116, _, _, _, _, _⟩) (v := _) rfl (by kernel_rfl) (by kernel_rfl) (by kernel_rfl) (by kernel_rfl) (fun _ _ _ h => h) (Or.inl ⟨by rfl, fun w' hw' => (by clear hw'; go_simp; try with_reducible rfl)⟩) trivial (fun _ => HU3.out) ?_
            try simp only [Act.put, List.setIfInBounds_toArray, List.set_cons_zero, List.set_cons_succ]
            refine anyC_keep (i := 18) (o := ⟨some 117, _, _, _, _, _⟩) (by kernel_rfl) rfl (fun K hK => ?_)
            rw [if_pos (by rfl)]
            go_wp2_with fail
            (with_reducible refine (same1_yes _ _ _ ((hb3.cell (p := ⟨_, 0, none⟩) hz2).trans hp2)).mono ?_)
            rintro e Y4 ⟨rfl, rfl⟩
            refine hK.out _ _ ⟨trivial, (fun _ => HU3.out)⟩ ?_
            clear hK K
            try simp only [Act.put, List.setIfInBounds_toArray, List.set_cons_zero, List.set_cons_succ]
            refine anyC_takeS (i := 19) (oi := ⟨some 4, _, _, _, _, _⟩) (v := _) rfl (by kernel_rfl) (by kernel_rfl) (by kernel_rfl) (by kernel_rfl) (fun _ _ _ h => h) (Or.inl ⟨by rfl, fun w' hw' => (by clear hw'; go_simp; try with_reducible rfl)⟩) trivial (fun _ => HU3.out) ?_
            try simp only [Act.put, List.setIfInBounds_toArray, List.set_cons_zero, List.set_cons_succ]
            refine anyC_done (by kernel_rfl) ?_ _
            have K9 := Wk.step (Wk.drew HGS.out.2.1) hb13
            go_wp2
            go_ret
            exact ⟨rfl, K9.b⟩
end Go.Proofs.Ytfagfenmampigaa
