/- Contracts of parityOf's closure, parityOf and Xor. -/
import Derived.Test.YtfagfenmampigaaF
import Derived.Test.YtfagfenmampigaaW
import Derived.Deep.DeepCutAuto
namespace Go.Proofs.Ytfagfenmampigaa
open Go.RowKit Go.ChangeShapes
/-- Block B holds a slice of the call's own with these octets. -/
def Pa (B : Nat) (l : List UInt8) (W : World) : Prop := ∃ v, W.heap[B]? = some (.cells #[v] 52 (0, 0)) ∧ W.ownsRow (B + 1) 5 1 v l.length (byC l)
theorem cell_o1 {W : World} {B : Nat} {x : Value} {t : TypeId} (h : W.heap[B]? = some (.cells #[x] t (0, 0))) : W.cell? ⟨B, 0, none⟩ = some x ∧ W.frozen? ⟨B, 0, none⟩ = false :=
  ⟨cell_of_row _ _ 0 _ t (0, 0) h, frozen_of_row _ _ 0 _ t h⟩
theorem heap_set1 {W : World} {B : Nat} {x : Value} {t : TypeId} (h : W.heap[B]? = some (.cells #[x] t (0, 0))) (y : Value) : (W.setCell ⟨B, 0, none⟩ y).heap[B]? = some (.cells #[y] t (0, 0)) := heap_setCell_same W B 0 #[x] t y h
theorem own_setB {W : World} {B : Nat} {v : Value} {n : Nat} {xs : List Value} (h : W.ownsRow (B + 1) 5 1 v n xs) (y : Value) : (W.setCell ⟨B, 0, none⟩ y).ownsRow (B + 1) 5 1 v n xs :=
  h.kept (row := some B) (Only.set (Only.refl B W) 0 y) (by
    cases hv : v.ownBlock with
    | none => exact .inl rfl
    | some k => exact .inr (fun e => by have := (h.lt k hv).1; injection e with e; omega))
theorem keep_B {W W' : World} {B : Nat} {v : Value} {n : Nat} {xs : List Value} {x : Value} {t : TypeId} (h : W.ownsRow (B + 1) 5 1 v n xs) (hB : W.heap[B]? = some (.cells #[x] t (0, 0))) (hg : W.grownBy W' v.ownBlock) : W'.heap[B]? = some (.cells #[x] t (0, 0)) :=
  (hg.block B (Array.getElem?_eq_some_iff.1 hB).1 (fun e => by have := (h.lt B e.symm).1; omega)).trans hB
theorem below_own {W0 W W' : World} {B : Nat} {v : Value} {n : Nat} {xs : List Value} (h : W.ownsRow (B + 1) 5 1 v n xs) (hb : Below B W0 W) (hBW : B ≤ W.heap.size) (hg : W.grownBy W' v.ownBlock) : Below B W0 W' :=
  hb.grown hg hBW (fun k e => by have := (h.lt k e).1; omega)
/-- The sum, made long enough. -/
def lnL (l r : List UInt8) : List UInt8 := l ++ List.replicate (r.length - l.length) 0
theorem lnL_length (l r : List UInt8) : (lnL l r).length = max l.length r.length := by simp [lnL]; omega
/-- The first k octets of r are added. -/
def adK (l r : List UInt8) (k : Nat) : List UInt8 := (List.range l.length).map fun i => if i < k then l.getD i 0 ^^^ r.getD i 0 else l.getD i 0
theorem adK_length (l r : List UInt8) (k : Nat) : (adK l r k).length = l.length := by simp [adK]
theorem adK_zero (l r : List UInt8) : adK l r 0 = l := by
  refine ext_getD (adK_length _ _ _) fun i hi => ?_
  rw [adK_length] at hi
  simp [adK, List.getD_eq_getElem?_getD, hi]
theorem adK_getD (l r : List UInt8) (k i : Nat) (h : i < l.length) : (adK l r k).getD i 0 = if i < k then l.getD i 0 ^^^ r.getD i 0 else l.getD i 0 := by
  simp [adK, List.getD_eq_getElem?_getD, h]
theorem adK_succ (l r : List UInt8) (k : Nat) (h : k < l.length) : (adK l r k).set k (l.getD k 0 ^^^ r.getD k 0) = adK l r (k + 1) := by
  refine ext_getD (by rw [List.length_set, adK_length, adK_length]) fun i hi => ?_
  rw [List.length_set, adK_length] at hi
  rw [adK_getD _ _ _ _ hi]
  by_cases e : k = i
  · subst e
    rw [if_pos (by omega), List.getD_eq_getElem?_getD, List.getElem?_set_self (by rw [adK_length]; exact h)]; rfl
  · rw [List.getD_eq_getElem?_getD, List.getElem?_set_ne e, ← List.getD_eq_getElem?_getD, adK_getD _ _ _ _ hi]
    by_cases h3 : i < k
    · rw [if_pos h3, if_pos (by omega)]
    · rw [if_neg h3, if_neg (by omega)]
/-- The parity of rows and one more. -/
theorem adK_par (rows : List (List UInt8)) (r : List UInt8) : adK (lnL (paL rows) r) r r.length = paL (rows ++ [r]) := by
  have hl : mxl (rows ++ [r]) = max (mxl rows) r.length := by rw [mxl_append, mxl_one]
  refine ext_getD (by rw [adK_length, lnL_length, paL_length, paL_length, hl]) fun i hi => ?_
  rw [adK_length] at hi
  rw [adK_getD _ _ _ _ hi, paL_snoc_getD]
  have e : (lnL (paL rows) r).getD i 0 = (paL rows).getD i 0 := by
    unfold lnL
    by_cases h : i < (paL rows).length
    · rw [List.getD_eq_getElem?_getD, List.getElem?_append_left h, List.getD_eq_getElem?_getD]
    · rw [getD_ge (l := paL rows) (by omega), List.getD_eq_getElem?_getD, List.getElem?_append_right (by omega), List.getElem?_replicate]
      split <;> rfl
  rw [e]
  by_cases h : i < r.length
  · rw [if_pos h]
  · rw [if_neg h, getD_ge (l := r) (by omega), UInt8.xor_zero]
theorem ofInt_8 (x : UInt8) : (BitVec.ofInt 8 (x.toNat : Int)).toNat = x.toNat := by
  rw [BitVec.ofInt_natCast, BitVec.toNat_ofNat, Nat.mod_eq_of_lt (by simpa using x.toNat_lt)]
theorem c_xor8 (x y : UInt8) : bits .xor .u8 (x.toNat : Int) (y.toNat : Int) = ((x ^^^ y).toNat : Int) := by
  show IntKind.u8.wrap ((BitVec.ofInt 8 (x.toNat : Int) ^^^ BitVec.ofInt 8 (y.toNat : Int)).toNat : Int) = _
  rw [BitVec.toNat_xor, ofInt_8, ofInt_8, UInt8.toNat_xor, IntKind.wrap_u8]
  have h := (x ^^^ y).toNat_lt
  rw [UInt8.toNat_xor] at h
  omega
theorem own_some {W : World} {base n : Nat} {v : Value} {xs : List Value} (h : W.ownsRow base 5 1 v n xs) (h0 : 0 < n) : ∃ g cap, v = .slice (some ⟨g, 0, none⟩) n cap := by
  rcases h.2 with ⟨rfl, e⟩ | ⟨g, cap, cur, rfl, _⟩
  · omega
  · exact ⟨g, cap, rfl⟩
theorem own_ln {W : World} {base n m : Nat} {v : Value} {l r : List UInt8} (h : W.ownsRow base 5 1 v (n + m) (byC l ++ Lib.strCells (zs m))) (hn : l.length = n) (hm : r.length - l.length = m) : W.ownsRow base 5 1 v (lnL l r).length (byC (lnL l r)) := by
  have e1 : (lnL l r).length = n + m := by rw [lnL_length]; omega
  have e2 : byC (lnL l r) = byC l ++ Lib.strCells (zs m) := by rw [strC_by, byC_append, ← hm]; rfl
  rw [e1, e2]; exact h
theorem byC_set (l : List UInt8) (k : Nat) (x : UInt8) : (byC l).set k (by8 x) = byC (l.set k x) := by simp only [byC, List.map_set]
theorem lnL_same {l r : List UInt8} (h : r.length ≤ l.length) : lnL l r = l := by unfold lnL; rw [Nat.sub_eq_zero_of_le h]; simp
set_option maxRecDepth 100000 in
set_option maxHeartbeats 8000000 in
theorem add_any (B : Nat) (l r : List UInt8) (W : World) (hl : l.length ≤ 1200) (hr : r.length ≤ 1200) (hP : Pa B l W) :
    Calls Try.prog 56 #[.string (bs r), .pointer (some ⟨B, 0, none⟩)] W fun e w' => (∃ v, e = .returned v) ∧ Pa B (adK (lnL l r) r r.length) w' ∧ Below B W w' := by
  obtain ⟨v, hB, hown⟩ := hP
  have hBW : B ≤ W.heap.size := Nat.le_of_lt (Array.getElem?_eq_some_iff.1 hB).1
  obtain ⟨c0, f0⟩ := cell_o1 hB
  have hsz : (bs r).size = r.length := bs_size r
  have HL := Lib.hid (And.intro hl hr)
  have HG := Lib.hid (fun k (h : k < (bs r).size) => bs_idx r k h)
  have HW := Lib.hid (And.intro hB (And.intro hown hBW))
  obtain ⟨S, hS⟩ : ∃ S, bs r = S := ⟨_, rfl⟩
  rw [hS] at HG hsz ⊢
  have HSZ := Lib.hid hsz
  have hsm : S.size ≤ 1200 := by omega
  obtain ⟨n, hn⟩ : ∃ n, l.length = n := ⟨_, rfl⟩
  have hv : v = .slice none 0 0 ∧ n = 0 ∨ ∃ g cap, v = .slice (some ⟨g, 0, none⟩) n cap := by
    rw [hn] at hown
    rcases hown.2 with h | ⟨g, cap, cur, rfl, _⟩
    · exact .inl h
    · exact .inr ⟨g, cap, rfl⟩
  have HN := Lib.hid hn
  have hn2 : n ≤ 1200 := by omega
  clear hl hr hB hown hBW hS hsz hn
  go_enter Try.func56, Try.ntmps56
  rcases hv with ⟨rfl, rfl⟩ | ⟨g, cap, rfl⟩
  · go_upto_if 11 with fail
    go_cut [12, 13, 14] (fun _ _ _ wx => Hid (Pa B (lnL l r) wx) ∧ Hid (Below B W wx))
    case first =>
      by_cases hm : 0 < S.size
      · skip
        go_wp2_with (refine wpList_append_zeros rfl _ _ rfl (B + 1) _ 0 (byC l) rfl (by have h := HW.out.2.1; rw [HN.out] at h; exact h) S.size rfl (by omega) (by omega) (by omega) (Array.getElem?_eq_some_iff.1 HW.out.1).1 ?_; intro v' w' hown' hg'; rw [Nat.zero_add] at hown'; obtain ⟨g', cap', rfl⟩ := own_some hown' (by omega); obtain ⟨c1, f1⟩ := cell_o1 (keep_B HW.out.2.1 HW.out.1 hg'); have HA := Lib.hid (And.intro hown' hg'); clear hown' hg')
        go_meet
        exact ⟨Lib.hid ⟨_, heap_set1 (keep_B HW.out.2.1 HW.out.1 HA.out.2) _, own_ln (n := 0) (m := S.size) (by rw [Nat.zero_add]; exact own_setB HA.out.1 _) HN.out (by have := HSZ.out; have := HN.out; omega)⟩, Lib.hid ((below_own HW.out.2.1 (Below.refl B W) HW.out.2.2 HA.out.2).setCell (Nat.le_refl B) _)⟩
      · skip
        go_wp2
        go_meet
        exact ⟨Lib.hid (by rw [lnL_same (by have := HSZ.out; have := HN.out; omega)]; exact ⟨_, HW.out.1, HW.out.2.1⟩), Lib.hid (Below.refl B W)⟩
    case rest =>
      obtain ⟨HP, HBl⟩ := hcut
      have H0 := Lib.hid (adK_zero (lnL l r) r)
      have HLN := Lib.hid (show r.length ≤ (lnL l r).length ∧ (lnL l r).length ≤ 1200 by rw [lnL_length]; have := HL.out; omega)
      obtain ⟨L, hLL⟩ : ∃ L, lnL l r = L := ⟨_, rfl⟩
      rw [hLL] at HP H0 HLN
      have HLL := Lib.hid hLL
      clear hLL
      clear c0 f0 HW HN HL
      go_wp2
      go_loopw [4, 17] (fun _ i wr => ∃ k : Nat, k ≤ S.size ∧ i = .int .i64 (k : Int) ∧ Hid (Pa B (adK L r k) wr) ∧ Hid (Below B W wr)) (fun _ i _ => S.size - (intOf i).toNat)
      case atStart => exact ⟨0, by omega, rfl, Lib.hid (by rw [H0.out]; exact HP.out), HBl⟩
      case round =>
        clear HP HBl H0
        obtain ⟨k, hk, rfl, HP, HBl⟩ := hrel
        by_cases hlt : k < S.size
        · have hkL : k < L.length := by have := HLN.out; have := HSZ.out; omega
          obtain ⟨v, hB, hown⟩ := HP.out
          obtain ⟨g, cap, rfl⟩ := own_some hown (by rw [adK_length]; omega)
          have hc := hown.cellAt k (by rw [adK_length]; omega)
          have hf := hown.frozenAt k
          rw [byC_get (by rw [adK_length]; exact hkL)] at hc
          have hx0 : (adK L r k)[k]'(by rw [adK_length]; exact hkL) = L.getD k 0 := by
            have h := adK_getD L r k k hkL
            rw [if_neg (by omega), List.getD_eq_getElem?_getD, List.getElem?_eq_getElem (by rw [adK_length]; exact hkL)] at h
            exact h
          rw [hx0] at hc
          have hs := (World.ownsRow.drew hown).stored k (by8 (L.getD k 0 ^^^ r.getD k 0))
          have hset : (byC (adK L r k)).set k (by8 (L.getD k 0 ^^^ r.getD k 0)) = byC (adK L r (k + 1)) := by
            rw [← adK_succ L r k hkL]; exact byC_set _ _ _
          have hlen : (adK L r k).length = (adK L r (k + 1)).length := by rw [adK_length, adK_length]
          have hal : (adK L r k).length ≤ 1200 := by rw [adK_length]; exact HLN.out.2
          have hkl : k < (adK L r k).length := by rw [adK_length]; exact hkL
          have hgt := HG.out k hlt
          have hx := c_xor8 (L.getD k 0) (r.getD k 0)
          have hgB := (hown.lt g rfl).1
          have HS := Lib.hid (And.intro hB (And.intro hown (And.intro hs (And.intro hset hlen))))
          obtain ⟨cB, fB⟩ := cell_o1 hB
          generalize L.getD k 0 = x at hc hx HS
          rw [← hgt] at hx HS
          generalize r.getD k 0 = y0 at hgt
          have hgk : (S[k]).toNat < 256 := (S[k]).toNat_lt
          have HU0 := Lib.hid (show wr.drew.cell? ⟨B, 0, none⟩ = _ ∧ wr.drew.cell? ⟨g, k, none⟩ = _ from ⟨cB, hc⟩)
          have HF := Lib.hid (And.intro hc hf)
          obtain ⟨n, hn⟩ : ∃ n, (adK L r k).length = n := ⟨_, rfl⟩
          rw [hn] at HU0 hal hkl
          have hki : (k : Int) < (n : Int) := by omega
          have hki2 : (k : Int) < (S.size : Int) := by omega
          clear hB hown hs hset hlen hx0 cB fB hc hf hgt hgB
          go_wp2
          refine region_anyC (fun _ => True) (fun w' => w'.cell? ⟨B, 0, none⟩ = some (.slice (some ⟨g, 0, none⟩) n cap) ∧ w'.cell? ⟨g, k, none⟩ = some (by8 x)) [9] (by kernel_rfl) ?_
          refine anyC_takeU (i := 0) (oi := ⟨some 20, _, _, _, _, _⟩) (v := _) rfl (by kernel_rfl) (by kernel_rfl) (by kernel_rfl) (by kernel_rfl) (fun _ _ _ h => h) (Or.inl ⟨by rfl, fun w' hw' => (by obtain ⟨u1, u2⟩ := hw'; go_simp; try with_reducible rfl)⟩) trivial HU0.out ?_
          try simp only [Act.put, List.setIfInBounds_toArray, List.set_cons_zero, List.set_cons_succ]
          refine anyC_takeS (i := 1) (oi := ⟨some 21, _, _, _, _, _⟩) (v := _) rfl (by kernel_rfl) (by kernel_rfl) (by kernel_rfl) (by kernel_rfl) (fun _ _ _ h => h) (Or.inl ⟨by rfl, fun w' hw' => (by clear hw'; go_simp; try with_reducible rfl)⟩) trivial (fun _ => HU0.out) ?_
          try simp only [Act.put, List.setIfInBounds_toArray, List.set_cons_zero, List.set_cons_succ]
          refine anyC_takeS (i := 2) (oi := ⟨some 22, _, _, _, _, _⟩) (v := _) rfl (by kernel_rfl) (by kernel_rfl) (by kernel_rfl) (by kernel_rfl) (fun _ _ _ h => h) (Or.inl ⟨by rfl, fun w' hw' => (by clear hw'; go_simp; try with_reducible rfl)⟩) trivial (fun _ => HU0.out) ?_
          try simp only [Act.put, List.setIfInBounds_toArray, List.set_cons_zero, List.set_cons_succ]
          refine anyC_takeU (i := 3) (oi := ⟨some 23, _, _, _, _, _⟩) (v := _) rfl (by kernel_rfl) (by kernel_rfl) (by kernel_rfl) (by kernel_rfl) (fun _ _ _ h => h) (Or.inl ⟨by rfl, fun w' hw' => (by obtain ⟨u1, u2⟩ := hw'; go_simp; try with_reducible rfl)⟩) trivial HU0.out ?_
          try simp only [Act.put, List.setIfInBounds_toArray, List.set_cons_zero, List.set_cons_succ]
          refine anyC_takeS (i := 4) (oi := ⟨some 24, _, _, _, _, _⟩) (v := _) rfl (by kernel_rfl) (by kernel_rfl) (by kernel_rfl) (by kernel_rfl) (fun _ _ _ h => h) (Or.inl ⟨by rfl, fun w' hw' => (by clear hw'; go_simp; try with_reducible rfl)⟩) trivial (fun _ => HU0.out) ?_
          try simp only [Act.put, List.setIfInBounds_toArray, List.set_cons_zero, List.set_cons_succ]
          refine anyC_takeS (i := 5) (oi := ⟨some 25, _, _, _, _, _⟩) (v := _) rfl (by kernel_rfl) (by kernel_rfl) (by kernel_rfl) (by kernel_rfl) (fun _ _ _ h => h) (Or.inl ⟨by rfl, fun w' hw' => (by clear hw'; go_simp; try with_reducible rfl)⟩) trivial (fun _ => HU0.out) ?_
          try simp only [Act.put, List.setIfInBounds_toArray, List.set_cons_zero, List.set_cons_succ]
          refine anyC_takeS (i := 6) (oi := ⟨some 26, _, _, _, _, _⟩) (v := _) rfl (by kernel_rfl) (by kernel_rfl) (by kernel_rfl) (by kernel_rfl) (fun _ _ _ h => h) (Or.inl ⟨by rfl, fun w' hw' => (by clear hw'; go_simp; try with_reducible rfl)⟩) trivial (fun _ => HU0.out) ?_
          try simp only [Act.put, List.setIfInBounds_toArray, List.set_cons_zero, List.set_cons_succ]
          refine anyC_takeS (i := 7) (oi := ⟨some 27, _, _, _, _, _⟩) (v := _) rfl (by kernel_rfl) (by kernel_rfl) (by kernel_rfl) (by kernel_rfl) (fun _ _ _ h => h) (Or.inl ⟨by rfl, fun w' hw' => (by clear hw'; go_simp; try with_reducible rfl)⟩) trivial (fun _ => HU0.out) ?_
          try simp only [Act.put, List.setIfInBounds_toArray, List.set_cons_zero, List.set_cons_succ]
          refine anyC_takeS (i := 8) (oi := ⟨some 28, _, _, _, _, _⟩) (v := _) rfl (by kernel_rfl) (by kernel_rfl) (by kernel_rfl) (by kernel_rfl) (fun _ _ _ h => h) (Or.inl ⟨by rfl, fun w' hw' => (by clear hw'; go_simp; try with_reducible rfl)⟩) trivial (fun _ => HU0.out) ?_
          try simp only [Act.put, List.setIfInBounds_toArray, List.set_cons_zero, List.set_cons_succ]
          refine anyC_keep (i := 9) (o := ⟨none, _, _, _, _, _⟩) (by kernel_rfl) rfl (fun K hK => ?_)
          rw [if_pos (by rfl)]
          obtain ⟨c3, f3⟩ := HF.out
          go_simp
          refine hK.out _ _ ⟨trivial, (fun h => absurd h (by decide))⟩ ?_
          clear hK K
          try simp only [Act.put, List.setIfInBounds_toArray, List.set_cons_zero, List.set_cons_succ]
          refine anyC_done (by kernel_rfl) ?_ _
          have HP2 : Hid (Pa B (adK L r (k + 1)) (wr.drew.setCell ⟨g, k, none⟩ (by8 (x ^^^ S[k])))) := Lib.hid (by
            obtain ⟨hB, hown, hs, hset, hlen⟩ := HS.out
            refine ⟨_, keep_B (W := wr.drew) hown hB hs.2, ?_⟩
            have h := hs.1
            rw [hset, hlen] at h
            rw [hlen]; exact h)
          have HB2 : Hid (Below B W (wr.drew.setCell ⟨g, k, none⟩ (by8 (x ^^^ S[k])))) := Lib.hid (HBl.out.drew.setCell (by have := (HS.out.2.1.lt g rfl).1; show B ≤ g; omega) _)
          go_wp2
          go_roundw
          case rel => exact ⟨k + 1, by omega, by go_num, HP2, HB2⟩
          case measure => simp [intOf]; omega
        · obtain rfl : k = S.size := by omega
          have HP2 : Hid (Pa B (adK L r r.length) wr) := Lib.hid (by rw [← HSZ.out]; exact HP.out)
          clear HP
          go_wp2
          go_end0
          exact ⟨⟨_, rfl⟩, by rw [HLL.out]; exact HP2.out, HBl.out⟩
  · go_upto_if 11 with fail
    go_cut [12, 13, 14] (fun _ _ _ wx => Hid (Pa B (lnL l r) wx) ∧ Hid (Below B W wx))
    case first =>
      have hd1 : n < S.size → (0 : Int) < (S.size : Int) - (n : Int) := fun h => by omega
      have hd2 : ¬ n < S.size → ¬ (0 : Int) < (S.size : Int) - (n : Int) := fun h => by omega
      have hwr : IntKind.i64.wrap ((S.size : Int) - (n : Int)) = (S.size : Int) - (n : Int) := IntWalk.i64_in _ (by omega)
      by_cases hm : n < S.size
      · skip
        have hp := hd1 hm
        clear hd1 hd2
        have hp2 : (n : Int) < (S.size : Int) := by omega
        go_wp2_with (refine wpList_append_zeros rfl _ _ rfl (B + 1) _ n (byC l) rfl (by have h := HW.out.2.1; rw [HN.out] at h; exact h) (S.size - n) (by show Value.int .i64 ((S.size : Int) - (n : Int)) = _; congr 1; omega) (by omega) (by omega) (by omega) (Array.getElem?_eq_some_iff.1 HW.out.1).1 ?_; intro v' w' hown' hg'; obtain ⟨g', cap', rfl⟩ := own_some hown' (by omega); obtain ⟨c1, f1⟩ := cell_o1 (keep_B HW.out.2.1 HW.out.1 hg'); have HA := Lib.hid (And.intro hown' hg'); clear hown' hg')
        go_meet
        exact ⟨Lib.hid ⟨_, heap_set1 (keep_B HW.out.2.1 HW.out.1 HA.out.2) _, own_ln (m := S.size - n) (own_setB HA.out.1 _) HN.out (by have := HSZ.out; have := HN.out; omega)⟩, Lib.hid ((below_own HW.out.2.1 (Below.refl B W) HW.out.2.2 HA.out.2).setCell (Nat.le_refl B) _)⟩
      · skip
        have hp := hd2 hm
        clear hd1 hd2
        have hp2 : ¬ (n : Int) < (S.size : Int) := by omega
        go_wp2
        go_meet
        exact ⟨Lib.hid (by rw [lnL_same (by have := HSZ.out; have := HN.out; omega)]; exact ⟨_, HW.out.1, HW.out.2.1⟩), Lib.hid (Below.refl B W)⟩
    case rest =>
      obtain ⟨HP, HBl⟩ := hcut
      have H0 := Lib.hid (adK_zero (lnL l r) r)
      have HLN := Lib.hid (show r.length ≤ (lnL l r).length ∧ (lnL l r).length ≤ 1200 by rw [lnL_length]; have := HL.out; omega)
      obtain ⟨L, hLL⟩ : ∃ L, lnL l r = L := ⟨_, rfl⟩
      rw [hLL] at HP H0 HLN
      have HLL := Lib.hid hLL
      clear hLL
      clear c0 f0 HW HN HL
      go_wp2
      go_loopw [4, 17] (fun _ i wr => ∃ k : Nat, k ≤ S.size ∧ i = .int .i64 (k : Int) ∧ Hid (Pa B (adK L r k) wr) ∧ Hid (Below B W wr)) (fun _ i _ => S.size - (intOf i).toNat)
      case atStart => exact ⟨0, by omega, rfl, Lib.hid (by rw [H0.out]; exact HP.out), HBl⟩
      case round =>
        clear HP HBl H0
        obtain ⟨k, hk, rfl, HP, HBl⟩ := hrel
        by_cases hlt : k < S.size
        · have hkL : k < L.length := by have := HLN.out; have := HSZ.out; omega
          obtain ⟨v, hB, hown⟩ := HP.out
          obtain ⟨g, cap, rfl⟩ := own_some hown (by rw [adK_length]; omega)
          have hc := hown.cellAt k (by rw [adK_length]; omega)
          have hf := hown.frozenAt k
          rw [byC_get (by rw [adK_length]; exact hkL)] at hc
          have hx0 : (adK L r k)[k]'(by rw [adK_length]; exact hkL) = L.getD k 0 := by
            have h := adK_getD L r k k hkL
            rw [if_neg (by omega), List.getD_eq_getElem?_getD, List.getElem?_eq_getElem (by rw [adK_length]; exact hkL)] at h
            exact h
          rw [hx0] at hc
          have hs := (World.ownsRow.drew hown).stored k (by8 (L.getD k 0 ^^^ r.getD k 0))
          have hset : (byC (adK L r k)).set k (by8 (L.getD k 0 ^^^ r.getD k 0)) = byC (adK L r (k + 1)) := by
            rw [← adK_succ L r k hkL]; exact byC_set _ _ _
          have hlen : (adK L r k).length = (adK L r (k + 1)).length := by rw [adK_length, adK_length]
          have hal : (adK L r k).length ≤ 1200 := by rw [adK_length]; exact HLN.out.2
          have hkl : k < (adK L r k).length := by rw [adK_length]; exact hkL
          have hgt := HG.out k hlt
          have hx := c_xor8 (L.getD k 0) (r.getD k 0)
          have hgB := (hown.lt g rfl).1
          have HS := Lib.hid (And.intro hB (And.intro hown (And.intro hs (And.intro hset hlen))))
          obtain ⟨cB, fB⟩ := cell_o1 hB
          generalize L.getD k 0 = x at hc hx HS
          rw [← hgt] at hx HS
          generalize r.getD k 0 = y0 at hgt
          have hgk : (S[k]).toNat < 256 := (S[k]).toNat_lt
          have HU0 := Lib.hid (show wr.drew.cell? ⟨B, 0, none⟩ = _ ∧ wr.drew.cell? ⟨g, k, none⟩ = _ from ⟨cB, hc⟩)
          have HF := Lib.hid (And.intro hc hf)
          obtain ⟨n, hn⟩ : ∃ n, (adK L r k).length = n := ⟨_, rfl⟩
          rw [hn] at HU0 hal hkl
          have hki : (k : Int) < (n : Int) := by omega
          have hki2 : (k : Int) < (S.size : Int) := by omega
          clear hB hown hs hset hlen hx0 cB fB hc hf hgt hgB
          go_wp2
          refine region_anyC (fun _ => True) (fun w' => w'.cell? ⟨B, 0, none⟩ = some (.slice (some ⟨g, 0, none⟩) n cap) ∧ w'.cell? ⟨g, k, none⟩ = some (by8 x)) [9] (by kernel_rfl) ?_
          refine anyC_takeU (i := 0) (oi := ⟨some 20, _, _, _, _, _⟩) (v := _) rfl (by kernel_rfl) (by kernel_rfl) (by kernel_rfl) (by kernel_rfl) (fun _ _ _ h => h) (Or.inl ⟨by rfl, fun w' hw' => (by obtain ⟨u1, u2⟩ := hw'; go_simp; try with_reducible rfl)⟩) trivial HU0.out ?_
          try simp only [Act.put, List.setIfInBounds_toArray, List.set_cons_zero, List.set_cons_succ]
          refine anyC_takeS (i := 1) (oi := ⟨some 21, _, _, _, _, _⟩) (v := _) rfl (by kernel_rfl) (by kernel_rfl) (by kernel_rfl) (by kernel_rfl) (fun _ _ _ h => h) (Or.inl ⟨by rfl, fun w' hw' => (by clear hw'; go_simp; try with_reducible rfl)⟩) trivial (fun _ => HU0.out) ?_
          try simp only [Act.put, List.setIfInBounds_toArray, List.set_cons_zero, List.set_cons_succ]
          refine anyC_takeS (i := 2) (oi := ⟨some 22, _, _, _, _, _⟩) (v := _) rfl (by kernel_rfl) (by kernel_rfl) (by kernel_rfl) (by kernel_rfl) (fun _ _ _ h => h) (Or.inl ⟨by rfl, fun w' hw' => (by clear hw'; go_simp; try with_reducible rfl)⟩) trivial (fun _ => HU0.out) ?_
          try simp only [Act.put, List.setIfInBounds_toArray, List.set_cons_zero, List.set_cons_succ]
          refine anyC_takeU (i := 3) (oi := ⟨some 23, _, _, _, _, _⟩) (v := _) rfl (by kernel_rfl) (by kernel_rfl) (by kernel_rfl) (by kernel_rfl) (fun _ _ _ h => h) (Or.inl ⟨by rfl, fun w' hw' => (by obtain ⟨u1, u2⟩ := hw'; go_simp; try with_reducible rfl)⟩) trivial HU0.out ?_
          try simp only [Act.put, List.setIfInBounds_toArray, List.set_cons_zero, List.set_cons_succ]
          refine anyC_takeS (i := 4) (oi := ⟨some 24, _, _, _, _, _⟩) (v := _) rfl (by kernel_rfl) (by kernel_rfl) (by kernel_rfl) (by kernel_rfl) (fun _ _ _ h => h) (Or.inl ⟨by rfl, fun w' hw' => (by clear hw'; go_simp; try with_reducible rfl)⟩) trivial (fun _ => HU0.out) ?_
          try simp only [Act.put, List.setIfInBounds_toArray, List.set_cons_zero, List.set_cons_succ]
          refine anyC_takeS (i := 5) (oi := ⟨some 25, _, _, _, _, _⟩) (v := _) rfl (by kernel_rfl) (by kernel_rfl) (by kernel_rfl) (by kernel_rfl) (fun _ _ _ h => h) (Or.inl ⟨by rfl, fun w' hw' => (by clear hw'; go_simp; try with_reducible rfl)⟩) trivial (fun _ => HU0.out) ?_
          try simp only [Act.put, List.setIfInBounds_toArray, List.set_cons_zero, List.set_cons_succ]
          refine anyC_takeS (i := 6) (oi := ⟨some 26, _, _, _, _, _⟩) (v := _) rfl (by kernel_rfl) (by kernel_rfl) (by kernel_rfl) (by kernel_rfl) (fun _ _ _ h => h) (Or.inl ⟨by rfl, fun w' hw' => (by clear hw'; go_simp; try with_reducible rfl)⟩) trivial (fun _ => HU0.out) ?_
          try simp only [Act.put, List.setIfInBounds_toArray, List.set_cons_zero, List.set_cons_succ]
          refine anyC_takeS (i := 7) (oi := ⟨some 27, _, _, _, _, _⟩) (v := _) rfl (by kernel_rfl) (by kernel_rfl) (by kernel_rfl) (by kernel_rfl) (fun _ _ _ h => h) (Or.inl ⟨by rfl, fun w' hw' => (by clear hw'; go_simp; try with_reducible rfl)⟩) trivial (fun _ => HU0.out) ?_
          try simp only [Act.put, List.setIfInBounds_toArray, List.set_cons_zero, List.set_cons_succ]
          refine anyC_takeS (i := 8) (oi := ⟨some 28, _, _, _, _, _⟩) (v := _) rfl (by kernel_rfl) (by kernel_rfl) (by kernel_rfl) (by kernel_rfl) (fun _ _ _ h => h) (Or.inl ⟨by rfl, fun w' hw' => (by clear hw'; go_simp; try with_reducible rfl)⟩) trivial (fun _ => HU0.out) ?_
          try simp only [Act.put, List.setIfInBounds_toArray, List.set_cons_zero, List.set_cons_succ]
          refine anyC_keep (i := 9) (o := ⟨none, _, _, _, _, _⟩) (by kernel_rfl) rfl (fun K hK => ?_)
          rw [if_pos (by rfl)]
          obtain ⟨c3, f3⟩ := HF.out
          go_simp
          refine hK.out _ _ ⟨trivial, (fun h => absurd h (by decide))⟩ ?_
          clear hK K
          try simp only [Act.put, List.setIfInBounds_toArray, List.set_cons_zero, List.set_cons_succ]
          refine anyC_done (by kernel_rfl) ?_ _
          have HP2 : Hid (Pa B (adK L r (k + 1)) (wr.drew.setCell ⟨g, k, none⟩ (by8 (x ^^^ S[k])))) := Lib.hid (by
            obtain ⟨hB, hown, hs, hset, hlen⟩ := HS.out
            refine ⟨_, keep_B (W := wr.drew) hown hB hs.2, ?_⟩
            have h := hs.1
            rw [hset, hlen] at h
            rw [hlen]; exact h)
          have HB2 : Hid (Below B W (wr.drew.setCell ⟨g, k, none⟩ (by8 (x ^^^ S[k])))) := Lib.hid (HBl.out.drew.setCell (by have := (HS.out.2.1.lt g rfl).1; show B ≤ g; omega) _)
          go_wp2
          go_roundw
          case rel => exact ⟨k + 1, by omega, by go_num, HP2, HB2⟩
          case measure => simp [intOf]; omega
        · obtain rfl : k = S.size := by omega
          have HP2 : Hid (Pa B (adK L r r.length) wr) := Lib.hid (by rw [← HSZ.out]; exact HP.out)
          clear HP
          go_wp2
          go_end0
          exact ⟨⟨_, rfl⟩, by rw [HLL.out]; exact HP2.out, HBl.out⟩
end Go.Proofs.Ytfagfenmampigaa
