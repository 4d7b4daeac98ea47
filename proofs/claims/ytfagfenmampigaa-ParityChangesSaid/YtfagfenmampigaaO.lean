/- The walk of ParityChanges. -/
import Derived.Test.YtfagfenmampigaaN
namespace Go.Proofs.Ytfagfenmampigaa
open Go.RowKit Go.ChangeShapes
theorem below_drewN (V : World) (n : Nat) : Below V.heap.size V (V.drewN n) := ⟨rfl, rfl, rfl, Nat.le_refl _, fun _ _ => rfl⟩
theorem and_one {q : Nat} (h : q < 4294967296) : bits .and .u32 (q : Int) 1 = ((q % 2 : Nat) : Int) := by
  show IntKind.u32.wrap ((BitVec.ofInt 32 (q : Int) &&& BitVec.ofInt 32 1).toNat : Int) = _
  rw [BitVec.toNat_and, BitVec.ofInt_natCast, BitVec.toNat_ofNat, Nat.mod_eq_of_lt (by simpa using h), show (BitVec.ofInt 32 1).toNat = 1 by decide, Nat.and_one_is_mod, IntKind.wrap_u32]
  omega
theorem Wk.set0 {w W : World} (h : Wk w W []) {g i : Nat} (hg : w.heap.size ≤ g) (v : Value) : Wk w (W.setCell ⟨g, i, none⟩ v) [] :=
  ⟨h.b.setCell (p := ⟨g, i, none⟩) hg v, fun _ h => absurd h List.not_mem_nil⟩
theorem string_of_oc {w : World} {g cap : Nat} {l : List UInt8} (h : Oc w g l) : (convert 52 9 (.slice (some ⟨g, 0, none⟩) l.length cap)).run Try.prog w = .ok (.string (bs l)) w :=
  run_convert_bytes_back (P := Try.prog) w 52 9 5 ⟨g, 0, none⟩ cap l Try.underlying52 Try.underlying5 Try.underlying9 fun j hj => by
    have hadd : (⟨g, 0, none⟩ : Addr).add j = ⟨g, j, none⟩ := by unfold Addr.add; split <;> simp_all
    rw [hadd, (h j hj).1, List.getD_eq_getElem?_getD, List.getElem?_eq_getElem hj]; rfl
theorem mn_min (x y : Int) : (if y < x then y else x) = min x y := by split <;> omega
theorem four_min (a b c : Int) (w : World) : (Builtin.min_ #[3, 3, 3, 3] 3 #[.int .i64 a, .int .i64 b, .int .i64 c, .int .i64 200]).run Try.prog w = .ok (.int .i64 (min (min (min a b) c) 200)) w := by
  rw [← mn_min a b, ← mn_min _ c, ← mn_min _ 200]; rfl
theorem cut_run (S : ByteArray) (m : Nat) (hm : m ≤ S.size) (w : World) : (Instr.slice 9 (.string S) none (some (.int .i64 (m : Int))) none).run Try.prog w = .ok (.string (bs (S.data.toList.take m))) w := by
  rw [run_slice_string_h (P := Try.prog) (w := w) 9 (s := S) Try.underlying9 .i64 (m : Int) (by omega) (by omega), Int.toNat_natCast]
  congr 2
  apply ByteArray.ext
  apply Array.toList_inj.1
  simp [bs]
/-- The octets with the first k bits of the change turned around. -/
def Bt (s l : List UInt8) (bit ch k : Nat) : Prop := l.length = s.length ∧ le l = le s ^^^ 2 ^ bit * (ch % 2 ^ k)
theorem Bt.zero (s : List UInt8) (bit ch : Nat) : Bt s s bit ch 0 := ⟨rfl, by simp [Nat.mod_one]⟩
theorem Bt.no {s l : List UInt8} {bit ch k : Nat} (h : Bt s l bit ch k) (h0 : ¬ ch / 2 ^ k % 2 = 1) : Bt s l bit ch (k + 1) := ⟨h.1, by rw [bent_succ, if_neg h0]; exact h.2⟩
theorem Bt.yes {s l : List UInt8} {bit ch k : Nat} (h : Bt s l bit ch k) (h0 : ch / 2 ^ k % 2 = 1) (hl : bit + k < 8 * s.length) : Bt s (l.set ((bit + k) / 8) (l.getD ((bit + k) / 8) 0 ^^^ UInt8.ofNat (2 ^ ((bit + k) % 8)))) bit ch (k + 1) :=
  ⟨by rw [List.length_set]; exact h.1, by rw [bent_succ, if_pos h0, le_flip _ _ (by rw [h.1]; exact hl), h.2]⟩
set_option maxRecDepth 1000000 in
set_option maxHeartbeats 8000000 in
theorem changes_one (S T U : ByteArray) (at_ ch : Nat) (w : World) (hs : S.size ≤ maxLen) (ht : T.size ≤ maxLen) (hu : U.size ≤ maxLen) (hat : at_ < 65536) (hch : ch < 4294967296) :
    Calls Try.prog 7 #[.string S, .string T, .string U, .int .u16 (at_ : Int), .int .u32 (ch : Int), .bool false] w fun e w' => e = .returned (.bool true) ∧ Below w.heap.size w w' := by
  unfold maxLen at hs ht hu
  have K0 : Wk w w [] := Wk.start
  obtain ⟨n, hn⟩ : ∃ n, min (min (min S.size T.size) U.size) 200 = n := ⟨_, rfl⟩
  have hnS : n ≤ S.size := by omega
  have hnT : n ≤ T.size := by omega
  have hnU : n ≤ U.size := by omega
  have hn2 : n ≤ 200 := by omega
  have hmin : ∀ W, (Builtin.min_ #[3, 3, 3, 3] 3 #[.int .i64 (S.size : Int), .int .i64 (T.size : Int), .int .i64 (U.size : Int), .int .i64 200]).run Try.prog W = .ok (.int .i64 (n : Int)) W := fun W => by
    rw [four_min, ← hn]
    congr 2
    omega
  have hsl1 := fun W => cut_run S n hnS W
  have hsl2 := fun W => cut_run T n hnT W
  have hsl3 := fun W => cut_run U n hnU W
  obtain ⟨s, hs1⟩ : ∃ s, S.data.toList.take n = s := ⟨_, rfl⟩
  obtain ⟨t, ht1⟩ : ∃ s, T.data.toList.take n = s := ⟨_, rfl⟩
  obtain ⟨u, hu1⟩ : ∃ s, U.data.toList.take n = s := ⟨_, rfl⟩
  have hsn : s.length = n := by rw [← hs1, List.length_take]; show min n S.size = n; omega
  have htn : t.length = n := by rw [← ht1, List.length_take]; show min n T.size = n; omega
  have hun : u.length = n := by rw [← hu1, List.length_take]; show min n U.size = n; omega
  rw [hs1] at hsl1
  rw [ht1] at hsl2
  rw [hu1] at hsl3
  obtain ⟨c, hc⟩ : ∃ c, kC false = c := ⟨_, rfl⟩
  have cW : isW c := by rw [← hc]; exact kC_W false
  have hcb : 2147483648 ≤ c ∧ c < 4294967296 := by rw [← hc]; decide
  have HC1 : Hid (∀ (s : List UInt8) (w : World), s.length ≤ 4096 → Calls Try.prog 14 #[.int .i64 1, .string (bs s)] w fun e w' => e = .returned (.tuple #[.int .i64 ((moreN c 0 s : Nat) : Int), .int .i64 0]) ∧ Below w.heap.size w w') := Lib.hid (by rw [← hc]; exact fun s w hs => crc_yes false s w hs)
  clear hs1 ht1 hu1 hn hnS hnT hnU hs ht hu hc
  have h0W : isW 0 := by unfold isW; decide
  have xlen : (xr (xr s t) u).length ≤ 4096 := by simp [xr]; omega
  have X1 := Lib.hid (fun W => HC1.out s W (by omega))
  have X2 := Lib.hid (fun W => HC1.out t W (by omega))
  have X3 := Lib.hid (fun W => HC1.out u W (by omega))
  have X4 := Lib.hid (fun W => HC1.out (xr (xr s t) u) W xlen)
  have h3 := more_xr3 c s t u (by omega) (by omega)
  have HX : Hid (∀ W : World, Calls Try.prog 21 #[.slice (some ⟨W.heap.size, 0, none⟩) 3 3] (W.alloc (.cells #[.string (bs s), .string (bs t), .string (bs u)] 9)) fun e w' => e = .returned (.tuple #[.string (bs (xr (xr s t) u)), .int .i64 0]) ∧ Below (W.alloc (.cells #[.string (bs s), .string (bs t), .string (bs u)] 9)).heap.size (W.alloc (.cells #[.string (bs s), .string (bs t), .string (bs u)] 9)) w') := Lib.hid (fun W => by
    have hcc := heap_alloc_new W (.cells #[.string (bs s), .string (bs t), .string (bs u)] 9)
    have h := xor_any (some ⟨W.heap.size, 0, none⟩) 3 [s, t, u] (W.alloc (.cells #[.string (bs s), .string (bs t), .string (bs u)] 9)) (fun i hi => ⟨W.heap.size, 0, rfl, by simp, by
      have h2 : i = 0 ∨ i = 1 ∨ i = 2 := by have h3 : i < 3 := hi; omega
      rcases h2 with rfl | rfl | rfl
      · exact cell_of_row _ _ 0 _ 9 (0, 0) hcc
      · exact cell_of_row _ _ 1 _ 9 (0, 0) hcc
      · exact cell_of_row _ _ 2 _ 9 (0, 0) hcc⟩) (by simp)
    rw [xorRes_yes (by simp) (fun r hr => by
      have h5 : r = s ∨ r = t ∨ r = u := by simpa using hr
      rcases h5 with rfl | rfl | rfl <;> omega), paL_three s t u (by omega) (by omega)] at h
    exact h)
  rw [h3] at X4
  have w1 := more_W cW h0W s
  have w2 := more_W cW h0W t
  have w3 := more_W cW h0W u
  have hxa := i64_xor w1 w2
  have hxb := i64_xor (isW_xor w1 w2) w3
  have HCB := Lib.hid hcb
  have HS := Lib.hid (And.intro hsn (rfl : moreN c 0 s = moreN c 0 s))
  obtain ⟨Y, hY⟩ : ∃ Y, bs (xr (xr s t) u) = Y := ⟨_, rfl⟩
  rw [hY] at X4 HX
  obtain ⟨sB, hsB⟩ : ∃ Y, bs s = Y := ⟨_, rfl⟩
  obtain ⟨tB, htB⟩ : ∃ Y, bs t = Y := ⟨_, rfl⟩
  obtain ⟨uB, huB⟩ : ∃ Y, bs u = Y := ⟨_, rfl⟩
  rw [hsB, htB, huB] at HX
  rw [hsB] at X1
  rw [htB] at X2
  rw [huB] at X3
  simp only [hsB] at hsl1
  simp only [htB] at hsl2
  simp only [huB] at hsl3
  have HSB := Lib.hid hsB
  obtain ⟨a, ha⟩ : ∃ a, moreN c 0 s = a := ⟨_, rfl⟩
  obtain ⟨b, hb⟩ : ∃ a, moreN c 0 t = a := ⟨_, rfl⟩
  obtain ⟨d, hd⟩ : ∃ a, moreN c 0 u = a := ⟨_, rfl⟩
  rw [ha] at X1 X4 hxa hxb
  rw [hb] at X2 X4 hxa hxb
  rw [hd] at X3 X4 hxb
  have HA := Lib.hid ha
  have HSN := Lib.hid hsn
  have HLE := Lib.hid (And.intro cW hcb)
  clear w1 w2 w3 h3 hsn htn hun hY hsB htB huB ha hb hd xlen h0W cW hcb HS
  generalize a ^^^ b = ab at X4 hxa hxb
  generalize ab ^^^ d = abd at X4 hxb
  go_enter Try.func7, Try.ntmps7
  go_upto_region 7 with (first
    | (go_at_call 10; (with_reducible refine (works_true _).mono ?_); rintro e V ⟨rfl, hb⟩; with_reducible replace K0 := Wk.step K0 hb; clear hb))
  clear hmin
  go_quiet (fail)
  clear hsl1 hsl2 hsl3
  have K0 : Wk w (V.drewN nq) [] := K0.step (below_drewN V nq)
  generalize V.drewN nq = V0 at K0 ⊢
  go_upto_region 14 with (first
    | (go_at_call 14; (with_reducible refine (X1.out _).mono ?_); rintro e V1 ⟨rfl, hb⟩; with_reducible replace K0 := Wk.step K0 hb; clear hb)
    | (go_at_call 14; (with_reducible refine (X2.out _).mono ?_); rintro e V1 ⟨rfl, hb⟩; with_reducible replace K0 := Wk.step K0 hb; clear hb)
    | (go_at_call 14; (with_reducible refine (X3.out _).mono ?_); rintro e V1 ⟨rfl, hb⟩; with_reducible replace K0 := Wk.step K0 hb; clear hb)
    | (go_at_call 14; (with_reducible refine (X4.out _).mono ?_); rintro e V1 ⟨rfl, hb⟩; obtain ⟨K0, hp, hz⟩ := Wk.keep1 K0 hp hz hb; clear hb)
    | (go_at_call 21; (with_reducible refine (HX.out _).mono ?_); rintro e V ⟨rfl, hb⟩; with_reducible replace K0 := Wk.step K0 (bel_of_alloc hb); clear hb)
    | (go_at_call 23; (with_reducible refine (is_any _ _).mono ?_); rintro e V ⟨rfl, hp, hz, hb⟩; with_reducible replace K0 := Wk.step K0 hb; clear hb)
    | (go_at_call 43; (with_reducible refine (is1_yes _ _ _ hp).mono ?_); rintro e V ⟨rfl, rfl⟩))
  clear hp hz
  by_cases h4 : n < 4
  · have h5 : (n : Int) < 4 := by omega
    go_wp2
    go_ret
    exact ⟨rfl, K0.b⟩
  · have h5 : ¬ (n : Int) < 4 := by omega
    by_cases h0 : ch = 0
    · subst h0
      go_wp2
      go_ret
      exact ⟨rfl, K0.b⟩
    · have h6 : ((ch : Int) == 0) = false := beq_false_of_ne (by omega)
      go_upto_region 16 with fail
      obtain ⟨cap, W1, hcap, hconv, hO, hB, hw⟩ := bytes_made sB V1
      have hss : sB.data.toList = s := by rw [← HSB.out, bs_data]
      have hsz : sB.size = n := by rw [← HSB.out, bs_size]; exact HSN.out
      rw [hss] at hO
      rw [hsz] at hcap hconv
      have K1 := Wk.step K0 hB
      have hwg : w.heap.size ≤ V1.heap.size := K0.b.size
      have hgW : V1.heap.size < W1.heap.size := by omega
      obtain ⟨g, hg⟩ : ∃ g, V1.heap.size = g := ⟨_, rfl⟩
      rw [hg] at hO hconv hwg hgW
      have HW := Lib.hid (And.intro hO (And.intro K1 (And.intro hwg hgW)))
      clear hO K1 hwg hgW hB hw hg hss hsz K0 X1 X2 X3 X4 HX hxa hxb HCB HSB
      go_upto_region 17 with fail
      clear hconv
      have hd0 : (8 * (n : Int) - 31 == 0) = false := beq_false_of_ne (by omega)
      obtain ⟨bit, hbt⟩ : ∃ x, at_ % (8 * n - 31) = x := ⟨_, rfl⟩
      have hbl : bit < 8 * n - 31 := by rw [← hbt]; exact Nat.mod_lt _ (by omega)
      have hbi : (at_ : Int) % (8 * (n : Int) - 31) = (bit : Int) := by
        rw [← hbt, show (8 * (n : Int) - 31) = ((8 * n - 31 : Nat) : Int) by omega]; rfl
      clear hbt
      go_upto_region 18 with fail
      generalize ((at_ : Int) % (8 * (n : Int) - 31)) = bI at hbi ⊢
      subst hbi
      clear hd0 hat
      go_wp2
      have HW2 := Lib.hid (And.intro (Bt.zero s bit ch) HW.out)
      clear HW
      go_loopw [116] (fun i wr => ∃ k : Nat, k ≤ 32 ∧ i = .int .i64 (k : Int) ∧ ∃ l, Hid (Bt s l bit ch k ∧ Oc wr g l ∧ Wk w wr [] ∧ w.heap.size ≤ g ∧ g < wr.heap.size)) (fun i _ => 32 - (intOf i).toNat)
      case atStart => exact ⟨0, by omega, rfl, s, HW2⟩
      case round =>
        clear HW2
        obtain ⟨k, hk, rfl, l, HL⟩ := hrel
        by_cases hlt : k < 32
        · have hki : (k : Int) < 32 := by omega
          have hand : bits BinOp.and IntKind.u32 ((ch : Int) / 2 ^ k) 1 = ((ch / 2 ^ k % 2 : Nat) : Int) := by
            rw [← and_one (Nat.lt_of_le_of_lt (Nat.div_le_self _ _) hch)]; rfl
          by_cases hb1 : ch / 2 ^ k % 2 = 1
          · rw [hb1] at hand
            have hqb : (bit + k) / 8 < n := by omega
            have hlen : l.length = n := by rw [HL.out.1.1]; exact HSN.out
            obtain ⟨hc, hf⟩ := HL.out.2.1 ((bit + k) / 8) (by omega)
            have hB2 := HL.out.1.yes hb1 (by rw [HSN.out]; omega)
            have hO2 := HL.out.2.1.set ((bit + k) / 8) (l.getD ((bit + k) / 8) 0 ^^^ UInt8.ofNat (2 ^ ((bit + k) % 8)))
            have hx : bits .xor .u8 ((l.getD ((bit + k) / 8) 0).toNat : Int) ((2 ^ ((bit + k) % 8) : Nat) : Int) = ((l.getD ((bit + k) / 8) 0 ^^^ UInt8.ofNat (2 ^ ((bit + k) % 8))).toNat : Int) := by
              rw [← c_xor8, UInt8.toNat_ofNat_of_lt' (Nat.pow_lt_pow_right (by decide) (show (bit + k) % 8 < 8 by omega))]
            have K2 := HL.out.2.2.1.set0 HL.out.2.2.2.1 (i := (bit + k) / 8) (by8 (l.getD ((bit + k) / 8) 0 ^^^ UInt8.ofNat (2 ^ ((bit + k) % 8))))
            have hp2 : (2 : Int) ^ ((bit + k) % 8) % 256 = ((2 ^ ((bit + k) % 8) : Nat) : Int) := by
              have : (2 : Nat) ^ ((bit + k) % 8) < 2 ^ 8 := Nat.pow_lt_pow_right (by decide) (show (bit + k) % 8 < 8 by omega)
              generalize hpp : (2 : Nat) ^ ((bit + k) % 8) = pp at this
              have h2 : (2 : Int) ^ ((bit + k) % 8) = (pp : Int) := by rw [← hpp]; simp
              rw [h2]; omega
            rw [← hp2] at hx
            have HG := Lib.hid (And.intro hB2 (And.intro hO2 (And.intro K2 (And.intro HL.out.2.2.2.1 HL.out.2.2.2.2))))
            generalize l.getD ((bit + k) / 8) 0 = x at hc hx HG
            obtain ⟨z, hz⟩ : ∃ z, x ^^^ UInt8.ofNat (2 ^ ((bit + k) % 8)) = z := ⟨_, rfl⟩
            rw [hz] at hx HG
            clear hz
            clear hp2
            have hw0 : IntKind.i64.wrap ((bit : Int) + (k : Int)) = (((bit + k : Nat)) : Int) := IntWalk.i64_in _ (by omega)
            have hdq : (((bit + k : Nat)) : Int).tdiv 8 = (((bit + k) / 8 : Nat) : Int) := by rw [Int.tdiv_eq_ediv_of_nonneg (by omega)]; omega
            have hdr : (((bit + k : Nat)) : Int).tmod 8 = (((bit + k) % 8 : Nat) : Int) := by rw [Int.tmod_eq_emod_of_nonneg (by omega)]; omega
            have hwq : IntKind.i64.wrap (((bit + k) / 8 : Nat) : Int) = (((bit + k) / 8 : Nat) : Int) := IntWalk.i64_in _ (by omega)
            have hwr : IntKind.i64.wrap (((bit + k) % 8 : Nat) : Int) = (((bit + k) % 8 : Nat) : Int) := IntWalk.i64_in _ (by omega)
            have hr8 : (bit + k) % 8 < 8 := Nat.mod_lt _ (by decide)
            generalize (bit + k) / 8 = q at hqb hc hf HG hdq hwq
            generalize (bit + k) % 8 = r at hx hdr hr8 hwr
            generalize bit + k = j at hw0 hdq hdr
            have hqi : (q : Int) < (n : Int) := by omega
            have HF := Lib.hid (And.intro hc hf)
            have HU0 := Lib.hid (show wr.drew.cell? ⟨g, q, none⟩ = some (by8 x) from hc)
            clear hc hf hB2 hO2 K2 hlen HL
            go_upto_region 22 with fail
            clear hand
            refine region_anyC (fun _ => True) (fun w' => w'.cell? ⟨g, q, none⟩ = some (by8 x)) [14] (by kernel_rfl) ?_
            refine anyC_takeS (i := 0) (oi := ⟨some 124, _, _, _, _, _⟩) (v := _) rfl (by kernel_rfl) (by kernel_rfl) (by kernel_rfl) (by kernel_rfl) (fun _ _ _ h => h) (Or.inl ⟨by rfl, fun w' hw' => (by clear hw'; go_simp; try with_reducible rfl)⟩) trivial (fun _ => HU0.out) ?_
            try simp only [Act.put, List.setIfInBounds_toArray, List.set_cons_zero, List.set_cons_succ]
            refine anyC_takeS (i := 1) (oi := ⟨some 125, _, _, _, _, _⟩) (v := _) rfl (by kernel_rfl) (by kernel_rfl) (by kernel_rfl) (by kernel_rfl) (fun _ _ _ h => h) (Or.inl ⟨by rfl, fun w' hw' => (by clear hw'; go_simp; try with_reducible rfl)⟩) trivial (fun _ => HU0.out) ?_
            try simp only [Act.put, List.setIfInBounds_toArray, List.set_cons_zero, List.set_cons_succ]
            refine anyC_takeS (i := 2) (oi := ⟨some 126, _, _, _, _, _⟩) (v := _) rfl (by kernel_rfl) (by kernel_rfl) (by kernel_rfl) (by kernel_rfl) (fun _ _ _ h => h) (Or.inl ⟨by rfl, fun w' hw' => (by clear hw'; go_simp; try with_reducible rfl)⟩) trivial (fun _ => HU0.out) ?_
            try simp only [Act.put, List.setIfInBounds_toArray, List.set_cons_zero, List.set_cons_succ]
            refine anyC_takeS (i := 3) (oi := ⟨some 127, _, _, _, _, _⟩) (v := _) rfl (by kernel_rfl) (by kernel_rfl) (by kernel_rfl) (by kernel_rfl) (fun _ _ _ h => h) (Or.inl ⟨by rfl, fun w' hw' => (by clear hw'; go_simp; try with_reducible rfl)⟩) trivial (fun _ => HU0.out) ?_
            try simp only [Act.put, List.setIfInBounds_toArray, List.set_cons_zero, List.set_cons_succ]
            refine anyC_takeS (i := 4) (oi := ⟨some 128, _, _, _, _, _⟩) (v := _) rfl (by kernel_rfl) (by kernel_rfl) (by kernel_rfl) (by kernel_rfl) (fun _ _ _ h => h) (Or.inl ⟨by rfl, fun w' hw' => (by clear hw'; go_simp; try with_reducible rfl)⟩) trivial (fun _ => HU0.out) ?_
            try simp only [Act.put, List.setIfInBounds_toArray, List.set_cons_zero, List.set_cons_succ]
            refine anyC_takeS (i := 5) (oi := ⟨some 129, _, _, _, _, _⟩) (v := _) rfl (by kernel_rfl) (by kernel_rfl) (by kernel_rfl) (by kernel_rfl) (fun _ _ _ h => h) (Or.inl ⟨by rfl, fun w' hw' => (by clear hw'; go_simp; try with_reducible rfl)⟩) trivial (fun _ => HU0.out) ?_
            try simp only [Act.put, List.setIfInBounds_toArray, List.set_cons_zero, List.set_cons_succ]
            refine anyC_takeU (i := 6) (oi := ⟨some 130, _, _, _, _, _⟩) (v := _) rfl (by kernel_rfl) (by kernel_rfl) (by kernel_rfl) (by kernel_rfl) (fun _ _ _ h => h) (Or.inl ⟨by rfl, fun w' hw' => (by obtain u1 := hw'; go_simp; try with_reducible rfl)⟩) trivial HU0.out ?_
            try simp only [Act.put, List.setIfInBounds_toArray, List.set_cons_zero, List.set_cons_succ]
            refine anyC_takeS (i := 7) (oi := ⟨some 131, _, _, _, _, _⟩) (v := _) rfl (by kernel_rfl) (by kernel_rfl) (by kernel_rfl) (by kernel_rfl) (fun _ _ _ h => h) (Or.inl ⟨by rfl, fun w' hw' => (by clear hw'; go_simp; try with_reducible rfl)⟩) trivial (fun _ => HU0.out) ?_
            try simp only [Act.put, List.setIfInBounds_toArray, List.set_cons_zero, List.set_cons_succ]
            refine anyC_takeS (i := 8) (oi := ⟨some 132, _, _, _, _, _⟩) (v := _) rfl (by kernel_rfl) (by kernel_rfl) (by kernel_rfl) (by kernel_rfl) (fun _ _ _ h => h) (Or.inl ⟨by rfl, fun w' hw' => (by clear hw'; go_simp; try with_reducible rfl)⟩) trivial (fun _ => HU0.out) ?_
            try simp only [Act.put, List.setIfInBounds_toArray, List.set_cons_zero, List.set_cons_succ]
            refine anyC_takeS (i := 9) (oi := ⟨some 133, _, _, _, _, _⟩) (v := _) rfl (by kernel_rfl) (by kernel_rfl) (by kernel_rfl) (by kernel_rfl) (fun _ _ _ h => h) (Or.inl ⟨by rfl, fun w' hw' => (by clear hw'; go_simp; try with_reducible rfl)⟩) trivial (fun _ => HU0.out) ?_
            try simp only [Act.put, List.setIfInBounds_toArray, List.set_cons_zero, List.set_cons_succ]
            refine anyC_takeS (i := 10) (oi := ⟨some 134, _, _, _, _, _⟩) (v := _) rfl (by kernel_rfl) (by kernel_rfl) (by kernel_rfl) (by kernel_rfl) (fun _ _ _ h => h) (Or.inl ⟨by rfl, fun w' hw' => (by clear hw'; go_simp; try with_reducible rfl)⟩) trivial (fun _ => HU0.out) ?_
            try simp only [Act.put, List.setIfInBounds_toArray, List.set_cons_zero, List.set_cons_succ]
            refine anyC_takeS (i := 11) (oi := ⟨some 135, _, _, _, _, _⟩) (v := _) rfl (by kernel_rfl) (by kernel_rfl) (by kernel_rfl) (by kernel_rfl) (fun _ _ _ h => h) (Or.inl ⟨by rfl, fun w' hw' => (by clear hw'; go_simp; try with_reducible rfl)⟩) trivial (fun _ => HU0.out) ?_
            try simp only [Act.put, List.setIfInBounds_toArray, List.set_cons_zero, List.set_cons_succ]
            refine anyC_takeS (i := 12) (oi := ⟨some 136, _, _, _, _, _⟩) (v := _) rfl (by kernel_rfl) (by kernel_rfl) (by kernel_rfl) (by kernel_rfl) (fun _ _ _ h => h) (Or.inl ⟨by rfl, fun w' hw' => (by clear hw'; go_simp; try with_reducible rfl)⟩) trivial (fun _ => HU0.out) ?_
            try simp only [Act.put, List.setIfInBounds_toArray, List.set_cons_zero, List.set_cons_succ]
            refine anyC_takeS (i := 13) (oi := ⟨some 137, _, _, _, _, _⟩) (v := _) rfl (by kernel_rfl) (by kernel_rfl) (by kernel_rfl) (by kernel_rfl) (fun _ _ _ h => h) (Or.inl ⟨by rfl, fun w' hw' => (by clear hw'; go_simp; try with_reducible rfl)⟩) trivial (fun _ => HU0.out) ?_
            try simp only [Act.put, List.setIfInBounds_toArray, List.set_cons_zero, List.set_cons_succ]
            refine anyC_keep (i := 14) (o := ⟨none, _, _, _, _, _⟩) (by kernel_rfl) rfl (fun K hK => ?_)
            rw [if_pos (by rfl)]
            obtain ⟨c3, f3⟩ := HF.out
            go_simp
            refine hK.out _ _ ⟨trivial, (fun h => absurd h (by decide))⟩ ?_
            clear hK K
            try simp only [Act.put, List.setIfInBounds_toArray, List.set_cons_zero, List.set_cons_succ]
            refine anyC_done (by kernel_rfl) ?_ _
            go_wp2
            go_roundw
            case rel =>
              refine ⟨k + 1, by omega, by go_num, l.set q z, ?_⟩
              rw [hx]
              obtain ⟨i1, i2, i3, i4, i5⟩ := HG.out
              exact Lib.hid ⟨i1, i2, i3.drew, i4, Nat.lt_of_lt_of_le i5 ((Below.refl 0 wr).setCell (p := ⟨g, q, none⟩) (Nat.zero_le _) _).size⟩
            case measure => simp [intOf]; omega
          · replace hand : bits BinOp.and IntKind.u32 ((ch : Int) / 2 ^ k) 1 = 0 := by rw [hand]; omega
            have HG := Lib.hid (And.intro (HL.out.1.no hb1) HL.out.2)
            clear HL
            go_wp2
            go_roundw
            case rel => exact ⟨k + 1, by omega, by go_num, _, HG⟩
            case measure => simp [intOf]; omega
        · obtain rfl : k = 32 := by omega
          have hne := more_bent HLE.out.2.1 HLE.out.2.2 s l bit ch HL.out.1.1.symm h0 hch (by rw [HSN.out]; omega) (by rw [HL.out.1.2, Nat.mod_eq_of_lt (by exact hch)])
          have hlen : l.length = n := by rw [HL.out.1.1]; exact HSN.out
          have hcv := string_of_oc (cap := cap) HL.out.2.1
          rw [hlen] at hcv
          have XL := Lib.hid (fun W => HC1.out l W (by omega))
          rw [HA.out] at hne
          obtain ⟨v, hv⟩ : ∃ v, moreN c 0 l = v := ⟨_, rfl⟩
          rw [hv] at hne XL
          have hva : ((v : Int) != (a : Int)) = true := by rw [bne_iff_ne]; omega
          have K5 := HL.out.2.2.1
          generalize bs l = lB at hcv XL
          clear hlen HL hv
          go_wp2_with (go_at_call 14; (with_reducible refine (XL.out _).mono ?_); rintro e V1 ⟨rfl, hb⟩; with_reducible replace K5 := Wk.step K5 hb; clear hb)
          go_ret
          exact ⟨rfl, K5.b⟩
set_option maxRecDepth 1000000 in
set_option maxHeartbeats 8000000 in
theorem changes_two (S T U : ByteArray) (at_ ch : Nat) (w : World) (hs : S.size ≤ maxLen) (ht : T.size ≤ maxLen) (hu : U.size ≤ maxLen) (hat : at_ < 65536) (hch : ch < 4294967296) :
    Calls Try.prog 7 #[.string S, .string T, .string U, .int .u16 (at_ : Int), .int .u32 (ch : Int), .bool true] w fun e w' => e = .returned (.bool true) ∧ Below w.heap.size w w' := by
  unfold maxLen at hs ht hu
  have K0 : Wk w w [] := Wk.start
  obtain ⟨n, hn⟩ : ∃ n, min (min (min S.size T.size) U.size) 200 = n := ⟨_, rfl⟩
  have hnS : n ≤ S.size := by omega
  have hnT : n ≤ T.size := by omega
  have hnU : n ≤ U.size := by omega
  have hn2 : n ≤ 200 := by omega
  have hmin : ∀ W, (Builtin.min_ #[3, 3, 3, 3] 3 #[.int .i64 (S.size : Int), .int .i64 (T.size : Int), .int .i64 (U.size : Int), .int .i64 200]).run Try.prog W = .ok (.int .i64 (n : Int)) W := fun W => by
    rw [four_min, ← hn]
    congr 2
    omega
  have hsl1 := fun W => cut_run S n hnS W
  have hsl2 := fun W => cut_run T n hnT W
  have hsl3 := fun W => cut_run U n hnU W
  obtain ⟨s, hs1⟩ : ∃ s, S.data.toList.take n = s := ⟨_, rfl⟩
  obtain ⟨t, ht1⟩ : ∃ s, T.data.toList.take n = s := ⟨_, rfl⟩
  obtain ⟨u, hu1⟩ : ∃ s, U.data.toList.take n = s := ⟨_, rfl⟩
  have hsn : s.length = n := by rw [← hs1, List.length_take]; show min n S.size = n; omega
  have htn : t.length = n := by rw [← ht1, List.length_take]; show min n T.size = n; omega
  have hun : u.length = n := by rw [← hu1, List.length_take]; show min n U.size = n; omega
  rw [hs1] at hsl1
  rw [ht1] at hsl2
  rw [hu1] at hsl3
  obtain ⟨c, hc⟩ : ∃ c, kC true = c := ⟨_, rfl⟩
  have cW : isW c := by rw [← hc]; exact kC_W true
  have hcb : 2147483648 ≤ c ∧ c < 4294967296 := by rw [← hc]; decide
  have HC1 : Hid (∀ (s : List UInt8) (w : World), s.length ≤ 4096 → Calls Try.prog 14 #[.int .i64 2, .string (bs s)] w fun e w' => e = .returned (.tuple #[.int .i64 ((moreN c 0 s : Nat) : Int), .int .i64 0]) ∧ Below w.heap.size w w') := Lib.hid (by rw [← hc]; exact fun s w hs => crc_yes true s w hs)
  clear hs1 ht1 hu1 hn hnS hnT hnU hs ht hu hc
  have h0W : isW 0 := by unfold isW; decide
  have xlen : (xr (xr s t) u).length ≤ 4096 := by simp [xr]; omega
  have X1 := Lib.hid (fun W => HC1.out s W (by omega))
  have X2 := Lib.hid (fun W => HC1.out t W (by omega))
  have X3 := Lib.hid (fun W => HC1.out u W (by omega))
  have X4 := Lib.hid (fun W => HC1.out (xr (xr s t) u) W xlen)
  have h3 := more_xr3 c s t u (by omega) (by omega)
  have HX : Hid (∀ W : World, Calls Try.prog 21 #[.slice (some ⟨W.heap.size, 0, none⟩) 3 3] (W.alloc (.cells #[.string (bs s), .string (bs t), .string (bs u)] 9)) fun e w' => e = .returned (.tuple #[.string (bs (xr (xr s t) u)), .int .i64 0]) ∧ Below (W.alloc (.cells #[.string (bs s), .string (bs t), .string (bs u)] 9)).heap.size (W.alloc (.cells #[.string (bs s), .string (bs t), .string (bs u)] 9)) w') := Lib.hid (fun W => by
    have hcc := heap_alloc_new W (.cells #[.string (bs s), .string (bs t), .string (bs u)] 9)
    have h := xor_any (some ⟨W.heap.size, 0, none⟩) 3 [s, t, u] (W.alloc (.cells #[.string (bs s), .string (bs t), .string (bs u)] 9)) (fun i hi => ⟨W.heap.size, 0, rfl, by simp, by
      have h2 : i = 0 ∨ i = 1 ∨ i = 2 := by have h3 : i < 3 := hi; omega
      rcases h2 with rfl | rfl | rfl
      · exact cell_of_row _ _ 0 _ 9 (0, 0) hcc
      · exact cell_of_row _ _ 1 _ 9 (0, 0) hcc
      · exact cell_of_row _ _ 2 _ 9 (0, 0) hcc⟩) (by simp)
    rw [xorRes_yes (by simp) (fun r hr => by
      have h5 : r = s ∨ r = t ∨ r = u := by simpa using hr
      rcases h5 with rfl | rfl | rfl <;> omega), paL_three s t u (by omega) (by omega)] at h
    exact h)
  rw [h3] at X4
  have w1 := more_W cW h0W s
  have w2 := more_W cW h0W t
  have w3 := more_W cW h0W u
  have hxa := i64_xor w1 w2
  have hxb := i64_xor (isW_xor w1 w2) w3
  have HCB := Lib.hid hcb
  have HS := Lib.hid (And.intro hsn (rfl : moreN c 0 s = moreN c 0 s))
  obtain ⟨Y, hY⟩ : ∃ Y, bs (xr (xr s t) u) = Y := ⟨_, rfl⟩
  rw [hY] at X4 HX
  obtain ⟨sB, hsB⟩ : ∃ Y, bs s = Y := ⟨_, rfl⟩
  obtain ⟨tB, htB⟩ : ∃ Y, bs t = Y := ⟨_, rfl⟩
  obtain ⟨uB, huB⟩ : ∃ Y, bs u = Y := ⟨_, rfl⟩
  rw [hsB, htB, huB] at HX
  rw [hsB] at X1
  rw [htB] at X2
  rw [huB] at X3
  simp only [hsB] at hsl1
  simp only [htB] at hsl2
  simp only [huB] at hsl3
  have HSB := Lib.hid hsB
  obtain ⟨a, ha⟩ : ∃ a, moreN c 0 s = a := ⟨_, rfl⟩
  obtain ⟨b, hb⟩ : ∃ a, moreN c 0 t = a := ⟨_, rfl⟩
  obtain ⟨d, hd⟩ : ∃ a, moreN c 0 u = a := ⟨_, rfl⟩
  rw [ha] at X1 X4 hxa hxb
  rw [hb] at X2 X4 hxa hxb
  rw [hd] at X3 X4 hxb
  have HA := Lib.hid ha
  have HSN := Lib.hid hsn
  have HLE := Lib.hid (And.intro cW hcb)
  clear w1 w2 w3 h3 hsn htn hun hY hsB htB huB ha hb hd xlen h0W cW hcb HS
  generalize a ^^^ b = ab at X4 hxa hxb
  generalize ab ^^^ d = abd at X4 hxb
  go_enter Try.func7, Try.ntmps7
  go_upto_region 7 with (first
    | (go_at_call 10; (with_reducible refine (works_true _).mono ?_); rintro e V ⟨rfl, hb⟩; with_reducible replace K0 := Wk.step K0 hb; clear hb))
  clear hmin
  go_quiet (fail)
  clear hsl1 hsl2 hsl3
  have K0 : Wk w (V.drewN nq) [] := K0.step (below_drewN V nq)
  generalize V.drewN nq = V0 at K0 ⊢
  go_upto_region 14 with (first
    | (go_at_call 14; (with_reducible refine (X1.out _).mono ?_); rintro e V1 ⟨rfl, hb⟩; with_reducible replace K0 := Wk.step K0 hb; clear hb)
    | (go_at_call 14; (with_reducible refine (X2.out _).mono ?_); rintro e V1 ⟨rfl, hb⟩; with_reducible replace K0 := Wk.step K0 hb; clear hb)
    | (go_at_call 14; (with_reducible refine (X3.out _).mono ?_); rintro e V1 ⟨rfl, hb⟩; with_reducible replace K0 := Wk.step K0 hb; clear hb)
    | (go_at_call 14; (with_reducible refine (X4.out _).mono ?_); rintro e V1 ⟨rfl, hb⟩; obtain ⟨K0, hp, hz⟩ := Wk.keep1 K0 hp hz hb; clear hb)
    | (go_at_call 21; (with_reducible refine (HX.out _).mono ?_); rintro e V ⟨rfl, hb⟩; with_reducible replace K0 := Wk.step K0 (bel_of_alloc hb); clear hb)
    | (go_at_call 23; (with_reducible refine (is_any _ _).mono ?_); rintro e V ⟨rfl, hp, hz, hb⟩; with_reducible replace K0 := Wk.step K0 hb; clear hb)
    | (go_at_call 43; (with_reducible refine (is1_yes _ _ _ hp).mono ?_); rintro e V ⟨rfl, rfl⟩))
  clear hp hz
  by_cases h4 : n < 4
  · have h5 : (n : Int) < 4 := by omega
    go_wp2
    go_ret
    exact ⟨rfl, K0.b⟩
  · have h5 : ¬ (n : Int) < 4 := by omega
    by_cases h0 : ch = 0
    · subst h0
      go_wp2
      go_ret
      exact ⟨rfl, K0.b⟩
    · have h6 : ((ch : Int) == 0) = false := beq_false_of_ne (by omega)
      go_upto_region 16 with fail
      obtain ⟨cap, W1, hcap, hconv, hO, hB, hw⟩ := bytes_made sB V1
      have hss : sB.data.toList = s := by rw [← HSB.out, bs_data]
      have hsz : sB.size = n := by rw [← HSB.out, bs_size]; exact HSN.out
      rw [hss] at hO
      rw [hsz] at hcap hconv
      have K1 := Wk.step K0 hB
      have hwg : w.heap.size ≤ V1.heap.size := K0.b.size
      have hgW : V1.heap.size < W1.heap.size := by omega
      obtain ⟨g, hg⟩ : ∃ g, V1.heap.size = g := ⟨_, rfl⟩
      rw [hg] at hO hconv hwg hgW
      have HW := Lib.hid (And.intro hO (And.intro K1 (And.intro hwg hgW)))
      clear hO K1 hwg hgW hB hw hg hss hsz K0 X1 X2 X3 X4 HX hxa hxb HCB HSB
      go_upto_region 17 with fail
      clear hconv
      have hd0 : (8 * (n : Int) - 31 == 0) = false := beq_false_of_ne (by omega)
      obtain ⟨bit, hbt⟩ : ∃ x, at_ % (8 * n - 31) = x := ⟨_, rfl⟩
      have hbl : bit < 8 * n - 31 := by rw [← hbt]; exact Nat.mod_lt _ (by omega)
      have hbi : (at_ : Int) % (8 * (n : Int) - 31) = (bit : Int) := by
        rw [← hbt, show (8 * (n : Int) - 31) = ((8 * n - 31 : Nat) : Int) by omega]; rfl
      clear hbt
      go_upto_region 18 with fail
      generalize ((at_ : Int) % (8 * (n : Int) - 31)) = bI at hbi ⊢
      subst hbi
      clear hd0 hat
      go_wp2
      have HW2 := Lib.hid (And.intro (Bt.zero s bit ch) HW.out)
      clear HW
      go_loopw [116] (fun i wr => ∃ k : Nat, k ≤ 32 ∧ i = .int .i64 (k : Int) ∧ ∃ l, Hid (Bt s l bit ch k ∧ Oc wr g l ∧ Wk w wr [] ∧ w.heap.size ≤ g ∧ g < wr.heap.size)) (fun i _ => 32 - (intOf i).toNat)
      case atStart => exact ⟨0, by omega, rfl, s, HW2⟩
      case round =>
        clear HW2
        obtain ⟨k, hk, rfl, l, HL⟩ := hrel
        by_cases hlt : k < 32
        · have hki : (k : Int) < 32 := by omega
          have hand : bits BinOp.and IntKind.u32 ((ch : Int) / 2 ^ k) 1 = ((ch / 2 ^ k % 2 : Nat) : Int) := by
            rw [← and_one (Nat.lt_of_le_of_lt (Nat.div_le_self _ _) hch)]; rfl
          by_cases hb1 : ch / 2 ^ k % 2 = 1
          · rw [hb1] at hand
            have hqb : (bit + k) / 8 < n := by omega
            have hlen : l.length = n := by rw [HL.out.1.1]; exact HSN.out
            obtain ⟨hc, hf⟩ := HL.out.2.1 ((bit + k) / 8) (by omega)
            have hB2 := HL.out.1.yes hb1 (by rw [HSN.out]; omega)
            have hO2 := HL.out.2.1.set ((bit + k) / 8) (l.getD ((bit + k) / 8) 0 ^^^ UInt8.ofNat (2 ^ ((bit + k) % 8)))
            have hx : bits .xor .u8 ((l.getD ((bit + k) / 8) 0).toNat : Int) ((2 ^ ((bit + k) % 8) : Nat) : Int) = ((l.getD ((bit + k) / 8) 0 ^^^ UInt8.ofNat (2 ^ ((bit + k) % 8))).toNat : Int) := by
              rw [← c_xor8, UInt8.toNat_ofNat_of_lt' (Nat.pow_lt_pow_right (by decide) (show (bit + k) % 8 < 8 by omega))]
            have K2 := HL.out.2.2.1.set0 HL.out.2.2.2.1 (i := (bit + k) / 8) (by8 (l.getD ((bit + k) / 8) 0 ^^^ UInt8.ofNat (2 ^ ((bit + k) % 8))))
            have hp2 : (2 : Int) ^ ((bit + k) % 8) % 256 = ((2 ^ ((bit + k) % 8) : Nat) : Int) := by
              have : (2 : Nat) ^ ((bit + k) % 8) < 2 ^ 8 := Nat.pow_lt_pow_right (by decide) (show (bit + k) % 8 < 8 by omega)
              generalize hpp : (2 : Nat) ^ ((bit + k) % 8) = pp at this
              have h2 : (2 : Int) ^ ((bit + k) % 8) = (pp : Int) := by rw [← hpp]; simp
              rw [h2]; omega
            rw [← hp2] at hx
            have HG := Lib.hid (And.intro hB2 (And.intro hO2 (And.intro K2 (And.intro HL.out.2.2.2.1 HL.out.2.2.2.2))))
            generalize l.getD ((bit + k) / 8) 0 = x at hc hx HG
            obtain ⟨z, hz⟩ : ∃ z, x ^^^ UInt8.ofNat (2 ^ ((bit + k) % 8)) = z := ⟨_, rfl⟩
            rw [hz] at hx HG
            clear hz
            clear hp2
            have hw0 : IntKind.i64.wrap ((bit : Int) + (k : Int)) = (((bit + k : Nat)) : Int) := IntWalk.i64_in _ (by omega)
            have hdq : (((bit + k : Nat)) : Int).tdiv 8 = (((bit + k) / 8 : Nat) : Int) := by rw [Int.tdiv_eq_ediv_of_nonneg (by omega)]; omega
            have hdr : (((bit + k : Nat)) : Int).tmod 8 = (((bit + k) % 8 : Nat) : Int) := by rw [Int.tmod_eq_emod_of_nonneg (by omega)]; omega
            have hwq : IntKind.i64.wrap (((bit + k) / 8 : Nat) : Int) = (((bit + k) / 8 : Nat) : Int) := IntWalk.i64_in _ (by omega)
            have hwr : IntKind.i64.wrap (((bit + k) % 8 : Nat) : Int) = (((bit + k) % 8 : Nat) : Int) := IntWalk.i64_in _ (by omega)
            have hr8 : (bit + k) % 8 < 8 := Nat.mod_lt _ (by decide)
            generalize (bit + k) / 8 = q at hqb hc hf HG hdq hwq
            generalize (bit + k) % 8 = r at hx hdr hr8 hwr
            generalize bit + k = j at hw0 hdq hdr
            have hqi : (q : Int) < (n : Int) := by omega
            have HF := Lib.hid (And.intro hc hf)
            have HU0 := Lib.hid (show wr.drew.cell? ⟨g, q, none⟩ = some (by8 x) from hc)
            clear hc hf hB2 hO2 K2 hlen HL
            go_upto_region 22 with fail
            clear hand
            refine region_anyC (fun _ => True) (fun w' => w'.cell? ⟨g, q, none⟩ = some (by8 x)) [14] (by kernel_rfl) ?_
            refine anyC_takeS (i := 0) (oi := ⟨some 124, _, _, _, _, _⟩) (v := _) rfl (by kernel_rfl) (by kernel_rfl) (by kernel_rfl) (by kernel_rfl) (fun _ _ _ h => h) (Or.inl ⟨by rfl, fun w' hw' => (by clear hw'; go_simp; try with_reducible rfl)⟩) trivial (fun _ => HU0.out) ?_
            try simp only [Act.put, List.setIfInBounds_toArray, List.set_cons_zero, List.set_cons_succ]
            refine anyC_takeS (i := 1) (oi := ⟨some 125, _, _, _, _, _⟩) (v := _) rfl (by kernel_rfl) (by kernel_rfl) (by kernel_rfl) (by kernel_rfl) (fun _ _ _ h => h) (Or.inl ⟨by rfl, fun w' hw' => (by clear hw'; go_simp; try with_reducible rfl)⟩) trivial (fun _ => HU0.out) ?_
            try simp only [Act.put, List.setIfInBounds_toArray, List.set_cons_zero, List.set_cons_succ]
            refine anyC_takeS (i := 2) (oi := ⟨some 126, _, _, _, _, _⟩) (v := _) rfl (by kernel_rfl) (by kernel_rfl) (by kernel_rfl) (by kernel_rfl) (fun _ _ _ h => h) (Or.inl ⟨by rfl, fun w' hw' => (by clear hw'; go_simp; try with_reducible rfl)⟩) trivial (fun _ => HU0.out) ?_
            try simp only [Act.put, List.setIfInBounds_toArray, List.set_cons_zero, List.set_cons_succ]
            refine anyC_takeS (i := 3) (oi := ⟨some 127, _, _, _, _, _⟩) (v := _) rfl (by kernel_rfl) (by kernel_rfl) (by kernel_rfl) (by kernel_rfl) (fun _ _ _ h => h) (Or.inl ⟨by rfl, fun w' hw' => (by clear hw'; go_simp; try with_reducible rfl)⟩) trivial (fun _ => HU0.out) ?_
            try simp only [Act.put, List.setIfInBounds_toArray, List.set_cons_zero, List.set_cons_succ]
            refine anyC_takeS (i := 4) (oi := ⟨some 128, _, _, _, _, _⟩) (v := _) rfl (by kernel_rfl) (by kernel_rfl) (by kernel_rfl) (by kernel_rfl) (fun _ _ _ h => h) (Or.inl ⟨by rfl, fun w' hw' => (by clear hw'; go_simp; try with_reducible rfl)⟩) trivial (fun _ => HU0.out) ?_
            try simp only [Act.put, List.setIfInBounds_toArray, List.set_cons_zero, List.set_cons_succ]
            refine anyC_takeS (i := 5) (oi := ⟨some 129, _, _, _, _, _⟩) (v := _) rfl (by kernel_rfl) (by kernel_rfl) (by kernel_rfl) (by kernel_rfl) (fun _ _ _ h => h) (Or.inl ⟨by rfl, fun w' hw' => (by clear hw'; go_simp; try with_reducible rfl)⟩) trivial (fun _ => HU0.out) ?_
            try simp only [Act.put, List.setIfInBounds_toArray, List.set_cons_zero, List.set_cons_succ]
            refine anyC_takeU (i := 6) (oi := ⟨some 130, _, _, _, _, _⟩) (v := _) rfl (by kernel_rfl) (by kernel_rfl) (by kernel_rfl) (by kernel_rfl) (fun _ _ _ h => h) (Or.inl ⟨by rfl, fun w' hw' => (by obtain u1 := hw'; go_simp; try with_reducible rfl)⟩) trivial HU0.out ?_
            try simp only [Act.put, List.setIfInBounds_toArray, List.set_cons_zero, List.set_cons_succ]
            refine anyC_takeS (i := 7) (oi := ⟨some 131, _, _, _, _, _⟩) (v := _) rfl (by kernel_rfl) (by kernel_rfl) (by kernel_rfl) (by kernel_rfl) (fun _ _ _ h => h) (Or.inl ⟨by rfl, fun w' hw' => (by clear hw'; go_simp; try with_reducible rfl)⟩) trivial (fun _ => HU0.out) ?_
            try simp only [Act.put, List.setIfInBounds_toArray, List.set_cons_zero, List.set_cons_succ]
            refine anyC_takeS (i := 8) (oi := ⟨some 132, _, _, _, _, _⟩) (v := _) rfl (by kernel_rfl) (by kernel_rfl) (by kernel_rfl) (by kernel_rfl) (fun _ _ _ h => h) (Or.inl ⟨by rfl, fun w' hw' => (by clear hw'; go_simp; try with_reducible rfl)⟩) trivial (fun _ => HU0.out) ?_
            try simp only [Act.put, List.setIfInBounds_toArray, List.set_cons_zero, List.set_cons_succ]
            refine anyC_takeS (i := 9) (oi := ⟨some 133, _, _, _, _, _⟩) (v := _) rfl (by kernel_rfl) (by kernel_rfl) (by kernel_rfl) (by kernel_rfl) (fun _ _ _ h => h) (Or.inl ⟨by rfl, fun w' hw' => (by clear hw'; go_simp; try with_reducible rfl)⟩) trivial (fun _ => HU0.out) ?_
            try simp only [Act.put, List.setIfInBounds_toArray, List.set_cons_zero, List.set_cons_succ]
            refine anyC_takeS (i := 10) (oi := ⟨some 134, _, _, _, _, _⟩) (v := _) rfl (by kernel_rfl) (by kernel_rfl) (by kernel_rfl) (by kernel_rfl) (fun _ _ _ h => h) (Or.inl ⟨by rfl, fun w' hw' => (by clear hw'; go_simp; try with_reducible rfl)⟩) trivial (fun _ => HU0.out) ?_
            try simp only [Act.put, List.setIfInBounds_toArray, List.set_cons_zero, List.set_cons_succ]
            refine anyC_takeS (i := 11) (oi := ⟨some 135, _, _, _, _, _⟩) (v := _) rfl (by kernel_rfl) (by kernel_rfl) (by kernel_rfl) (by kernel_rfl) (fun _ _ _ h => h) (Or.inl ⟨by rfl, fun w' hw' => (by clear hw'; go_simp; try with_reducible rfl)⟩) trivial (fun _ => HU0.out) ?_
            try simp only [Act.put, List.setIfInBounds_toArray, List.set_cons_zero, List.set_cons_succ]
            refine anyC_takeS (i := 12) (oi := ⟨some 136, _, _, _, _, _⟩) (v := _) rfl (by kernel_rfl) (by kernel_rfl) (by kernel_rfl) (by kernel_rfl) (fun _ _ _ h => h) (Or.inl ⟨by rfl, fun w' hw' => (by clear hw'; go_simp; try with_reducible rfl)⟩) trivial (fun _ => HU0.out) ?_
            try simp only [Act.put, List.setIfInBounds_toArray, List.set_cons_zero, List.set_cons_succ]
            refine anyC_takeS (i := 13) (oi := ⟨some 137, _, _, _, _, _⟩) (v := _) rfl (by kernel_rfl) (by kernel_rfl) (by kernel_rfl) (by kernel_rfl) (fun _ _ _ h => h) (Or.inl ⟨by rfl, fun w' hw' => (by clear hw'; go_simp; try with_reducible rfl)⟩) trivial (fun _ => HU0.out) ?_
            try simp only [Act.put, List.setIfInBounds_toArray, List.set_cons_zero, List.set_cons_succ]
            refine anyC_keep (i := 14) (o := ⟨none, _, _, _, _, _⟩) (by kernel_rfl) rfl (fun K hK => ?_)
            rw [if_pos (by rfl)]
            obtain ⟨c3, f3⟩ := HF.out
            go_simp
            refine hK.out _ _ ⟨trivial, (fun h => absurd h (by decide))⟩ ?_
            clear hK K
            try simp only [Act.put, List.setIfInBounds_toArray, List.set_cons_zero, List.set_cons_succ]
            refine anyC_done (by kernel_rfl) ?_ _
            go_wp2
            go_roundw
            case rel =>
              refine ⟨k + 1, by omega, by go_num, l.set q z, ?_⟩
              rw [hx]
              obtain ⟨i1, i2, i3, i4, i5⟩ := HG.out
              exact Lib.hid ⟨i1, i2, i3.drew, i4, Nat.lt_of_lt_of_le i5 ((Below.refl 0 wr).setCell (p := ⟨g, q, none⟩) (Nat.zero_le _) _).size⟩
            case measure => simp [intOf]; omega
          · replace hand : bits BinOp.and IntKind.u32 ((ch : Int) / 2 ^ k) 1 = 0 := by rw [hand]; omega
            have HG := Lib.hid (And.intro (HL.out.1.no hb1) HL.out.2)
            clear HL
            go_wp2
            go_roundw
            case rel => exact ⟨k + 1, by omega, by go_num, _, HG⟩
            case measure => simp [intOf]; omega
        · obtain rfl : k = 32 := by omega
          have hne := more_bent HLE.out.2.1 HLE.out.2.2 s l bit ch HL.out.1.1.symm h0 hch (by rw [HSN.out]; omega) (by rw [HL.out.1.2, Nat.mod_eq_of_lt (by exact hch)])
          have hlen : l.length = n := by rw [HL.out.1.1]; exact HSN.out
          have hcv := string_of_oc (cap := cap) HL.out.2.1
          rw [hlen] at hcv
          have XL := Lib.hid (fun W => HC1.out l W (by omega))
          rw [HA.out] at hne
          obtain ⟨v, hv⟩ : ∃ v, moreN c 0 l = v := ⟨_, rfl⟩
          rw [hv] at hne XL
          have hva : ((v : Int) != (a : Int)) = true := by rw [bne_iff_ne]; omega
          have K5 := HL.out.2.2.1
          generalize bs l = lB at hcv XL
          clear hlen HL hv
          go_wp2_with (go_at_call 14; (with_reducible refine (XL.out _).mono ?_); rintro e V1 ⟨rfl, hb⟩; with_reducible replace K5 := Wk.step K5 hb; clear hb)
          go_ret
          exact ⟨rfl, K5.b⟩
end Go.Proofs.Ytfagfenmampigaa
