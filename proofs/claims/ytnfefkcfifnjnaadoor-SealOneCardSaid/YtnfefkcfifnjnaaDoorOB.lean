/- The walk of SealOne. -/
import Derived.Test.YtnfefkcfifnjnaaDoorOA
import Derived.Test.YtnfefkcfifnjnaaDoorSX
import Derived.Test.YtnfefkcfifnjnaaDoorWB
import Derived.Test.YtnfefkcfifnjnaaDoorSZ
import Derived.Deep.DeepCutAuto
namespace Go.Proofs.YtnfefkcfifnjnaaDoor
open Go.RowKit Go.ChangeShapes
def roC (l : List Nat) : Array Value := (l.map fun n : Nat => Value.int .i64 (n : Int)).toArray
/-- The row of eighteen in memory. -/
def Ro (w : World) (g : Nat) (l : List Nat) : Prop := w.heap[g]? = some (.cells (roC l) 55 (0, 0))
theorem Ro.get {w : World} {g : Nat} {l : List Nat} (h : Ro w g l) {i : Nat} (hi : i < l.length) : w.cell? ⟨g, i, none⟩ = some (.int .i64 ((l.getD i 0 : Nat) : Int)) := by
  rw [cell_of_row w g i _ 55 (0, 0) h]
  simp [roC, List.getD_eq_getElem?_getD, hi]
theorem Ro.free {w : World} {g : Nat} {l : List Nat} (h : Ro w g l) (i : Nat) : w.frozen? ⟨g, i, none⟩ = false := frozen_of_row w g i _ 55 h
theorem Ro.set {w : World} {g : Nat} {l : List Nat} (h : Ro w g l) (i x : Nat) : Ro (w.setCell ⟨g, i, none⟩ (.int .i64 (x : Int))) g (l.set i x) := by
  have := heap_setCell_same w g i (roC l) 55 (.int .i64 (x : Int)) h
  unfold Ro
  rw [this]
  congr 2
  simp [roC, List.map_set]
theorem Ro.drew {w : World} {g : Nat} {l : List Nat} (h : Ro w g l) : Ro w.drew g l := h
theorem Ro.row {w : World} {g : Nat} {l : List Nat} (h : Ro w g l) (l' : List Nat) : Ro (w.setRow g (roC l')) g l' := setRow_heap w g _ _ 55 _ h
theorem i64_and (z k : Nat) (h : z < 2 ^ 62) (hk : k < 62) : bits .and .i64 (z : Int) ((2 ^ k - 1 : Nat) : Int) = ((z % 2 ^ k : Nat) : Int) := by
  have h2 : 2 ^ k ≤ 2 ^ 61 := Nat.pow_le_pow_right (by decide) (by omega)
  show IntKind.i64.wrap ((BitVec.ofInt 64 (z : Int) &&& BitVec.ofInt 64 ((2 ^ k - 1 : Nat) : Int)).toNat : Int) = _
  rw [BitVec.toNat_and, BitVec.ofInt_natCast, BitVec.ofInt_natCast, BitVec.toNat_ofNat, BitVec.toNat_ofNat, Nat.mod_eq_of_lt (by omega), Nat.mod_eq_of_lt (by omega), Nat.and_two_pow_sub_one_eq_mod]
  have := Nat.mod_le z (2 ^ k)
  exact IntWalk.i64_in _ (by omega)
theorem slice_m9 (A : Option Addr) (len cap : Nat) (hl : len ≤ cap) (wx : World) : (Instr.slice 54 (.slice A len cap) none (some (.int .i64 (min (len : Int) 9))) none).run Tryd.prog wx = .ok (.slice A (min len 9) cap) wx := by
  have := run_slice_h (P := Tryd.prog) (w := wx) 54 A len cap (by kernel_rfl) .i64 (min (len : Int) 9) (by omega) (by omega)
  rw [this, show (min (len : Int) 9).toNat = min len 9 by omega]
  have hs : (sizeOf (Tryd.prog.elem 54)).run Tryd.prog wx = .ok 1 wx := by kernel_rfl
  rw [hs]
  cases A <;> simp [sliced, Result.andThen, Addr.add]
def KEY1 : List UInt8 := 1 :: List.replicate 31 0
theorem key1_fac : facN KEY1 = 1 := by decide +kernel
theorem key1_low : num (KEY1.drop 16) = 0 := by decide +kernel
theorem key1_cat : (⟨#[1]⟩ : ByteArray) ++ rp 0 31 = bs KEY1 := by decide +kernel
theorem size55 (l : List Nat) (h : l.length = 18) : (Tryd.prog.info? 55).map (·.size) = some (roC l).size := by
  have : (Tryd.prog.info? 55).map (·.size) = some 18 := by kernel_rfl
  rw [this]; simp [roC, h]
theorem roC_one (l : List Nat) : (roC l).all (·.oneCell') = true := by simp [roC, Value.oneCell']
/-- What is known of the row behind r rounds. -/
def FoldSt (r : Nat) (l : List Nat) : Prop := (r = 0 → vo l < 1361129467683753853853498429727072845824 * 16) ∧ (r = 1 → vo l < 1361129467683753853853498429727072845824 + 100) ∧ (2 ≤ r → vo l < 1361129467683753853853498429727072845824) ∧ (r = 3 → (∀ j, l.getD j 0 < 256) ∧ l.getD 17 0 = 0)
theorem fold_next (l l' : List Nat) (r o o5 x y a0 : Nat) (hr : r < 3) (hf : FoldSt r l) (hd : ∀ j, j < 17 → l'.getD j 0 < 256)
    (hlt : ∀ B, vo l < 1361129467683753853853498429727072845824 * B → o < B ∧ vo (fld l') < 1361129467683753853853498429727072845824 + o5 ∧ (vo l < 1361129467683753853853498429727072845824 + 100 → B = 2 → vo (fld l') < 1361129467683753853853498429727072845824))
    (hg : ∀ j, (fld l').getD j 0 = if j = 0 then y else if j = 17 then 0 else if j = 16 then a0 else l'.getD j 0) (h5 : 5 * o = o5) (hy : x + o5 = y) (hx : x < 256 ∧ a0 < 256 ∧ (∀ j, 18 ≤ j → l'.getD j 0 = 0)) (hv : vo (fld l') + pP * o = vo l) : o < 16 ∧ FoldSt (r + 1) (fld l') := by
  obtain ⟨h0, h1, h2, h3⟩ := hf
  obtain ⟨hx1, hx2, hx3⟩ := hx
  rcases (by omega : r = 0 ∨ r = 1 ∨ r = 2) with rfl | rfl | rfl
  · obtain ⟨a, b, _⟩ := hlt 16 (h0 rfl)
    exact ⟨a, fun h => absurd h (by omega), fun _ => by omega, fun h => absurd h (by omega), fun h => absurd h (by omega)⟩
  · obtain ⟨a, _, c⟩ := hlt 2 (by have := h1 rfl; omega)
    exact ⟨by omega, fun h => absurd h (by omega), fun h => absurd h (by omega), fun _ => c (h1 rfl) rfl, fun h => absurd h (by omega)⟩
  · obtain ⟨a, _, _⟩ := hlt 1 (by have := h2 (Nat.le_refl _); omega)
    have ho : o = 0 := by omega
    subst ho
    refine ⟨by decide, fun h => absurd h (by omega), fun h => absurd h (by omega), fun _ => by have := h2 (Nat.le_refl _); omega, fun _ => ⟨fun j => ?_, by rw [hg]; rfl⟩⟩
    rw [hg]
    split
    · omega
    · split
      · decide
      · split
        · exact hx2
        · by_cases h17 : j < 17
          · exact hd j h17
          · rw [hx3 j (by omega)]; decide
theorem svN_lt (s : List UInt8) (k : Nat) : svN s (16 * k) < 340282366920938463463374607431768211456 * (k + 1) := by
  induction k with
  | zero => show (0 : Nat) < _; decide
  | succ k ih =>
    have h : ∀ r, r ≤ 16 → svN s (16 * k + r) < svN s (16 * k) + 256 ^ r := by
      intro r hr
      induction r with
      | zero => simp
      | succ r ihr =>
        have ihr := ihr (by omega)
        have hb := (s.getD (16 * k + r) 0).toNat_lt
        rw [← Nat.add_assoc, svN, show (16 * k + r) % 16 = r by omega, Nat.pow_succ]
        have : 256 ^ r * (s.getD (16 * k + r) 0).toNat ≤ 256 ^ r * 255 := Nat.mul_le_mul_left _ (by omega)
        omega
    have h16 := h 16 (Nat.le_refl _)
    rw [show (256 : Nat) ^ 16 = 340282366920938463463374607431768211456 by decide] at h16
    rw [show 16 * (k + 1) = 16 * k + 16 by omega]
    omega
theorem vo_zeros1 (n : Nat) : vo (List.replicate n 0) = 0 := by
  induction n with
  | zero => rfl
  | succ n ih => rw [List.replicate_succ]; simp [vo, ih]
theorem roC_size (l : List Nat) : (roC l).size = l.length := by simp [roC]
theorem vo_first (x : Nat) : vo (x :: List.replicate 17 0) = x := by rw [vo, vo_zeros1]; omega
theorem ef_row (l : List Nat) (h : l.length = 18) (hd : ∀ j, l.getD j 0 < 256) (h17 : l.getD 17 0 = 0) (hv : vo l < 1361129467683753853853498429727072845824) :
    (fb l 15 = false → ∀ j, vo l % pP / 256 ^ j % 256 = l.getD j 0) ∧ (fb l 15 = true → 251 ≤ l.getD 0 0 ∧ ∀ j, vo l % pP / 256 ^ j % 256 = ((l.getD 0 0 - 251) :: List.replicate 17 0).getD j 0) := by
  have hful := fb_full l h hd h17 hv
  have DG : Dg l := fun x hx => by
    obtain ⟨i, hi, rfl⟩ := List.mem_iff_getElem.1 hx
    have := hd i
    rwa [List.getD_eq_getElem?_getD, List.getElem?_eq_getElem hi] at this
  constructor
  · intro hf j
    rw [Nat.mod_eq_of_lt (hful.2 hf), ← vo_oct l DG]
  · intro hf
    obtain ⟨e, h251⟩ := hful.1 hf
    have hx := hd 0
    refine ⟨h251, fun j => ?_⟩
    have hdr : Dg ((l.getD 0 0 - 251) :: List.replicate 17 0) := by
      have h1 : l.getD 0 0 - 251 < 256 := by omega
      generalize l.getD 0 0 - 251 = y at h1
      intro x hm
      rw [List.mem_cons] at hm
      rcases hm with e | hm
      · rw [e]; exact h1
      · rw [List.eq_of_mem_replicate hm]; exact (by decide)
    have hlt : l.getD 0 0 - 251 < pP := Nat.lt_of_lt_of_le (show l.getD 0 0 - 251 < 256 by omega) (by decide)
    rw [e, Nat.add_mod_left, Nat.mod_eq_of_lt hlt, vo_oct _ hdr, vo_first]
theorem ix_bs1 (l : List UInt8) (k : Nat) (i : Int) (hi : i = (k : Int)) (h : k < l.length) (w : World) : (Instr.index 9 (.string (bs l)) (.int .i64 i)).run Tryd.prog w = .ok (.int .u8 ((l.getD k 0).toNat : Int)) w := by
  subst hi
  rw [run_index_string w 9 (bs l) .i64 _ Tryd.underlying9, dif_pos ⟨by omega, by rw [bs_size]; omega⟩]
  simp only [Int.toNat_natCast]
  rw [List.getD_eq_getElem?_getD, List.getElem?_eq_getElem h]; rfl
set_option maxRecDepth 1000000 in
set_option maxHeartbeats 16000000 in
theorem one_true (A : Option Addr) (len cap : Nat) (ss : List ByteArray) (w : World) (hD : Digits w) (hlc : len ≤ cap) (hcap : cap ≤ maxLen)
    (hA : ∀ k, k < len → ∃ b off, A = some ⟨b, off, none⟩ ∧ b < w.heap.size ∧ w.cell? ⟨b, off + k, none⟩ = some (.string (ss.getD k ByteArray.empty)) ∧ (ss.getD k ByteArray.empty).size ≤ 9223372036854775807) :
    Calls Tryd.prog 8 #[.slice A len cap] w fun e w' => e = .returned (.bool true) ∧ Below w.heap.size w w' := by
  have K0 := Wk.start hD
  unfold maxLen at hcap
  have hsl := slice_m9 A len cap hlc
  obtain ⟨q, hq⟩ : ∃ q, min len 9 = q := ⟨_, rfl⟩
  rw [hq] at hsl
  have hq8 : q ≤ 9 := by omega
  have hql : q ≤ len := by omega
  have HA := Lib.hid hA
  have kc := key1_cat
  have rs : (rp 0 31).size = 31 := rp_size _ _
  obtain ⟨KK, hKK⟩ : ∃ K, bs KEY1 = K := ⟨_, rfl⟩
  rw [hKK] at kc
  clear hA hq hD
  go_enter Tryd.func8, Tryd.ntmps8
  go_wp2_with fail
  refine (worksQ_true _ K0.d).mono ?_
  rintro e W1 ⟨rfl, hb⟩
  have B1 := Lib.hid hb
  clear hb K0
  go_wp2_with (first | (go_at_call 28; (with_reducible refine (zerosQ_any 31 31 _ rfl (by decide)).mono ?_); rintro r W2 ⟨rfl, hb⟩; have B2 := Lib.hid (B1.out.trans (hb.mono B1.out.size)); clear hb))
  clear B1 rs hsl
  go_loopw [4, 27] (fun s4 i wr => ∃ (k : Nat) (L : List UInt8), k ≤ q ∧ i = .int .i64 k ∧ s4 = .string (bs L) ∧ L.length = 16 * k ∧ Hid (Below w.heap.size w wr)) (fun _ i _ => q - (intOf i).toNat)
  case atStart => exact ⟨0, [], Nat.zero_le _, rfl, rfl, rfl, B2⟩
  case round =>
    clear B2
    obtain ⟨k, L, hk, rfl, rfl, hL, HB⟩ := hrel
    by_cases hlt : k < q
    · have k1 : (k : Int) < (q : Int) := by omega
      obtain ⟨b, off, rfl, hbw, hc0, hss⟩ := HA.out k (by omega)
      obtain ⟨sk, hsk⟩ : ∃ sk, ss.getD k ByteArray.empty = sk := ⟨_, rfl⟩
      rw [hsk] at hc0 hss
      have hc1 : wr.cell? ⟨b, off + k, none⟩ = some (.string sk) := (HB.out.cell (p := ⟨b, off + k, none⟩) hbw).trans hc0
      obtain ⟨m, z, hz, hl1, i1, j1⟩ := cut_m sk 16 16 rfl
      have q1 : ∀ w, Calls Tryd.prog 14 #[.string (sk.extract 0 m), .int .i64 16] w fun e w' => e = .returned (.string (bs (sizL z 16))) ∧ Below w.heap.size w w' := fun w => by
        rw [hz]; exact sized_any z 16 w (by decide) (by omega)
      have sz : (bs (sizL z 16)).size = 16 := by rw [bs_size, sizL_length]
      have sL : (bs L).size ≤ 144 := by rw [bs_size]; omega
      have hcat : bs L ++ bs (sizL z 16) = bs (L ++ sizL z 16) := (bs_append _ _).symm
      have hLL : (L ++ sizL z 16).length = 16 * (k + 1) := by rw [List.length_append, sizL_length, hL]; omega
      have HR : Hid (∃ L' : List UInt8, Value.string (bs L ++ bs (sizL z 16)) = .string (bs L') ∧ L'.length = 16 * (k + 1)) := Lib.hid ⟨_, by rw [hcat], hLL⟩
      generalize bs (sizL z 16) = PB at q1 sz HR
      generalize bs L = LB at sL HR ⊢
      obtain ⟨XB, hXB⟩ : ∃ x, sk.extract 0 m = x := ⟨_, rfl⟩
      rw [hXB] at q1
      have Q1 := Lib.hid q1
      clear q1 hcat hLL hsk hc0 hss hL hz hl1
      go_wp2_with (first
        | (go_at_call 14; (with_reducible refine (Q1.out _).mono ?_); rintro e W3 ⟨rfl, hb⟩; have B3 := Lib.hid (HB.out.trans (hb.mono HB.out.size)); clear hb))
      go_roundw
      case rel =>
        obtain ⟨L', hL1, hL2⟩ := HR.out
        exact ⟨k + 1, L', by omega, by go_num, hL1, hL2, B3⟩
      case measure => simp [intOf]; omega
    · obtain rfl : k = q := by omega
      have k1 : ¬ (k : Int) < (k : Int) := by omega
      have T1 : Hid (∀ w, Calls Tryd.prog 16 #[.string KK, .string (bs L)] w fun e w' => e = .returned (.tuple #[.string (bs (tagO KEY1 L)), .int .i64 0]) ∧ Below w.heap.size w w') := Lib.hid fun w => by
        rw [← hKK]; exact tag_ok KEY1 L w rfl (by omega)
      have sT : (bs (tagO KEY1 L)).size = 16 := by rw [bs_size, tagO_length]
      have sL : (bs L).size = 16 * k := by rw [bs_size, hL]
      have IX : Hid (∀ (j : Nat) (w : World), j < 16 * k → (Instr.index 9 (.string (bs L)) (.int .i64 (j : Int))).run Tryd.prog w = .ok (.int .u8 ((L.getD j 0).toNat : Int)) w) := Lib.hid fun j w hj => ix_bs1 L j _ rfl (by omega) w
      have IT : Hid (∀ (j : Nat) (w : World), j < 16 → (Instr.index 9 (.string (bs (tagO KEY1 L))) (.int .i64 (j : Int))).run Tryd.prog w = .ok (.int .u8 (((tagO KEY1 L).getD j 0).toNat : Int)) w) := Lib.hid fun j w hj => ix_bs1 _ j _ rfl (by rw [tagO_length]; exact hj) w
      have TG : Hid (∀ j, j < 16 → ((tagO KEY1 L).getD j 0).toNat = (svN L (16 * k) + 340282366920938463463374607431768211456 * k) % pP / 256 ^ j % 256) := Lib.hid fun j hj => by
        unfold tagO
        rw [key1_fac, key1_low, Nat.add_zero, hL, show (16 * k + 15) / 16 = k by omega, acc_one L k (by omega), octV_get _ _ _ hj, UInt8.toNat_ofNat_of_lt' (Nat.mod_lt _ (by decide))]
      generalize tagO KEY1 L = TL at T1 sT IT TG
      generalize bs TL = TB at T1 sT IT
      obtain ⟨LB, hLB⟩ : ∃ x, bs L = x := ⟨_, rfl⟩
      rw [hLB] at T1 sL IX ⊢
      clear hLB
      go_wp2_with (first
        | (go_at_call 16; (with_reducible refine (T1.out _).mono ?_); rintro e W3 ⟨rfl, hb⟩; have B3 := Lib.hid (HB.out.trans (hb.mono HB.out.size)); clear hb))
      have R0 : Hid (Ro (W3.alloc (.cells (roC (List.replicate 18 0)) 55)) W3.heap.size (svL L 0)) := Lib.hid (heap_alloc_new W3 _)
      have B4 := Lib.hid (B3.out.alloc B3.out.size (.cells (roC (List.replicate 18 0)) 55))
      have zg := B3.out.size
      rw [show Obj.cells #[Value.int .i64 0, .int .i64 0, .int .i64 0, .int .i64 0, .int .i64 0, .int .i64 0, .int .i64 0, .int .i64 0, .int .i64 0, .int .i64 0, .int .i64 0, .int .i64 0, .int .i64 0, .int .i64 0, .int .i64 0, .int .i64 0, .int .i64 0, .int .i64 0] 55 = .cells (roC (List.replicate 18 0)) 55 from rfl]
      generalize W3.alloc (.cells (roC (List.replicate 18 0)) 55) = W4 at R0 B4 ⊢
      generalize W3.heap.size = g at R0 zg ⊢
      clear B3 HB T1
      go_loopw [55] (fun i wr => ∃ m : Nat, m ≤ 16 * k ∧ i = .int .i64 m ∧ Hid (Ro wr g (svL L m)) ∧ Hid (Below w.heap.size w wr)) (fun i _ => 16 * k - (intOf i).toNat)
      case atStart => exact ⟨0, Nat.zero_le _, rfl, R0, B4⟩
      case round =>
        clear R0 B4
        obtain ⟨m, hm, rfl, HR, HB⟩ := hrel
        by_cases hlm : m < 16 * k
        · have m1 : (m : Int) < (LB.size : Int) := by omega
          have hix := fun w => IX.out m w hlm
          have hb8 := (L.getD m 0).toNat_lt
          obtain ⟨r, hr⟩ : ∃ r, m % 16 = r := ⟨_, rfl⟩
          have r1 : (m : Int).tmod 16 = (r : Int) := by rw [Int.tmod_eq_emod_of_nonneg (by omega)]; omega
          have r2 : (m : Int) % 16 = (r : Int) := by omega
          have r3 : r < 16 := by omega
          have r4 : (r : Int) < 18 := by omega
          have hsv : svL L (m + 1) = (svL L m).set r ((svL L m).getD r 0 + (L.getD m 0).toNat) := by rw [svL, hr]
          have hle := svL_le L m r
          have cu0 := HR.out.drew.get (i := r) (by rw [svL_length]; omega)
          have uf := HR.out.drew.free r
          obtain ⟨x, hx⟩ : ∃ x, (svL L m).getD r 0 = x := ⟨_, rfl⟩
          obtain ⟨c, hc⟩ : ∃ c, (L.getD m 0).toNat = c := ⟨_, rfl⟩
          simp only [hc] at hix hb8 hsv
          rw [hx] at hle cu0 hsv
          obtain ⟨y, hy⟩ : ∃ y, x + c = y := ⟨_, rfl⟩
          rw [hy] at hsv
          have y1 : (x : Int) + (c : Int) = (y : Int) := by omega
          have y2 : IntKind.i64.wrap ((x : Int) + (c : Int)) = (y : Int) := by rw [IntWalk.i64_in _ (by omega)]; omega
          have y3 : IntKind.i64.wrap (c : Int) = (c : Int) := IntWalk.i64_in _ (by omega)
          have HS : Hid (Ro (wr.setCell ⟨g, r, none⟩ (.int .i64 (y : Int))) g (svL L (m + 1))) := Lib.hid (by rw [hsv]; exact HR.out.set r y)
          have HB2 := Lib.hid (HB.out.setCell (p := ⟨g, r, none⟩) zg (.int .i64 (y : Int)))
          clear hx hc hy hsv hr
          go_wp2_with fail
          refine region_anyC (fun _ => True) (fun w' => w'.cell? ⟨g, r, none⟩ = some (.int .i64 (x : Int))) [10] (by kernel_rfl) ?_
          refine anyC_takeS (i := 0) (oi := ⟨some 58, _, _, _, _, _⟩) (v := _) rfl (by kernel_rfl) (by kernel_rfl) (by kernel_rfl) (by kernel_rfl) (fun _ _ _ h => h) (Or.inl ⟨by rfl, fun w' hw' => (by clear hw'; go_simp; try with_reducible rfl)⟩) trivial (fun _ => cu0) ?_
          try simp only [Act.put, List.setIfInBounds_toArray, List.set_cons_zero, List.set_cons_succ]
          refine anyC_takeS (i := 1) (oi := ⟨some 59, _, _, _, _, _⟩) (v := _) rfl (by kernel_rfl) (by kernel_rfl) (by kernel_rfl) (by kernel_rfl) (fun _ _ _ h => h) (Or.inl ⟨by rfl, fun w' hw' => (by clear hw'; go_simp; try with_reducible rfl)⟩) trivial (fun _ => cu0) ?_
          try simp only [Act.put, List.setIfInBounds_toArray, List.set_cons_zero, List.set_cons_succ]
          refine anyC_takeS (i := 2) (oi := ⟨some 60, _, _, _, _, _⟩) (v := _) rfl (by kernel_rfl) (by kernel_rfl) (by kernel_rfl) (by kernel_rfl) (fun _ _ _ h => h) (Or.inl ⟨by rfl, fun w' hw' => (by clear hw'; go_simp; try with_reducible rfl)⟩) trivial (fun _ => cu0) ?_
          try simp only [Act.put, List.setIfInBounds_toArray, List.set_cons_zero, List.set_cons_succ]
          refine anyC_takeU (i := 3) (oi := ⟨some 61, _, _, _, _, _⟩) (v := _) rfl (by kernel_rfl) (by kernel_rfl) (by kernel_rfl) (by kernel_rfl) (fun _ _ _ h => h) (Or.inl ⟨by rfl, fun w' hw' => (by have k1 := hw'; go_simp; try with_reducible rfl)⟩) trivial cu0 ?_
          try simp only [Act.put, List.setIfInBounds_toArray, List.set_cons_zero, List.set_cons_succ]
          refine anyC_takeS (i := 4) (oi := ⟨some 62, _, _, _, _, _⟩) (v := _) rfl (by kernel_rfl) (by kernel_rfl) (by kernel_rfl) (by kernel_rfl) (fun _ _ _ h => h) (Or.inl ⟨by rfl, fun w' hw' => (by clear hw'; go_simp; try with_reducible rfl)⟩) trivial (fun _ => cu0) ?_
          try simp only [Act.put, List.setIfInBounds_toArray, List.set_cons_zero, List.set_cons_succ]
          refine anyC_takeS (i := 5) (oi := ⟨some 63, _, _, _, _, _⟩) (v := _) rfl (by kernel_rfl) (by kernel_rfl) (by kernel_rfl) (by kernel_rfl) (fun _ _ _ h => h) (Or.inl ⟨by rfl, fun w' hw' => (by clear hw'; go_simp; try with_reducible rfl)⟩) trivial (fun _ => cu0) ?_
          try simp only [Act.put, List.setIfInBounds_toArray, List.set_cons_zero, List.set_cons_succ]
          refine anyC_takeS (i := 6) (oi := ⟨some 64, _, _, _, _, _⟩) (v := _) rfl (by kernel_rfl) (by kernel_rfl) (by kernel_rfl) (by kernel_rfl) (fun _ _ _ h => h) (Or.inl ⟨by rfl, fun w' hw' => (by clear hw'; go_simp; try with_reducible rfl)⟩) trivial (fun _ => cu0) ?_
          try simp only [Act.put, List.setIfInBounds_toArray, List.set_cons_zero, List.set_cons_succ]
          refine anyC_takeS (i := 7) (oi := ⟨some 65, _, _, _, _, _⟩) (v := _) rfl (by kernel_rfl) (by kernel_rfl) (by kernel_rfl) (by kernel_rfl) (fun _ _ _ h => h) (Or.inl ⟨by rfl, fun w' hw' => (by clear hw'; go_simp; try with_reducible rfl)⟩) trivial (fun _ => cu0) ?_
          try simp only [Act.put, List.setIfInBounds_toArray, List.set_cons_zero, List.set_cons_succ]
          refine anyC_takeS (i := 8) (oi := ⟨some 66, _, _, _, _, _⟩) (v := _) rfl (by kernel_rfl) (by kernel_rfl) (by kernel_rfl) (by kernel_rfl) (fun _ _ _ h => h) (Or.inl ⟨by rfl, fun w' hw' => (by clear hw'; go_simp; try with_reducible rfl)⟩) trivial (fun _ => cu0) ?_
          try simp only [Act.put, List.setIfInBounds_toArray, List.set_cons_zero, List.set_cons_succ]
          refine anyC_takeS (i := 9) (oi := ⟨some 67, _, _, _, _, _⟩) (v := _) rfl (by kernel_rfl) (by kernel_rfl) (by kernel_rfl) (by kernel_rfl) (fun _ _ _ h => h) (Or.inl ⟨by rfl, fun w' hw' => (by clear hw'; go_simp; try with_reducible rfl)⟩) trivial (fun _ => cu0) ?_
          try simp only [Act.put, List.setIfInBounds_toArray, List.set_cons_zero, List.set_cons_succ]
          refine anyC_keep (i := 10) (o := ⟨none, _, _, _, _, _⟩) (by kernel_rfl) rfl (fun K hK => ?_)
          rw [if_pos (by rfl)]
          go_simp
          refine hK.out _ _ ⟨trivial, fun h => absurd h (by decide)⟩ ?_
          clear hK K
          refine anyC_done (by kernel_rfl) ?_ _
          go_wp2
          go_roundw
          case rel => exact ⟨m + 1, by omega, by go_num, Lib.hid HS.out.drew, Lib.hid HB2.out.drew⟩
          case measure => simp [intOf]; omega
        · obtain rfl : m = 16 * k := by omega
          have m1 : ¬ (((16 * k : Nat) : Int)) < (LB.size : Int) := by omega
          have hlen := svL_length L (16 * k)
          have hle := svL_le L (16 * k)
          have htop := svL_top L (16 * k)
          have hvo := svL_vo L (16 * k)
          obtain ⟨l1, hl1⟩ : ∃ l, svL L (16 * k) = l := ⟨_, rfl⟩
          rw [hl1] at hlen hle htop hvo HR
          have uf := HR.out.free 16
          have cu0 := HR.out.get (i := 16) (by omega)
          have HR2 := Lib.hid (HR.out.set 16 k)
          have HB2 := Lib.hid (HB.out.setCell (p := ⟨g, 16, none⟩) zg (.int .i64 (k : Int)))
          have hv2 : vo (l1.set 16 k) = svN L (16 * k) + 340282366920938463463374607431768211456 * k := by
            have := vo_set l1 16 k (by omega)
            rw [htop 16 (by omega), hvo] at this
            rw [show (256 : Nat) ^ 16 = 340282366920938463463374607431768211456 by decide] at this
            omega
          have VP : Hid (∀ j, j < 16 → (TL.getD j 0).toNat = vo (l1.set 16 k) % pP / 256 ^ j % 256) := Lib.hid fun j hj => by rw [hv2]; exact TG.out j hj
          have hb2 : ∀ j, (l1.set 16 k).getD j 0 ≤ 40000 := fun j => by
            rw [set_getN]
            have := hle j
            split <;> omega
          have hvb : vo (l1.set 16 k) < 1361129467683753853853498429727072845824 * 16 := by
            rw [hv2]
            have : svN L (16 * k) ≤ 255 * 340282366920938463463374607431768211456 * 0 + svN L (16 * k) := by omega
            have h3 : svN L (16 * k) < 340282366920938463463374607431768211456 * (k + 1) := svN_lt L k
            omega
          have hlen2 : (l1.set 16 k).length = 18 := by rw [List.length_set]; exact hlen
          generalize l1.set 16 k = l2 at HR2 VP hb2 hvb hlen2
          have HV0 := Lib.hid hvb
          have HB0 := Lib.hid hb2
          clear hl1 hle htop hvo hv2 hb2 hvb hlen TG IX HR HB hlm hm hL
          go_wp2_with fail
          clear uf cu0
          go_loopw [72] (fun i wr => ∃ (r : Nat) (l : List Nat), r ≤ 3 ∧ i = .int .i64 r ∧ l.length = 18 ∧ Hid (Ro wr g l) ∧ Hid (∀ j, l.getD j 0 ≤ 40000) ∧ Hid (vo l % pP = vo l2 % pP) ∧ Hid (FoldSt r l) ∧ Hid (Below w.heap.size w wr)) (fun i _ => 3 - (intOf i).toNat)
          case atStart => exact ⟨0, l2, Nat.zero_le _, rfl, hlen2, HR2, HB0, Lib.hid rfl, Lib.hid ⟨fun _ => HV0.out, fun h => absurd h (by decide), fun h => absurd h (by decide), fun h => absurd h (by decide)⟩, HB2⟩
          case round =>
            clear HR2 HB2 HB0 HV0
            obtain ⟨r, l, hr, rfl, hll, HR, HBd, HM, HF, HB⟩ := hrel
            by_cases hlr : r < 3
            · have r1 : (r : Int) < 3 := by omega
              go_wp2_with fail
              go_loopw [74] (fun i wr => ∃ (n : Nat) (l' : List Nat), n ≤ 17 ∧ i = .int .i64 n ∧ l'.length = 18 ∧ Hid (Ro wr g l') ∧ Hid (vo l' = vo l) ∧ Hid (∀ j, j < n → l'.getD j 0 < 256) ∧ Hid (∀ j, j ≠ n → l'.getD j 0 ≤ 40000) ∧ l'.getD n 0 ≤ 80000 ∧ Hid (Below w.heap.size w wr)) (fun i _ => 17 - (intOf i).toNat)
              case atStart => exact ⟨0, l, Nat.zero_le _, rfl, hll, HR, Lib.hid rfl, Lib.hid (fun j hj => absurd hj (by omega)), Lib.hid (fun j _ => HBd.out j), Nat.le_trans (HBd.out 0) (by decide), HB⟩
              case round =>
                clear HR HB
                obtain ⟨i, l', hi, rfl, hll', HR, HV, HD, HE, hi8, HB⟩ := hrel
                by_cases hli : i < 17
                · have i1 : (i : Int) < 17 := by omega
                  have i2 : (i : Int) + 1 < 18 := by omega
                  have i3 : (i : Int) < 18 := by omega
                  have i5 : ((i : Int) + 1).toNat = i + 1 := by omega
                  have gy := HE.out (i + 1) (by omega)
                  have ux := HR.out.drew.get (i := i) (by omega)
                  have uy := HR.out.drew.get (i := i + 1) (by omega)
                  have uf := HR.out.drew.free (i + 1)
                  have hng := fun j => nrm_get l' i j (by omega)
                  have hnv := nrm_vo l' i (by omega)
                  have hnl := nrm_length l' i
                  have hnr : nrm l' i = (l'.set (i + 1) (l'.getD (i + 1) 0 + l'.getD i 0 / 256)).set i (l'.getD i 0 % 256) := rfl
                  obtain ⟨x, hx⟩ : ∃ x, l'.getD i 0 = x := ⟨_, rfl⟩
                  obtain ⟨y, hy⟩ : ∃ y, l'.getD (i + 1) 0 = y := ⟨_, rfl⟩
                  simp only [hx, hy] at hng
                  rw [hx] at ux hi8 hnr
                  rw [hy] at uy gy hnr
                  obtain ⟨d, hd⟩ : ∃ d, x / 256 = d := ⟨_, rfl⟩
                  obtain ⟨e, he⟩ : ∃ e, x % 256 = e := ⟨_, rfl⟩
                  simp only [hd, he] at hng
                  rw [hd, he] at hnr
                  obtain ⟨z, hz⟩ : ∃ z, y + d = z := ⟨_, rfl⟩
                  simp only [hz] at hng
                  rw [hz] at hnr
                  have d1 : (x : Int) / 2 ^ 8 = (d : Int) := by rw [← hd]; simp
                  have d2 : (x : Int) / 256 = (d : Int) := by omega
                  have d3 : (y : Int) + (d : Int) = (z : Int) := by omega
                  have d4 : IntKind.i64.wrap ((y : Int) + (d : Int)) = (z : Int) := by rw [IntWalk.i64_in _ (by omega)]; omega
                  have d6 : IntKind.i64.wrap (z : Int) = (z : Int) := IntWalk.i64_in _ (by omega)
                  have d5 : bits .and .i64 (x : Int) 255 = (e : Int) := by rw [← he]; exact i64_and x 8 (by omega) (by decide)
                  have HS := Lib.hid (HR.out.set (i + 1) z)
                  have vx : ((wr.setCell ⟨g, i + 1, none⟩ (.int .i64 (z : Int))).drew).cell? ⟨g, i, none⟩ = some (.int .i64 (x : Int)) := by
                    show (wr.setCell ⟨g, i + 1, none⟩ (.int .i64 (z : Int))).cell? ⟨g, i, none⟩ = _
                    have := HS.out.get (i := i) (by rw [List.length_set]; omega)
                    rw [set_getN, if_neg (by omega), hx] at this
                    exact this
                  have vf : ((wr.setCell ⟨g, i + 1, none⟩ (.int .i64 (z : Int))).drew).frozen? ⟨g, i, none⟩ = false := HS.out.free i
                  have HS2 : Hid (Ro (((wr.setCell ⟨g, i + 1, none⟩ (.int .i64 (z : Int))).drew).setCell ⟨g, i, none⟩ (.int .i64 (e : Int))) g (nrm l' i)) := Lib.hid (by rw [hnr]; exact HS.out.drew.set i e)
                  have HB3 := Lib.hid (((HB.out.setCell (p := ⟨g, i + 1, none⟩) zg (.int .i64 (z : Int))).drew).setCell (p := ⟨g, i, none⟩) zg (.int .i64 (e : Int)))
                  have HV2 : Hid (vo (nrm l' i) = vo l) := Lib.hid (by rw [hnv]; exact HV.out)
                  have HD2 : Hid (∀ j, j < i + 1 → (nrm l' i).getD j 0 < 256) := Lib.hid fun j hj => by
                    rw [hng]
                    split
                    · omega
                    · rw [if_neg (by omega)]; exact HD.out j (by omega)
                  have HE2 : Hid (∀ j, j ≠ i + 1 → (nrm l' i).getD j 0 ≤ 40000) := Lib.hid fun j hj => by
                    rw [hng]
                    by_cases h1 : j = i
                    · rw [if_pos h1]; omega
                    · rw [if_neg h1, if_neg hj]; exact HE.out j h1
                  have hz8 : (nrm l' i).getD (i + 1) 0 ≤ 80000 := by rw [hng, if_neg (by omega), if_pos rfl]; omega
                  have hnl2 : (nrm l' i).length = 18 := by rw [hnl]; exact hll'
                  generalize nrm l' i = l3 at HS2 HV2 HD2 HE2 hz8 hnl2
                  obtain ⟨ip, hip⟩ : ∃ t, i + 1 = t := ⟨_, rfl⟩
                  have ip1 : IntKind.i64.wrap ((i : Int) + 1) = (ip : Int) := by rw [IntWalk.i64_in _ (by omega)]; omega
                  have ip2 : (ip : Int) < 18 := by omega
                  have hipn : (i : Int) + 1 = (ip : Int) := by omega
                  rw [hip] at uy uf vx vf HS2 HB3 HD2 HE2 hz8
                  have cu0 := And.intro ux uy
                  have hipp := Lib.hid hip
                  have hipq := Lib.hid hipn
                  clear hip hipn i5 i2 hng hnv hnl hnr hx hy hd he hz HS HV HD HE HR HB ux uy
                  go_wp2_with fail
                  refine region_anyC (fun _ => True) (fun w' => w'.cell? ⟨g, i, none⟩ = some (.int .i64 (x : Int)) ∧ w'.cell? ⟨g, ip, none⟩ = some (.int .i64 (y : Int))) [10] (by kernel_rfl) ?_
                  refine anyC_takeS (i := 0) (oi := ⟨some 77, _, _, _, _, _⟩) (v := _) rfl (by kernel_rfl) (by kernel_rfl) (by kernel_rfl) (by kernel_rfl) (fun _ _ _ h => h) (Or.inl ⟨by rfl, fun w' hw' => (by clear hw'; go_simp; try with_reducible rfl)⟩) trivial (fun _ => cu0) ?_
                  try simp only [Act.put, List.setIfInBounds_toArray, List.set_cons_zero, List.set_cons_succ]
                  refine anyC_takeS (i := 1) (oi := ⟨some 78, _, _, _, _, _⟩) (v := _) rfl (by kernel_rfl) (by kernel_rfl) (by kernel_rfl) (by kernel_rfl) (fun _ _ _ h => h) (Or.inl ⟨by rfl, fun w' hw' => (by clear hw'; go_simp; try with_reducible rfl)⟩) trivial (fun _ => cu0) ?_
                  try simp only [Act.put, List.setIfInBounds_toArray, List.set_cons_zero, List.set_cons_succ]
                  refine anyC_takeS (i := 2) (oi := ⟨some 79, _, _, _, _, _⟩) (v := _) rfl (by kernel_rfl) (by kernel_rfl) (by kernel_rfl) (by kernel_rfl) (fun _ _ _ h => h) (Or.inl ⟨by rfl, fun w' hw' => (by clear hw'; go_simp; try with_reducible rfl)⟩) trivial (fun _ => cu0) ?_
                  try simp only [Act.put, List.setIfInBounds_toArray, List.set_cons_zero, List.set_cons_succ]
                  refine anyC_takeU (i := 3) (oi := ⟨some 80, _, _, _, _, _⟩) (v := _) rfl (by kernel_rfl) (by kernel_rfl) (by kernel_rfl) (by kernel_rfl) (fun _ _ _ h => h) (Or.inl ⟨by rfl, fun w' hw' => (by obtain ⟨k1, k2⟩ := hw'; go_simp; try with_reducible rfl)⟩) trivial cu0 ?_
                  try simp only [Act.put, List.setIfInBounds_toArray, List.set_cons_zero, List.set_cons_succ]
                  refine anyC_takeS (i := 4) (oi := ⟨some 81, _, _, _, _, _⟩) (v := _) rfl (by kernel_rfl) (by kernel_rfl) (by kernel_rfl) (by kernel_rfl) (fun _ _ _ h => h) (Or.inl ⟨by rfl, fun w' hw' => (by clear hw'; go_simp; try with_reducible rfl)⟩) trivial (fun _ => cu0) ?_
                  try simp only [Act.put, List.setIfInBounds_toArray, List.set_cons_zero, List.set_cons_succ]
                  refine anyC_takeS (i := 5) (oi := ⟨some 82, _, _, _, _, _⟩) (v := _) rfl (by kernel_rfl) (by kernel_rfl) (by kernel_rfl) (by kernel_rfl) (fun _ _ _ h => h) (Or.inl ⟨by rfl, fun w' hw' => (by clear hw'; go_simp; try with_reducible rfl)⟩) trivial (fun _ => cu0) ?_
                  try simp only [Act.put, List.setIfInBounds_toArray, List.set_cons_zero, List.set_cons_succ]
                  refine anyC_takeU (i := 6) (oi := ⟨some 83, _, _, _, _, _⟩) (v := _) rfl (by kernel_rfl) (by kernel_rfl) (by kernel_rfl) (by kernel_rfl) (fun _ _ _ h => h) (Or.inl ⟨by rfl, fun w' hw' => (by obtain ⟨k1, k2⟩ := hw'; go_simp; try with_reducible rfl)⟩) trivial cu0 ?_
                  try simp only [Act.put, List.setIfInBounds_toArray, List.set_cons_zero, List.set_cons_succ]
                  refine anyC_takeS (i := 7) (oi := ⟨some 84, _, _, _, _, _⟩) (v := _) rfl (by kernel_rfl) (by kernel_rfl) (by kernel_rfl) (by kernel_rfl) (fun _ _ _ h => h) (Or.inl ⟨by rfl, fun w' hw' => (by clear hw'; go_simp; try with_reducible rfl)⟩) trivial (fun _ => cu0) ?_
                  try simp only [Act.put, List.setIfInBounds_toArray, List.set_cons_zero, List.set_cons_succ]
                  refine anyC_takeS (i := 8) (oi := ⟨some 85, _, _, _, _, _⟩) (v := _) rfl (by kernel_rfl) (by kernel_rfl) (by kernel_rfl) (by kernel_rfl) (fun _ _ _ h => h) (Or.inl ⟨by rfl, fun w' hw' => (by clear hw'; go_simp; try with_reducible rfl)⟩) trivial (fun _ => cu0) ?_
                  try simp only [Act.put, List.setIfInBounds_toArray, List.set_cons_zero, List.set_cons_succ]
                  refine anyC_takeS (i := 9) (oi := ⟨some 86, _, _, _, _, _⟩) (v := _) rfl (by kernel_rfl) (by kernel_rfl) (by kernel_rfl) (by kernel_rfl) (fun _ _ _ h => h) (Or.inl ⟨by rfl, fun w' hw' => (by clear hw'; go_simp; try with_reducible rfl)⟩) trivial (fun _ => cu0) ?_
                  try simp only [Act.put, List.setIfInBounds_toArray, List.set_cons_zero, List.set_cons_succ]
                  refine anyC_keep (i := 10) (o := ⟨none, _, _, _, _, _⟩) (by kernel_rfl) rfl (fun K hK => ?_)
                  rw [if_pos (by rfl)]
                  go_simp
                  refine hK.out _ _ ⟨trivial, fun h => absurd h (by decide)⟩ ?_
                  clear hK K
                  refine anyC_done (by kernel_rfl) ?_ _
                  generalize ((wr.setCell ⟨g, ip, none⟩ (.int .i64 (z : Int))).drew) = W5 at vx vf HS2 HB3 ⊢
                  clear cu0 uf
                  go_wp2
                  go_roundw
                  case rel => exact ⟨ip, l3, by have := hipp.out; omega, by first | rw [hipq.out] | (have := hipq.out; go_num), hnl2, HS2, HV2, HD2, HE2, hz8, HB3⟩
                  case measure => have := hipp.out; have := hipq.out; simp [intOf]; omega
                · have i17 : i = 17 := by omega
                  have i1 : ¬ (i : Int) < 17 := by omega
                  subst i17
                  have cu16 := HR.out.get (i := 16) (by omega)
                  have cu17 := HR.out.get (i := 17) (by omega)
                  have uu0 := HR.out.get (i := 0) (by omega)
                  have h16 := HD.out 16 (by omega)
                  have h0 := HD.out 0 (by omega)
                  have hfg := fld_get l' hll'
                  have hfv := fld_vo l' hll'
                  have hfl := fld_length l'
                  have hlt := fold_lt l' hll' HD.out
                  rw [HV.out] at hlt
                  have hfr : fld l' = ((l'.set 16 (l'.getD 16 0 % 4)).set 17 0).set 0 (l'.getD 0 0 + 5 * (l'.getD 16 0 / 4 + 64 * l'.getD 17 0)) := rfl
                  obtain ⟨a, ha⟩ : ∃ a, l'.getD 16 0 = a := ⟨_, rfl⟩
                  obtain ⟨b, hb⟩ : ∃ b, l'.getD 17 0 = b := ⟨_, rfl⟩
                  obtain ⟨x, hx⟩ : ∃ x, l'.getD 0 0 = x := ⟨_, rfl⟩
                  rw [hb] at hi8 cu17
                  rw [ha] at h16 cu16
                  rw [hx] at h0 uu0
                  simp only [ha, hb, hx] at hfg hlt hfr hfv
                  obtain ⟨a4, ha4⟩ : ∃ z, a / 4 = z := ⟨_, rfl⟩
                  obtain ⟨a0, ha0⟩ : ∃ z, a % 4 = z := ⟨_, rfl⟩
                  obtain ⟨b6, hb6⟩ : ∃ z, 64 * b = z := ⟨_, rfl⟩
                  simp only [ha4, ha0, hb6] at hfg hlt hfr hfv
                  obtain ⟨o, ho⟩ : ∃ o, a4 + b6 = o := ⟨_, rfl⟩
                  obtain ⟨o5, ho5⟩ : ∃ z, 5 * o = z := ⟨_, rfl⟩
                  simp only [ho, ho5] at hfg hlt hfr hfv
                  obtain ⟨y, hy⟩ : ∃ y, x + o5 = y := ⟨_, rfl⟩
                  simp only [hy] at hfg hfr
                  have s1 : (a : Int) / 2 ^ 2 = (a4 : Int) := by rw [← ha4]; simp
                  have s2 : (a : Int) / 4 = (a4 : Int) := by omega
                  have s3 : (b : Int) * 2 ^ 6 = (b6 : Int) := by rw [← hb6]; omega
                  have s4 : (b : Int) * 64 = (b6 : Int) := by rw [← hb6]; omega
                  have s5 : (a4 : Int) + (b6 : Int) = (o : Int) := by omega
                  have s6 : bits .and .i64 (a : Int) 3 = (a0 : Int) := by rw [← ha0]; exact i64_and a 2 (by omega) (by decide)
                  have s7 : (5 : Int) * (o : Int) = (o5 : Int) := by omega
                  have s8 : (x : Int) + (o5 : Int) = (y : Int) := by omega
                  have o1 : o ≤ 6000000 := by omega
                  have uf16 := HR.out.free 16
                  have P1 := Lib.hid (HR.out.set 16 a0)
                  have P2 := Lib.hid (P1.out.set 17 0)
                  have P3 := Lib.hid (P2.out.set 0 y)
                  have uf17 := P1.out.free 17
                  have c17 := P1.out.get (i := 17) (by rw [List.length_set]; omega)
                  have uf0 : (((wr.setCell ⟨g, 16, none⟩ (.int .i64 (a0 : Int))).setCell ⟨g, 17, none⟩ (.int .i64 0)).frozen? ⟨g, 0, none⟩) = false := P2.out.free 0
                  have c0 : (((wr.setCell ⟨g, 16, none⟩ (.int .i64 (a0 : Int))).setCell ⟨g, 17, none⟩ (.int .i64 0)).cell? ⟨g, 0, none⟩) = some (.int .i64 (x : Int)) := by
                    have := P2.out.get (i := 0) (by rw [List.length_set, List.length_set]; omega)
                    rw [set_getN, set_getN, if_neg (by omega), if_neg (by omega), hx] at this
                    exact this
                  have HS : Hid (Ro (((wr.setCell ⟨g, 16, none⟩ (.int .i64 (a0 : Int))).setCell ⟨g, 17, none⟩ (.int .i64 0)).setCell ⟨g, 0, none⟩ (.int .i64 (y : Int))) g (fld l')) := Lib.hid (by rw [hfr]; exact P3.out)
                  have HB3 := Lib.hid (((HB.out.setCell (p := ⟨g, 16, none⟩) zg (.int .i64 (a0 : Int))).setCell (p := ⟨g, 17, none⟩) zg (.int .i64 0)).setCell (p := ⟨g, 0, none⟩) zg (.int .i64 (y : Int)))
                  have HM2 : Hid (vo (fld l') % pP = vo l2 % pP) := Lib.hid (by
                    rw [← HM.out, ← HV.out, ← hfv, Nat.add_mul_mod_self_left])
                  have hob : o < 16 ∧ FoldSt (r + 1) (fld l') := fold_next l l' r o o5 x y a0 hlr HF.out HD.out (fun B hB => by have := hlt B o hB rfl; rw [ho5] at this; exact this) hfg ho5 hy ⟨h0, by omega, fun j hj => by rw [List.getD_eq_getElem?_getD, List.getElem?_eq_none (by omega)]; rfl⟩ (by rw [← HV.out]; exact hfv)
                  have HF2 := Lib.hid hob.2
                  have hob1 := hob.1
                  have HBd2 : Hid (∀ j, (fld l').getD j 0 ≤ 40000) := Lib.hid fun j => by
                    rw [hfg]
                    split
                    · omega
                    · split
                      · omega
                      · split
                        · omega
                        · by_cases h17 : j < 17
                          · have := HD.out j h17; omega
                          · exact HE.out j (by omega)
                  have hfl2 : (fld l').length = 18 := by rw [hfl]; exact hll'
                  generalize fld l' = l3 at HS HM2 HF2 HBd2 hfl2
                  clear hob hfg hfv hfl hlt hfr ha hb hx ha4 ha0 hb6 ho ho5 hy P1 P2 P3 HR HV HD HE HB HBd HM HF
                  go_wp2
                  go_roundw
                  case rel => exact ⟨r + 1, l3, by omega, by go_num, hfl2, HS, HBd2, HM2, HF2, HB3⟩
                  case measure => simp [intOf]; omega
            · obtain rfl : r = 3 := by omega
              obtain ⟨_, _, f2, f3⟩ := HF.out
              have hvl := f2 (by omega)
              obtain ⟨hdg, h17⟩ := f3 rfl
              have TGE : Hid (∀ j, j < 16 → (TL.getD j 0).toNat = vo l % pP / 256 ^ j % 256) := Lib.hid fun j hj => by rw [HM.out]; exact VP.out j hj
              have efr := ef_row l hll hdg h17 hvl
              have EQ : Hid (fb l 15 = false → ∀ j, j < 16 → (TL.getD j 0).toNat = l.getD j 0) := Lib.hid fun h j hj => by
                rw [TGE.out j hj]; exact efr.1 h j
              have EF : Hid (fb l 15 = true → 251 ≤ l.getD 0 0 ∧ ∀ j, j < 16 → (TL.getD j 0).toNat = ((l.getD 0 0 - 251) :: List.replicate 17 0).getD j 0) := Lib.hid fun h => ⟨(efr.2 h).1, fun j hj => by
                rw [TGE.out j hj]; exact (efr.2 h).2 j⟩
              have cu16 := HR.out.get (i := 16) (by omega)
              have cu0 := HR.out.get (i := 0) (by omega)
              have hd0 := hdg 0
              have hfb0 : fb l 0 = (decide (l.getD 16 0 = 3) && decide (251 ≤ l.getD 0 0)) := rfl
              have HFB : Hid (∀ n, fb l (n + 1) = (fb l n && decide (l.getD (n + 1) 0 = 255))) := Lib.hid fun n => rfl
              have HDG := Lib.hid hdg
              clear efr f2 f3 hvl HF HM HBd VP TGE
              obtain ⟨a, ha⟩ : ∃ a, l.getD 16 0 = a := ⟨_, rfl⟩
              obtain ⟨x, hx⟩ : ∃ x, l.getD 0 0 = x := ⟨_, rfl⟩
              rw [ha] at cu16 hfb0
              rw [hx] at cu0 hfb0 hd0 EF
              have HX := Lib.hid hx
              clear ha hx hdg h17
              go_upto_region 33 with fail
              go_cut [13] (fun a13 wx => a13 = .bool (fb l 0) ∧ wr = wx)
              case first =>
                by_cases h3 : a = 3
                · subst h3
                  by_cases h251 : 251 ≤ x
                  · have h2 : (251 : Int) ≤ (x : Int) := by omega
                    go_wp2_with fail
                    go_meet
                    exact ⟨by rw [hfb0, decide_eq_true h251]; rfl, rfl⟩
                  · have h2 : ¬ (251 : Int) ≤ (x : Int) := by omega
                    go_wp2_with fail
                    go_meet
                    exact ⟨by rw [hfb0, decide_eq_false h251]; rfl, rfl⟩
                · have h2 : ¬ (a : Int) = 3 := by omega
                  have h4 : ((a : Int) == 3) = false := by simp; omega
                  go_wp2_with fail
                  go_meet
                  exact ⟨by rw [hfb0, decide_eq_false h3]; rfl, rfl⟩
              case rest =>
              obtain ⟨rfl, rfl⟩ := hcut
              clear cu16 cu0 hfb0
              go_wp2_with fail
              go_loopw [13, 14] (fun b i wx => ∃ n : Nat, n ≤ 15 ∧ i = .int .i64 ((n + 1 : Nat) : Int) ∧ b = .bool (fb l n) ∧ wr = wx) (fun _ i _ => 16 - (intOf i).toNat)
              case atStart => exact ⟨0, Nat.zero_le _, rfl, rfl, rfl⟩
              case round =>
                obtain ⟨n, hn, rfl, rfl, rfl⟩ := hrel
                obtain ⟨np, hnp⟩ : ∃ t, n + 1 = t := ⟨_, rfl⟩
                by_cases hln : n < 15
                · have n1 : (np : Int) < 16 := by omega
                  have n2 : (np : Int) < 18 := by omega
                  have un := HR.out.get (i := np) (by omega)
                  have hf := HFB.out n
                  rw [hnp] at hf ⊢
                  obtain ⟨y, hy⟩ : ∃ y, l.getD np 0 = y := ⟨_, rfl⟩
                  rw [hy] at un hf
                  have hnp1 := Lib.hid hnp
                  clear hnp hy
                  cases hb : fb l n
                  · rw [hb, Bool.false_and] at hf
                    clear hb
                    go_wp2
                    go_roundw
                    case rel => exact ⟨np, by have := hnp1.out; omega, by go_num, by rw [hf], by first | rfl | trivial⟩
                    case measure => simp [intOf]; omega
                  · rw [hb, Bool.true_and] at hf
                    clear hb
                    by_cases hy : y = 255
                    · subst hy
                      rw [decide_eq_true rfl] at hf
                      go_wp2
                      go_roundw
                      case rel => exact ⟨np, by have := hnp1.out; omega, by go_num, by rw [hf], by first | rfl | trivial⟩
                      case measure => simp [intOf]; omega
                    · have h2 : ¬ (y : Int) = 255 := by omega
                      have h3 : ((y : Int) == 255) = false := by simp; omega
                      rw [decide_eq_false hy] at hf
                      go_wp2
                      go_roundw
                      case rel => exact ⟨np, by have := hnp1.out; omega, by go_num, by rw [hf], by first | rfl | trivial⟩
                      case measure => simp [intOf]; omega
                · have n15 : n = 15 := by omega
                  subst n15
                  have n1 : ¬ (np : Int) < 16 := by omega
                  rw [hnp]
                  clear hnp
                  go_upto_if 131 with fail
                  go_cut [13, 131] (fun _b _a wx => ∃ f : List Nat, f.length = 18 ∧ Hid (Ro wx g f) ∧ Hid (∀ j, j < 16 → (TL.getD j 0).toNat = f.getD j 0) ∧ Hid (Below w.heap.size w wx))
                  case first =>
                    cases hb : fb l 15
                    · have e := EQ.out hb
                      clear hb
                      go_wp2_with fail
                      go_meet
                      exact ⟨l, hll, HR, Lib.hid e, HB⟩
                    · obtain ⟨e1, e2⟩ := EF.out hb
                      clear hb
                      obtain ⟨d, hd⟩ : ∃ d, x - 251 = d := ⟨_, rfl⟩
                      rw [hd] at e2
                      have d1 : (x : Int) - 251 = (d : Int) := by omega
                      have d2 : d ≤ 4 := by omega
                      have cu0 := HR.out.get (i := 0) (by omega)
                      rw [HX.out] at cu0
                      have hlf : ((d :: List.replicate 17 0 : List Nat)).length = 18 := rfl
                      have hro : roC (d :: List.replicate 17 0) = #[.int .i64 (d : Int), .int .i64 0, .int .i64 0, .int .i64 0, .int .i64 0, .int .i64 0, .int .i64 0, .int .i64 0, .int .i64 0, .int .i64 0, .int .i64 0, .int .i64 0, .int .i64 0, .int .i64 0, .int .i64 0, .int .i64 0, .int .i64 0, .int .i64 0] := rfl
                      have HRN := Lib.hid (HR.out.row (d :: List.replicate 17 0))
                      have HBN := Lib.hid (below_setRow HB.out zg (roC (d :: List.replicate 17 0)))
                      go_wp2_with (first
                        | (refine wpList_store_row rfl 55 _ _ rfl g (roC (d :: List.replicate 17 0)) rfl rfl 55 _ HR.out (size55 _ hlf) (by rw [roC_size, roC_size, hll]; rfl) (roC_one _) ?_))
                      go_meet
                      exact ⟨_, hlf, HRN, Lib.hid e2, HBN⟩
                  case rest =>
                  obtain ⟨f, hfl, HR2, HE, HB2⟩ := hcut
                  clear HR HB EQ EF HFB HDG
                  go_wp2_with fail
                  go_loopw [136] (fun i wx => ∃ j : Nat, j ≤ 16 ∧ i = .int .i64 j ∧ Hid (Ro wx g f) ∧ Hid (Below w.heap.size w wx)) (fun i _ => 16 - (intOf i).toNat)
                  case atStart => exact ⟨0, Nat.zero_le _, rfl, HR2, HB2⟩
                  case round =>
                    clear HR2 HB2
                    obtain ⟨j, hj, rfl, HR, HB⟩ := hrel
                    by_cases hlj : j < 16
                    · have j1 : (j : Int) < 16 := by omega
                      have j2 : (j : Int) < 18 := by omega
                      have cu0 := HR.out.drew.get (i := j) (by omega)
                      have hit := fun w => IT.out j w hlj
                      have he := HE.out j hlj
                      have hb8 := (TL.getD j 0).toNat_lt
                      simp only [he] at hit
                      rw [he] at hb8
                      obtain ⟨x, hx⟩ : ∃ x, f.getD j 0 = x := ⟨_, rfl⟩
                      rw [hx] at cu0 hb8
                      simp only [hx] at hit
                      have e5 : IntKind.u8.wrap (x : Int) = (x : Int) := by rw [IntKind.wrap_u8']; omega
                      clear he hx
                      go_wp2_with fail
                      refine region_anyC (fun w' => w'.cell? ⟨g, j, none⟩ = some (.int .i64 (x : Int))) (fun _ => True) [] (by kernel_rfl) ?_
                      refine anyC_takeS (i := 0) (oi := ⟨some 139, _, _, _, _, _⟩) (v := _) rfl (by kernel_rfl) (by kernel_rfl) (by kernel_rfl) (by kernel_rfl) (fun _ _ _ h => h) (Or.inl ⟨by rfl, fun w' hw' => (by have k1 := hw'; go_simp; try with_reducible rfl)⟩) cu0 (fun _ => trivial) ?_
                      try simp only [Act.put, List.setIfInBounds_toArray, List.set_cons_zero, List.set_cons_succ]
                      refine anyC_takeS (i := 1) (oi := ⟨some 140, _, _, _, _, _⟩) (v := _) rfl (by kernel_rfl) (by kernel_rfl) (by kernel_rfl) (by kernel_rfl) (fun _ _ _ h => h) (Or.inl ⟨by rfl, fun w' hw' => (by have k1 := hw'; go_simp; try with_reducible rfl)⟩) cu0 (fun _ => trivial) ?_
                      try simp only [Act.put, List.setIfInBounds_toArray, List.set_cons_zero, List.set_cons_succ]
                      refine anyC_takeS (i := 2) (oi := ⟨some 141, _, _, _, _, _⟩) (v := _) rfl (by kernel_rfl) (by kernel_rfl) (by kernel_rfl) (by kernel_rfl) (fun _ _ _ h => h) (Or.inl ⟨by rfl, fun w' hw' => (by have k1 := hw'; go_simp; try with_reducible rfl)⟩) cu0 (fun _ => trivial) ?_
                      try simp only [Act.put, List.setIfInBounds_toArray, List.set_cons_zero, List.set_cons_succ]
                      refine anyC_takeS (i := 3) (oi := ⟨some 142, _, _, _, _, _⟩) (v := _) rfl (by kernel_rfl) (by kernel_rfl) (by kernel_rfl) (by kernel_rfl) (fun _ _ _ h => h) (Or.inl ⟨by rfl, fun w' hw' => (by have k1 := hw'; go_simp; try with_reducible rfl)⟩) cu0 (fun _ => trivial) ?_
                      try simp only [Act.put, List.setIfInBounds_toArray, List.set_cons_zero, List.set_cons_succ]
                      refine anyC_takeS (i := 4) (oi := ⟨some 143, _, _, _, _, _⟩) (v := _) rfl (by kernel_rfl) (by kernel_rfl) (by kernel_rfl) (by kernel_rfl) (fun _ _ _ h => h) (Or.inl ⟨by rfl, fun w' hw' => (by have k1 := hw'; go_simp; try with_reducible rfl)⟩) cu0 (fun _ => trivial) ?_
                      try simp only [Act.put, List.setIfInBounds_toArray, List.set_cons_zero, List.set_cons_succ]
                      refine anyC_takeS (i := 5) (oi := ⟨some 144, _, _, _, _, _⟩) (v := _) rfl (by kernel_rfl) (by kernel_rfl) (by kernel_rfl) (by kernel_rfl) (fun _ _ _ h => h) (Or.inl ⟨by rfl, fun w' hw' => (by have k1 := hw'; go_simp; try with_reducible rfl)⟩) cu0 (fun _ => trivial) ?_
                      try simp only [Act.put, List.setIfInBounds_toArray, List.set_cons_zero, List.set_cons_succ]
                      refine anyC_takeS (i := 6) (oi := ⟨some 145, _, _, _, _, _⟩) (v := _) rfl (by kernel_rfl) (by kernel_rfl) (by kernel_rfl) (by kernel_rfl) (fun _ _ _ h => h) (Or.inl ⟨by rfl, fun w' hw' => (by have k1 := hw'; go_simp; try with_reducible rfl)⟩) cu0 (fun _ => trivial) ?_
                      try simp only [Act.put, List.setIfInBounds_toArray, List.set_cons_zero, List.set_cons_succ]
                      refine anyC_takeS (i := 7) (oi := ⟨some 146, _, _, _, _, _⟩) (v := _) rfl (by kernel_rfl) (by kernel_rfl) (by kernel_rfl) (by kernel_rfl) (fun _ _ _ h => h) (Or.inl ⟨by rfl, fun w' hw' => (by have k1 := hw'; go_simp; try with_reducible rfl)⟩) cu0 (fun _ => trivial) ?_
                      try simp only [Act.put, List.setIfInBounds_toArray, List.set_cons_zero, List.set_cons_succ]
                      refine anyC_done (by kernel_rfl) ?_ _
                      go_wp2
                      go_roundw
                      case rel => exact ⟨j + 1, by omega, by go_num, Lib.hid HR.out.drew, Lib.hid HB.out.drew⟩
                      case measure => simp [intOf]; omega
                    · obtain rfl : j = 16 := by omega
                      go_wp2
                      go_ret
                      exact ⟨rfl, HB.out⟩
end Go.Proofs.YtnfefkcfifnjnaaDoor
