/- Contracts of add and of factorOf. -/
import Derived.Test.YtnfefkcfifnjnaaDoorME
import Derived.Test.YtnfefkcfifnjnaaDoorZC
namespace Go.Proofs.YtnfefkcfifnjnaaDoor
open Go.RowKit Go.ChangeShapes
/-- Limbs are added: k of them. -/
def adK (a n : List Nat) : Nat → List Nat
  | 0 => a
  | k + 1 => (adK a n k).set k ((adK a n k).getD k 0 + n.getD k 0)
theorem adK_length (a n : List Nat) (k : Nat) : (adK a n k).length = a.length := by
  induction k with
  | zero => rfl
  | succ k ih => simp [adK, ih]
theorem adK_get (a n : List Nat) (k i : Nat) (h : k ≤ i) : (adK a n k).getD i 0 = a.getD i 0 := by
  induction k with
  | zero => rfl
  | succ k ih => rw [adK, getD_setM, if_neg (by omega)]; exact ih (by omega)
theorem val_take (l : List Nat) (k : Nat) : val (l.take (k + 1)) = val (l.take k) + 67108864 ^ k * l.getD k 0 := by
  by_cases h : k < l.length
  · rw [take_snocN l k h, val_append, List.length_take, Nat.min_eq_left (by omega)]; simp [val]
  · rw [List.take_of_length_le (by omega), List.take_of_length_le (by omega), List.getD_eq_getElem?_getD, List.getElem?_eq_none (by omega)]; simp
theorem adK_val (a n : List Nat) (k : Nat) (h : k ≤ a.length) : val (adK a n k) = val a + val (n.take k) := by
  induction k with
  | zero => simp [adK, val]
  | succ k ih => rw [adK, val_set _ _ _ _ (by rw [adK_length]; omega) rfl, ih (by omega), val_take, Nat.add_assoc]
theorem adK_le (a n : List Nat) (k A N : Nat) (ha : ∀ x ∈ a, x ≤ A) (hn : ∀ x ∈ n, x ≤ N) : ∀ x ∈ adK a n k, x ≤ A + N := by
  induction k with
  | zero => intro x hx; have := ha x hx; omega
  | succ k ih =>
    intro x hx
    rcases List.mem_or_eq_of_mem_set hx with h | rfl
    · exact ih x h
    · rw [adK_get a n k k (Nat.le_refl _)]
      exact Nat.add_le_add (getD_le ha k) (getD_le hn k)
set_option maxRecDepth 100000 in
set_option maxHeartbeats 4000000 in
theorem add_any (g : Nat) (t : TypeId) (a f n : List Nat) (w : World) (ha : a.length = 5) (hn : n.length = 5) (hab : ∀ x ∈ a, x ≤ 4294967296) (hnb : ∀ x ∈ n, x ≤ 4294967296) (hA : Lar w g t (a ++ f)) :
    Calls Tryd.prog 95 #[.pointer (some ⟨g, 0, none⟩), .agg (lsC n)] w fun e w' => (∃ v, e = .returned v) ∧ Lar w' g t (adK a n 5 ++ f) ∧ Only g w w' := by
  have hgz := hA.lt
  have hB1 := Lar.new w 110 n
  have HA := Lib.hid (hA.alloc (.cells (lsC n) 110))
  have HO := Lib.hid ((Only.refl g w).alloc (.cells (lsC n) 110))
  have HB := Lib.hid hB1
  have HI := Lib.hid (idx_limb n hn)
  have HL := Lib.hid ha
  have HN := Lib.hid hn
  have HAB := Lib.hid hab
  have HNB := Lib.hid hnb
  clear hA ha hn hab hnb hB1
  go_enter Tryd.func95, Tryd.ntmps95
  go_wp2_with (refine wpList_load_row rfl 108 _ rfl w.heap.size rfl 110 (lsC n) (0, 0) _ HB.out Tryd.underlying108 rfl (by rw [size108, lsC_size, HN.out]) ?_)
  clear HB
  go_loopw [8] (fun i wr => ∃ k : Nat, k ≤ 5 ∧ i = .int .i64 k ∧ Hid (Lar wr g t (adK a n k ++ f)) ∧ Hid (Only g w wr)) (fun i _ => 5 - (intOf i).toNat)
  case atStart => exact ⟨0, by omega, rfl, HA, HO⟩
  case round =>
    clear HA HO
    obtain ⟨k, hk, rfl, HA, HO⟩ := hrel
    by_cases hlt : k < 5
    · have hix := HI.out k wr hlt
      have hlen : (adK a n k).length = 5 := by rw [adK_length, HL.out]
      have cx := HA.out.getD (i := k) (by simp [hlen]; omega)
      rw [getD_app_l (by omega)] at cx
      have cf := HA.out.free k
      have hx4 : (adK a n k).getD k 0 ≤ 4294967296 := by rw [adK_get a n k k (Nat.le_refl _)]; exact getD_le HAB.out k
      have hy4 := getD_le HNB.out k
      have HE : Hid ((adK a n k ++ f).set k ((adK a n k).getD k 0 + n.getD k 0) = adK a n (k + 1) ++ f) := Lib.hid (by rw [set_app_l (by omega)]; rfl)
      have HS := Lib.hid ((HA.out.set k ((adK a n k).getD k 0 + n.getD k 0)).drew)
      rw [HE.out] at HS
      have HO1 := Lib.hid ((HO.out.set k (ld ((adK a n k).getD k 0 + n.getD k 0))).drew)
      clear HE
      obtain ⟨x, hx⟩ : ∃ x, (adK a n k).getD k 0 = x := ⟨_, rfl⟩
      obtain ⟨y, hy⟩ : ∃ x, n.getD k 0 = x := ⟨_, rfl⟩
      obtain ⟨z, hz⟩ : ∃ z, x + y = z := ⟨_, rfl⟩
      rw [hx] at cx hx4 HS HO1
      rw [hy] at hix hy4 HS HO1
      rw [hz] at HS HO1
      have a1 : IntKind.u64.wrap ((x : Int) + (y : Int)) = (z : Int) := by rw [← Int.natCast_add, hz]; exact u64_back (by omega)
      clear hx hy hz hlen
      go_wp2
      refine wp_region_still_tail 13 (by kernel_rfl) (by kernel_rfl) ?_
      change wpStill _ _ (World.drew wr) (fun a' => wpList _ _ _ _ a' (World.drew wr)) _ _
      simp only [List.take_succ_cons, List.take_zero, List.drop_succ_cons, List.drop_zero]
      repeat still_step
      refine wpStill_nil ?_
      go_wp2
      go_roundw
      case rel => exact ⟨k + 1, by omega, by go_num, HS, HO1⟩
      case measure => simp [intOf]; omega
    · obtain rfl : k = 5 := by omega
      go_wp2
      go_end0
      exact ⟨⟨_, rfl⟩, HA.out, HO.out⟩
theorem u8_and (a : UInt8) (m : Nat) (hm : m < 256) : bits .and .u8 (a.toNat : Int) (m : Int) = ((a &&& UInt8.ofNat m).toNat : Int) := by
  show IntKind.u8.wrap ((BitVec.ofInt 8 (a.toNat : Int) &&& BitVec.ofInt 8 (m : Int)).toNat : Int) = _
  have ha := a.toNat_lt
  have h2 : a.toNat &&& m ≤ m := Nat.and_le_right
  rw [BitVec.toNat_and, BitVec.ofInt_natCast, BitVec.ofInt_natCast, BitVec.toNat_ofNat, BitVec.toNat_ofNat, Nat.mod_eq_of_lt (by omega), Nat.mod_eq_of_lt (by omega), UInt8.toNat_and, UInt8.toNat_ofNat_of_lt' (show m < 256 by omega)]
  rw [IntKind.wrap_u8']
  omega
/-- What the loops keep: the octets at hand, and the result's block. -/
structure Fs (w : World) (s : List UInt8) (wr : World) : Prop where
  ho : Oc wr (w.heap.size + 1) s
  hr : Lar wr w.heap.size 110 [0, 0, 0, 0, 0]
  hb : Below w.heap.size w wr
  hz : w.heap.size + 2 ≤ wr.heap.size
theorem Fs.set {w wr : World} {s : List UInt8} (h : Fs w s wr) (i : Nat) (b : UInt8) : Fs w (s.set i b) (wr.setCell ⟨w.heap.size + 1, i, none⟩ (by8 b)) :=
  ⟨h.ho.set i b, h.hr.other (a := ⟨w.heap.size + 1, i, none⟩) (by simp) _, h.hb.setCell (p := ⟨w.heap.size + 1, i, none⟩) (by simp) _, by simpa using h.hz⟩
set_option maxRecDepth 100000 in
set_option maxHeartbeats 4000000 in
theorem factorOf_any (s : List UInt8) (w : World) (hs : s.length = 16) :
    Calls Tryd.prog 72 #[.string (bs s)] w fun e w' => e = .returned (nv (num (clB (clA s 4) 3))) ∧ Below w.heap.size w w' := by
  obtain ⟨cap, W1, hcap, hconv, hO1, hB1, hz1⟩ := bytes_made (bs s) (w.alloc (.cells #[.int .u64 0, .int .u64 0, .int .u64 0, .int .u64 0, .int .u64 0] 110))
  rw [bs_data] at hO1
  have hsz : (bs s).size = 16 := by rw [bs_size, hs]
  have h0 : Lar (w.alloc (.cells #[.int .u64 0, .int .u64 0, .int .u64 0, .int .u64 0, .int .u64 0] 110)) w.heap.size 110 [0, 0, 0, 0, 0] := Lar.new w 110 [0, 0, 0, 0, 0]
  rw [hsz] at hcap hconv
  rw [World.size_alloc] at hO1 hB1 hz1 hconv
  have HF : Hid (Fs w s W1) := Lib.hid ⟨hO1, h0.below hB1 (by omega), (by go_grown : Below w.heap.size w _).trans (hB1.mono (by omega)), by omega⟩
  have HL := Lib.hid hs
  clear hO1 hB1 hz1 h0 hs
  obtain ⟨r, hr⟩ : ∃ r, clA s 4 = r := ⟨_, rfl⟩
  rw [hr]
  obtain ⟨q, hq⟩ : ∃ q, num (clB r 3) = q := ⟨_, rfl⟩
  rw [hq]
  have HR0 := Lib.hid hr
  have HQ0 := Lib.hid hq
  clear hr hq
  go_enter Tryd.func72, Tryd.ntmps72
  go_wp2_with fail
  go_loopw [4] (fun i wr => ∃ k : Nat, k ≤ 4 ∧ i = .int .i64 ((3 + 4 * k : Nat) : Int) ∧ Hid (Fs w (clA s k) wr)) (fun i _ => 24 - (intOf i).toNat)
  case atStart => exact ⟨0, by omega, rfl, HF⟩
  case round =>
    clear HF
    obtain ⟨k, hk, rfl, HF⟩ := hrel
    obtain ⟨m, hm⟩ : ∃ m, 3 + 4 * k = m := ⟨_, rfl⟩
    rw [hm]
    by_cases hlt : k < 4
    · have hlen : (clA s k).length = 16 := by rw [clA_length]; exact HL.out
      obtain ⟨cx, cf⟩ := HF.out.ho m (by omega)
      have HS := HF.out.set m ((clA s k).getD m 0 &&& 15)
      have e : (clA s k).set m ((clA s k).getD m 0 &&& 15) = clA s (k + 1) := by rw [← hm]; rfl
      rw [e] at HS
      obtain ⟨c, hc⟩ : ∃ c, (clA s k).getD m 0 = c := ⟨_, rfl⟩
      rw [hc] at cx HS
      have a1 : bits .and .u8 (c.toNat : Int) 15 = ((c &&& 15).toNat : Int) := u8_and c 15 (by decide)
      have HS := Lib.hid HS
      have m1 : (m : Int) < 16 := by omega
      have m2 : m < 16 := by omega
      have HM := Lib.hid hm
      clear hc e hm hlen
      go_wp2
      go_roundw
      case rel => exact ⟨k + 1, by omega, by have := HM.out; rw [show 3 + 4 * (k + 1) = m + 4 by omega]; go_num, HS⟩
      case measure => simp [intOf]; omega
    · obtain rfl : k = 4 := by omega
      have m1 : ¬ (m : Int) < 16 := by omega
      clear hm
      have HL2 : Hid ((clA s 4).length = 16) := Lib.hid (by rw [clA_length]; exact HL.out)
      clear HL
      rw [HR0.out] at HF HL2
      have HL := HL2
      clear HL2 HR0
      go_wp2_with fail
      go_loopw [5] (fun i wr => ∃ k : Nat, k ≤ 3 ∧ i = .int .i64 ((4 + 4 * k : Nat) : Int) ∧ Hid (Fs w (clB r k) wr)) (fun i _ => 24 - (intOf i).toNat)
      case atStart => exact ⟨0, by omega, rfl, HF⟩
      case round =>
        clear HF
        obtain ⟨k, hk, rfl, HF⟩ := hrel
        obtain ⟨m, hm⟩ : ∃ m, 4 + 4 * k = m := ⟨_, rfl⟩
        rw [hm]
        by_cases hlt : k < 3
        · have hlen : (clB r k).length = 16 := by rw [clB_length]; exact HL.out
          obtain ⟨cx, cf⟩ := HF.out.ho m (by omega)
          have HS := HF.out.set m ((clB r k).getD m 0 &&& 252)
          have e : (clB r k).set m ((clB r k).getD m 0 &&& 252) = clB r (k + 1) := by rw [← hm]; rfl
          rw [e] at HS
          obtain ⟨c, hc⟩ : ∃ c, (clB r k).getD m 0 = c := ⟨_, rfl⟩
          rw [hc] at cx HS
          have a1 : bits .and .u8 (c.toNat : Int) 252 = ((c &&& 252).toNat : Int) := u8_and c 252 (by decide)
          have HS := Lib.hid HS
          have m1 : (m : Int) < 16 := by omega
          have m2 : m < 16 := by omega
          have HM := Lib.hid hm
          clear hc e hm hlen
          go_wp2
          go_roundw
          case rel => exact ⟨k + 1, by omega, by have := HM.out; rw [show 4 + 4 * (k + 1) = m + 4 by omega]; go_num, HS⟩
          case measure => simp [intOf]; omega
        · obtain rfl : k = 3 := by omega
          have m1 : ¬ (m : Int) < 16 := by omega
          clear hm
          have hcv := run_convert_bytes_back (P := Tryd.prog) wr 25 9 5 ⟨w.heap.size + 1, 0, none⟩ cap (clB r 3) Tryd.underlying25 Tryd.underlying5 Tryd.underlying9 fun j hj => by
            have hadd : (⟨w.heap.size + 1, 0, none⟩ : Addr).add j = ⟨w.heap.size + 1, j, none⟩ := by unfold Addr.add; split <;> simp_all
            rw [hadd, (HF.out.ho j hj).1, List.getD_eq_getElem?_getD, List.getElem?_eq_getElem hj]; rfl
          have hlen : (clB r 3).length = 16 := by rw [clB_length]; exact HL.out
          rw [hlen] at hcv
          have hs := Lib.hid (numberOf_any (clB r 3) wr (by omega))
          have hz := HF.out.hb.size
          have hrl := HF.out.hr.lt
          have hcv2 : (convert 25 9 (.slice (some ⟨w.heap.size + 1, 0, none⟩) 16 cap)).run Tryd.prog wr = .ok (.string (bs (clB r 3))) wr := hcv
          rw [HQ0.out] at hs
          clear hcv hlen
          go_wp2_with (first | (go_at_call 93; (with_reducible refine hs.out.mono ?_); rintro e w2 ⟨rfl, hb2⟩; have HR2 := Lib.hid (HF.out.hr.below hb2 hrl); have HB2 := Lib.hid (HF.out.hb.trans (hb2.mono hz)); clear hb2) | (refine wpList_store_row rfl 110 _ _ rfl w.heap.size (lsC (lm q)) rfl rfl 110 _ HR2.out (by rw [size110, lsC_size, lm_length]) (by rw [lsC_size, lsC_size, lm_length]; rfl) (lsC_one _) ?_))
          exact bodyPost_ret (v := nv q) (results_cell_row (p := 2) (ty := 110) Tryd.results72 _ _ w.heap.size 110 _ (0, 0) _ rfl (HR2.out.row (lm q)) Tryd.underlying110 rfl (by rw [size110, lsC_size, lm_length])) rfl ⟨rfl, below_setRow HB2.out (by omega) _⟩
end Go.Proofs.YtnfefkcfifnjnaaDoor
