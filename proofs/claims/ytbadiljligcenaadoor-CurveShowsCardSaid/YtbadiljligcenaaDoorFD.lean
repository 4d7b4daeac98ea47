/- Contract of rest: what is left of a number divided by 2^255 - 19. -/
import Derived.Test.YtbadiljligcenaaDoorFC
import Derived.Deep.Cut
namespace Go.Proofs.YtbadiljligcenaaDoor
open Go.RowKit Go.ChangeShapes
theorem size44 : (Tryd.prog.info? 44).map (·.size) = some 5 := by kernel_rfl
/-- A number below 2^255 as a value. -/
def nv (v : Nat) : Value := .agg (lsC (lm v))
theorem lm_get0 (v : Nat) : (lm v).getD 0 0 = v % 2251799813685248 := by simp [lm, dig]
theorem lm_add0 (v z : Nat) (h : v < two255) : val ((lm v).set 0 (v % 2251799813685248 + z)) = v + z := by
  rw [val_set _ _ _ _ (by rw [lm_length]; decide) (lm_get0 v), val_lm v h]; simp
theorem lm_mod (v : Nat) : lm (v % two255) = lm v := by unfold lm; rw [← pow5, dig_lo]
theorem lm_set_le (v z : Nat) (hz : z ≤ 4611686018427387904) : ∀ x ∈ (lm v).set 0 (v % 2251799813685248 + z), x ≤ 9223372036854775808 := fun x hx => by
  rcases List.mem_or_eq_of_mem_set hx with h | rfl
  · have := lm_lt v x h; omega
  · omega
/-- What the loop keeps: the limbs of v are settled, o times 2^130 is over. -/
structure Rs (w : World) (l : List Nat) (v o : Nat) (wr : World) : Prop where
  ha : Lar wr w.heap.size 44 (lm v)
  hr : Lar wr (w.heap.size + 1) 44 [0, 0, 0, 0, 0]
  hb : Below w.heap.size w wr
  hv : v < two255
  ho : o ≤ 8192
  he : (v + o * two255) % pC = val l % pC
/-- The number in a block. -/
def cv (wr : World) (g : Nat) : Nat := val ((List.range 5).map fun i => match wr.cell? ⟨g, i, none⟩ with | some v => (intOf v).toNat | none => 0)
theorem cv_eq {wr : World} {g v : Nat} {t : TypeId} (h : Lar wr g t (lm v)) (hv : v < two255) : cv wr g = v := by
  have e : ((List.range 5).map fun i => match wr.cell? ⟨g, i, none⟩ with | some v => (intOf v).toNat | none => 0) = lm v := by
    apply List.ext_getElem
    · simp [lm_length]
    · intro i h1 h2
      rw [lm_length] at h2
      rw [List.getElem_map, List.getElem_range, h.getD (by rw [lm_length]; exact h2)]
      simp [intOf, List.getD_eq_getElem?_getD, lm_length, h2]
  unfold cv
  rw [e, val_lm v hv]
theorem div_lt_two (v o : Nat) (hv : v < two255) (ho : o ≤ 8192) : (v + 19 * o) / two255 ≤ 8192 := by
  unfold two255 at *; omega
theorem dm (x : Nat) : x % two255 + x / two255 * two255 = x := by rw [Nat.mul_comm]; exact Nat.mod_add_div x two255
set_option maxRecDepth 100000 in
set_option maxHeartbeats 4000000 in
theorem rest_any (l : List Nat) (w : World) (hl : l.length = 5) (hb : ∀ x ∈ l, x ≤ 9223372036854775808) :
    Calls Tryd.prog 49 #[.agg (lsC l)] w fun e w' => e = .returned (nv (val l % pC)) ∧ Below w.heap.size w w' := by
  have h0 := (Lar.new w 44 l).alloc (.cells (lsC [0, 0, 0, 0, 0]) 44)
  have h1 := Lar.new (w.alloc (.cells (lsC l) 44)) 44 [0, 0, 0, 0, 0]
  rw [World.size_alloc] at h1
  have hB : Below w.heap.size w ((w.alloc (.cells (lsC l) 44)).alloc (.cells (lsC [0, 0, 0, 0, 0]) 44)) := by go_grown
  have hs := carry_any w.heap.size 44 l [] _ hl (fun x hx => by have := hb x hx; omega) (by rw [List.append_nil]; exact h0)
  have hov : val l / two255 ≤ 8192 := by
    have h5 := val_le l _ hb
    rw [hl, show val (List.replicate 5 1) = 25711008708143855826652935125142720709043916416343563053301761 by decide] at h5
    unfold two255
    omega
  have HS := Lib.hid hs
  have HR := Lib.hid h1
  have HB := Lib.hid hB
  have HO := Lib.hid hov
  have HL := Lib.hid hl
  clear h0 h1 hB hs hl hb hov
  go_enter Tryd.func49, Tryd.ntmps49
  go_wp2_with fail
  change Calls _ _ _ ((w.alloc (.cells (lsC l) 44)).alloc (.cells (lsC [0, 0, 0, 0, 0]) 44)) _
  (with_reducible refine HS.out.mono ?_)
  rintro e w1 ⟨rfl, hA1, hO1⟩
  rw [List.append_nil] at hA1
  have HI : Hid (Rs w l (val l % two255) (val l / two255) w1) := Lib.hid ⟨by rw [lm_mod]; exact hA1, Lar.of_only hO1 HR.out (by omega), hO1.below HB.out (by simp; omega) (by omega), Nat.mod_lt _ (by decide), HO.out, by rw [dm]⟩
  obtain ⟨o0, ho0⟩ : ∃ o, val l / two255 = o := ⟨_, rfl⟩
  rw [ho0] at HI ⊢
  clear hA1 hO1 HS HR HB HO ho0
  go_wp2
  go_loopw [3] (fun o wr => ∃ vv oo : Nat, o = .int .u64 (oo : Int) ∧ Hid (Rs w l vv oo wr)) (fun o wr => cv wr w.heap.size + (intOf o).toNat * two255)
  case atStart => exact ⟨_, o0, rfl, HI⟩
  case round =>
    clear HI
    obtain ⟨v, o, rfl, HI⟩ := hrel
    by_cases hlt : 0 < o
    · have ho := HI.out.ho
      have cx := HI.out.ha.getD (i := 0) (by rw [lm_length]; decide)
      have cf := HI.out.ha.free 0
      rw [lm_get0] at cx
      obtain ⟨x, hx⟩ : ∃ x, v % 2251799813685248 = x := ⟨_, rfl⟩
      obtain ⟨p, hp⟩ : ∃ p, 19 * o = p := ⟨_, rfl⟩
      obtain ⟨q, hq⟩ : ∃ q, x + p = q := ⟨_, rfl⟩
      have a1 : IntKind.u64.wrap (19 * (o : Int)) = (p : Int) := by rw [← hp]; exact IntWalk.u64_in _ (by omega)
      have a2 : IntKind.u64.wrap ((x : Int) + (p : Int)) = (q : Int) := by rw [← Int.natCast_add, hq]; exact u64_back (by omega)
      have hs := carry_any w.heap.size 44 ((lm v).set 0 q) [] (wr.setCell ⟨w.heap.size, 0, none⟩ (ld q)) (by rw [List.length_set, lm_length]) (by rw [← hq, ← hx]; exact lm_set_le v p (by omega)) (by rw [List.append_nil]; exact HI.out.ha.set 0 q)
      rw [← hq, ← hx, lm_add0 v p HI.out.hv, hx, hq, ← hp] at hs
      rw [hx] at cx
      have HS := Lib.hid hs
      have HR := Lib.hid (HI.out.hr.other (a := ⟨w.heap.size, 0, none⟩) (by simp) (ld q))
      have HB := Lib.hid (HI.out.hb.setCell (p := ⟨w.heap.size, 0, none⟩) (by simp) (ld q))
      have HM := Lib.hid (cv_eq HI.out.ha HI.out.hv)
      clear hs hx hp hq
      go_wp2_with fail
      (with_reducible refine HS.out.mono ?_)
      rintro e w1 ⟨rfl, hA1, hO1⟩
      rw [List.append_nil] at hA1
      have hz := HB.out.size
      have HI1 : Hid (Rs w l ((v + 19 * o) % two255) ((v + 19 * o) / two255) w1) := Lib.hid ⟨by rw [lm_mod]; exact hA1, Lar.of_only hO1 HR.out (by omega), hO1.below HB.out hz (by omega), Nat.mod_lt _ (by decide), div_lt_two v o HI.out.hv ho, by rw [dm, (rest_round v o hlt).1]; exact HI.out.he⟩
      have HM2 := Lib.hid (cv_eq HI1.out.ha HI1.out.hv)
      have HD := Lib.hid (rest_round v o hlt).2
      clear hA1 hO1 HS HR HB HI hz
      go_wp2
      go_roundw
      case rel => exact ⟨_, _, rfl, HI1⟩
      case measure =>
        rw [HM.out, HM2.out]
        show (v + 19 * o) % two255 + ((((v + 19 * o) / two255 : Nat) : Int)).toNat * two255 < v + ((o : Nat) : Int).toNat * two255
        rw [Int.toNat_natCast, Int.toNat_natCast, dm]
        exact HD.out
    · obtain rfl : o = 0 := by omega
      have hA := HI.out.ha
      have h0 : (wr.alloc (.cells #[.int .u64 0, .int .u64 0, .int .u64 0, .int .u64 0, .int .u64 0] 44)).heap[wr.heap.size]? = some (.cells #[.int .u64 0, .int .u64 0, .int .u64 0, .int .u64 0, .int .u64 0] 44 (0, 0)) := heap_alloc_new wr _
      have HA := Lib.hid hA
      have H0 := Lib.hid h0
      have hA0 : Lar (wr.alloc (.cells #[.int .u64 0, .int .u64 0, .int .u64 0, .int .u64 0, .int .u64 0] 44)) w.heap.size 44 (lm v) := hA.alloc _
      clear hA h0
      go_upto_region 6 with (first | (refine wpList_load_row rfl 44 _ rfl w.heap.size rfl 44 (lsC (lm v)) (0, 0) _ HA.out Tryd.underlying44 rfl (by rw [size44, lsC_size, lm_length]) ?_) | (refine wpList_store_row rfl 44 _ _ rfl wr.heap.size (lsC (lm v)) rfl rfl 44 _ H0.out (by rw [size44, lsC_size, lm_length]) (by rw [lsC_size, lm_length]; rfl) (lsC_one _) ?_))
      have hz := HI.out.hb.size
      have hgw := HA.out.lt
      have hv1 : Lar ((wr.alloc (.cells #[.int .u64 0, .int .u64 0, .int .u64 0, .int .u64 0, .int .u64 0] 44)).setRow wr.heap.size (lsC (lm v))) wr.heap.size 44 (lm v) := setRow_heap _ _ _ _ 44 _ H0.out
      have hv2 : Lar ((wr.alloc (.cells #[.int .u64 0, .int .u64 0, .int .u64 0, .int .u64 0, .int .u64 0] 44)).setRow wr.heap.size (lsC (lm v))) w.heap.size 44 (lm v) := (setRow_other _ _ _ _ (by omega)).trans hA0
      have hv3 : Lar ((wr.alloc (.cells #[.int .u64 0, .int .u64 0, .int .u64 0, .int .u64 0, .int .u64 0] 44)).setRow wr.heap.size (lsC (lm v))) (w.heap.size + 1) 44 [0, 0, 0, 0, 0] := (setRow_other _ _ _ _ (by have := HI.out.hr.lt; omega)).trans (HI.out.hr.alloc _)
      have hv4 : Below w.heap.size w ((wr.alloc (.cells #[.int .u64 0, .int .u64 0, .int .u64 0, .int .u64 0, .int .u64 0] 44)).setRow wr.heap.size (lsC (lm v))) := below_setRow (HI.out.hb.alloc hz _) hz _
      have hrl := HI.out.hr.lt
      obtain ⟨N, hN⟩ : ∃ N, wr.heap.size = N := ⟨_, rfl⟩
      generalize hV : (wr.alloc (.cells #[.int .u64 0, .int .u64 0, .int .u64 0, .int .u64 0, .int .u64 0] 44)).setRow wr.heap.size (lsC (lm v)) = V at hv1 hv2 hv3 hv4 ⊢
      clear hV
      rw [hN] at hv1 hgw hrl hz ⊢
      have cx := hv1.getD (i := 0) (by rw [lm_length]; decide)
      have cf := hv1.free 0
      rw [lm_get0] at cx
      obtain ⟨x, hx⟩ : ∃ x, v % 2251799813685248 = x := ⟨_, rfl⟩
      obtain ⟨q, hq⟩ : ∃ q, x + 19 = q := ⟨_, rfl⟩
      have a2 : IntKind.u64.wrap ((x : Int) + 19) = (q : Int) := by rw [← hq]; exact IntWalk.u64_in _ (by omega)
      have hs := carry_any N 44 ((lm v).set 0 q) [] (V.setCell ⟨N, 0, none⟩ (ld q)) (by rw [List.length_set, lm_length]) (by rw [← hq, ← hx]; exact lm_set_le v 19 (by omega)) (by rw [List.append_nil]; exact hv1.set 0 q)
      rw [← hq, ← hx, lm_add0 v 19 HI.out.hv, hx, hq] at hs
      rw [hx] at cx
      have HS := Lib.hid hs
      have HV2 := Lib.hid (hv2.other (a := ⟨N, 0, none⟩) (by simp; omega) (ld q))
      have HV3 := Lib.hid (hv3.other (a := ⟨N, 0, none⟩) (by simp; omega) (ld q))
      have HV4 := Lib.hid (hv4.setCell (p := ⟨N, 0, none⟩) (by simp; omega) (ld q))
      have hE := rest_end v HI.out.hv
      have he := HI.out.he
      rw [Nat.zero_mul, Nat.add_zero] at he
      rw [he] at hE
      have HE := Lib.hid hE
      clear hs hx hq hv1 hv2 hv3 hv4 hA0 hE he HA H0 HI hN
      go_wp2_with fail
      (with_reducible refine HS.out.mono ?_)
      rintro e w1 ⟨rfl, hA1, hO1⟩
      rw [List.append_nil] at hA1
      have HA1 := Lib.hid hA1
      have HA2 := Lib.hid (Lar.of_only hO1 HV2.out (by omega))
      have HA3 := Lib.hid (Lar.of_only hO1 HV3.out (by omega))
      have HA4 := Lib.hid (hO1.below HV4.out HV4.out.size (by omega))
      clear hA1 hO1 HS HV2 HV3 HV4 cx cf
      obtain ⟨o2, ho2⟩ : ∃ o2, (v + 19) / two255 = o2 := ⟨_, rfl⟩
      rw [ho2] at HE ⊢
      by_cases hlt2 : 0 < o2
      · have hE := HE.out
        rw [if_pos hlt2] at hE
        have HA5 : Hid (Lar w1 N 44 (lm (val l % pC))) := Lib.hid (by rw [← hE, lm_mod]; exact HA1.out)
        clear HE hE HA1 ho2
        go_wp2_with (first | (refine wpList_load_row rfl 44 _ rfl N rfl 44 (lsC (lm (val l % pC))) (0, 0) _ HA5.out Tryd.underlying44 rfl (by rw [size44, lsC_size, lm_length]) ?_) | (refine wpList_store_row rfl 44 _ _ rfl (w.heap.size + 1) (lsC (lm (val l % pC))) rfl rfl 44 _ HA3.out (by rw [size44, lsC_size, lm_length]) (by rw [lsC_size, lsC_size, lm_length]; rfl) (lsC_one _) ?_))
        exact bodyPost_ret (v := nv (val l % pC)) (results_cell_row (p := 2) (ty := 44) Tryd.results49 _ _ (w.heap.size + 1) 44 _ (0, 0) _ rfl (HA3.out.row (lm (val l % pC))) Tryd.underlying44 rfl (by rw [size44, lsC_size, lm_length])) rfl ⟨rfl, below_setRow HA4.out (by omega) _⟩
      · obtain rfl : o2 = 0 := by omega
        have hE := HE.out
        rw [if_neg hlt2] at hE
        have HA5 : Hid (Lar w1 w.heap.size 44 (lm (val l % pC))) := Lib.hid (by rw [← hE]; exact HA2.out)
        clear HE hE HA1 ho2
        go_wp2_with (first | (refine wpList_load_row rfl 44 _ rfl w.heap.size rfl 44 (lsC (lm (val l % pC))) (0, 0) _ HA5.out Tryd.underlying44 rfl (by rw [size44, lsC_size, lm_length]) ?_) | (refine wpList_store_row rfl 44 _ _ rfl (w.heap.size + 1) (lsC (lm (val l % pC))) rfl rfl 44 _ HA3.out (by rw [size44, lsC_size, lm_length]) (by rw [lsC_size, lsC_size, lm_length]; rfl) (lsC_one _) ?_))
        exact bodyPost_ret (v := nv (val l % pC)) (results_cell_row (p := 2) (ty := 44) Tryd.results49 _ _ (w.heap.size + 1) 44 _ (0, 0) _ rfl (HA3.out.row (lm (val l % pC))) Tryd.underlying44 rfl (by rw [size44, lsC_size, lm_length])) rfl ⟨rfl, below_setRow HA4.out (by omega) _⟩
end Go.Proofs.YtbadiljligcenaaDoor
