/- Contract of times: the rest of a product. -/
import Derived.Test.YtbadiljligcenaaDoorFD
import Derived.Test.YtbadiljligcenaaDoorFG
import Derived.Test.YtbadiljligcenaaDoorShelf
namespace Go.Proofs.YtbadiljligcenaaDoor
open Go.RowKit Go.ChangeShapes
/-- Numbers in two words each. -/
def wfl : List Nat → List Nat
  | [] => []
  | v :: l => v / 18446744073709551616 :: v % 18446744073709551616 :: wfl l
theorem wfl_length (l : List Nat) : (wfl l).length = 2 * l.length := by
  induction l with
  | nil => rfl
  | cons v l ih => rw [wfl, List.length_cons, List.length_cons, ih, List.length_cons]; omega
theorem wfl_get0 (l : List Nat) (k : Nat) : (wfl l).getD (k * 2) 0 = l.getD k 0 / 18446744073709551616 := by
  induction l generalizing k with
  | nil => simp [wfl]
  | cons v l ih =>
    cases k with
    | zero => simp [wfl]
    | succ k => rw [wfl, show (k + 1) * 2 = k * 2 + 1 + 1 by omega, List.getD_cons_succ, List.getD_cons_succ, ih, List.getD_cons_succ]
theorem wfl_get1 (l : List Nat) (k : Nat) : (wfl l).getD (k * 2 + 1) 0 = l.getD k 0 % 18446744073709551616 := by
  induction l generalizing k with
  | nil => simp [wfl]
  | cons v l ih =>
    cases k with
    | zero => simp [wfl]
    | succ k => rw [wfl, show (k + 1) * 2 + 1 = (k * 2 + 1) + 1 + 1 by omega, List.getD_cons_succ, List.getD_cons_succ, ih, List.getD_cons_succ]
theorem wfl_set (l : List Nat) (k z : Nat) : ((wfl l).set (k * 2) (z / 18446744073709551616)).set (k * 2 + 1) (z % 18446744073709551616) = wfl (l.set k z) := by
  induction l generalizing k with
  | nil => simp [wfl]
  | cons v l ih =>
    cases k with
    | zero => simp [wfl]
    | succ k =>
      rw [wfl, show (k + 1) * 2 = k * 2 + 1 + 1 by omega]
      simp only [List.set_cons_succ, wfl]
      rw [ih]
theorem size96 : (Tryd.prog.info? 96).map (·.size) = some 2 := by kernel_rfl
theorem size97 : (Tryd.prog.info? 97).map (·.size) = some 10 := by kernel_rfl
theorem lsize96 (w : World) : (sizeOf 96).run Tryd.prog w = .ok 2 w := by kernel_rfl
theorem lagg96 (w : World) : (isAgg 96).run Tryd.prog w = .ok true w := by kernel_rfl
theorem lsz42 (w : World) : (sizeOf 42).run Tryd.prog w = .ok 1 w := by kernel_rfl
theorem lag42 (w : World) : (isAgg 42).run Tryd.prog w = .ok false w := by kernel_rfl
theorem idx_limb (l : List Nat) (hl : l.length = 5) (k : Nat) (w : World) (hk : k < 5) : (Instr.index 44 (.agg (lsC l)) (.int .i64 (k : Int))).run Tryd.prog w = .ok (ld (l.getD k 0)) w :=
  run_index_ls w 44 42 5 l .i64 k Tryd.underlying44 hl hk (lsz42 w) (lag42 w)
theorem idx_wide (l : List Nat) (hl : l.length = 5) (k : Nat) (w : World) (hk : k < 5) : (Instr.index 97 (.agg (lsC (wfl l))) (.int .i64 (k : Int))).run Tryd.prog w = .ok (.agg (wC (l.getD k 0))) w := by
  match l, hl with
  | [a, b, c, d, e], _ =>
    have e1 : (0 : Int) ≤ (k : Int) ∧ (k : Int) < (5 : Int) := by omega
    match k, hk with
    | 0, _ => simp [Instr.index, run_underlying Tryd.underlying97, asIntOf, go_sem, lsC, wfl, wC]
    | 1, _ => simp [Instr.index, run_underlying Tryd.underlying97, asIntOf, go_sem, lsC, wfl, wC]
    | 2, _ => simp [Instr.index, run_underlying Tryd.underlying97, asIntOf, go_sem, lsC, wfl, wC]
    | 3, _ => simp [Instr.index, run_underlying Tryd.underlying97, asIntOf, go_sem, lsC, wfl, wC]
    | 4, _ => simp [Instr.index, run_underlying Tryd.underlying97, asIntOf, go_sem, lsC, wfl, wC]
theorem range2 {w : World} {g m : Nat} {t : TypeId} {l : List Nat} (h : Lar w g t (wfl l)) (hm : m < l.length) : w.rangeAt g (m * 2) [ld (l.getD m 0 / 18446744073709551616), ld (l.getD m 0 % 18446744073709551616)] := fun j v hv => by
  match j with
  | 0 => obtain rfl := Option.some.inj hv; rw [Nat.add_zero, h.getD (by rw [wfl_length]; omega), wfl_get0]
  | 1 => obtain rfl := Option.some.inj hv; rw [h.getD (by rw [wfl_length]; omega), wfl_get1]
  | j + 2 => simp at hv
theorem there2 {w : World} {g m : Nat} {t : TypeId} {l : List Nat} (h : Lar w g t (wfl l)) (hm : m < l.length) : w.there g (m * 2) 2 := fun j hj =>
  ⟨by rw [h.getD (by rw [wfl_length]; omega)]; rfl, h.free _⟩
/-- What the product's loops keep: k of 25 products are added. -/
structure Ts (w : World) (n f : List Nat) (k : Nat) (wr : World) : Prop where
  hn : Lar wr w.heap.size 44 n
  hf : Lar wr (w.heap.size + 1) 44 f
  hr : Lar wr (w.heap.size + 2) 44 [0, 0, 0, 0, 0]
  hp : Lar wr (w.heap.size + 3) 97 (wfl (prodN n f k))
  hb : Below w.heap.size w wr
theorem Ts.below {w : World} {n f : List Nat} {k : Nat} {wr V : World} (h : Ts w n f k wr) (hb : Below wr.heap.size wr V) : Ts w n f k V :=
  ⟨h.hn.below hb h.hn.lt, h.hf.below hb h.hf.lt, h.hr.below hb h.hr.lt, h.hp.below hb h.hp.lt, bstep h.hb hb⟩
theorem Ts.set {w : World} {n f : List Nat} {k : Nat} {wr : World} (h : Ts w n f k wr) (m z : Nat) (e : (prodN n f k).set m z = prodN n f (k + 1)) :
    Ts w n f (k + 1) ((wr.setCell ⟨w.heap.size + 3, m * 2, none⟩ (ld (z / 18446744073709551616))).setCell ⟨w.heap.size + 3, m * 2 + 1, none⟩ (ld (z % 18446744073709551616))) :=
  ⟨(h.hn.other (a := ⟨w.heap.size + 3, _, none⟩) (by simp) _).other (a := ⟨w.heap.size + 3, _, none⟩) (by simp) _,
   (h.hf.other (a := ⟨w.heap.size + 3, _, none⟩) (by simp) _).other (a := ⟨w.heap.size + 3, _, none⟩) (by simp) _,
   (h.hr.other (a := ⟨w.heap.size + 3, _, none⟩) (by simp) _).other (a := ⟨w.heap.size + 3, _, none⟩) (by simp) _,
   by rw [← e, ← wfl_set]; exact (h.hp.set (m * 2) _).set (m * 2 + 1) _,
   (h.hb.setCell (p := ⟨w.heap.size + 3, _, none⟩) (by simp) _).setCell (p := ⟨w.heap.size + 3, _, none⟩) (by simp) _⟩
theorem prod_at (n f : List Nat) (i j : Nat) (hj : j < 5) : prodN n f (5 * i + j + 1) = (prodN n f (5 * i + j)).set ((i + j) % 5) ((prodN n f (5 * i + j)).getD ((i + j) % 5) 0 + (if 5 ≤ i + j then 19 else 1) * (n.getD i 0 * f.getD j 0)) := by
  rw [prodN, show (5 * i + j) / 5 = i by omega, show (5 * i + j) % 5 = j by omega]
/-- The first k limbs of what the sums carry, in a row of noughts. -/
def prd (l : List Nat) (k : Nat) : List Nat := dig k (val (l.take k)) ++ List.replicate (5 - k) 0
theorem prd_step (l : List Nat) (k : Nat) (hl : l.length = 5) (h : k < 5) : (prd l k).set k ((l.getD k 0 + ovr l k) % 2251799813685248) = prd l (k + 1) := by
  have hs := (stl_step l k (by omega)).1
  unfold stl at hs
  have hdr : l.drop k = l.getD k 0 :: l.drop (k + 1) := by
    rw [List.drop_eq_getElem_cons (by omega), List.getD_eq_getElem?_getD, List.getElem?_eq_getElem (by omega)]; rfl
  rw [List.set_append_right _ _ (by rw [dig_length]; exact Nat.le_refl _), dig_length, Nat.sub_self, hdr, List.set_cons_zero, ← List.singleton_append, ← List.append_assoc] at hs
  have hs := List.append_cancel_right hs
  unfold prd
  rw [List.set_append_right _ _ (by rw [dig_length]; exact Nat.le_refl _), dig_length, Nat.sub_self, show 5 - k = (5 - (k + 1)) + 1 by omega, List.replicate_succ, List.set_cons_zero, ← hs, List.append_assoc, List.singleton_append]
theorem prd_length (l : List Nat) (k : Nat) (h : k ≤ 5) : (prd l k).length = 5 := by simp [prd, dig_length]; omega
theorem prd_full (l : List Nat) (hl : l.length = 5) : prd l 5 = lm (val l) := by
  unfold prd lm
  rw [List.take_of_length_le (by omega)]; simp
theorem ovr64 (l : List Nat) (hB : ∀ x ∈ l, x ≤ 38536578246938173805499777443430400) (k : Nat) : ovr l k ≤ 17113678584007892992 := by
  induction k with
  | zero => rw [ovr_zero]; exact Nat.zero_le _
  | succ k ih =>
    by_cases h : k < l.length
    · rw [← (stl_step l k h).2]
      have := getD_le hB k
      omega
    · have e : l.take (k + 1) = l.take k := by rw [List.take_of_length_le (by omega), List.take_of_length_le (by omega)]
      unfold ovr at ih ⊢
      rw [e, Nat.pow_succ, ← Nat.div_div_eq_div_mul]
      exact Nat.le_trans (Nat.div_le_self _ _) ih
/-- What the last loop keeps. -/
structure Tc (w : World) (g : Nat) (S : List Nat) (k : Nat) (wr : World) : Prop where
  hr : Lar wr (w.heap.size + 2) 44 [0, 0, 0, 0, 0]
  hq : Lar wr g 44 (prd S k)
  hb : Below w.heap.size w wr
theorem Tc.below {w : World} {g : Nat} {S : List Nat} {k : Nat} {wr V : World} (h : Tc w g S k wr) (hb : Below wr.heap.size wr V) : Tc w g S k V :=
  ⟨h.hr.below hb h.hr.lt, h.hq.below hb h.hq.lt, bstep h.hb hb⟩
theorem Tc.alloc {w : World} {g : Nat} {S : List Nat} {k : Nat} {wr : World} (h : Tc w g S k wr) (ob : Obj) : Tc w g S k (wr.alloc ob) := h.below ((Below.refl _ wr).alloc (Nat.le_refl _) ob)
theorem Tc.set {w : World} {g : Nat} {S : List Nat} {k : Nat} {wr : World} (h : Tc w g S k wr) (hg : w.heap.size + 2 < g) (z : Nat) (e : (prd S k).set k z = prd S (k + 1)) : Tc w g S (k + 1) (wr.setCell ⟨g, k, none⟩ (ld z)) :=
  ⟨h.hr.other (a := ⟨g, k, none⟩) (by show w.heap.size + 2 ≠ g; omega) _, by rw [← e]; exact h.hq.set k z, h.hb.setCell (p := ⟨g, k, none⟩) (by show w.heap.size ≤ g; omega) _⟩
set_option maxRecDepth 100000 in
set_option maxHeartbeats 8000000 in
theorem times_any (n f : List Nat) (w : World) (hn : n.length = 5) (hf : f.length = 5) (hnb : ∀ x ∈ n, x ≤ 9007199254740992) (hfb : ∀ x ∈ f, x ≤ 9007199254740992) :
    Calls Tryd.prog 60 #[.agg (lsC n), .agg (lsC f)] w fun e w' => e = .returned (nv (val n * val f % pC)) ∧ Below w.heap.size w w' := by
  have h1 := (((Lar.new w 44 n).alloc (.cells (lsC f) 44)).alloc (.cells (lsC [0, 0, 0, 0, 0]) 44)).alloc (.cells (lsC (wfl [0, 0, 0, 0, 0])) 97)
  have h2 := ((Lar.new (w.alloc (.cells (lsC n) 44)) 44 f).alloc (.cells (lsC [0, 0, 0, 0, 0]) 44)).alloc (.cells (lsC (wfl [0, 0, 0, 0, 0])) 97)
  have h3 := (Lar.new ((w.alloc (.cells (lsC n) 44)).alloc (.cells (lsC f) 44)) 44 [0, 0, 0, 0, 0]).alloc (.cells (lsC (wfl [0, 0, 0, 0, 0])) 97)
  have h4 := Lar.new (((w.alloc (.cells (lsC n) 44)).alloc (.cells (lsC f) 44)).alloc (.cells (lsC [0, 0, 0, 0, 0]) 44)) 97 (wfl [0, 0, 0, 0, 0])
  simp only [World.size_alloc] at h2 h3 h4
  have hB : Below w.heap.size w ((((w.alloc (.cells (lsC n) 44)).alloc (.cells (lsC f) 44)).alloc (.cells (lsC [0, 0, 0, 0, 0]) 44)).alloc (.cells (lsC (wfl [0, 0, 0, 0, 0])) 97)) := by go_grown
  have HT : Hid (Ts w n f 0 ((((w.alloc (.cells (lsC n) 44)).alloc (.cells (lsC f) 44)).alloc (.cells (lsC [0, 0, 0, 0, 0]) 44)).alloc (.cells (lsC (wfl [0, 0, 0, 0, 0])) 97))) := Lib.hid ⟨h1, h2, h3, h4, hB⟩
  have HI := Lib.hid (idx_limb n hn)
  have HJ := Lib.hid (idx_limb f hf)
  have HN := Lib.hid hn
  have HF := Lib.hid hf
  have HNB := Lib.hid hnb
  have HFB := Lib.hid hfb
  clear h1 h2 h3 h4 hB hn hf hnb hfb
  go_enter Tryd.func60, Tryd.ntmps60
  go_wp2_with (refine wpList_load_row rfl 44 _ rfl w.heap.size rfl 44 (lsC n) (0, 0) _ HT.out.hn Tryd.underlying44 rfl (by rw [size44, lsC_size, HN.out]) ?_)
  go_loopw [18] (fun i wr => ∃ k : Nat, k ≤ 5 ∧ i = .int .i64 k ∧ Hid (Ts w n f (5 * k) wr)) (fun i _ => 5 - (intOf i).toNat)
  case atStart => exact ⟨0, by omega, rfl, HT⟩
  case round =>
    clear HT
    obtain ⟨i, hi, rfl, HT⟩ := hrel
    by_cases hlt : i < 5
    · have hix := HI.out i wr hlt
      obtain ⟨x, hx⟩ : ∃ x, n.getD i 0 = x := ⟨_, rfl⟩
      have hxb : x ≤ 9007199254740992 := by rw [← hx]; exact getD_le HNB.out i
      rw [hx] at hix
      have HX := Lib.hid hx
      have hi5 : (i : Int) < 5 := by omega
      clear hx
      go_wp2_with (refine wpList_load_row rfl 44 _ rfl (w.heap.size + 1) rfl 44 (lsC f) (0, 0) _ HT.out.hf Tryd.underlying44 rfl (by rw [size44, lsC_size, HF.out]) ?_)
      clear hix
      go_loopw [23] (fun jv wr => ∃ j : Nat, j ≤ 5 ∧ jv = .int .i64 j ∧ Hid (Ts w n f (5 * i + j) wr)) (fun jv _ => 5 - (intOf jv).toNat)
      case atStart => exact ⟨0, by omega, rfl, HT⟩
      case round =>
        clear HT
        obtain ⟨j, hj, rfl, HT⟩ := hrel
        by_cases hltj : j < 5
        · have hjx := HJ.out j wr hltj
          obtain ⟨y, hy⟩ : ∃ x, f.getD j 0 = x := ⟨_, rfl⟩
          have hyb : y ≤ 9007199254740992 := by rw [← hy]; exact getD_le HFB.out j
          rw [hy] at hjx
          obtain ⟨p, hp⟩ : ∃ p, x * y = p := ⟨_, rfl⟩
          have hpb : p ≤ 81129638414606681695789005144064 := by
            have := Nat.mul_le_mul hxb hyb
            omega
          obtain ⟨m, hm⟩ : ∃ m, (i + j) % 5 = m := ⟨_, rfl⟩
          have hlen := prodN_length n f (5 * i + j)
          have hm5 : m < 5 := by omega
          have cx := range2 HT.out.hp (m := m) (by omega)
          have ct := there2 HT.out.hp (m := m) (by omega)
          obtain ⟨c, hc⟩ : ∃ c, (prodN n f (5 * i + j)).getD m 0 = c := ⟨_, rfl⟩
          have hcb : c ≤ (5 * i + j) * (19 * (9007199254740992 * 9007199254740992)) := by rw [← hc]; exact getD_le (prodN_le n f (5 * i + j) _ _ HNB.out HFB.out) m
          have hcb2 : c ≤ 38536578246938173805499777443430400 := by
            have := Nat.mul_le_mul_right (19 * (9007199254740992 * 9007199254740992)) (show 5 * i + j ≤ 24 by omega)
            omega
          have hat := prod_at n f i j hltj
          rw [hm, hc, HX.out, hy, hp] at hat
          rw [hc] at cx
          have hk1 : 5 * i + (j + 1) = 5 * i + j + 1 := by omega
          have hj5 : (j : Int) < 5 := by omega
          by_cases h5 : 5 ≤ i + j
          · rw [if_pos h5] at hat
            obtain ⟨q, hq⟩ : ∃ q, 19 * y = q := ⟨_, rfl⟩
            have a1 : IntKind.u64.wrap (19 * (y : Int)) = (q : Int) := by rw [← hq]; exact IntWalk.u64_in _ (by omega)
            have b1 : (5 : Int) ≤ (i : Int) + (j : Int) := by omega
            have b2 : (i : Int) + (j : Int) - 5 = (m : Int) := by omega
            obtain ⟨r, hr⟩ : ∃ r, 19 * p = r := ⟨_, rfl⟩
            have hxq : x * q = r := by rw [← hq, ← hr, ← hp, Nat.mul_left_comm]
            rw [hr] at hat
            obtain ⟨z, hz⟩ : ∃ z, c + r = z := ⟨_, rfl⟩
            rw [hz] at hat
            obtain ⟨r1, hr1⟩ : ∃ r1, r / 18446744073709551616 = r1 := ⟨_, rfl⟩
            obtain ⟨r0, hr0⟩ : ∃ r0, r % 18446744073709551616 = r0 := ⟨_, rfl⟩
            obtain ⟨c1, hc1⟩ : ∃ r1, c / 18446744073709551616 = r1 := ⟨_, rfl⟩
            obtain ⟨c0, hc0⟩ : ∃ r0, c % 18446744073709551616 = r0 := ⟨_, rfl⟩
            have hmul := Tryd.bits_Mul64 x q (by omega) (by omega) wr
            rw [hxq, hr1, hr0] at hmul
            have hpl := wplus_any c r wr (by omega)
            unfold wC at hpl
            rw [hz, hr1, hr0, hc1, hc0] at hpl
            rw [hc1, hc0] at cx
            have x0 : wr.cell? ⟨w.heap.size + 1 + 1 + 1, m * 2, none⟩ = some (ld c1) := cx 0 _ rfl
            have x1 : wr.cell? ⟨w.heap.size + 1 + 1 + 1, m * 2 + 1, none⟩ = some (ld c0) := cx 1 _ rfl
            have HM := Lib.hid hmul
            have HP := Lib.hid hpl
            have HAT := Lib.hid hat.symm
            have HK1 := Lib.hid hk1
            have HLM := Lib.hid (show m < (prodN n f (5 * i + j)).length by omega)
            clear hat hc hcb hcb2 hm hy hp hz hlen hpb hyb hk1 hmul hpl cx ct hxq hr1 hr0 hc1 hc0
            go_wp2_with fail
            (with_reducible refine HM.out.mono ?_)
            rintro e w1 ⟨rfl, rfl⟩
            clear HM
            go_wp2_with fail
            (with_reducible refine HP.out.mono ?_)
            rintro e w2 ⟨rfl, hb2⟩
            have HT2 := Lib.hid (HT.out.below hb2)
            clear HP hb2 x0 x1
            have ct := there2 HT2.out.hp HLM.out
            have cx := range2 HT2.out.hp HLM.out
            have t0 : w2.frozen? ⟨w.heap.size + 1 + 1 + 1, m * 2, none⟩ = false := (ct 0 (by decide)).2
            have t1 : w2.frozen? ⟨w.heap.size + 1 + 1 + 1, m * 2 + 1, none⟩ = false := (ct 1 (by decide)).2
            obtain ⟨v0, y0⟩ : ∃ v0, w2.cell? ⟨w.heap.size + 1 + 1 + 1, m * 2, none⟩ = some v0 := ⟨_, cx 0 _ rfl⟩
            obtain ⟨v1, y1⟩ : ∃ v0, w2.cell? ⟨w.heap.size + 1 + 1 + 1, m * 2 + 1, none⟩ = some v0 := ⟨_, cx 1 _ rfl⟩
            have HS := Lib.hid (HT2.out.set m z HAT.out)
            rw [← HK1.out] at HS
            clear ct cx
            go_wp2
            go_roundw
            case rel => exact ⟨j + 1, by omega, by go_num, HS⟩
            case measure => simp [intOf]; omega
          · rw [if_neg h5, Nat.one_mul] at hat
            have b1 : ¬ (5 : Int) ≤ (i : Int) + (j : Int) := by omega
            have b2 : (i : Int) + (j : Int) = (m : Int) := by omega
            have hxq : x * y = p := hp
            obtain ⟨z, hz⟩ : ∃ z, c + p = z := ⟨_, rfl⟩
            rw [hz] at hat
            obtain ⟨r1, hr1⟩ : ∃ r1, p / 18446744073709551616 = r1 := ⟨_, rfl⟩
            obtain ⟨r0, hr0⟩ : ∃ r0, p % 18446744073709551616 = r0 := ⟨_, rfl⟩
            obtain ⟨c1, hc1⟩ : ∃ r1, c / 18446744073709551616 = r1 := ⟨_, rfl⟩
            obtain ⟨c0, hc0⟩ : ∃ r0, c % 18446744073709551616 = r0 := ⟨_, rfl⟩
            have hmul := Tryd.bits_Mul64 x y (by omega) (by omega) wr
            rw [hxq, hr1, hr0] at hmul
            have hpl := wplus_any c p wr (by omega)
            unfold wC at hpl
            rw [hz, hr1, hr0, hc1, hc0] at hpl
            rw [hc1, hc0] at cx
            have x0 : wr.cell? ⟨w.heap.size + 1 + 1 + 1, m * 2, none⟩ = some (ld c1) := cx 0 _ rfl
            have x1 : wr.cell? ⟨w.heap.size + 1 + 1 + 1, m * 2 + 1, none⟩ = some (ld c0) := cx 1 _ rfl
            have HM := Lib.hid hmul
            have HP := Lib.hid hpl
            have HAT := Lib.hid hat.symm
            have HK1 := Lib.hid hk1
            have HLM := Lib.hid (show m < (prodN n f (5 * i + j)).length by omega)
            clear hat hc hcb hcb2 hm hy hp hz hlen hpb hyb hk1 hmul hpl cx ct hxq hr1 hr0 hc1 hc0
            go_wp2_with fail
            (with_reducible refine HM.out.mono ?_)
            rintro e w1 ⟨rfl, rfl⟩
            clear HM
            go_wp2_with fail
            (with_reducible refine HP.out.mono ?_)
            rintro e w2 ⟨rfl, hb2⟩
            have HT2 := Lib.hid (HT.out.below hb2)
            clear HP hb2 x0 x1
            have ct := there2 HT2.out.hp HLM.out
            have cx := range2 HT2.out.hp HLM.out
            have t0 : w2.frozen? ⟨w.heap.size + 1 + 1 + 1, m * 2, none⟩ = false := (ct 0 (by decide)).2
            have t1 : w2.frozen? ⟨w.heap.size + 1 + 1 + 1, m * 2 + 1, none⟩ = false := (ct 1 (by decide)).2
            obtain ⟨v0, y0⟩ : ∃ v0, w2.cell? ⟨w.heap.size + 1 + 1 + 1, m * 2, none⟩ = some v0 := ⟨_, cx 0 _ rfl⟩
            obtain ⟨v1, y1⟩ : ∃ v0, w2.cell? ⟨w.heap.size + 1 + 1 + 1, m * 2 + 1, none⟩ = some v0 := ⟨_, cx 1 _ rfl⟩
            have HS := Lib.hid (HT2.out.set m z HAT.out)
            rw [← HK1.out] at HS
            clear ct cx
            go_wp2
            go_roundw
            case rel => exact ⟨j + 1, by omega, by go_num, HS⟩
            case measure => simp [intOf]; omega
        · obtain rfl : j = 5 := by omega
          have e : 5 * i + 5 = 5 * (i + 1) := by omega
          rw [e] at HT
          go_wp2
          go_roundw
          case rel => exact ⟨i + 1, by omega, by go_num, HT⟩
          case measure => simp [intOf]; omega
    · obtain rfl : i = 5 := by omega
      have hlen := prodN_length n f 25
      have hsb : ∀ x ∈ prodN n f 25, x ≤ 38536578246938173805499777443430400 := fun x hx => by have := prodN_le n f 25 _ _ HNB.out HFB.out x hx; omega
      have htop := prodN_top n f HN.out HF.out _ _ HNB.out HFB.out
      have hval : val (prodN n f 25) % pC = val n * val f % pC := by rw [prodN_val n f 25 (Nat.le_refl _), sumN_full n f HN.out HF.out]
      have hp := HT.out.hp
      have hz := HT.out.hb.size
      have hg := HT.out.hp.lt
      have HR := HT.out.hr
      have HBW := HT.out.hb
      clear HT HI HJ HNB HFB HN HF
      change Lar wr (w.heap.size + 3) 97 (wfl (prodN n f 25)) at hp
      generalize prodN n f 25 = S at hlen hsb htop hval hp
      obtain ⟨M, hM⟩ : ∃ M, val n * val f % pC = M := ⟨_, rfl⟩
      rw [hM] at hval
      have HMM := Lib.hid hM
      clear hM
      have HX := Lib.hid (idx_wide S hlen)
      have HL := Lib.hid hlen
      have HSB := Lib.hid hsb
      have HTOP := Lib.hid htop
      have HV := Lib.hid hval
      have H5 := Lib.hid (settled S hlen)
      have HTC : Hid (Tc w wr.heap.size S 0 (wr.alloc (.cells #[.int .u64 0, .int .u64 0, .int .u64 0, .int .u64 0, .int .u64 0] 44))) := Lib.hid ⟨HR.alloc _, Lar.new wr 44 [0, 0, 0, 0, 0], HBW.alloc hz _⟩
      have HPA : Hid (Lar (wr.alloc (.cells #[.int .u64 0, .int .u64 0, .int .u64 0, .int .u64 0, .int .u64 0] 44)) (w.heap.size + 3) 97 (wfl S)) := Lib.hid (hp.alloc _)
      have HG : Hid (w.heap.size + 2 < wr.heap.size) := Lib.hid (by omega)
      have HZ := Lib.hid (show (lsC (wfl S)).size = 10 by rw [lsC_size, wfl_length, hlen])
      clear hlen hsb htop hval hp hz hg HR HBW
      go_upto_region 16 with fail
      generalize wr.alloc (.cells #[.int .u64 0, .int .u64 0, .int .u64 0, .int .u64 0, .int .u64 0] 44) = W1 at HTC HPA ⊢
      generalize wr.heap.size = g at HTC HG ⊢
      go_wp2_with (refine wpList_load_row rfl 97 _ rfl (w.heap.size + 3) rfl 97 (lsC (wfl S)) (0, 0) _ HPA.out Tryd.underlying97 rfl (by rw [size97, HZ.out]) ?_)
      clear HPA HZ
      go_loopw [14, 54] (fun ov iv wr => ∃ k : Nat, k ≤ 5 ∧ ov = .int .u64 ((ovr S k : Nat) : Int) ∧ iv = .int .i64 k ∧ Hid (Tc w g S k wr)) (fun _ iv _ => 5 - (intOf iv).toNat)
      case atStart => exact ⟨0, by omega, by rw [ovr_zero]; rfl, rfl, HTC⟩
      case round =>
        clear HTC
        obtain ⟨k, hk, rfl, rfl, HTC⟩ := hrel
        by_cases hltk : k < 5
        · have hix := HX.out k wr hltk
          unfold wC at hix
          have ho := ovr64 S HSB.out k
          have hsk := getD_le HSB.out k
          have hst := (stl_step S k (by rw [HL.out]; exact hltk)).2
          have hpr := prd_step S k HL.out hltk
          have hpl := (prd_length S k hk)
          obtain ⟨s, hs⟩ : ∃ s, S.getD k 0 = s := ⟨_, rfl⟩
          obtain ⟨o, hoo⟩ : ∃ o, ovr S k = o := ⟨_, rfl⟩
          obtain ⟨o', hoo'⟩ : ∃ o, ovr S (k + 1) = o := ⟨_, rfl⟩
          rw [hs] at hix hsk hst hpr
          rw [hoo] at ho hst hpr ⊢
          rw [hoo'] at hst
          obtain ⟨z, hz⟩ : ∃ z, s + o = z := ⟨_, rfl⟩
          rw [hz] at hst hpr
          obtain ⟨s1, hs1⟩ : ∃ x, s / 18446744073709551616 = x := ⟨_, rfl⟩
          obtain ⟨s0, hs0⟩ : ∃ x, s % 18446744073709551616 = x := ⟨_, rfl⟩
          obtain ⟨z1, hz1⟩ : ∃ x, z / 18446744073709551616 = x := ⟨_, rfl⟩
          obtain ⟨z0, hz0⟩ : ∃ x, z % 18446744073709551616 = x := ⟨_, rfl⟩
          obtain ⟨q, hq⟩ : ∃ x, z % 2251799813685248 = x := ⟨_, rfl⟩
          rw [hq] at hpr
          rw [hs1, hs0] at hix
          have hP : ∀ W, Calls Tryd.prog 64 #[.agg #[ld s1, ld s0], .agg #[.int .u64 0, ld o]] W (fun e w' => e = .returned (.agg #[ld z1, ld z0]) ∧ Below W.heap.size W w') := fun W => by
            have h := wplus_any s o W (by omega)
            unfold wC at h
            rw [hz, hz1, hz0, hs1, hs0, Nat.div_eq_of_lt (show o < 18446744073709551616 by omega), Nat.mod_eq_of_lt (show o < 18446744073709551616 by omega)] at h
            exact h
          have hC : ∀ W, Calls Tryd.prog 65 #[.agg #[ld z1, ld z0]] W (fun e w' => e = .returned (.tuple #[ld q, ld o']) ∧ Below W.heap.size W w') := fun W => by
            have h := wcut_any z W (by omega)
            unfold wC at h
            rw [hz1, hz0, hq, hst] at h
            exact h
          have HP := Lib.hid hP
          have HC := Lib.hid hC
          have HPR := Lib.hid hpr
          have HPL := Lib.hid hpl
          have HO' := Lib.hid hoo'
          have k5 : (k : Int) < 5 := by omega
          clear hP hC hpr hpl hst hs hoo hoo' hz hs1 hs0 hz1 hz0 hq ho hsk
          go_wp2_with fail
          have HA := Lib.hid (HTC.out.alloc (.cells #[ld s1, ld s0] 96))
          (with_reducible refine (HP.out _).mono ?_)
          rintro e w1 ⟨rfl, hb1⟩
          have HA1 := Lib.hid (HA.out.below hb1)
          clear HA hb1 HP
          go_wp2_with fail
          (with_reducible refine (HC.out _).mono ?_)
          rintro e w2 ⟨rfl, hb2⟩
          have HA2 := Lib.hid (HA1.out.below hb2)
          clear HA1 hb2 HC
          have cx := HA2.out.hq.getD (i := k) (by rw [HPL.out]; exact hltk)
          have cf := HA2.out.hq.free k
          have HS := Lib.hid (HA2.out.set HG.out q HPR.out)
          go_wp2
          go_roundw
          case rel => exact ⟨k + 1, by omega, by rw [HO'.out], by go_num, HS⟩
          case measure => simp [intOf]; omega
        · obtain rfl : k = 5 := by omega
          clear HX
          have hq0 := HTC.out.hq
          rw [prd_full S HL.out, ← lm_mod] at hq0
          have hov := (stl_step S 4 (by rw [HL.out]; decide)).2
          have ho4 := ovr64 S HSB.out 4
          have h4 := HTOP.out
          have h5 := H5.out.2
          have hV := HV.out
          obtain ⟨v, hv⟩ : ∃ v, val S % two255 = v := ⟨_, rfl⟩
          have hvl : v < two255 := by rw [← hv]; exact Nat.mod_lt _ (by decide)
          obtain ⟨o, hoo⟩ : ∃ o, ovr S 5 = o := ⟨_, rfl⟩
          rw [hoo] at hov h5 ⊢
          have hso : val S = v + o * two255 := by rw [← hv, h5]; exact (dm _).symm
          rw [hv] at hq0
          have hob : 19 * o ≤ 4611686018427387904 := by omega
          obtain ⟨x, hx⟩ : ∃ x, v % 2251799813685248 = x := ⟨_, rfl⟩
          obtain ⟨p, hp⟩ : ∃ p, 19 * o = p := ⟨_, rfl⟩
          obtain ⟨q, hq⟩ : ∃ q, x + p = q := ⟨_, rfl⟩
          have a1 : IntKind.u64.wrap (19 * (o : Int)) = (p : Int) := by rw [← hp]; exact IntWalk.u64_in _ (by omega)
          have a2 : IntKind.u64.wrap ((x : Int) + (p : Int)) = (q : Int) := by rw [← Int.natCast_add, hq]; exact u64_back (by omega)
          have cx := hq0.getD (i := 0) (by rw [lm_length]; decide)
          have cf := hq0.free 0
          rw [lm_get0, hx] at cx
          have hR : ∀ W, Calls Tryd.prog 49 #[.agg (lsC ((lm v).set 0 q))] W fun e w' => e = .returned (nv M) ∧ Below W.heap.size W w' := fun W => by
            have h := rest_any ((lm v).set 0 q) W (by rw [List.length_set, lm_length]) (by rw [← hq, ← hx]; exact lm_set_le v p (by omega))
            rw [← hq, ← hx, lm_add0 v p hvl, hx, hq, show (v + p) % pC = M from by rw [← hV, hso, ← hp]; unfold two255 pC; omega] at h
            exact h
          have HQ1 := Lib.hid (hq0.set 0 q)
          have HR0 := Lib.hid (HTC.out.hr.other (a := ⟨g, 0, none⟩) (by have := HG.out; show w.heap.size + 2 ≠ g; omega) (ld q))
          have HB0 := Lib.hid (HTC.out.hb.setCell (p := ⟨g, 0, none⟩) (by have := HG.out; show w.heap.size ≤ g; omega) (ld q))
          have HRE := Lib.hid hR
          clear hR hq0 hov ho4 h4 h5 hV hv hvl hoo hso hob hx hp hq HTC H5 HTOP HSB HV HL
          go_wp2_with (refine wpList_load_row rfl 44 _ rfl g rfl 44 (lsC ((lm v).set 0 q)) (0, 0) _ HQ1.out Tryd.underlying44 rfl (by rw [size44, lsC_size, List.length_set, lm_length]) ?_)
          (with_reducible refine (HRE.out _).mono ?_)
          rintro e w1 ⟨rfl, hb1⟩
          have HR1 := Lib.hid (HR0.out.below hb1 HR0.out.lt)
          have HB1 := Lib.hid (bstep HB0.out hb1)
          clear HR0 HB0 HQ1 HRE hb1 cx cf
          go_wp2_with (refine wpList_store_row rfl 44 _ _ rfl (w.heap.size + 2) (lsC (lm M)) rfl rfl 44 _ HR1.out (by rw [size44, lsC_size, lm_length]) (by rw [lsC_size, lsC_size, lm_length]; rfl) (lsC_one _) ?_)
          exact bodyPost_ret (v := nv M) (results_cell_row (p := 4) (ty := 44) Tryd.results60 _ _ (w.heap.size + 2) 44 _ (0, 0) _ rfl (HR1.out.row (lm M)) Tryd.underlying44 rfl (by rw [size44, lsC_size, lm_length])) rfl ⟨by rw [HMM.out], below_setRow HB1.out (by omega) _⟩
end Go.Proofs.YtbadiljligcenaaDoor
