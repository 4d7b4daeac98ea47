/- Contract of afterZeros. -/
import Derived.Test.YtfagfenmampigaaK
namespace Go.Proofs.Ytfagfenmampigaa
open Go.RowKit Go.Shelf
attribute [local go_sem] Oper.semAt_some
theorem keeps_only {g : Nat} {A B : World} {cs : Array Value} {t : TypeId} {fr : Nat × Nat} (ho : Only g A B) (hg : A.heap[g]? = some (.cells cs t fr)) : KeepsOthers A B :=
  ⟨ho.size, fun k o hk hc => (ho.block k (Array.getElem?_eq_some_iff.1 hk).1 (fun e => by injection e with e; subst e; rw [hg] at hk; cases hk; cases hc)).trans hk⟩
theorem KpX.only {b1 b2 g : Nat} {A W V : World} (h : KpX b1 b2 A W) (ho : Only g W V) (hg : g = b1 ∨ g = b2) : KpX b1 b2 A V := fun k cs t fr hk h1 h2 => by
  have hw := h k cs t fr hk h1 h2
  exact (ho.block k (Array.getElem?_eq_some_iff.1 hw).1 (fun e => by injection e with e; rcases hg with rfl | rfl <;> omega)).trans hw
theorem only_set (W : World) (g i : Nat) (v : Value) : Only g W (W.setCell ⟨g, i, none⟩ v) := Only.set (Only.refl g W) i v
/-- What the loop keeps. -/
structure Iz (w : World) (c n0 R k : Nat) (W : World) : Prop where
  ha : ∃ a, isW a ∧ nst c (8 * 2 ^ k * (n0 / 2 ^ k)) a = R ∧ W.heap[w.heap.size]? = some (.cells #[ld a] 23 (0, 0))
  hn : W.heap[w.heap.size + 1]? = some (.cells #[.int .i64 ((n0 / 2 ^ k : Nat) : Int)] 3 (0, 0))
  hb : Below w.heap.size w W
  hk : k = 0 ∨ n0 / 2 ^ (k - 1) ≠ 0
def Ex (w : World) (R : Nat) (W : World) : Prop := W.heap[w.heap.size]? = some (.cells #[ld R] 23 (0, 0)) ∧ Below w.heap.size w W
theorem Iz.lt {w W : World} {c n0 R k : Nat} (h : Iz w c n0 R k W) (hn : n0 ≤ 1073741824) : k < 32 := by
  rcases h.hk with h | h
  · omega
  · rcases Nat.lt_or_ge k 32 with h2 | h2
    · exact h2
    · exact absurd (Nat.div_eq_of_lt (Nat.lt_of_lt_of_le (show n0 < 2 ^ 31 by omega) (Nat.pow_le_pow_right (by decide) (by omega)))) h
theorem lt_heap {W : World} {g : Nat} {o : Obj} (h : W.heap[g]? = some o) : g < W.heap.size := (Array.getElem?_eq_some_iff.1 h).1
theorem Iz.grown {w W V : World} {c n0 R k : Nat} (h : Iz w c n0 R k W) {row : Option Nat} (hg : W.grownBy V row) (hr : ∀ r, row = some r → w.heap.size + 1 < r) : Iz w c n0 R k V := by
  obtain ⟨a, h1, h2, h3⟩ := h.ha
  exact ⟨⟨a, h1, h2, (hg.block _ (lt_heap h3) (fun e => by have := hr _ e.symm; omega)).trans h3⟩, (hg.block _ (lt_heap h.hn) (fun e => by have := hr _ e.symm; omega)).trans h.hn,
    h.hb.grown hg h.hb.size (fun r e => by have := hr r e; omega), h.hk⟩
theorem Ex.grown {w W V : World} {R : Nat} (h : Ex w R W) {row : Option Nat} (hg : W.grownBy V row) (hr : ∀ r, row = some r → w.heap.size + 1 < r) : Ex w R V :=
  ⟨(hg.block _ (lt_heap h.1) (fun e => by have := hr _ e.symm; omega)).trans h.1, h.2.grown hg h.2.size (fun r e => by have := hr r e; omega)⟩
set_option maxRecDepth 100000 in
set_option maxHeartbeats 8000000 in
theorem zeros_any (c a n g : Nat) (w : World) (hc : isW c) (ha : isW a) (hn : n ≤ 1073741824) (hT : Lar w g 94 (tab c)) :
    Calls Try.prog 40 #[.pointer (some ⟨g, 0, none⟩), ld a, .int .i64 (n : Int)] w fun e w' => e = .returned (ld (nst c (8 * n) a)) ∧ Below w.heap.size w w' := by
  have hmf : ∀ (fn : Fn) (first cap : Array Value) (w : World), (Instr.makeFunc fn first cap).run Try.prog w = .ok (.func fn first cap) w := fun _ _ _ _ => rfl
  have hT1 : Lar ((w.alloc (.cells #[ld a] 23)).alloc (.cells #[.int .i64 (n : Int)] 3)) g 94 (tab c) := (hT.alloc _).alloc _
  have h0 : Iz w c n (nst c (8 * n) a) 0 ((w.alloc (.cells #[ld a] 23)).alloc (.cells #[.int .i64 (n : Int)] 3)) := ⟨⟨a, ha, by rw [Nat.pow_zero, Nat.div_one, Nat.mul_one], (Below.heap_alloc _ _ _ (by simp)).trans (heap_alloc_new w _)⟩, by
      have h := heap_alloc_new (w.alloc (.cells #[ld a] 23)) (.cells #[.int .i64 (n : Int)] 3)
      rw [World.size_alloc] at h
      rw [Nat.pow_zero, Nat.div_one]
      exact h, by go_grown, .inl rfl⟩
  obtain ⟨R, hR⟩ : ∃ R, nst c (8 * n) a = R := ⟨_, rfl⟩
  rw [hR] at h0 ⊢
  have H0 := Lib.hid h0
  have HT := Lib.hid hT1
  have HM := Lib.hid (fun W (h : Lar W g 94 (tab c)) => matrix_any c g W hc h)
  have HC := Lib.hid (And.intro hc hn)
  have HPW := Lib.hid (fun W => powers_any (mat (e8 c)) W)
  clear h0 hT1 hT hR hc ha hn
  refine (callsIn_wide (n := 5)).1 ?_
  refine callsIn_of_wp_marks Try.func40 rfl trivial ?_ rfl
  simp only [Try.ntmps40, List.size_toArray, List.length_cons, List.length_nil, Nat.reduceAdd, Nat.reduceSub, Array.replicate_succ, Array.replicate_zero, List.push_toArray, List.append_toArray, List.nil_append, List.cons_append]
  refine wpIn_wide.2 ?_
  go_wp2_with fail
  generalize World.alloc (World.alloc w _) _ = V at H0 HT ⊢
  (with_reducible refine (HM.out _ HT.out).mono ?_)
  rintro e V1 ⟨rfl, hb⟩
  have H1 := Lib.hid (H0.out.grown (grown_of_below hb none) (fun r e => by cases e))
  clear hb H0 HT
  go_wp2_with fail
  (with_reducible refine (HPW.out _).mono ?_)
  rintro e V2 ⟨rfl, hV2⟩
  have H2 : Hid (Iz w c n R 0 V2) := Lib.hid (by rw [hV2]; exact H1.out.grown (World.grownBy_alloc _ _ none) (fun r e => by cases e))
  have hL : Lar V2 V1.heap.size 101 (mat (Fp c 0)) := by rw [hV2]; exact Lar.new V1 101 _
  have hBl : V1.heap.size < V2.heap.size := by rw [hV2, World.size_alloc]; omega
  have hB1 : w.heap.size + 1 < V1.heap.size := lt_heap H1.out.hn
  generalize V1.heap.size = B at hL hBl hB1 ⊢
  clear hV2 H1 HM HPW
  have HSQ := Lib.hid (pow_seq 4 w.heap.size (w.heap.size + 1) B c V2 (by decide) (by omega) (by omega) HC.out.1 hL)
  have HB := Lib.hid (And.intro hBl hB1)
  clear hL hBl hB1
  go_wp2_with fail
  refine (wpIn_wide (n := 5)).1 ?_
  refine rangeS 0 rfl (by decide) (gf := 59) (lb := #[.pointer (some ⟨B, 0, none⟩)]) rfl trivial (enters_of Try.func59 (by kernel_rfl) rfl) 32 HB.out.1 HSQ.out (fun h k => h.trans k)
    (fun W A A' hA k cs t fr hk _ _ => (World.putObj_heap_other (by intro e; rw [e, hA] at hk; cases hk)).trans hk) (fun _ => rfl)
    (fun k W => Iz w c n R k W) (fun _ W => Ex w R W)
    (fun k A C row h hg hr => h.grown hg (fun r e => by have := hr r e; have := HB.out; omega))
    (fun _ A C row h hg hr => h.grown hg (fun r e => by have := hr r e; have := HB.out; omega))
    H2.out
    (fun k => { tmps := #[.pointer (some ⟨g, 0, none⟩), ld a, .int .i64 (n : Int), undef, .pointer (some ⟨w.heap.size, 0, none⟩), .pointer (some ⟨w.heap.size + 1, 0, none⟩), .int .u32 0, .func (.func 60) #[.agg (lsC (mat (Fp c k)))] #[], .pointer (some ⟨g, 0, none⟩), .func (.func 52) #[.pointer (some ⟨g, 0, none⟩)] #[], .agg (lsC (mat (e8 c))), .func (.func 59) #[] #[.pointer (some ⟨B, 0, none⟩)], .func (.func 60) #[.agg (lsC (mat (Fp c k)))] #[], undef, undef, undef, undef, undef, undef, undef, undef, undef, undef, undef], defers := [] }) ?assign ?body ?stop
  case assign =>
    intro l k W K' hK
    clear HSQ H2 HB HC
    gi_wp2
    exact hK
  case body =>
    intro l k W hI
    refine ⟨hI.lt HC.out.2, ?_⟩
    obtain ⟨x, hxW, hxR, hxa⟩ := hI.ha
    have hxn := hI.hn
    have HA := Lib.hid (fun W => apply_any (Fp c k) x W (Fp_lin c k) (Fp_W HC.out.1 k) hxW)
    have HI := Lib.hid hI
    have hXW : isW (Fp c k x) := Fp_W HC.out.1 k x hxW
    have hodd := fun h => pow_odd c (n / 2 ^ k) x k h
    have heven := fun h => pow_even c (n / 2 ^ k) x k h
    have hd : n / 2 ^ (k + 1) = n / 2 ^ k / 2 := by rw [Nat.pow_succ, Nat.div_div_eq_div_mul]
    have hle : n / 2 ^ k ≤ 1073741824 := Nat.le_trans (Nat.div_le_self _ _) HC.out.2
    have hmk : k + 1 - 1 = k := by omega
    have HKK : Hid (∀ V, n / 2 ^ k ≠ 0 → (∃ a, isW a ∧ nst c (8 * 2 ^ (k + 1) * (n / 2 ^ k / 2)) a = R ∧ V.heap[w.heap.size]? = some (.cells #[ld a] 23 (0, 0))) → V.heap[w.heap.size + 1]? = some (.cells #[.int .i64 ((n / 2 ^ k / 2 : Nat) : Int)] 3 (0, 0)) → Below w.heap.size w V → Iz w c n R (k + 1) V) := Lib.hid (fun V h0 h1 h2 h3 => ⟨by rw [hd]; exact h1, by rw [hd]; exact h2, h3, .inr (by rw [hmk]; exact h0)⟩)
    have hxR0 : n / 2 ^ k = 0 → x = R := fun h => by rw [h, Nat.mul_zero] at hxR; exact hxR
    have hz0 : n / 2 ^ k ≠ 0 → nst c (8 * 2 ^ k * (n / 2 ^ k)) x = R := fun _ => hxR
    obtain ⟨y, hy⟩ : ∃ y, n / 2 ^ k = y := ⟨_, rfl⟩
    rw [hy] at hodd heven hle hxR0 hz0 hxn HKK
    obtain ⟨cN, fN⟩ : W.cell? ⟨w.heap.size + 1, 0, none⟩ = some (.int .i64 (y : Int)) ∧ W.frozen? ⟨w.heap.size + 1, 0, none⟩ = false := ⟨cell_of_row _ _ 0 _ 3 (0, 0) hxn, frozen_of_row _ _ 0 _ 3 hxn⟩
    obtain ⟨cA, fA⟩ : W.cell? ⟨w.heap.size, 0, none⟩ = some (ld x) ∧ W.frozen? ⟨w.heap.size, 0, none⟩ = false := ⟨cell_of_row _ _ 0 _ 23 (0, 0) hxa, frozen_of_row _ _ 0 _ 23 hxa⟩
    have HXA := Lib.hid (And.intro hxa (And.intro hxn HI.out.hb))
    obtain ⟨X, hX⟩ : ∃ X, Fp c k x = X := ⟨_, rfl⟩
    rw [hX] at HA hXW
    have HXX : Hid (nst c (8 * 2 ^ k) x = X) := Lib.hid hX
    generalize lsC (mat (Fp c k)) = M at HA ⊢
    clear hI hxR hd hmk hy hxa hxn HSQ H2 HB hX
    by_cases h0 : y = 0
    · subst h0
      have HE : Hid (Ex w R W) := Lib.hid ⟨by rw [← hxR0 rfl]; exact HXA.out.1, HXA.out.2.2⟩
      clear hodd heven hxR0 hz0
      gi_wp2
      exact ⟨rfl, ⟨Nat.le_refl _, fun _ _ h _ => h⟩, KpX.refl _ _ _, HE.out⟩
    · obtain ⟨q, hq⟩ : ∃ q, y / 2 = q := ⟨_, rfl⟩
      have q1 : (y : Int) / 2 = (q : Int) := by omega
      have q2 : (y : Int).tdiv 2 = (q : Int) := by rw [Int.tdiv_eq_ediv_of_nonneg (by omega)]; omega
      have y0 : decide ((y : Int) = 0) = false := by simpa using h0
      have y1 : ((y : Int) == 0) = false := by simpa using h0
      rw [hq] at hodd heven HKK
      have HR0 := Lib.hid (hz0 h0)
      rcases Nat.mod_two_eq_zero_or_one y with hp | hp
      · have r1 : (y : Int) % 2 = 0 := by omega
        have r2 : (y : Int).tmod 2 = 0 := by rw [Int.tmod_eq_emod_of_nonneg (by omega)]; omega
        have HV := Lib.hid (heven hp)
        have HN0 := Lib.hid h0
        clear hodd heven hxR0 hz0 hq hp h0
        gi_wp2
        have ho := only_set W (w.heap.size + 1) 0 (.int .i64 (q : Int))
        refine ⟨keeps_only ho HXA.out.2.1, (KpX.refl _ _ W).only ho (.inr rfl), HKK.out _ HN0.out ⟨x, hxW, by rw [← HV.out]; exact HR0.out, (ho.block _ (lt_heap HXA.out.1) (fun e => by injection e with e; omega)).trans HXA.out.1⟩ (heap_setCell_same _ _ 0 _ _ _ HXA.out.2.1) (ho.below HXA.out.2.2 HXA.out.2.2.size (by omega))⟩
      · have r1 : (y : Int) % 2 = 1 := by omega
        have r2 : (y : Int).tmod 2 = 1 := by rw [Int.tmod_eq_emod_of_nonneg (by omega)]; omega
        have HV := Lib.hid (hodd hp)
        have HN0 := Lib.hid h0
        clear hodd heven hxR0 hz0 hq hp h0
        gi_wp2
        refine ⟨trivial, ((callsIn_wide.2 (HA.out W)).inRound _).mono ?_⟩
        rintro e w1 ⟨rfl, hb⟩
        have hlA := lt_heap HXA.out.1
        have hlN := lt_heap HXA.out.2.1
        have hA1 := (hb.block _ hlA).trans HXA.out.1
        have hN1 := (hb.block _ hlN).trans HXA.out.2.1
        have oA := only_set w1 w.heap.size 0 (ld X)
        have hA2 : (w1.setCell ⟨w.heap.size, 0, none⟩ (ld X)).heap[w.heap.size]? = some (.cells #[ld X] 23 (0, 0)) := heap_setCell_same _ _ 0 _ _ _ hA1
        have hN2 : (w1.setCell ⟨w.heap.size, 0, none⟩ (ld X)).heap[w.heap.size + 1]? = some (.cells #[.int .i64 (y : Int)] 3 (0, 0)) := (oA.block _ (lt_heap hN1) (fun e => by injection e with e; omega)).trans hN1
        have hB1 : Below w.heap.size w w1 := bstep HXA.out.2.2 hb
        have HW1 := Lib.hid (And.intro hA1 (And.intro hN1 (And.intro hA2 (And.intro hN2 (And.intro oA (And.intro hb hB1))))))
        obtain ⟨cA1, fA1⟩ : w1.cell? ⟨w.heap.size, 0, none⟩ = some (ld x) ∧ w1.frozen? ⟨w.heap.size, 0, none⟩ = false := ⟨cell_of_row _ _ 0 _ 23 (0, 0) hA1, frozen_of_row _ _ 0 _ 23 hA1⟩
        clear hA1 hN1 oA hA2 hB1 hb hlA hlN cA fA cN fN
        obtain ⟨cN2, fN2⟩ : (w1.setCell ⟨w.heap.size, 0, none⟩ (ld X)).cell? ⟨w.heap.size + 1, 0, none⟩ = some (.int .i64 (y : Int)) ∧ (w1.setCell ⟨w.heap.size, 0, none⟩ (ld X)).frozen? ⟨w.heap.size + 1, 0, none⟩ = false := ⟨cell_of_row _ _ 0 _ 3 (0, 0) hN2, frozen_of_row _ _ 0 _ 3 hN2⟩
        clear hN2
        gi_wp2
        obtain ⟨hA1, hN1, hA2, hN2, oA, hb, hB1⟩ := HW1.out
        have oN := only_set (w1.setCell ⟨w.heap.size, 0, none⟩ (ld X)) (w.heap.size + 1) 0 (.int .i64 (q : Int))
        refine ⟨(keeps_below hb).trans ((keeps_only oA hA1).trans (keeps_only oN hN2)), (((KpX.refl _ _ W).below hb).only oA (.inl rfl)).only oN (.inr rfl), HKK.out _ HN0.out ⟨X, hXW, ?_, (oN.block _ (lt_heap hA2) (fun e => by injection e with e; omega)).trans hA2⟩ (heap_setCell_same _ _ 0 _ _ _ hN2) (oN.below (oA.below hB1 hB1.size (Nat.le_refl _)) (by have := hB1.size; simp; omega) (by omega))⟩
        have h1 := HV.out
        rw [HXX.out] at h1
        rw [← h1]; exact HR0.out
  case stop =>
    rintro D W hD hE hK
    have HE := Lib.hid hE
    have HDD := Lib.hid (show w.heap.size + 1 < D by have := HB.out; omega)
    obtain ⟨cR, fR⟩ : W.cell? ⟨w.heap.size, 0, none⟩ = some (ld R) ∧ W.frozen? ⟨w.heap.size, 0, none⟩ = false := ⟨cell_of_row _ _ 0 _ 23 (0, 0) hE.1, frozen_of_row _ _ 0 _ 23 hE.1⟩
    have HK := Lib.hid hK
    clear hE hK HSQ H2 HB hD
    dsimp only
    refine wpIn_wide.2 ?_
    go_wp2
    have hB := HE.out.2.trans (belowK_b (w := w) (Nat.le_refl _) _ D (.deferred (some [])) (.deferred none) (by have := HDD.out; omega) HK.out rfl rfl)
    refine ⟨by simp, .inl ⟨_, _, rfl, run_takeDeferred HK.out, ?_⟩⟩
    exact ⟨ld R, by simp [results, Try.results40, go_sem], rfl, hB⟩
end Go.Proofs.Ytfagfenmampigaa
