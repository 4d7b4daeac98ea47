/- A region whose order is drawn: one condition on the world is kept till the last operations, which may break it. A region whose order is drawn: what stands whatever came up (an invariant of its operations). -/
import Derived.OrdersHeld
import Derived.StillTail
import Derived.RegionTactic
import Derived.Deep.RegionHeld
namespace Go.Proofs.YtfdeegafdaobdaaDoor
open Go

section
variable {P : Program} {ops : Array Oper} {Q : Exit → Act → World → Prop} {md : Region.Mode} {S T : World → Prop} {B : List Nat}

/-- Any order; S stands after each operation whose number B does not list. -/
def anyB (P : Program) (md : Region.Mode) (ops : Array Oper) (Q : Exit → Act → World → Prop) (S : World → Prop) (B : List Nat) : Nat → Array Bool → Act → World → Prop
  | 0, l, a, w => Region.ready md ops l = [] ∧ Q .normal a w
  | n + 1, l, a, w => (Region.ready md ops l = [] → Q .normal a w) ∧
      ∀ i ∈ Region.ready md ops l, wpOp P ops Q i (fun b v => (B.contains i = false → S v) ∧ anyB P md ops Q S B n (l.setIfInBounds i true) b v) a w
theorem anyB_any : ∀ (n : Nat) (l : Array Bool) (a : Act) (w : World), anyB P md ops Q S B n l a w → wpAny P md ops Q n l a w
  | 0, _, _, _, h => h
  | _ + 1, _, _, _, h => ⟨h.1, fun i hi => wpOp_mono (fun b v k => anyB_any _ _ b v k.2) (h.2 i hi)⟩
/-- What j waits for, at any remove, and j. -/
def ancs (md : Region.Mode) (ops : Array Oper) (j : Nat) : List Nat :=
  (List.range j).reverse.foldl (fun s k => if s.any (fun x => Region.waitsFor md ops x k) then k :: s else s) [j]
def shutL (md : Region.Mode) (ops : Array Oper) (l : Array Bool) : Prop := ∀ j oj, ops[j]? = some oj → l.getD j false = true → ∀ e ∈ oj.after, Region.binds md e = true → l.getD e.on false = true
def shutB (md : Region.Mode) (ops : Array Oper) (l : Array Bool) : Bool :=
  (List.range ops.size).all fun j => !l.getD j false || (match ops[j]? with | some o => o.after.all fun e => !Region.binds md e || l.getD e.on false | none => true)
theorem shutB_spec {l : Array Bool} (h : shutB md ops l = true) : shutL md ops l := fun j oj hj hl e he hb => by
  have h1 := List.all_eq_true.1 h j (List.mem_range.2 (Array.getElem?_eq_some_iff.1 hj).1)
  rw [hj, hl] at h1
  simp only [Bool.not_true, Bool.false_or] at h1
  have h2 := Array.all_eq_true_iff_forall_mem.1 h1 e he
  rw [hb] at h2
  simpa using h2
theorem shutL_set {l : Array Bool} {i : Nat} (h : shutL md ops l) (hi : i ∈ Region.ready md ops l) : shutL md ops (l.setIfInBounds i true) := fun j oj hj hl e he hb => by
  obtain ⟨_, oi, hoi, hall⟩ := mem_ready.1 hi
  by_cases hij : i = j
  · subst hij
    rw [hoi] at hj
    cases hj
    exact getD_set_true (hall e he hb)
  · rw [getD_set_ne false hij] at hl
    exact getD_set_true (h j oj hj hl e he hb)
theorem ancs_listed {l : Array Bool} (h : shutL md ops l) {j : Nat} {oj : Oper} (hj : ops[j]? = some oj) (hall : ∀ e ∈ oj.after, Region.binds md e = true → l.getD e.on false = true) :
    ∀ (ks s : List Nat), (∀ x ∈ s, x = j ∨ l.getD x false = true) → ∀ x ∈ ks.foldl (fun s k => if s.any (fun x => Region.waitsFor md ops x k) then k :: s else s) s, x = j ∨ l.getD x false = true := by
  intro ks
  induction ks with
  | nil => intro s hs; exact hs
  | cons k ks ih =>
    intro s hs
    rw [List.foldl_cons]
    refine ih _ ?_
    split
    · rename_i hany
      obtain ⟨y, hy, hw⟩ := List.any_eq_true.1 hany
      intro x hx
      rcases List.mem_cons.1 hx with rfl | hx
      · obtain ⟨o, ho, e, he, hb, hon⟩ := Region.waitsFor_spec hw
        right
        rcases hs y hy with rfl | hly
        · rw [hj] at ho
          cases ho
          rw [← hon]; exact hall e he hb
        · rw [← hon]; exact h y o ho hly e he hb
      · exact hs x hx
    · exact hs
/-- Each operation that B lists waits for i, at some remove. -/
def lateB (md : Region.Mode) (ops : Array Oper) (B : List Nat) (i : Nat) : Bool := B.all fun j => i != j && (ancs md ops j).contains i
theorem lateB_not {i j : Nat} {l : Array Bool} (h : lateB md ops B i = true) (hs : shutL md ops l) (hj : j ∈ Region.ready md ops l) (hi : l.getD i false = false) : B.contains j = false := by
  cases hb : B.contains j
  · rfl
  · have h1 := List.all_eq_true.1 h j (List.contains_iff_mem.1 hb)
    simp only [Bool.and_eq_true, bne_iff_ne, ne_eq] at h1
    obtain ⟨_, oj, hoj, hall⟩ := mem_ready.1 hj
    rcases ancs_listed hs hoj hall _ [j] (fun x hx => .inl (List.mem_singleton.1 hx)) i (List.contains_iff_mem.1 h1.2) with e | e
    · exact absurd e h1.1
    · rw [hi] at e; cases e
theorem ready_un {i : Nat} {l : Array Bool} (h : i ∈ Region.ready md ops l) : l.getD i false = false := by
  have h0 := (mem_ready.1 h).1
  rcases Nat.lt_or_ge i l.size with h' | h'
  · simp [h'] at h0 ⊢; exact h0
  · simp [Array.getElem?_eq_none h']
theorem anyB_first {i : Nat} {oi : Oper} {v : Value} (hi : ops[i]? = some oi) (hsel : ∀ (j : Nat) (o : Oper) cs b, ops[j]? = some o → o.op ≠ .select cs b)
    (hQ : ∀ c a w, Q (.panic c) (a.put oi.dst v) w → Q (.panic c) a w)
    (hc : (B.contains i = true ∧ ∀ w, T w) ∨ (lateB md ops B i = true ∧ ∀ w, S w → T w)) :
    ∀ (n : Nat) (l : Array Bool) (a : Act) (w : World),
      (∀ j oj, ops[j]? = some oj → j ≠ i → l.getD j true = false → (∀ e ∈ oj.after, Region.binds md e = true → e.on ≠ i) → oi.apart ops oj = true) →
      shutL md ops l → i ∈ Region.ready md ops l → YieldsIf P ops T oi v a → T w → (B.contains i = false → S w) →
      anyB P md ops Q S B n (l.setIfInBounds i true) (a.put oi.dst v) w → anyB P md ops Q S B (n + 1) l a w := by
  intro n
  induction n with
  | zero =>
    intro l a w _ _ hr hy hT hS H
    refine ⟨fun h => (by rw [h] at hr; cases hr), fun j hj => ?_⟩
    by_cases hji : j = i
    · subst hji; exact hy.wpOp hi hT ⟨hS, H⟩
    · have := ready_mono hj hji
      rw [H.1] at this
      cases this
  | succ n ih =>
    intro l a w hfree hsh hr hy hT hS H
    refine ⟨fun h => (by rw [h] at hr; cases hr), fun j hj => ?_⟩
    by_cases hji : j = i
    · subst hji; exact hy.wpOp hi hT ⟨hS, H⟩
    · obtain ⟨hjun, oj, hoj, hall⟩ := mem_ready.1 hj
      have hun := ready_un hr
      have hnot : ∀ e ∈ oj.after, Region.binds md e = true → e.on ≠ i := fun e he hb heq => by
        have h1 := hall e he hb
        rw [heq, hun] at h1; cases h1
      have h2 := wpOp_putIf hoj (hfree j oj hoj hji hjun hnot) (fun cs b => hsel i oi cs b hi) (fun cs b => hsel j oj cs b hoj) hQ hy (H.2 j (ready_mono hj hji))
      refine wpOp_mono (fun b u k => ?_) h2
      have hT' : T u ∧ (B.contains i = false → S u) := by
        rcases hc with ⟨c1, c2⟩ | ⟨c1, c2⟩
        · exact ⟨c2 u, fun h => by rw [c1] at h; cases h⟩
        · have hs := k.2.1 (lateB_not c1 hsh hj hun)
          exact ⟨c2 u hs, fun _ => hs⟩
      refine ⟨k.2.1, ih (l.setIfInBounds j true) b u (fun q oq hq hqi hun hno => ?_) (shutL_set hsh hj) (ready_mono hr (Ne.symm hji)) k.1 hT'.1 hT'.2 ?_⟩
      · refine hfree q oq hq hqi ?_ hno
        by_cases hjq : j = q
        · subst hjq; exact hjun
        · rw [getD_set_ne true hjq] at hun; exact hun
      · rw [Array.setIfInBounds_comm _ _ hji]
        exact k.2.2
/-- Number i yields in every world that meets S, and comes up before what B lists: it is taken first. -/
theorem anyB_take {i : Nat} {oi : Oper} {v : Value} {n : Nat} {l : Array Bool} {a : Act} {w : World} (hi : ops[i]? = some oi)
    (hs : Region.noSelect ops = true) (hf : Region.free md ops l i = true) (hr : ((Region.ready md ops l).contains i && shutB md ops l) = true) (hl : lateB md ops B i = true)
    (hQ : ∀ c a w, Q (.panic c) (a.put oi.dst v) w → Q (.panic c) a w) (hy : YieldsIf P ops S oi v a) (hS : S w)
    (h : anyB P md ops Q S B n (l.setIfInBounds i true) (a.put oi.dst v) w) : anyB P md ops Q S B (n + 1) l a w :=
  anyB_first hi (Region.noSelect_spec hs) hQ (.inr ⟨hl, fun _ h => h⟩) n l a w (Region.free_spec hi hf) (shutB_spec (Bool.and_eq_true _ _ ▸ hr).2) (List.contains_iff_mem.1 (Bool.and_eq_true _ _ ▸ hr).1) hy hS (fun _ => hS) h
/-- Number i, which B lists, yields in whatever world. -/
theorem anyB_takeW {i : Nat} {oi : Oper} {v : Value} {n : Nat} {l : Array Bool} {a : Act} {w : World} (hi : ops[i]? = some oi)
    (hs : Region.noSelect ops = true) (hf : Region.free md ops l i = true) (hr : ((Region.ready md ops l).contains i && shutB md ops l) = true) (hl : B.contains i = true)
    (hQ : ∀ c a w, Q (.panic c) (a.put oi.dst v) w → Q (.panic c) a w) (hy : YieldsIf P ops (fun _ => True) oi v a)
    (h : anyB P md ops Q S B n (l.setIfInBounds i true) (a.put oi.dst v) w) : anyB P md ops Q S B (n + 1) l a w :=
  anyB_first (T := fun _ => True) hi (Region.noSelect_spec hs) hQ (.inl ⟨hl, fun _ => trivial⟩) n l a w (Region.free_spec hi hf) (shutB_spec (Bool.and_eq_true _ _ ▸ hr).2) (List.contains_iff_mem.1 (Bool.and_eq_true _ _ ▸ hr).1) hy trivial (fun h => by rw [hl] at h; cases h) h
/-- One operation alone may come up, and S stands after it. -/
theorem anyB_keep {i : Nat} {o : Oper} {n : Nat} {l : Array Bool} {a : Act} {w : World} (hr : Region.ready md ops l = [i]) (ho : ops[i]? = some o)
    (h : ∀ K : Act → World → Prop, Shut (∀ b v, S v → anyB P md ops Q S B n (l.setIfInBounds i true) b v → K b v) → if Region.wanted o (yielded ops a.tmps) = true then Oper.wp P o a w K Q else K (a.put o.dst undef) w) :
    anyB P md ops Q S B (n + 1) l a w := by
  refine ⟨fun h0 => (by rw [hr] at h0; cases h0), fun j hj => ?_⟩
  rw [hr] at hj
  obtain rfl := List.mem_singleton.1 hj
  exact wpOp_step ho fun K hK => h K fun b v hS hA => hK b v ⟨fun _ => hS, hA⟩
/-- One operation alone may come up, and B lists it. -/
theorem anyB_last {i : Nat} {o : Oper} {n : Nat} {l : Array Bool} {a : Act} {w : World} (hr : Region.ready md ops l = [i]) (ho : ops[i]? = some o) (hl : B.contains i = true)
    (h : ∀ K : Act → World → Prop, Shut (∀ b v, anyB P md ops Q S B n (l.setIfInBounds i true) b v → K b v) → if Region.wanted o (yielded ops a.tmps) = true then Oper.wp P o a w K Q else K (a.put o.dst undef) w) :
    anyB P md ops Q S B (n + 1) l a w := by
  refine ⟨fun h0 => (by rw [hr] at h0; cases h0), fun j hj => ?_⟩
  rw [hr] at hj
  obtain rfl := List.mem_singleton.1 hj
  exact wpOp_step ho fun K hK => h K fun b v hA => hK b v ⟨fun h => (by rw [hl] at h; cases h), hA⟩
theorem anyB_done {l : Array Bool} {a : Act} {w : World} (hr : Region.ready md ops l = []) (h : Q .normal a w) : ∀ n, anyB P md ops Q S B n l a w
  | 0 => ⟨hr, h⟩
  | _ + 1 => ⟨fun _ => h, by rw [hr]; simp⟩
/-- The beginning. -/
theorem region_anyB {id : Nat} {a : Act} {w : World} (S : World → Prop) (B : List Nat) (hm : P.follows .mixedOrders = true)
    (h : anyB P .any ops Q S B ops.size (Array.replicate ops.size false) a w.drew) : (Code.region id ops true).wp P Q a w :=
  wp_region_any hm (anyB_any _ _ _ _ h)
end
end Go.Proofs.YtfdeegafdaobdaaDoor

namespace Go.Proofs.YtfdeegafdaobdaaDoor
open Go

theorem filt_lt (p q : Nat → Bool) (i : Nat) (hpq : ∀ x, q x = true → p x = true) (hp : p i = true) (hq : q i = false) :
    ∀ L : List Nat, (L.filter q).length ≤ (L.filter p).length ∧ (i ∈ L → (L.filter q).length < (L.filter p).length)
  | [] => ⟨Nat.le_refl _, fun h => by cases h⟩
  | x :: L => by
    obtain ⟨h1, h2⟩ := filt_lt p q i hpq hp hq L
    rw [List.filter_cons, List.filter_cons]
    by_cases hx : q x = true
    · rw [if_pos hx, if_pos (hpq x hx)]
      refine ⟨by simpa using h1, fun h => ?_⟩
      rcases List.mem_cons.1 h with rfl | h
      · rw [hq] at hx; cases hx
      · simpa using h2 h
    · rw [if_neg hx]
      by_cases hy : p x = true
      · rw [if_pos hy]
        exact ⟨by simp; omega, fun _ => by simp; omega⟩
      · rw [if_neg hy]
        refine ⟨h1, fun h => ?_⟩
        rcases List.mem_cons.1 h with rfl | h
        · rw [hp] at hy; exact absurd rfl hy
        · exact h2 h
/-- L comes up in whatever order, R behind all of it; lf: all but R has come up. -/
def staticB (md : Region.Mode) (ops : Array Oper) (L R : List Nat) (lf : Array Bool) : Bool :=
  ((L.all fun i => match ops[i]? with | some o => o.after.all (fun e => !Region.binds md e || (!R.contains e.on && decide (e.on < i))) | none => false) &&
  (R.all fun r => L.all fun i => (ancs md ops r).contains i && !(i == r))) && ((L.all fun i => !R.contains i) && (lf.size == ops.size && (List.range ops.size).all fun j => lf.getD j false == !R.contains j))
section
variable {P : Program} {ops : Array Oper} {Q : Exit → Act → World → Prop} {md : Region.Mode} {S : World → Prop} {B : List Nat}
theorem getD_lt {l : Array Bool} {i : Nat} (h : i < l.size) (d e : Bool) : l.getD i d = l.getD i e := by
  simp [h]
theorem anyB_inv (L R : List Nat) (lf : Array Bool) (m : Nat) (hst : staticB md ops L R lf = true) (I : Array Bool → Act → World → Prop)
    (hS : ∀ l a w, I l a w → S w)
    (hstep : ∀ i ∈ L, ∀ l a w, I l a w → i ∈ Region.ready md ops l → wpOp P ops Q i (fun b v => I (l.setIfInBounds i true) b v) a w)
    (hend : ∀ n a w, I lf a w → anyB P md ops Q S B (n + m) lf a w) :
    ∀ (k : Nat) (l : Array Bool) (a : Act) (w : World), I l a w → l.size = ops.size → shutL md ops l → (∀ j, j < ops.size → j ∉ L → j ∉ R → l.getD j false = true) → (∀ j, j ∈ R → l.getD j true = false) →
      (L.filter fun i => !l.getD i false).length ≤ k → anyB P md ops Q S B (k + m) l a w := by
  simp only [staticB, Bool.and_eq_true, List.all_eq_true, beq_iff_eq, List.mem_range, Bool.not_eq_true'] at hst
  obtain ⟨⟨h1, h2⟩, h3, h4, h5⟩ := hst
  intro k
  induction k with
  | zero =>
    intro l a w hI hsz hsh hT hR hk
    have hall : ∀ i ∈ L, l.getD i false = true := fun i hi => by
      have h0 := List.eq_nil_of_length_eq_zero (Nat.le_zero.1 hk)
      cases hv : l.getD i false
      · have : i ∈ L.filter fun i => !l.getD i false := List.mem_filter.2 ⟨hi, by rw [hv]; rfl⟩
        rw [h0] at this; cases this
      · rfl
    have he : l = lf := Array.ext (by rw [hsz, h4]) fun j hj hj' => by
      have e1 : l.getD j false = l[j] := by simp [hj]
      have e2 : lf.getD j false = lf[j] := by simp [hj']
      rw [← e1, ← e2, h5 j (by omega)]
      by_cases hr : j ∈ R
      · rw [getD_lt hj false true, hR j hr, List.contains_iff_mem.2 hr]; rfl
      · have hc : R.contains j = false := by simpa using hr
        rw [hc]
        by_cases hl : j ∈ L
        · exact hall j hl
        · exact hT j (by omega) hl hr
    subst he
    exact hend 0 a w hI
  | succ k ih =>
    intro l a w hI hsz hsh hT hR hk
    by_cases hall : ∀ i ∈ L, l.getD i false = true
    · have he : l = lf := Array.ext (by rw [hsz, h4]) fun j hj hj' => by
        have e1 : l.getD j false = l[j] := by simp [hj]
        have e2 : lf.getD j false = lf[j] := by simp [hj']
        rw [← e1, ← e2, h5 j (by omega)]
        by_cases hr : j ∈ R
        · rw [getD_lt hj false true, hR j hr, List.contains_iff_mem.2 hr]; rfl
        · have hc : R.contains j = false := by simpa using hr
          rw [hc]
          by_cases hl : j ∈ L
          · exact hall j hl
          · exact hT j (by omega) hl hr
      subst he
      exact hend _ a w hI
    · have hex : ∃ i, i ∈ L ∧ l.getD i false = false := by
        apply Classical.byContradiction
        intro hn
        exact hall fun i hi => by
          cases hv : l.getD i false
          · exact absurd ⟨i, hi, hv⟩ hn
          · rfl
      have hread : ∀ n i, i ≤ n → i ∈ L → l.getD i false = false → ∃ j, j ∈ Region.ready md ops l := by
        intro n
        induction n with
        | zero =>
          intro i hin hi hv
          have hh := h1 i hi
          cases ho : ops[i]? with
          | none => rw [ho] at hh; cases hh
          | some o =>
            rw [ho] at hh
            have hlt := (Array.getElem?_eq_some_iff.1 ho).1
            refine ⟨i, mem_ready.2 ⟨by rw [getD_lt (by omega) true false]; exact hv, o, ho, fun e he hb => ?_⟩⟩
            have := Array.all_eq_true_iff_forall_mem.1 hh e he
            simp only [hb, Bool.not_true, Bool.false_or, Bool.and_eq_true, decide_eq_true_eq] at this
            omega
        | succ n ihn =>
          intro i hin hi hv
          have hh := h1 i hi
          cases ho : ops[i]? with
          | none => rw [ho] at hh; cases hh
          | some o =>
            rw [ho] at hh
            have hlt := (Array.getElem?_eq_some_iff.1 ho).1
            by_cases hed : ∀ e ∈ o.after, Region.binds md e = true → l.getD e.on false = true
            · exact ⟨i, mem_ready.2 ⟨by rw [getD_lt (by omega) true false]; exact hv, o, ho, hed⟩⟩
            · have hx : ∃ e, e ∈ o.after ∧ Region.binds md e = true ∧ l.getD e.on false = false := by
                apply Classical.byContradiction
                intro hn
                exact hed fun e he hb => by
                  cases hv : l.getD e.on false
                  · exact absurd ⟨e, he, hb, hv⟩ hn
                  · rfl
              obtain ⟨e, he, hb, hev⟩ := hx
              have := Array.all_eq_true_iff_forall_mem.1 hh e he
              simp only [hb, Bool.not_true, Bool.false_or, Bool.and_eq_true, decide_eq_true_eq, Bool.not_eq_true'] at this
              have heR : e.on ∉ R := by simpa using this.1
              by_cases heL : e.on ∈ L
              · exact ihn e.on (by omega) heL hev
              · rw [hT e.on (by omega) heL heR] at hev; cases hev
      rw [show k + 1 + m = (k + m) + 1 by omega]
      obtain ⟨i0, hi0, hv0⟩ := hex
      obtain ⟨j0, hj0⟩ := hread i0 i0 (Nat.le_refl _) hi0 hv0
      refine ⟨fun h0 => (by rw [h0] at hj0; cases hj0), fun i hi => ?_⟩
      obtain ⟨hun, o, ho, hed⟩ := mem_ready.1 hi
      have hlt := (Array.getElem?_eq_some_iff.1 ho).1
      by_cases hL : i ∈ L
      · refine wpOp_mono (fun b v h => ⟨fun _ => hS _ _ _ h, ih _ b v h (by simp [hsz]) (shutL_set hsh hi) (fun j hj hjL hjR => getD_set_true (hT j hj hjL hjR)) (fun j hj => ?_) ?_⟩) (hstep i hL l a w hI hi)
        · have hne : i ≠ j := fun e => by have := h3 i hL; rw [e, List.contains_iff_mem.2 hj] at this; cases this
          rw [getD_set_ne true hne]; exact hR j hj
        · have hf := (filt_lt (fun x => !l.getD x false) (fun x => !(l.setIfInBounds i true).getD x false) i (fun x hx => by
            cases hv : l.getD x false
            · rfl
            · rw [getD_set_true hv] at hx; cases hx) (by rw [getD_lt (by omega) false true, hun]; rfl) (by simp [hsz, hlt]) L).2 hL
          omega
      · by_cases hRi : i ∈ R
        · exfalso
          have hx := h2 i hRi i0 hi0
          rcases ancs_listed hsh ho hed _ [i] (fun x hx => .inl (List.mem_singleton.1 hx)) i0 (List.contains_iff_mem.1 hx.1) with e | e
          · have := hx.2; rw [e] at this; simp at this
          · rw [hv0] at e; cases e
        · exfalso
          have := hT i hlt hL hRi
          rw [getD_lt (by omega) false true, hun] at this
          cases this
end
end Go.Proofs.YtfdeegafdaobdaaDoor
