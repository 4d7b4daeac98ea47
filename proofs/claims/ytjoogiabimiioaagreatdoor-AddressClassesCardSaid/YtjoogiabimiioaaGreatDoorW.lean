/- A region whose order is drawn: one condition stands after each operation, another one until the first of the operations that may break it. -/
import Derived.OrdersHeld
import Derived.StillTail
import Derived.RegionTactic
import Derived.Deep.RegionHeld
import Derived.Deep.MidRow
namespace Go.Proofs.YtjoogiabimiioaaGreatDoor
open Go

section
variable {P : Program} {ops : Array Oper} {Q : Exit → Act → World → Prop} {md : Region.Mode} {S T U : World → Prop} {B : List Nat}

/-- None of the operations that B lists has come up. -/
def noneB (B : List Nat) (l : Array Bool) : Bool := B.all fun x => !l.getD x false
/-- Any order; S stands after each operation, U until the first that B lists. -/
def anyC (P : Program) (md : Region.Mode) (ops : Array Oper) (Q : Exit → Act → World → Prop) (S U : World → Prop) (B : List Nat) : Nat → Array Bool → Act → World → Prop
  | 0, l, a, w => Region.ready md ops l = [] ∧ Q .normal a w
  | n + 1, l, a, w => (Region.ready md ops l = [] → Q .normal a w) ∧
      ∀ i ∈ Region.ready md ops l, wpOp P ops Q i (fun b v => (S v ∧ (noneB B (l.setIfInBounds i true) = true → U v)) ∧ anyC P md ops Q S U B n (l.setIfInBounds i true) b v) a w
theorem anyC_any : ∀ (n : Nat) (l : Array Bool) (a : Act) (w : World), anyC P md ops Q S U B n l a w → wpAny P md ops Q n l a w
  | 0, _, _, _, h => h
  | _ + 1, _, _, _, h => ⟨h.1, fun i hi => wpOp_mono (fun b v k => anyC_any _ _ b v k.2) (h.2 i hi)⟩
/-- What j waits for, at any remove, and j. -/
def ancs (md : Region.Mode) (ops : Array Oper) (j : Nat) : List Nat :=
  (List.range j).reverse.foldl (fun s k => if s.any (fun x => Region.waitsFor md ops x k) then k :: s else s) [j]
def shutL (md : Region.Mode) (ops : Array Oper) (l : Array Bool) : Prop := ∀ j oj, ops[j]? = some oj → l.getD j false = true → ∀ e ∈ oj.after, Region.binds md e = true → l.getD e.on false = true
def shutB (md : Region.Mode) (ops : Array Oper) (l : Array Bool) : Bool :=
  (List.range ops.size).all fun j => !l.getD j false || (match ops[j]? with | some o => o.after.all fun e => !Region.binds md e || l.getD e.on false | none => true)
theorem shutB_spec {l : Array Bool} (h : shutB md ops l = true) : shutL md ops l := fun j oj hj hl e he hb => by
  have h1 := List.all_eq_true.1 h j (List.mem_range.2 (Array.getElem?_eq_some_iff.1 hj).1)
  rw [hj, hl] at h1
  simp only [Bool.not_true, Bool.false_or] at h1
  have h2 := Array.all_eq_true_iff_forall_mem.1 h1 e he
  rw [hb] at h2
  simpa using h2
theorem shutL_set {l : Array Bool} {i : Nat} (h : shutL md ops l) (hi : i ∈ Region.ready md ops l) : shutL md ops (l.setIfInBounds i true) := fun j oj hj hl e he hb => by
  obtain ⟨_, oi, hoi, hall⟩ := mem_ready.1 hi
  by_cases hij : i = j
  · subst hij
    rw [hoi] at hj
    cases hj
    exact getD_set_true (hall e he hb)
  · rw [getD_set_ne false hij] at hl
    exact getD_set_true (h j oj hj hl e he hb)
theorem ancs_listed {l : Array Bool} (h : shutL md ops l) {j : Nat} {oj : Oper} (hj : ops[j]? = some oj) (hall : ∀ e ∈ oj.after, Region.binds md e = true → l.getD e.on false = true) :
    ∀ (ks s : List Nat), (∀ x ∈ s, x = j ∨ l.getD x false = true) → ∀ x ∈ ks.foldl (fun s k => if s.any (fun x => Region.waitsFor md ops x k) then k :: s else s) s, x = j ∨ l.getD x false = true := by
  intro ks
  induction ks with
  | nil => intro s hs; exact hs
  | cons k ks ih =>
    intro s hs
    rw [List.foldl_cons]
    refine ih _ ?_
    split
    · rename_i hany
      obtain ⟨y, hy, hw⟩ := List.any_eq_true.1 hany
      intro x hx
      rcases List.mem_cons.1 hx with rfl | hx
      · obtain ⟨o, ho, e, he, hb, hon⟩ := Region.waitsFor_spec hw
        right
        rcases hs y hy with rfl | hly
        · rw [hj] at ho
          cases ho
          rw [← hon]; exact hall e he hb
        · rw [← hon]; exact h y o ho hly e he hb
      · exact hs x hx
    · exact hs
/-- Each operation that B lists waits for i, at some remove. -/
def lateB (md : Region.Mode) (ops : Array Oper) (B : List Nat) (i : Nat) : Bool := B.all fun j => i != j && (ancs md ops j).contains i
theorem lateB_not {i j : Nat} {l : Array Bool} (h : lateB md ops B i = true) (hs : shutL md ops l) (hj : j ∈ Region.ready md ops l) (hi : l.getD i false = false) : B.contains j = false := by
  cases hb : B.contains j
  · rfl
  · have h1 := List.all_eq_true.1 h j (List.contains_iff_mem.1 hb)
    simp only [Bool.and_eq_true, bne_iff_ne, ne_eq] at h1
    obtain ⟨_, oj, hoj, hall⟩ := mem_ready.1 hj
    rcases ancs_listed hs hoj hall _ [j] (fun x hx => .inl (List.mem_singleton.1 hx)) i (List.contains_iff_mem.1 h1.2) with e | e
    · exact absurd e h1.1
    · rw [hi] at e; cases e
theorem ready_un {i : Nat} {l : Array Bool} (h : i ∈ Region.ready md ops l) : l.getD i false = false := by
  have h0 := (mem_ready.1 h).1
  rcases Nat.lt_or_ge i l.size with h' | h'
  · simp [h'] at h0 ⊢; exact h0
  · simp [Array.getElem?_eq_none h']
theorem noneB_spec {l : Array Bool} : noneB B l = true ↔ ∀ x ∈ B, l.getD x false = false := by
  unfold noneB
  rw [List.all_eq_true]
  exact ⟨fun h x hx => by simpa using h x hx, fun h x hx => by simpa using h x hx⟩
theorem noneB_back {l : Array Bool} {i : Nat} (h : noneB B (l.setIfInBounds i true) = true) : noneB B l = true := noneB_spec.2 fun x hx => by
  have h1 := noneB_spec.1 h x hx
  cases hv : l.getD x false
  · rfl
  · rw [getD_set_true hv] at h1; exact h1
theorem noneB_set {l : Array Bool} {j : Nat} (h : noneB B l = true) (hj : B.contains j = false) : noneB B (l.setIfInBounds j true) = true := noneB_spec.2 fun x hx => by
  have hne : j ≠ x := fun e => by
    have : B.contains j = true := List.contains_iff_mem.2 (e ▸ hx)
    rw [hj] at this; cases this
  rw [getD_set_ne false hne]; exact noneB_spec.1 h x hx
theorem anyC_first {i : Nat} {oi : Oper} {v : Value} (hi : ops[i]? = some oi) (hsel : ∀ (j : Nat) (o : Oper) cs b, ops[j]? = some o → o.op ≠ .select cs b)
    (hQ : ∀ c a w, Q (.panic c) (a.put oi.dst v) w → Q (.panic c) a w) (hBi : B.contains i = false)
    (hc : (∀ w, S w → T w) ∨ (lateB md ops B i = true ∧ ∀ w, U w → T w)) :
    ∀ (n : Nat) (l : Array Bool) (a : Act) (w : World),
      (∀ j oj, ops[j]? = some oj → j ≠ i → l.getD j true = false → (∀ e ∈ oj.after, Region.binds md e = true → e.on ≠ i) → oi.apart ops oj = true) →
      shutL md ops l → i ∈ Region.ready md ops l → YieldsIf P ops T oi v a → S w → (noneB B l = true → U w) → ((∀ w, S w → T w) ∨ noneB B l = true) →
      anyC P md ops Q S U B n (l.setIfInBounds i true) (a.put oi.dst v) w → anyC P md ops Q S U B (n + 1) l a w := by
  intro n
  induction n with
  | zero =>
    intro l a w _ _ hr hy hS hU hd H
    refine ⟨fun h => (by rw [h] at hr; cases hr), fun j hj => ?_⟩
    by_cases hji : j = i
    · subst hji
      have hT : T w := by
        rcases hc with c | ⟨_, c⟩
        · exact c w hS
        · exact hd.elim (fun c => c w hS) (fun d => c w (hU d))
      exact hy.wpOp hi hT ⟨⟨hS, fun h => hU (noneB_back h)⟩, H⟩
    · have := ready_mono hj hji
      rw [H.1] at this
      cases this
  | succ n ih =>
    intro l a w hfree hsh hr hy hS hU hd H
    refine ⟨fun h => (by rw [h] at hr; cases hr), fun j hj => ?_⟩
    by_cases hji : j = i
    · subst hji
      have hT : T w := by
        rcases hc with c | ⟨_, c⟩
        · exact c w hS
        · exact hd.elim (fun c => c w hS) (fun d => c w (hU d))
      exact hy.wpOp hi hT ⟨⟨hS, fun h => hU (noneB_back h)⟩, H⟩
    · obtain ⟨hjun, oj, hoj, hall⟩ := mem_ready.1 hj
      have hun := ready_un hr
      have hnot : ∀ e ∈ oj.after, Region.binds md e = true → e.on ≠ i := fun e he hb heq => by
        have h1 := hall e he hb
        rw [heq, hun] at h1; cases h1
      have h2 := wpOp_putIf hoj (hfree j oj hoj hji hjun hnot) (fun cs b => hsel i oi cs b hi) (fun cs b => hsel j oj cs b hoj) hQ hy (H.2 j (ready_mono hj hji))
      refine wpOp_mono (fun b u k => ?_) h2
      have hU' : noneB B (l.setIfInBounds j true) = true → U u := fun h => k.2.1.2 (by
        rw [Array.setIfInBounds_comm _ _ (Ne.symm hji)]
        exact noneB_set h hBi)
      have hd' : (∀ w, S w → T w) ∨ noneB B (l.setIfInBounds j true) = true := by
        rcases hd with d | d
        · exact .inl d
        · rcases hc with c | ⟨c1, _⟩
          · exact .inl c
          · exact .inr (noneB_set d (lateB_not c1 hsh hj hun))
      refine ⟨⟨k.2.1.1, hU'⟩, ih (l.setIfInBounds j true) b u (fun q oq hq hqi hun hno => ?_) (shutL_set hsh hj) (ready_mono hr (Ne.symm hji)) k.1 k.2.1.1 hU' hd' ?_⟩
      · refine hfree q oq hq hqi ?_ hno
        by_cases hjq : j = q
        · subst hjq; exact hjun
        · rw [getD_set_ne true hjq] at hun; exact hun
      · rw [Array.setIfInBounds_comm _ _ hji]
        exact k.2.2
/-- Number i yields in every world that meets S: it is taken first. -/
theorem anyC_takeS {i : Nat} {oi : Oper} {v : Value} {n : Nat} {l : Array Bool} {a : Act} {w : World} (hi : ops[i]? = some oi)
    (hs : Region.noSelect ops = true) (hf : Region.free md ops l i = true) (hr : ((Region.ready md ops l).contains i && shutB md ops l) = true) (hBi : B.contains i = false)
    (hQ : ∀ c a w, Q (.panic c) (a.put oi.dst v) w → Q (.panic c) a w) (hy : YieldsIf P ops S oi v a) (hS : S w) (hU : noneB B l = true → U w)
    (h : anyC P md ops Q S U B n (l.setIfInBounds i true) (a.put oi.dst v) w) : anyC P md ops Q S U B (n + 1) l a w :=
  anyC_first (T := S) hi (Region.noSelect_spec hs) hQ hBi (.inl fun _ h => h) n l a w (Region.free_spec hi hf) (shutB_spec (Bool.and_eq_true _ _ ▸ hr).2) (List.contains_iff_mem.1 (Bool.and_eq_true _ _ ▸ hr).1) hy hS hU (.inl fun _ h => h) h
/-- Number i yields in every world that meets U, and comes up before what B lists. -/
theorem anyC_takeU {i : Nat} {oi : Oper} {v : Value} {n : Nat} {l : Array Bool} {a : Act} {w : World} (hi : ops[i]? = some oi)
    (hs : Region.noSelect ops = true) (hf : Region.free md ops l i = true) (hr : ((Region.ready md ops l).contains i && shutB md ops l) = true) (hBi : (!B.contains i && (lateB md ops B i && noneB B l)) = true)
    (hQ : ∀ c a w, Q (.panic c) (a.put oi.dst v) w → Q (.panic c) a w) (hy : YieldsIf P ops U oi v a) (hS : S w) (hU : U w)
    (h : anyC P md ops Q S U B n (l.setIfInBounds i true) (a.put oi.dst v) w) : anyC P md ops Q S U B (n + 1) l a w := by
  simp only [Bool.and_eq_true, Bool.not_eq_true'] at hBi
  exact anyC_first (T := U) hi (Region.noSelect_spec hs) hQ hBi.1 (.inr ⟨hBi.2.1, fun _ h => h⟩) n l a w (Region.free_spec hi hf) (shutB_spec (Bool.and_eq_true _ _ ▸ hr).2) (List.contains_iff_mem.1 (Bool.and_eq_true _ _ ▸ hr).1) hy hS (fun _ => hU) (.inr hBi.2.2) h
/-- One operation alone may come up. -/
theorem anyC_keep {i : Nat} {o : Oper} {n : Nat} {l : Array Bool} {a : Act} {w : World} (hr : Region.ready md ops l = [i]) (ho : ops[i]? = some o)
    (h : ∀ K : Act → World → Prop, Shut (∀ b v, (S v ∧ (noneB B (l.setIfInBounds i true) = true → U v)) → anyC P md ops Q S U B n (l.setIfInBounds i true) b v → K b v) → if Region.wanted o (yielded ops a.tmps) = true then Oper.wp P o a w K Q else K (a.put o.dst undef) w) :
    anyC P md ops Q S U B (n + 1) l a w := by
  refine ⟨fun h0 => (by rw [hr] at h0; cases h0), fun j hj => ?_⟩
  rw [hr] at hj
  obtain rfl := List.mem_singleton.1 hj
  exact wpOp_step ho fun K hK => h K fun b v hS hA => hK b v ⟨hS, hA⟩
theorem anyC_done {l : Array Bool} {a : Act} {w : World} (hr : Region.ready md ops l = []) (h : Q .normal a w) : ∀ n, anyC P md ops Q S U B n l a w
  | 0 => ⟨hr, h⟩
  | _ + 1 => ⟨fun _ => h, by rw [hr]; simp⟩
/-- The beginning. -/
theorem region_anyC {id : Nat} {a : Act} {w : World} (S U : World → Prop) (B : List Nat) (hm : P.follows .mixedOrders = true)
    (h : anyC P .any ops Q S U B ops.size (Array.replicate ops.size false) a w.drew) : (Code.region id ops true).wp P Q a w :=
  wp_region_any hm (anyC_any _ _ _ _ h)
end
end Go.Proofs.YtjoogiabimiioaaGreatDoor
