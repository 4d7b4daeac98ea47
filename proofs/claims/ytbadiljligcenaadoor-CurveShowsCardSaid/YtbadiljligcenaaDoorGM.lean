/- The reference's Result: its memory, what its numbers stand for, and three calls beside four new blocks in any order. -/
import Derived.Test.YtbadiljligcenaaDoorGL
import Derived.Laws.Tables
namespace Go.Proofs.YtbadiljligcenaaDoor
open Go.RowKit Go.ChangeShapes
section
variable {P : Program} {ops : Array Oper} {Q : Exit → Act → World → Prop} {md : Region.Mode} {S T U : World → Prop} {B : List Nat}
/-- One of two operations may come up. -/
theorem anyC_two {i j : Nat} {o1 o2 : Oper} {n : Nat} {l : Array Bool} {a : Act} {w : World} (hr : Region.ready md ops l = [i, j]) (ho1 : ops[i]? = some o1) (ho2 : ops[j]? = some o2)
    (h1 : ∀ K : Act → World → Prop, Shut (∀ b v, (S v ∧ (noneB B (l.setIfInBounds i true) = true → U v)) → anyC P md ops Q S U B n (l.setIfInBounds i true) b v → K b v) → if Region.wanted o1 (yielded ops a.tmps) = true then Oper.wp P o1 a w K Q else K (a.put o1.dst undef) w)
    (h2 : ∀ K : Act → World → Prop, Shut (∀ b v, (S v ∧ (noneB B (l.setIfInBounds j true) = true → U v)) → anyC P md ops Q S U B n (l.setIfInBounds j true) b v → K b v) → if Region.wanted o2 (yielded ops a.tmps) = true then Oper.wp P o2 a w K Q else K (a.put o2.dst undef) w) :
    anyC P md ops Q S U B (n + 1) l a w := by
  refine ⟨fun h0 => (by rw [hr] at h0; cases h0), fun x hx => ?_⟩
  rw [hr] at hx
  rcases List.mem_cons.1 hx with rfl | hx
  · exact wpOp_step ho1 fun K hK => h1 K fun b v hS hA => hK b v ⟨hS, hA⟩
  · obtain rfl := List.mem_singleton.1 hx
    exact wpOp_step ho2 fun K hK => h2 K fun b v hS hA => hK b v ⟨hS, hA⟩
/-- One of three. -/
theorem anyC_three {i j k : Nat} {o1 o2 o3 : Oper} {n : Nat} {l : Array Bool} {a : Act} {w : World} (hr : Region.ready md ops l = [i, j, k]) (ho1 : ops[i]? = some o1) (ho2 : ops[j]? = some o2) (ho3 : ops[k]? = some o3)
    (h1 : ∀ K : Act → World → Prop, Shut (∀ b v, (S v ∧ (noneB B (l.setIfInBounds i true) = true → U v)) → anyC P md ops Q S U B n (l.setIfInBounds i true) b v → K b v) → if Region.wanted o1 (yielded ops a.tmps) = true then Oper.wp P o1 a w K Q else K (a.put o1.dst undef) w)
    (h2 : ∀ K : Act → World → Prop, Shut (∀ b v, (S v ∧ (noneB B (l.setIfInBounds j true) = true → U v)) → anyC P md ops Q S U B n (l.setIfInBounds j true) b v → K b v) → if Region.wanted o2 (yielded ops a.tmps) = true then Oper.wp P o2 a w K Q else K (a.put o2.dst undef) w)
    (h3 : ∀ K : Act → World → Prop, Shut (∀ b v, (S v ∧ (noneB B (l.setIfInBounds k true) = true → U v)) → anyC P md ops Q S U B n (l.setIfInBounds k true) b v → K b v) → if Region.wanted o3 (yielded ops a.tmps) = true then Oper.wp P o3 a w K Q else K (a.put o3.dst undef) w) :
    anyC P md ops Q S U B (n + 1) l a w := by
  refine ⟨fun h0 => (by rw [hr] at h0; cases h0), fun x hx => ?_⟩
  rw [hr] at hx
  rcases List.mem_cons.1 hx with rfl | hx
  · exact wpOp_step ho1 fun K hK => h1 K fun b v hS hA => hK b v ⟨hS, hA⟩
  · rcases List.mem_cons.1 hx with rfl | hx
    · exact wpOp_step ho2 fun K hK => h2 K fun b v hS hA => hK b v ⟨hS, hA⟩
    · obtain rfl := List.mem_singleton.1 hx
      exact wpOp_step ho3 fun K hK => h3 K fun b v hS hA => hK b v ⟨hS, hA⟩
end
theorem dN_zero : dN 0 = Z16 := by decide
abbrev Z16o : Obj := .cells (niC Z16) 48
/-- Blocks that hold numbers. -/
def Ks (W : World) (ps : List (Nat × Nat)) : Prop := ∀ x ∈ ps, Iar W x.1 48 (dN x.2)
/-- Old memory, and blocks of numbers that are new and different. -/
structure Sr (w : World) (ps : List (Nat × Nat)) (W : World) : Prop where
  o : Below w.heap.size w W
  k : Ks W ps
  z : ∀ x ∈ ps, w.heap.size ≤ x.1
  nd : (ps.map (·.1)).Nodup
theorem Sr.start (w : World) : Sr w [] w := ⟨Below.refl _ _, fun x hx => (by cases hx), fun x hx => (by cases hx), List.nodup_nil⟩
theorem Sr.below {w W V : World} {ps : List (Nat × Nat)} (h : Sr w ps W) (hb : Below W.heap.size W V) : Sr w ps V := ⟨bstep h.o hb, fun x hx => (h.k x hx).below hb (h.k x hx).lt, h.z, h.nd⟩
theorem Sr.drew {w W : World} {ps : List (Nat × Nat)} (h : Sr w ps W) : Sr w ps W.drew := ⟨h.o.drew, fun x hx => (h.k x hx).drew, h.z, h.nd⟩
theorem Sr.new {w W : World} {ps : List (Nat × Nat)} (h : Sr w ps W) : Sr w ((W.heap.size, 0) :: ps) (W.alloc Z16o) :=
  ⟨bstep1 h.o, fun x hx => by
    rcases List.mem_cons.1 hx with rfl | hx
    · show Iar _ _ _ (dN 0); rw [dN_zero]; exact Iar.new W 48 Z16
    · exact (h.k x hx).alloc _, fun x hx => by
    rcases List.mem_cons.1 hx with rfl | hx
    · exact h.o.size
    · exact h.z x hx, by
    rw [List.map_cons, List.nodup_cons]
    refine ⟨fun hm => ?_, h.nd⟩
    obtain ⟨x, hx, e⟩ := List.mem_map.1 hm
    have := (h.k x hx).lt
    simp only at e
    omega⟩
theorem Sr.perm {w W : World} {ps qs : List (Nat × Nat)} (h : Sr w ps W) (hp : ps.Perm qs) : Sr w qs W :=
  ⟨h.o, fun x hx => h.k x (hp.mem_iff.2 hx), fun x hx => h.z x (hp.mem_iff.2 hx), (hp.map _).nodup_iff.1 h.nd⟩
theorem Sr.at {w W : World} (l : List (Nat × Nat)) {m : List (Nat × Nat)} {g r : Nat} (h : Sr w (l ++ (g, r) :: m) W) (r' : Nat) : Sr w (l ++ (g, r') :: m) (W.setRow g (niC (dN r'))) := by
  have hn := h.nd
  rw [List.map_append, List.map_cons] at hn
  have hd : ∀ x ∈ l ++ m, x.1 ≠ g := by
    intro x hx e
    have hn2 := (List.perm_middle.nodup_iff.1 hn)
    rw [List.nodup_cons] at hn2
    apply hn2.1
    rw [← List.map_append]
    exact List.mem_map.2 ⟨x, hx, e⟩
  refine ⟨below_setRow h.o (h.z (g, r) (by simp)) _, fun x hx => ?_, fun x hx => ?_, ?_⟩
  · rcases List.mem_append.1 hx with hx | hx
    · exact (setRow_other _ _ _ _ (hd x (List.mem_append_left _ hx))).trans (h.k x (by simp [hx]))
    · rcases List.mem_cons.1 hx with rfl | hx
      · exact (h.k (g, r) (by simp)).row _
      · exact (setRow_other _ _ _ _ (hd x (List.mem_append_right _ hx))).trans (h.k x (by simp [hx]))
  · rcases List.mem_append.1 hx with hx | hx
    · exact h.z x (by simp [hx])
    · rcases List.mem_cons.1 hx with rfl | hx
      · exact h.z (g, r) (by simp)
      · exact h.z x (by simp [hx])
  · rw [List.map_append, List.map_cons]
    exact hn
theorem Sr.drop {w W : World} (l : List (Nat × Nat)) {m : List (Nat × Nat)} (h : Sr w (l ++ m) W) : Sr w m W :=
  ⟨h.o, fun x hx => h.k x (List.mem_append_right _ hx), fun x hx => h.z x (List.mem_append_right _ hx), by
    have := h.nd
    rw [List.map_append] at this
    exact (List.nodup_append.1 this).2.1⟩
theorem yieldsIf_load_ni {ops : Array Oper} {S : World → Prop} {op : Oper} {a : Act} (hw : Region.wanted op (yielded ops a.tmps) = true) (x : Operand) (ho : op.op = .load 48 x)
    (g r : Nat) (hx : a.eval x = .pointer (some ⟨g, 0, none⟩)) (h : ∀ w, S w → Iar w g 48 (dN r)) : YieldsIf Tryd.prog ops S op (.agg (niC (dN r))) a := by
  refine yieldsIf_load_mid hw 48 x ho g 0 hx (niC (dN r)).toList _ (fun w' hw' => ?_) Tryd.underlying48 rfl (by rw [size48, Array.length_toList, niC_size, dN_length])
  intro j v hv
  have h1 := h w' hw'
  rw [Array.getElem?_toList] at hv
  rw [Nat.zero_add, cell_of_row _ g j _ 48 (0, 0) h1]
  exact hv
theorem sum_rel {a b x y : Nat} (h1 : Rq a x) (h2 : Rq b y) (W : World) : Calls Tryd.prog 32 #[.agg (niC (dN a)), .agg (niC (dN b))] W fun e w' => ∃ r, e = .returned (.agg (niC (dN r))) ∧ Rq r (x + y) ∧ Below W.heap.size W w' := by
  refine (sum_any a b W h1.1 h2.1).mono ?_
  rintro e w' ⟨⟨r, rfl, hr, hm⟩, hb⟩
  exact ⟨r, rfl, h1.add h2 hr hm, hb⟩
theorem dif_rel {a b x y : Nat} (h1 : Rq a x) (h2 : Rq b y) (hy : y ≤ 2 * pC) (W : World) : Calls Tryd.prog 33 #[.agg (niC (dN a)), .agg (niC (dN b))] W fun e w' => ∃ r, e = .returned (.agg (niC (dN r))) ∧ Rq r (sbN x y) ∧ Below W.heap.size W w' := by
  refine (diff_any a b W h1.1 h2.1).mono ?_
  rintro e w' ⟨⟨r, rfl, hr, hm⟩, hb⟩
  exact ⟨r, rfl, h1.sub h2 hy hr hm, hb⟩
theorem mul_rel {a b x y : Nat} (h1 : Rq a x) (h2 : Rq b y) (W : World) : Calls Tryd.prog 34 #[.agg (niC (dN a)), .agg (niC (dN b))] W fun e w' => ∃ r, e = .returned (.agg (niC (dN r))) ∧ Rq r (muN x y) ∧ Below W.heap.size W w' := by
  refine (prod_any a b W h1.1 h2.1).mono ?_
  rintro e w' ⟨⟨r, rfl, hr, hm⟩, hb⟩
  exact ⟨r, rfl, h1.mul h2 hr hm, hb⟩
theorem rq_small {n : Nat} (h : n < two256) : Rq n n := ⟨h, rfl⟩
theorem wp_put {o : Oper} {a : Act} {w W : World} {K : Act → World → Prop} {Q : Exit → Act → World → Prop} (l : List (Nat × Nat)) (g r : Nat) {m : List (Nat × Nat)} {x y : Operand} {old : Nat} (h : Hid (Sr w (l ++ (g, old) :: m) W)) (ho : o.op = .store 48 x y)
    (hx : a.eval x = .pointer (some ⟨g, 0, none⟩)) (hy : a.eval y = .agg (niC (dN r))) (hK : ∀ V, Hid (Sr w (l ++ (g, r) :: m) V) → K (a.put o.dst undef) V) : o.wp Tryd.prog a W K Q :=
  wp_store_row 48 x y ho g (niC (dN r)) hx hy 48 _ (h.out.k (g, old) (List.mem_append_right _ (.head _))) (by rw [size48, niC_size, dN_length]) (by simp only [niC_size, dN_length]) (niC_one _) (hK _ (Lib.hid (h.out.at l r)))
section
def all2 (f : Bool → Bool) : Bool := f true && f false
theorem all2_spec {f : Bool → Bool} (h : all2 f = true) (b : Bool) : f b = true := by
  unfold all2 at h
  rw [Bool.and_eq_true] at h
  cases b
  · exact h.2
  · exact h.1
/-- Which operations may come up while not all eight are done. -/
def rdB (ops : Array Oper) : Bool := all2 fun b0 => all2 fun b1 => all2 fun b3 => all2 fun b4 => all2 fun b5 => all2 fun b6 => all2 fun b7 =>
  (b0 && b1 && b3 && b4 && b5 && b6 && b7) || !(!b1 || b0) || !(!b3 || b1) || (!(Region.ready .any ops #[b0, b1, true, b3, b4, b5, b6, b7, false, false, false, false]).isEmpty &&
    (Region.ready .any ops #[b0, b1, true, b3, b4, b5, b6, b7, false, false, false, false]).all fun i => (i == 0 && !b0) || (i == 1 && !b1 && b0) || (i == 3 && !b3 && b1) || (i == 4 && !b4) || (i == 5 && !b5) || (i == 6 && !b6) || (i == 7 && !b7))
theorem rdB_spec {ops : Array Oper} (h : rdB ops = true) (b0 b1 b3 b4 b5 b6 b7 : Bool) (hb : (b0 && b1 && b3 && b4 && b5 && b6 && b7) = false) (hc : (!b1 || b0) = true ∧ (!b3 || b1) = true) : Region.ready .any ops #[b0, b1, true, b3, b4, b5, b6, b7, false, false, false, false] ≠ [] ∧
      ∀ i ∈ Region.ready .any ops #[b0, b1, true, b3, b4, b5, b6, b7, false, false, false, false], (i = 0 ∧ b0 = false) ∨ (i = 1 ∧ b1 = false ∧ b0 = true) ∨ (i = 3 ∧ b3 = false ∧ b1 = true) ∨ (i = 4 ∧ b4 = false) ∨ (i = 5 ∧ b5 = false) ∨ (i = 6 ∧ b6 = false) ∨ (i = 7 ∧ b7 = false) := by
  have h2 := all2_spec (all2_spec (all2_spec (all2_spec (all2_spec (all2_spec (all2_spec h b0) b1) b3) b4) b5) b6) b7
  rw [hb, hc.1, hc.2, Bool.false_or, Bool.not_true, Bool.false_or, Bool.false_or, Bool.and_eq_true] at h2
  refine ⟨fun e => (by rw [e] at h2; exact absurd h2.1 (by decide)), fun i hi => ?_⟩
  have h3 := List.all_eq_true.1 h2.2 i hi
  simpa [or_assoc, and_assoc] using h3
def putIf (b : Bool) (d : Nat) (v : Value) (a : Act) : Act := if b then a.put (some d) v else a
def blIf (b : Bool) (g : Nat) : List (Nat × Nat) := if b then [(g, 0)] else []
abbrev ptV (g : Nat) : Value := .pointer (some ⟨g, 0, none⟩)
theorem put_comm (a : Act) (i j : Nat) (x y : Value) (h : i ≠ j) : (a.put (some i) x).put (some j) y = (a.put (some j) y).put (some i) x := by
  unfold Act.put
  simp only
  congr 1
  exact Array.setIfInBounds_comm _ _ h
theorem putIf_put (b : Bool) (d e : Nat) (v x : Value) (a : Act) (h : d ≠ e) : (putIf b d v a).put (some e) x = putIf b d v (a.put (some e) x) := by
  unfold putIf
  split
  · exact put_comm _ _ _ _ _ h
  · rfl
def frA (b0 b1 b3 b4 b5 b6 b7 : Bool) (g4 g5 g6 g7 : Nat) (a : Act) : Act :=
  putIf b0 24 (.agg (niC (dN 1))) (putIf b1 25 (.agg (niC (dN 0))) (putIf b3 27 (.agg (niC (dN 1))) (putIf b4 7 (ptV g4) (putIf b5 8 (ptV g5) (putIf b6 9 (ptV g6) (putIf b7 10 (ptV g7) a))))))
variable {ops : Array Oper} {Q : Exit → Act → World → Prop} {o0 o1 o3 o4 o5 o6 o7 : Oper}
/-- Three calls, one after another, and four new blocks: whatever the order. -/
theorem phase3 (w : World) (gu u : Nat) (a : Act) (hi0 : ops[0]? = some o0) (hi1 : ops[1]? = some o1) (hi3 : ops[3]? = some o3) (hi4 : ops[4]? = some o4) (hi5 : ops[5]? = some o5) (hi6 : ops[6]? = some o6) (hi7 : ops[7]? = some o7)
    (hd : (o0.dst = some 24 ∧ o1.dst = some 25 ∧ o3.dst = some 27 ∧ o4.dst = some 7 ∧ o5.dst = some 8 ∧ o6.dst = some 9 ∧ o7.dst = some 10))
    (hw : ∀ y, Region.wanted o0 y = true ∧ Region.wanted o1 y = true ∧ Region.wanted o3 y = true ∧ Region.wanted o4 y = true ∧ Region.wanted o5 y = true ∧ Region.wanted o6 y = true ∧ Region.wanted o7 y = true)
    (he0 : ∀ (a : Act) W, (execOp a.eval o0).run Tryd.prog W = .ok (.enter 31 #[.int .i64 1]) W) (he1 : ∀ (a : Act) W, (execOp a.eval o1).run Tryd.prog W = .ok (.enter 31 #[.int .i64 0]) W) (he3 : ∀ (a : Act) W, (execOp a.eval o3).run Tryd.prog W = .ok (.enter 31 #[.int .i64 1]) W)
    (he4 : ∀ (a : Act) W, (execOp a.eval o4).run Tryd.prog W = .ok (.value (ptV W.heap.size)) (W.alloc Z16o)) (he5 : ∀ (a : Act) W, (execOp a.eval o5).run Tryd.prog W = .ok (.value (ptV W.heap.size)) (W.alloc Z16o))
    (he6 : ∀ (a : Act) W, (execOp a.eval o6).run Tryd.prog W = .ok (.value (ptV W.heap.size)) (W.alloc Z16o)) (he7 : ∀ (a : Act) W, (execOp a.eval o7).run Tryd.prog W = .ok (.value (ptV W.heap.size)) (W.alloc Z16o))
    (hrd : rdB ops = true)
    (hend : ∀ g4 g5 g6 g7 W, Sr w [(g4, 0), (g5, 0), (g6, 0), (g7, 0), (gu, u)] W → anyC Tryd.prog .any ops Q (fun W => Iar W gu 48 (dN u)) (fun _ => True) [] 4 #[true, true, true, true, true, true, true, true, false, false, false, false] (frA true true true true true true true g4 g5 g6 g7 a) W) :
    ∀ (m : Nat) (b0 b1 b3 b4 b5 b6 b7 : Bool) (g4 g5 g6 g7 : Nat) (W : World), m = (!b0).toNat + (!b1).toNat + (!b3).toNat + (!b4).toNat + (!b5).toNat + (!b6).toNat + (!b7).toNat → (!b1 || b0) = true ∧ (!b3 || b1) = true →
      Sr w (blIf b4 g4 ++ (blIf b5 g5 ++ (blIf b6 g6 ++ (blIf b7 g7 ++ [(gu, u)])))) W →
      anyC Tryd.prog .any ops Q (fun W => Iar W gu 48 (dN u)) (fun _ => True) [] (m + 4) #[b0, b1, true, b3, b4, b5, b6, b7, false, false, false, false] (frA b0 b1 b3 b4 b5 b6 b7 g4 g5 g6 g7 a) W
  | 0, b0, b1, b3, b4, b5, b6, b7, g4, g5, g6, g7, W, hm, hc, h => by
    obtain ⟨rfl, rfl, rfl, rfl, rfl, rfl, rfl⟩ : b0 = true ∧ b1 = true ∧ b3 = true ∧ b4 = true ∧ b5 = true ∧ b6 = true ∧ b7 = true := by
      revert hm; cases b0 <;> cases b1 <;> cases b3 <;> cases b4 <;> cases b5 <;> cases b6 <;> cases b7 <;> simp [Bool.toNat] <;> omega
    exact hend _ _ _ _ _ h
  | m + 1, b0, b1, b3, b4, b5, b6, b7, g4, g5, g6, g7, W, hm, hc, h => by
    have ih := phase3 w gu u a hi0 hi1 hi3 hi4 hi5 hi6 hi7 hd hw he0 he1 he3 he4 he5 he6 he7 hrd hend m
    have hr := rdB_spec hrd
    have hb : (b0 && b1 && b3 && b4 && b5 && b6 && b7) = false := by
      clear ih h hr hend
      revert hm; cases b0 <;> cases b1 <;> cases b3 <;> cases b4 <;> cases b5 <;> cases b6 <;> cases b7 <;> simp [Bool.toNat]
    have hU : ∀ V, Sr w (blIf b4 g4 ++ (blIf b5 g5 ++ (blIf b6 g6 ++ (blIf b7 g7 ++ [(gu, u)])))) V → Iar V gu 48 (dN u) := fun V hV => hV.k (gu, u) (by simp)
    refine ⟨fun h0 => absurd h0 (hr _ _ _ _ _ _ _ hb hc).1, fun i hi => ?_⟩
    rcases (hr _ _ _ _ _ _ _ hb hc).2 i hi with ⟨rfl, rfl⟩ | ⟨rfl, rfl, hq⟩ | ⟨rfl, rfl, hq⟩ | ⟨rfl, rfl⟩ | ⟨rfl, rfl⟩ | ⟨rfl, rfl⟩ | ⟨rfl, rfl⟩
    · refine wpOp_step hi0 fun K hK => ?_
      rw [if_pos (hw _).1]
      unfold Oper.wp
      rw [he0, Oper.upon_enter]
      refine (digit_any 1 W (by decide)).mono ?_
      rintro e V ⟨rfl, hb1⟩
      rw [hd.1]
      refine hK _ _ ⟨⟨hU _ (h.below hb1), fun _ => trivial⟩, ?_⟩
      simp only [List.setIfInBounds_toArray, List.set_cons_zero, List.set_cons_succ]
      exact ih true b1 b3 b4 b5 b6 b7 g4 g5 g6 g7 V (by simp [Bool.toNat] at hm ⊢; omega) ⟨by simp, hc.2⟩ (h.below hb1)
    · refine wpOp_step hi1 fun K hK => ?_
      rw [if_pos (hw _).2.1]
      unfold Oper.wp
      rw [he1, Oper.upon_enter]
      refine (digit_any 0 W (by decide)).mono ?_
      rintro e V ⟨rfl, hb1⟩
      rw [hd.2.1]
      refine hK _ _ ⟨⟨hU _ (h.below hb1), fun _ => trivial⟩, ?_⟩
      simp only [List.setIfInBounds_toArray, List.set_cons_zero, List.set_cons_succ]
      have e : (frA b0 false b3 b4 b5 b6 b7 g4 g5 g6 g7 a).put (some 25) (.agg (niC (dN 0))) = frA b0 true b3 b4 b5 b6 b7 g4 g5 g6 g7 a := by
        unfold frA; rw [putIf_put _ _ _ _ _ _ (by decide)]; rfl
      rw [e]
      exact ih b0 true b3 b4 b5 b6 b7 g4 g5 g6 g7 V (by simp [Bool.toNat] at hm ⊢; omega) ⟨by rw [hq]; rfl, by simp⟩ (h.below hb1)
    · refine wpOp_step hi3 fun K hK => ?_
      rw [if_pos (hw _).2.2.1]
      unfold Oper.wp
      rw [he3, Oper.upon_enter]
      refine (digit_any 1 W (by decide)).mono ?_
      rintro e V ⟨rfl, hb1⟩
      rw [hd.2.2.1]
      refine hK _ _ ⟨⟨hU _ (h.below hb1), fun _ => trivial⟩, ?_⟩
      simp only [List.setIfInBounds_toArray, List.set_cons_zero, List.set_cons_succ]
      have e : (frA b0 b1 false b4 b5 b6 b7 g4 g5 g6 g7 a).put (some 27) (.agg (niC (dN 1))) = frA b0 b1 true b4 b5 b6 b7 g4 g5 g6 g7 a := by
        unfold frA; rw [putIf_put _ _ _ _ _ _ (by decide), putIf_put _ _ _ _ _ _ (by decide)]; rfl
      rw [e]
      exact ih b0 b1 true b4 b5 b6 b7 g4 g5 g6 g7 V (by simp [Bool.toNat] at hm ⊢; omega) ⟨hc.1, by rw [hq]; rfl⟩ (h.below hb1)
    · refine wpOp_step hi4 fun K hK => ?_
      rw [if_pos (hw _).2.2.2.1]
      unfold Oper.wp
      rw [he4, Oper.upon_value, hd.2.2.2.1]
      have h2 := h.new
      refine hK _ _ ⟨⟨h2.k (gu, u) (by simp), fun _ => trivial⟩, ?_⟩
      simp only [List.setIfInBounds_toArray, List.set_cons_zero, List.set_cons_succ]
      have e : (frA b0 b1 b3 false b5 b6 b7 g4 g5 g6 g7 a).put (some 7) (ptV W.heap.size) = frA b0 b1 b3 true b5 b6 b7 W.heap.size g5 g6 g7 a := by
        unfold frA; rw [putIf_put _ _ _ _ _ _ (by decide), putIf_put _ _ _ _ _ _ (by decide), putIf_put _ _ _ _ _ _ (by decide)]; rfl
      rw [e]
      exact ih b0 b1 b3 true b5 b6 b7 _ g5 g6 g7 _ (by simp [Bool.toNat] at hm ⊢; omega) hc h2
    · refine wpOp_step hi5 fun K hK => ?_
      rw [if_pos (hw _).2.2.2.2.1]
      unfold Oper.wp
      rw [he5, Oper.upon_value, hd.2.2.2.2.1]
      have h2 := h.new
      refine hK _ _ ⟨⟨h2.k (gu, u) (by simp), fun _ => trivial⟩, ?_⟩
      simp only [List.setIfInBounds_toArray, List.set_cons_zero, List.set_cons_succ]
      have e : (frA b0 b1 b3 b4 false b6 b7 g4 g5 g6 g7 a).put (some 8) (ptV W.heap.size) = frA b0 b1 b3 b4 true b6 b7 g4 W.heap.size g6 g7 a := by
        unfold frA; rw [putIf_put _ _ _ _ _ _ (by decide), putIf_put _ _ _ _ _ _ (by decide), putIf_put _ _ _ _ _ _ (by decide), putIf_put _ _ _ _ _ _ (by decide)]; rfl
      rw [e]
      exact ih b0 b1 b3 b4 true b6 b7 g4 _ g6 g7 _ (by simp [Bool.toNat] at hm ⊢; omega) hc (h2.perm List.perm_middle.symm)
    · refine wpOp_step hi6 fun K hK => ?_
      rw [if_pos (hw _).2.2.2.2.2.1]
      unfold Oper.wp
      rw [he6, Oper.upon_value, hd.2.2.2.2.2.1]
      have h2 := h.new
      refine hK _ _ ⟨⟨h2.k (gu, u) (by simp), fun _ => trivial⟩, ?_⟩
      simp only [List.setIfInBounds_toArray, List.set_cons_zero, List.set_cons_succ]
      have e : (frA b0 b1 b3 b4 b5 false b7 g4 g5 g6 g7 a).put (some 9) (ptV W.heap.size) = frA b0 b1 b3 b4 b5 true b7 g4 g5 W.heap.size g7 a := by
        unfold frA; rw [putIf_put _ _ _ _ _ _ (by decide), putIf_put _ _ _ _ _ _ (by decide), putIf_put _ _ _ _ _ _ (by decide), putIf_put _ _ _ _ _ _ (by decide), putIf_put _ _ _ _ _ _ (by decide)]; rfl
      rw [e]
      exact ih b0 b1 b3 b4 b5 true b7 g4 g5 _ g7 _ (by simp [Bool.toNat] at hm ⊢; omega) hc (h2.perm (List.perm_middle.symm.trans (List.Perm.append_left _ List.perm_middle.symm)))
    · refine wpOp_step hi7 fun K hK => ?_
      rw [if_pos (hw _).2.2.2.2.2.2]
      unfold Oper.wp
      rw [he7, Oper.upon_value, hd.2.2.2.2.2.2]
      have h2 := h.new
      refine hK _ _ ⟨⟨h2.k (gu, u) (by simp), fun _ => trivial⟩, ?_⟩
      simp only [List.setIfInBounds_toArray, List.set_cons_zero, List.set_cons_succ]
      have e : (frA b0 b1 b3 b4 b5 b6 false g4 g5 g6 g7 a).put (some 10) (ptV W.heap.size) = frA b0 b1 b3 b4 b5 b6 true g4 g5 g6 W.heap.size a := by
        unfold frA; rw [putIf_put _ _ _ _ _ _ (by decide), putIf_put _ _ _ _ _ _ (by decide), putIf_put _ _ _ _ _ _ (by decide), putIf_put _ _ _ _ _ _ (by decide), putIf_put _ _ _ _ _ _ (by decide), putIf_put _ _ _ _ _ _ (by decide)]; rfl
      rw [e]
      exact ih b0 b1 b3 b4 b5 b6 true g4 g5 g6 _ _ (by simp [Bool.toNat] at hm ⊢; omega) hc (h2.perm (List.perm_middle.symm.trans (List.Perm.append_left _ (List.perm_middle.symm.trans (List.Perm.append_left _ List.perm_middle.symm)))))
theorem phase3_start (w : World) (gu u : Nat) (a : Act) (hi0 : ops[0]? = some o0) (hi1 : ops[1]? = some o1) (hi3 : ops[3]? = some o3) (hi4 : ops[4]? = some o4) (hi5 : ops[5]? = some o5) (hi6 : ops[6]? = some o6) (hi7 : ops[7]? = some o7)
    (hd : (o0.dst = some 24 ∧ o1.dst = some 25 ∧ o3.dst = some 27 ∧ o4.dst = some 7 ∧ o5.dst = some 8 ∧ o6.dst = some 9 ∧ o7.dst = some 10))
    (hw : ∀ y, Region.wanted o0 y = true ∧ Region.wanted o1 y = true ∧ Region.wanted o3 y = true ∧ Region.wanted o4 y = true ∧ Region.wanted o5 y = true ∧ Region.wanted o6 y = true ∧ Region.wanted o7 y = true)
    (he0 : ∀ (a : Act) W, (execOp a.eval o0).run Tryd.prog W = .ok (.enter 31 #[.int .i64 1]) W) (he1 : ∀ (a : Act) W, (execOp a.eval o1).run Tryd.prog W = .ok (.enter 31 #[.int .i64 0]) W) (he3 : ∀ (a : Act) W, (execOp a.eval o3).run Tryd.prog W = .ok (.enter 31 #[.int .i64 1]) W)
    (he4 : ∀ (a : Act) W, (execOp a.eval o4).run Tryd.prog W = .ok (.value (ptV W.heap.size)) (W.alloc Z16o)) (he5 : ∀ (a : Act) W, (execOp a.eval o5).run Tryd.prog W = .ok (.value (ptV W.heap.size)) (W.alloc Z16o))
    (he6 : ∀ (a : Act) W, (execOp a.eval o6).run Tryd.prog W = .ok (.value (ptV W.heap.size)) (W.alloc Z16o)) (he7 : ∀ (a : Act) W, (execOp a.eval o7).run Tryd.prog W = .ok (.value (ptV W.heap.size)) (W.alloc Z16o))
    (hrd : rdB ops = true)
    (hend : ∀ g4 g5 g6 g7 W, Sr w [(g4, 0), (g5, 0), (g6, 0), (g7, 0), (gu, u)] W → anyC Tryd.prog .any ops Q (fun W => Iar W gu 48 (dN u)) (fun _ => True) [] 4 #[true, true, true, true, true, true, true, true, false, false, false, false] (frA true true true true true true true g4 g5 g6 g7 a) W) (W : World) (h : Sr w [(gu, u)] W) :
    anyC Tryd.prog .any ops Q (fun W => Iar W gu 48 (dN u)) (fun _ => True) [] 11 #[false, false, true, false, false, false, false, false, false, false, false, false] a W :=
  phase3 w gu u a hi0 hi1 hi3 hi4 hi5 hi6 hi7 hd hw he0 he1 he3 he4 he5 he6 he7 hrd hend 7 false false false false false false false 0 0 0 0 W rfl ⟨rfl, rfl⟩ h
end
end Go.Proofs.YtbadiljligcenaaDoor
