/- Contract of step. -/
import Derived.Test.YtbadiljligcenaaDoorFO
import Derived.Laws.Tables
namespace Go.Proofs.YtbadiljligcenaaDoor
open Go.RowKit Go.ChangeShapes
section
variable {P : Program} {ops : Array Oper} {Q : Exit → Act → World → Prop} {md : Region.Mode} {S T U : World → Prop} {B : List Nat}
/-- One of two operations may come up. -/
theorem anyC_keep2 {i j : Nat} {o1 o2 : Oper} {n : Nat} {l : Array Bool} {a : Act} {w : World} (hr : Region.ready md ops l = [i, j]) (ho1 : ops[i]? = some o1) (ho2 : ops[j]? = some o2)
    (h1 : ∀ K : Act → World → Prop, Shut (∀ b v, (S v ∧ (noneB B (l.setIfInBounds i true) = true → U v)) → anyC P md ops Q S U B n (l.setIfInBounds i true) b v → K b v) → if Region.wanted o1 (yielded ops a.tmps) = true then Oper.wp P o1 a w K Q else K (a.put o1.dst undef) w)
    (h2 : ∀ K : Act → World → Prop, Shut (∀ b v, (S v ∧ (noneB B (l.setIfInBounds j true) = true → U v)) → anyC P md ops Q S U B n (l.setIfInBounds j true) b v → K b v) → if Region.wanted o2 (yielded ops a.tmps) = true then Oper.wp P o2 a w K Q else K (a.put o2.dst undef) w) :
    anyC P md ops Q S U B (n + 1) l a w := by
  refine ⟨fun h0 => (by rw [hr] at h0; cases h0), fun x hx => ?_⟩
  rw [hr] at hx
  rcases List.mem_cons.1 hx with rfl | hx
  · exact wpOp_step ho1 fun K hK => h1 K fun b v hS hA => hK b v ⟨hS, hA⟩
  · obtain rfl := List.mem_singleton.1 hx
    exact wpOp_step ho2 fun K hK => h2 K fun b v hS hA => hK b v ⟨hS, hA⟩
/-- One of three. -/
theorem anyC_keep3 {i j k : Nat} {o1 o2 o3 : Oper} {n : Nat} {l : Array Bool} {a : Act} {w : World} (hr : Region.ready md ops l = [i, j, k]) (ho1 : ops[i]? = some o1) (ho2 : ops[j]? = some o2) (ho3 : ops[k]? = some o3)
    (h1 : ∀ K : Act → World → Prop, Shut (∀ b v, (S v ∧ (noneB B (l.setIfInBounds i true) = true → U v)) → anyC P md ops Q S U B n (l.setIfInBounds i true) b v → K b v) → if Region.wanted o1 (yielded ops a.tmps) = true then Oper.wp P o1 a w K Q else K (a.put o1.dst undef) w)
    (h2 : ∀ K : Act → World → Prop, Shut (∀ b v, (S v ∧ (noneB B (l.setIfInBounds j true) = true → U v)) → anyC P md ops Q S U B n (l.setIfInBounds j true) b v → K b v) → if Region.wanted o2 (yielded ops a.tmps) = true then Oper.wp P o2 a w K Q else K (a.put o2.dst undef) w)
    (h3 : ∀ K : Act → World → Prop, Shut (∀ b v, (S v ∧ (noneB B (l.setIfInBounds k true) = true → U v)) → anyC P md ops Q S U B n (l.setIfInBounds k true) b v → K b v) → if Region.wanted o3 (yielded ops a.tmps) = true then Oper.wp P o3 a w K Q else K (a.put o3.dst undef) w) :
    anyC P md ops Q S U B (n + 1) l a w := by
  refine ⟨fun h0 => (by rw [hr] at h0; cases h0), fun x hx => ?_⟩
  rw [hr] at hx
  rcases List.mem_cons.1 hx with rfl | hx
  · exact wpOp_step ho1 fun K hK => h1 K fun b v hS hA => hK b v ⟨hS, hA⟩
  · rcases List.mem_cons.1 hx with rfl | hx
    · exact wpOp_step ho2 fun K hK => h2 K fun b v hS hA => hK b v ⟨hS, hA⟩
    · obtain rfl := List.mem_singleton.1 hx
      exact wpOp_step ho3 fun K hK => h3 K fun b v hS hA => hK b v ⟨hS, hA⟩
end
/-- The state: five numbers in a row. -/
def ST (a b c d u : Nat) : List Nat := lm a ++ (lm b ++ (lm c ++ (lm d ++ lm u)))
theorem st_a {w : World} {g a b c d u : Nat} (h : Lar w g 72 (ST a b c d u)) : w.rangeAt g 0 ((lm a).map ld) := rangeL [] (lm a) _ h
theorem st_b {w : World} {g a b c d u : Nat} (h : Lar w g 72 (ST a b c d u)) : w.rangeAt g 5 ((lm b).map ld) := by
  have := rangeL (lm a) (lm b) _ h
  rwa [lm_length] at this
theorem st_c {w : World} {g a b c d u : Nat} (h : Lar w g 72 (ST a b c d u)) : w.rangeAt g 10 ((lm c).map ld) := by
  have := rangeL (lm a ++ lm b) (lm c) (lm d ++ lm u) (by rw [List.append_assoc]; exact h)
  rwa [List.length_append, lm_length, lm_length] at this
theorem st_d {w : World} {g a b c d u : Nat} (h : Lar w g 72 (ST a b c d u)) : w.rangeAt g 15 ((lm d).map ld) := by
  have := rangeL (lm a ++ (lm b ++ lm c)) (lm d) (lm u) (by simp only [List.append_assoc]; exact h)
  rwa [List.length_append, List.length_append, lm_length, lm_length, lm_length] at this
theorem st_u {w : World} {g a b c d u : Nat} (h : Lar w g 72 (ST a b c d u)) : w.rangeAt g 20 ((lm u).map ld) := by
  have := rangeL (lm a ++ (lm b ++ (lm c ++ lm d))) (lm u) [] (by simp only [List.append_assoc, List.append_nil]; exact h)
  rwa [List.length_append, List.length_append, List.length_append, lm_length, lm_length, lm_length, lm_length] at this
theorem built70_ (a b c d e a1 b1 c1 d1 e1 : Nat) : Tryd.prog.built 70 [(0, .agg (lsC [a, b, c, d, e])), (1, .agg (lsC [a1, b1, c1, d1, e1]))] = some (lsC ([a, b, c, d, e] ++ [a1, b1, c1, d1, e1])) := by kernel_rfl
theorem built70 (l m : List Nat) (hl : l.length = 5) (hm : m.length = 5) : Tryd.prog.built 70 [(0, .agg (lsC l)), (1, .agg (lsC m))] = some (lsC (l ++ m)) := by
  match l, hl, m, hm with
  | [a, b, c, d, e], _, [a1, b1, c1, d1, e1], _ => exact built70_ a b c d e a1 b1 c1 d1 e1
theorem yieldsIf_build {P : Program} {ops : Array Oper} {S : World → Prop} {op : Oper} {a : Act} (hw : Region.wanted op (yielded ops a.tmps) = true) (t : TypeId) (parts : Array (Nat × Operand)) (ho : op.op = .build t parts)
    (cells : Array Value) (h : P.built t (parts.map fun (i, x) => (i, a.eval x)).toList = some cells) : YieldsIf P ops S op (.agg cells) a :=
  .inl ⟨hw, fun w hw' => by
    have := run_build (P := P) w t (parts.map fun (i, x) => (i, a.eval x)) cells h
    unfold execOp
    simp only [ho, Sem.run_bind, Sem.run_pure, Result.andThen_ok, this]⟩
theorem st_set_ab {w : World} {g a b c d u : Nat} (h : Lar w g 72 (ST a b c d u)) (a' b' : Nat) : Lar (w.setCells g 0 (lsC (lm a' ++ lm b')).toList) g 72 (ST a' b' c d u) := by
  have := Lar.sets (lm a' ++ lm b') w g 72 [] (lm a ++ lm b) (lm c ++ (lm d ++ lm u)) (by simp [lm_length]) (by rw [List.nil_append, List.append_assoc]; exact h)
  rw [List.nil_append, List.append_assoc] at this
  exact this
theorem st_set_cd {w : World} {g a b c d u : Nat} (h : Lar w g 72 (ST a b c d u)) (c' d' : Nat) : Lar (w.setCells g 10 (lsC (lm c' ++ lm d')).toList) g 72 (ST a b c' d' u) := by
  have := Lar.sets (lm c' ++ lm d') w g 72 (lm a ++ lm b) (lm c ++ lm d) (lm u) (by simp [lm_length]) (by rw [List.append_assoc, List.append_assoc]; exact h)
  rw [List.append_assoc, List.append_assoc, List.length_append, lm_length, lm_length] at this
  exact this
theorem st_there {w : World} {g a b c d u : Nat} (h : Lar w g 72 (ST a b c d u)) (o : Nat) (ho : o ≤ 15) : w.there g o 10 := fun j hj =>
  ⟨by rw [h.getD (by simp only [ST, List.length_append, lm_length]; omega)]; rfl, h.free _⟩
theorem Lar.sets_other {g k : Nat} {t : TypeId} {l : List Nat} (hk : k ≠ g) : ∀ (vs : List Value) (o : Nat) (w : World), Lar w k t l → Lar (w.setCells g o vs) k t l
  | [], _, _, h => h
  | v :: vs, o, w, h => Lar.sets_other hk vs (o + 1) _ (h.other (a := ⟨g, o, none⟩) hk v)
theorem Sk.sets {g : Nat} {w W : World} {ps : List (Nat × TypeId × List Nat)} (h : Sk g w ps W) (hd : ∀ x ∈ ps, x.1 ≠ g) (o : Nat) (vs : List Value) : Sk g w ps (W.setCells g o vs) :=
  ⟨only_sets g vs o w W h.o, fun x hx => Lar.sets_other (hd x hx) vs o W (h.k x hx), h.z⟩
set_option maxRecDepth 100000 in
set_option maxHeartbeats 16000000 in
theorem step_any (g a b c d u : Nat) (w : World) (hg : g < w.heap.size) (ha : a < pC) (hb : b < pC) (hc : c < pC) (hd : d < pC) (hu : u < pC) (h : Lar w g 72 (ST a b c d u)) :
    Calls Tryd.prog 46 #[.pointer (some ⟨g, 0, none⟩)] w fun e w' => (∃ v, e = .returned v) ∧ Lar w' g 72 (ST (stepN u ⟨a, b, c, d⟩).a (stepN u ⟨a, b, c, d⟩).b (stepN u ⟨a, b, c, d⟩).c (stepN u ⟨a, b, c, d⟩).d u) ∧ Only g w w' := by
  have HN : Hid (Sk g w [(g, 72, ST a b c d u)] w) := Lib.hid ⟨Only.refl g w, fun x hx => by obtain rfl := List.mem_singleton.1 hx; exact h, fun x hx => by obtain rfl := List.mem_singleton.1 hx; exact .inl rfl⟩
  have HP := Lib.hid (And.intro ha (And.intro hb (And.intro hc (And.intro hd hu))))
  have HG := Lib.hid hg
  clear h ha hb hc hd hu hg
  go_enter Tryd.func46, Tryd.ntmps46
  go_upto_region 0 with fail
  go_cut [2, 3] (fun a2 a3 wx => ∃ G2 G3 L2 L3, a2 = .pointer (some ⟨G2, 0, none⟩) ∧ a3 = .pointer (some ⟨G3, 0, none⟩) ∧ Hid (Lb L2 (a + b)) ∧ Hid (Lb L3 (sbN a b)) ∧ Hid (Sk g w [(G3, 44, L3), (G2, 44, L2), (g, 72, ST a b c d u)] wx))
  case first =>
    go_wp2_with fail
    refine region_anyC (fun w' => Sk g w [(g, 72, ST a b c d u)] w') (fun _ => True) [] (by kernel_rfl) ?_
    have HN := Lib.hid HN.out.drew
    generalize World.drew w = W0 at HN ⊢
    refine anyC_takeS (i := 0) (oi := ⟨some 11, _, _, _, _, _⟩) (v := _) rfl (by kernel_rfl) (by kernel_rfl) (by kernel_rfl) (by kernel_rfl) (fun _ _ _ h => h) (Or.inl ⟨by rfl, fun w' hw' => (by clear hw'; go_simp; try with_reducible rfl)⟩) (HN.out) (fun _ => trivial) ?_
    try simp only [Act.put, List.setIfInBounds_toArray, List.set_cons_zero, List.set_cons_succ]
    refine anyC_takeS (i := 1) (oi := ⟨some 12, _, _, _, _, _⟩) (v := _) rfl (by kernel_rfl) (by kernel_rfl) (by kernel_rfl) (by kernel_rfl) (fun _ _ _ h => h) (Or.inl ⟨by rfl, fun w' hw' => (by clear hw'; go_simp; try with_reducible rfl)⟩) (HN.out) (fun _ => trivial) ?_
    try simp only [Act.put, List.setIfInBounds_toArray, List.set_cons_zero, List.set_cons_succ]
    refine anyC_takeS (i := 2) (oi := ⟨some 13, _, _, _, _, _⟩) (v := _) rfl (by kernel_rfl) (by kernel_rfl) (by kernel_rfl) (by kernel_rfl) (fun _ _ _ h => h) (Or.inl ⟨by rfl, fun w' hw' => (by clear hw'; go_simp; try with_reducible rfl)⟩) (HN.out) (fun _ => trivial) ?_
    try simp only [Act.put, List.setIfInBounds_toArray, List.set_cons_zero, List.set_cons_succ]
    refine anyC_takeS (i := 3) (oi := ⟨some 14, _, _, _, _, _⟩) (v := _) rfl (by kernel_rfl) (by kernel_rfl) (by kernel_rfl) (by kernel_rfl) (fun _ _ _ h => h) (Or.inl ⟨by rfl, fun w' hw' => (by clear hw'; go_simp; try with_reducible rfl)⟩) (HN.out) (fun _ => trivial) ?_
    try simp only [Act.put, List.setIfInBounds_toArray, List.set_cons_zero, List.set_cons_succ]
    refine anyC_takeS (i := 4) (oi := ⟨some 15, _, _, _, _, _⟩) (v := .agg (lsC (lm a))) rfl (by kernel_rfl) (by kernel_rfl) (by kernel_rfl) (by kernel_rfl) (fun _ _ _ h => h) (yieldsIf_load_mid (by rfl) 44 _ rfl g 0 rfl ((lm a).map ld) _ (fun w' hw' => st_a (hw'.k (g, 72, ST a b c d u) (.head _))) Tryd.underlying44 rfl (by rw [size44, lmap_len])) (HN.out) (fun _ => trivial) ?_
    try simp only [Act.put, List.setIfInBounds_toArray, List.set_cons_zero, List.set_cons_succ]
    refine anyC_takeS (i := 5) (oi := ⟨some 16, _, _, _, _, _⟩) (v := _) rfl (by kernel_rfl) (by kernel_rfl) (by kernel_rfl) (by kernel_rfl) (fun _ _ _ h => h) (Or.inl ⟨by rfl, fun w' hw' => (by clear hw'; go_simp; try with_reducible rfl)⟩) (HN.out) (fun _ => trivial) ?_
    try simp only [Act.put, List.setIfInBounds_toArray, List.set_cons_zero, List.set_cons_succ]
    refine anyC_takeS (i := 6) (oi := ⟨some 17, _, _, _, _, _⟩) (v := _) rfl (by kernel_rfl) (by kernel_rfl) (by kernel_rfl) (by kernel_rfl) (fun _ _ _ h => h) (Or.inl ⟨by rfl, fun w' hw' => (by clear hw'; go_simp; try with_reducible rfl)⟩) (HN.out) (fun _ => trivial) ?_
    try simp only [Act.put, List.setIfInBounds_toArray, List.set_cons_zero, List.set_cons_succ]
    refine anyC_takeS (i := 7) (oi := ⟨some 18, _, _, _, _, _⟩) (v := _) rfl (by kernel_rfl) (by kernel_rfl) (by kernel_rfl) (by kernel_rfl) (fun _ _ _ h => h) (Or.inl ⟨by rfl, fun w' hw' => (by clear hw'; go_simp; try with_reducible rfl)⟩) (HN.out) (fun _ => trivial) ?_
    try simp only [Act.put, List.setIfInBounds_toArray, List.set_cons_zero, List.set_cons_succ]
    refine anyC_takeS (i := 8) (oi := ⟨some 19, _, _, _, _, _⟩) (v := _) rfl (by kernel_rfl) (by kernel_rfl) (by kernel_rfl) (by kernel_rfl) (fun _ _ _ h => h) (Or.inl ⟨by rfl, fun w' hw' => (by clear hw'; go_simp; try with_reducible rfl)⟩) (HN.out) (fun _ => trivial) ?_
    try simp only [Act.put, List.setIfInBounds_toArray, List.set_cons_zero, List.set_cons_succ]
    refine anyC_takeS (i := 9) (oi := ⟨some 20, _, _, _, _, _⟩) (v := .agg (lsC (lm b))) rfl (by kernel_rfl) (by kernel_rfl) (by kernel_rfl) (by kernel_rfl) (fun _ _ _ h => h) (yieldsIf_load_mid (by rfl) 44 _ rfl g 5 rfl ((lm b).map ld) _ (fun w' hw' => st_b (hw'.k (g, 72, ST a b c d u) (.head _))) Tryd.underlying44 rfl (by rw [size44, lmap_len])) (HN.out) (fun _ => trivial) ?_
    try simp only [Act.put, List.setIfInBounds_toArray, List.set_cons_zero, List.set_cons_succ]
    refine anyC_takeS (i := 11) (oi := ⟨some 22, _, _, _, _, _⟩) (v := _) rfl (by kernel_rfl) (by kernel_rfl) (by kernel_rfl) (by kernel_rfl) (fun _ _ _ h => h) (Or.inl ⟨by rfl, fun w' hw' => (by clear hw'; go_simp; try with_reducible rfl)⟩) (HN.out) (fun _ => trivial) ?_
    try simp only [Act.put, List.setIfInBounds_toArray, List.set_cons_zero, List.set_cons_succ]
    refine anyC_takeS (i := 12) (oi := ⟨some 23, _, _, _, _, _⟩) (v := _) rfl (by kernel_rfl) (by kernel_rfl) (by kernel_rfl) (by kernel_rfl) (fun _ _ _ h => h) (Or.inl ⟨by rfl, fun w' hw' => (by clear hw'; go_simp; try with_reducible rfl)⟩) (HN.out) (fun _ => trivial) ?_
    try simp only [Act.put, List.setIfInBounds_toArray, List.set_cons_zero, List.set_cons_succ]
    refine anyC_takeS (i := 13) (oi := ⟨some 24, _, _, _, _, _⟩) (v := _) rfl (by kernel_rfl) (by kernel_rfl) (by kernel_rfl) (by kernel_rfl) (fun _ _ _ h => h) (Or.inl ⟨by rfl, fun w' hw' => (by clear hw'; go_simp; try with_reducible rfl)⟩) (HN.out) (fun _ => trivial) ?_
    try simp only [Act.put, List.setIfInBounds_toArray, List.set_cons_zero, List.set_cons_succ]
    refine anyC_takeS (i := 14) (oi := ⟨some 25, _, _, _, _, _⟩) (v := _) rfl (by kernel_rfl) (by kernel_rfl) (by kernel_rfl) (by kernel_rfl) (fun _ _ _ h => h) (Or.inl ⟨by rfl, fun w' hw' => (by clear hw'; go_simp; try with_reducible rfl)⟩) (HN.out) (fun _ => trivial) ?_
    try simp only [Act.put, List.setIfInBounds_toArray, List.set_cons_zero, List.set_cons_succ]
    refine anyC_takeS (i := 15) (oi := ⟨some 26, _, _, _, _, _⟩) (v := .agg (lsC (lm a))) rfl (by kernel_rfl) (by kernel_rfl) (by kernel_rfl) (by kernel_rfl) (fun _ _ _ h => h) (yieldsIf_load_mid (by rfl) 44 _ rfl g 0 rfl ((lm a).map ld) _ (fun w' hw' => st_a (hw'.k (g, 72, ST a b c d u) (.head _))) Tryd.underlying44 rfl (by rw [size44, lmap_len])) (HN.out) (fun _ => trivial) ?_
    try simp only [Act.put, List.setIfInBounds_toArray, List.set_cons_zero, List.set_cons_succ]
    refine anyC_takeS (i := 16) (oi := ⟨some 27, _, _, _, _, _⟩) (v := _) rfl (by kernel_rfl) (by kernel_rfl) (by kernel_rfl) (by kernel_rfl) (fun _ _ _ h => h) (Or.inl ⟨by rfl, fun w' hw' => (by clear hw'; go_simp; try with_reducible rfl)⟩) (HN.out) (fun _ => trivial) ?_
    try simp only [Act.put, List.setIfInBounds_toArray, List.set_cons_zero, List.set_cons_succ]
    refine anyC_takeS (i := 17) (oi := ⟨some 28, _, _, _, _, _⟩) (v := _) rfl (by kernel_rfl) (by kernel_rfl) (by kernel_rfl) (by kernel_rfl) (fun _ _ _ h => h) (Or.inl ⟨by rfl, fun w' hw' => (by clear hw'; go_simp; try with_reducible rfl)⟩) (HN.out) (fun _ => trivial) ?_
    try simp only [Act.put, List.setIfInBounds_toArray, List.set_cons_zero, List.set_cons_succ]
    refine anyC_takeS (i := 18) (oi := ⟨some 29, _, _, _, _, _⟩) (v := _) rfl (by kernel_rfl) (by kernel_rfl) (by kernel_rfl) (by kernel_rfl) (fun _ _ _ h => h) (Or.inl ⟨by rfl, fun w' hw' => (by clear hw'; go_simp; try with_reducible rfl)⟩) (HN.out) (fun _ => trivial) ?_
    try simp only [Act.put, List.setIfInBounds_toArray, List.set_cons_zero, List.set_cons_succ]
    refine anyC_takeS (i := 19) (oi := ⟨some 30, _, _, _, _, _⟩) (v := _) rfl (by kernel_rfl) (by kernel_rfl) (by kernel_rfl) (by kernel_rfl) (fun _ _ _ h => h) (Or.inl ⟨by rfl, fun w' hw' => (by clear hw'; go_simp; try with_reducible rfl)⟩) (HN.out) (fun _ => trivial) ?_
    try simp only [Act.put, List.setIfInBounds_toArray, List.set_cons_zero, List.set_cons_succ]
    refine anyC_takeS (i := 20) (oi := ⟨some 31, _, _, _, _, _⟩) (v := .agg (lsC (lm b))) rfl (by kernel_rfl) (by kernel_rfl) (by kernel_rfl) (by kernel_rfl) (fun _ _ _ h => h) (yieldsIf_load_mid (by rfl) 44 _ rfl g 5 rfl ((lm b).map ld) _ (fun w' hw' => st_b (hw'.k (g, 72, ST a b c d u) (.head _))) Tryd.underlying44 rfl (by rw [size44, lmap_len])) (HN.out) (fun _ => trivial) ?_
    try simp only [Act.put, List.setIfInBounds_toArray, List.set_cons_zero, List.set_cons_succ]
    refine anyC_keep3 (i := 10) (o1 := ⟨some 21, _, _, _, _, _⟩) (j := 22) (o2 := ⟨some 2, _, _, _, _, _⟩) (k := 23) (o3 := ⟨some 3, _, _, _, _, _⟩) (by kernel_rfl) rfl rfl rfl (fun K hK => ?_) (fun K hK => ?_) (fun K hK => ?_)
    · rw [if_pos (by rfl)]
      go_wp2_with fail
      (with_reducible refine (plus_rel a b HP.out.1 HP.out.2.1 _).mono ?_)
      rintro e V0 ⟨L2, rfl, hL, hb⟩
      have HL2 := Lib.hid hL
      clear hL
      have HN := Lib.hid (HN.out.below hb)
      refine hK.out _ _ ⟨HN.out, fun _ => trivial⟩ ?_
      clear hK K hb
      try simp only [Act.put, List.setIfInBounds_toArray, List.set_cons_zero, List.set_cons_succ]
      refine anyC_keep3 (i := 21) (o1 := ⟨some 32, _, _, _, _, _⟩) (j := 22) (o2 := ⟨some 2, _, _, _, _, _⟩) (k := 23) (o3 := ⟨some 3, _, _, _, _, _⟩) (by kernel_rfl) rfl rfl rfl (fun K hK => ?_) (fun K hK => ?_) (fun K hK => ?_)
      · rw [if_pos (by rfl)]
        go_wp2_with fail
        (with_reducible refine (minus_rel a b HP.out.1 HP.out.2.1 _).mono ?_)
        rintro e V1 ⟨L3, rfl, hL, hb⟩
        have HL3 := Lib.hid hL
        clear hL
        have HN := Lib.hid (HN.out.below hb)
        refine hK.out _ _ ⟨HN.out, fun _ => trivial⟩ ?_
        clear hK K hb
        try simp only [Act.put, List.setIfInBounds_toArray, List.set_cons_zero, List.set_cons_succ]
        refine anyC_keep2 (i := 22) (o1 := ⟨some 2, _, _, _, _, _⟩) (j := 23) (o2 := ⟨some 3, _, _, _, _, _⟩) (by kernel_rfl) rfl rfl (fun K hK => ?_) (fun K hK => ?_)
        · rw [if_pos (by rfl)]
          have hn := HN.out.new
          go_wp2_with fail
          generalize World.alloc V1 Z5o = V2 at hn ⊢
          generalize Array.size (World.heap V1) = G2 at hn ⊢
          have HZG2 := Lib.hid hn.2.2
          have HDG2 : Hid (∀ x ∈ [(g, 72, ST a b c d u)], x.1 ≠ G2) := Lib.hid (fun x hx => hn.2.1 x (hx))
          have HN := Lib.hid hn.1
          refine hK.out _ _ ⟨HN.out.sub (fun x hx => .tail _ (hx)), fun _ => trivial⟩ ?_
          clear hK K hn
          try simp only [Act.put, List.setIfInBounds_toArray, List.set_cons_zero, List.set_cons_succ]
          refine anyC_keep (i := 23) (o := ⟨some 3, _, _, _, _, _⟩) (by kernel_rfl) rfl (fun K hK => ?_)
          rw [if_pos (by rfl)]
          have hn := HN.out.new
          go_wp2_with fail
          generalize World.alloc V2 Z5o = V3 at hn ⊢
          generalize Array.size (World.heap V2) = G3 at hn ⊢
          have HZG3 := Lib.hid hn.2.2
          have HDG3 : Hid (∀ x ∈ [(g, 72, ST a b c d u)], x.1 ≠ G3) := Lib.hid (fun x hx => hn.2.1 x (.tail _ (hx)))
          have HNE : Hid (G2 ≠ G3) := Lib.hid (hn.2.1 _ (.head _))
          have HN := Lib.hid hn.1
          refine hK.out _ _ ⟨HN.out.sub (fun x hx => .tail _ (.tail _ (hx))), fun _ => trivial⟩ ?_
          clear hK K hn
          try simp only [Act.put, List.setIfInBounds_toArray, List.set_cons_zero, List.set_cons_succ]
          refine anyC_keep (i := 24) (o := ⟨none, _, _, _, _, _⟩) (by kernel_rfl) rfl (fun K hK => ?_)
          rw [if_pos (by rfl)]
          have HN := Lib.hid HN.out.swap
          refine wp_store_row 44 _ _ rfl G2 (lsC L2) rfl rfl 44 _ (HN.out.k (G2, 44, [0, 0, 0, 0, 0]) (.head _)) (by rw [size44, lsC_size, HL2.out.1]) (by rw [lsC_size, lsC_size, HL2.out.1]; rfl) (lsC_one _) ?_
          have HN := Lib.hid (HN.out.row (fun x hx => by rcases List.mem_cons.1 hx with rfl | hx; (first | exact HNE.out | exact HNE.out.symm); exact HDG2.out x hx) HZG2.out L2)
          refine hK.out _ _ ⟨HN.out.sub (fun x hx => .tail _ (.tail _ (hx))), fun _ => trivial⟩ ?_
          clear hK K
          generalize World.setRow V3 G2 (lsC L2) = V4 at HN ⊢
          try simp only [Act.put]
          refine anyC_keep (i := 25) (o := ⟨none, _, _, _, _, _⟩) (by kernel_rfl) rfl (fun K hK => ?_)
          rw [if_pos (by rfl)]
          have HN := Lib.hid HN.out.swap
          refine wp_store_row 44 _ _ rfl G3 (lsC L3) rfl rfl 44 _ (HN.out.k (G3, 44, [0, 0, 0, 0, 0]) (.head _)) (by rw [size44, lsC_size, HL3.out.1]) (by rw [lsC_size, lsC_size, HL3.out.1]; rfl) (lsC_one _) ?_
          have HN := Lib.hid (HN.out.row (fun x hx => by rcases List.mem_cons.1 hx with rfl | hx; (first | exact HNE.out | exact HNE.out.symm); exact HDG3.out x hx) HZG3.out L3)
          refine hK.out _ _ ⟨HN.out.sub (fun x hx => .tail _ (.tail _ (hx))), fun _ => trivial⟩ ?_
          clear hK K
          generalize World.setRow V4 G3 (lsC L3) = V5 at HN ⊢
          try simp only [Act.put]
          refine anyC_done (by kernel_rfl) ?_ _
          go_wp2_with fail
          go_meet
          exact ⟨G2, G3, L2, L3, rfl, rfl, HL2, HL3, HN⟩
        · rw [if_pos (by rfl)]
          have hn := HN.out.new
          go_wp2_with fail
          generalize World.alloc V1 Z5o = V2 at hn ⊢
          generalize Array.size (World.heap V1) = G3 at hn ⊢
          have HZG3 := Lib.hid hn.2.2
          have HDG3 : Hid (∀ x ∈ [(g, 72, ST a b c d u)], x.1 ≠ G3) := Lib.hid (fun x hx => hn.2.1 x (hx))
          have HN := Lib.hid hn.1
          refine hK.out _ _ ⟨HN.out.sub (fun x hx => .tail _ (hx)), fun _ => trivial⟩ ?_
          clear hK K hn
          try simp only [Act.put, List.setIfInBounds_toArray, List.set_cons_zero, List.set_cons_succ]
          refine anyC_keep (i := 22) (o := ⟨some 2, _, _, _, _, _⟩) (by kernel_rfl) rfl (fun K hK => ?_)
          rw [if_pos (by rfl)]
          have hn := HN.out.new
          go_wp2_with fail
          generalize World.alloc V2 Z5o = V3 at hn ⊢
          generalize Array.size (World.heap V2) = G2 at hn ⊢
          have HZG2 := Lib.hid hn.2.2
          have HDG2 : Hid (∀ x ∈ [(g, 72, ST a b c d u)], x.1 ≠ G2) := Lib.hid (fun x hx => hn.2.1 x (.tail _ (hx)))
          have HNE : Hid (G3 ≠ G2) := Lib.hid (hn.2.1 _ (.head _))
          have HN := Lib.hid hn.1
          refine hK.out _ _ ⟨HN.out.sub (fun x hx => .tail _ (.tail _ (hx))), fun _ => trivial⟩ ?_
          clear hK K hn
          try simp only [Act.put, List.setIfInBounds_toArray, List.set_cons_zero, List.set_cons_succ]
          refine anyC_keep (i := 24) (o := ⟨none, _, _, _, _, _⟩) (by kernel_rfl) rfl (fun K hK => ?_)
          rw [if_pos (by rfl)]
          refine wp_store_row 44 _ _ rfl G2 (lsC L2) rfl rfl 44 _ (HN.out.k (G2, 44, [0, 0, 0, 0, 0]) (.head _)) (by rw [size44, lsC_size, HL2.out.1]) (by rw [lsC_size, lsC_size, HL2.out.1]; rfl) (lsC_one _) ?_
          have HN := Lib.hid (HN.out.row (fun x hx => by rcases List.mem_cons.1 hx with rfl | hx; (first | exact HNE.out | exact HNE.out.symm); exact HDG2.out x hx) HZG2.out L2)
          refine hK.out _ _ ⟨HN.out.sub (fun x hx => .tail _ (.tail _ (hx))), fun _ => trivial⟩ ?_
          clear hK K
          generalize World.setRow V3 G2 (lsC L2) = V4 at HN ⊢
          try simp only [Act.put]
          refine anyC_keep (i := 25) (o := ⟨none, _, _, _, _, _⟩) (by kernel_rfl) rfl (fun K hK => ?_)
          rw [if_pos (by rfl)]
          have HN := Lib.hid HN.out.swap
          refine wp_store_row 44 _ _ rfl G3 (lsC L3) rfl rfl 44 _ (HN.out.k (G3, 44, [0, 0, 0, 0, 0]) (.head _)) (by rw [size44, lsC_size, HL3.out.1]) (by rw [lsC_size, lsC_size, HL3.out.1]; rfl) (lsC_one _) ?_
          have HN := Lib.hid (HN.out.row (fun x hx => by rcases List.mem_cons.1 hx with rfl | hx; (first | exact HNE.out | exact HNE.out.symm); exact HDG3.out x hx) HZG3.out L3)
          refine hK.out _ _ ⟨HN.out.sub (fun x hx => .tail _ (.tail _ (hx))), fun _ => trivial⟩ ?_
          clear hK K
          generalize World.setRow V4 G3 (lsC L3) = V5 at HN ⊢
          try simp only [Act.put]
          refine anyC_done (by kernel_rfl) ?_ _
          go_wp2_with fail
          go_meet
          exact ⟨G2, G3, L2, L3, rfl, rfl, HL2, HL3, HN⟩
      · rw [if_pos (by rfl)]
        have hn := HN.out.new
        go_wp2_with fail
        generalize World.alloc V0 Z5o = V1 at hn ⊢
        generalize Array.size (World.heap V0) = G2 at hn ⊢
        have HZG2 := Lib.hid hn.2.2
        have HDG2 : Hid (∀ x ∈ [(g, 72, ST a b c d u)], x.1 ≠ G2) := Lib.hid (fun x hx => hn.2.1 x (hx))
        have HN := Lib.hid hn.1
        refine hK.out _ _ ⟨HN.out.sub (fun x hx => .tail _ (hx)), fun _ => trivial⟩ ?_
        clear hK K hn
        try simp only [Act.put, List.setIfInBounds_toArray, List.set_cons_zero, List.set_cons_succ]
        refine anyC_keep2 (i := 21) (o1 := ⟨some 32, _, _, _, _, _⟩) (j := 23) (o2 := ⟨some 3, _, _, _, _, _⟩) (by kernel_rfl) rfl rfl (fun K hK => ?_) (fun K hK => ?_)
        · rw [if_pos (by rfl)]
          go_wp2_with fail
          (with_reducible refine (minus_rel a b HP.out.1 HP.out.2.1 _).mono ?_)
          rintro e V2 ⟨L3, rfl, hL, hb⟩
          have HL3 := Lib.hid hL
          clear hL
          have HN := Lib.hid (HN.out.below hb)
          refine hK.out _ _ ⟨HN.out.sub (fun x hx => .tail _ (hx)), fun _ => trivial⟩ ?_
          clear hK K hb
          try simp only [Act.put, List.setIfInBounds_toArray, List.set_cons_zero, List.set_cons_succ]
          refine anyC_keep (i := 23) (o := ⟨some 3, _, _, _, _, _⟩) (by kernel_rfl) rfl (fun K hK => ?_)
          rw [if_pos (by rfl)]
          have hn := HN.out.new
          go_wp2_with fail
          generalize World.alloc V2 Z5o = V3 at hn ⊢
          generalize Array.size (World.heap V2) = G3 at hn ⊢
          have HZG3 := Lib.hid hn.2.2
          have HDG3 : Hid (∀ x ∈ [(g, 72, ST a b c d u)], x.1 ≠ G3) := Lib.hid (fun x hx => hn.2.1 x (.tail _ (hx)))
          have HNE : Hid (G2 ≠ G3) := Lib.hid (hn.2.1 _ (.head _))
          have HN := Lib.hid hn.1
          refine hK.out _ _ ⟨HN.out.sub (fun x hx => .tail _ (.tail _ (hx))), fun _ => trivial⟩ ?_
          clear hK K hn
          try simp only [Act.put, List.setIfInBounds_toArray, List.set_cons_zero, List.set_cons_succ]
          refine anyC_keep (i := 24) (o := ⟨none, _, _, _, _, _⟩) (by kernel_rfl) rfl (fun K hK => ?_)
          rw [if_pos (by rfl)]
          have HN := Lib.hid HN.out.swap
          refine wp_store_row 44 _ _ rfl G2 (lsC L2) rfl rfl 44 _ (HN.out.k (G2, 44, [0, 0, 0, 0, 0]) (.head _)) (by rw [size44, lsC_size, HL2.out.1]) (by rw [lsC_size, lsC_size, HL2.out.1]; rfl) (lsC_one _) ?_
          have HN := Lib.hid (HN.out.row (fun x hx => by rcases List.mem_cons.1 hx with rfl | hx; (first | exact HNE.out | exact HNE.out.symm); exact HDG2.out x hx) HZG2.out L2)
          refine hK.out _ _ ⟨HN.out.sub (fun x hx => .tail _ (.tail _ (hx))), fun _ => trivial⟩ ?_
          clear hK K
          generalize World.setRow V3 G2 (lsC L2) = V4 at HN ⊢
          try simp only [Act.put]
          refine anyC_keep (i := 25) (o := ⟨none, _, _, _, _, _⟩) (by kernel_rfl) rfl (fun K hK => ?_)
          rw [if_pos (by rfl)]
          have HN := Lib.hid HN.out.swap
          refine wp_store_row 44 _ _ rfl G3 (lsC L3) rfl rfl 44 _ (HN.out.k (G3, 44, [0, 0, 0, 0, 0]) (.head _)) (by rw [size44, lsC_size, HL3.out.1]) (by rw [lsC_size, lsC_size, HL3.out.1]; rfl) (lsC_one _) ?_
          have HN := Lib.hid (HN.out.row (fun x hx => by rcases List.mem_cons.1 hx with rfl | hx; (first | exact HNE.out | exact HNE.out.symm); exact HDG3.out x hx) HZG3.out L3)
          refine hK.out _ _ ⟨HN.out.sub (fun x hx => .tail _ (.tail _ (hx))), fun _ => trivial⟩ ?_
          clear hK K
          generalize World.setRow V4 G3 (lsC L3) = V5 at HN ⊢
          try simp only [Act.put]
          refine anyC_done (by kernel_rfl) ?_ _
          go_wp2_with fail
          go_meet
          exact ⟨G2, G3, L2, L3, rfl, rfl, HL2, HL3, HN⟩
        · rw [if_pos (by rfl)]
          have hn := HN.out.new
          go_wp2_with fail
          generalize World.alloc V1 Z5o = V2 at hn ⊢
          generalize Array.size (World.heap V1) = G3 at hn ⊢
          have HZG3 := Lib.hid hn.2.2
          have HDG3 : Hid (∀ x ∈ [(g, 72, ST a b c d u)], x.1 ≠ G3) := Lib.hid (fun x hx => hn.2.1 x (.tail _ (hx)))
          have HNE : Hid (G2 ≠ G3) := Lib.hid (hn.2.1 _ (.head _))
          have HN := Lib.hid hn.1
          refine hK.out _ _ ⟨HN.out.sub (fun x hx => .tail _ (.tail _ (hx))), fun _ => trivial⟩ ?_
          clear hK K hn
          try simp only [Act.put, List.setIfInBounds_toArray, List.set_cons_zero, List.set_cons_succ]
          refine anyC_keep (i := 21) (o := ⟨some 32, _, _, _, _, _⟩) (by kernel_rfl) rfl (fun K hK => ?_)
          rw [if_pos (by rfl)]
          go_wp2_with fail
          (with_reducible refine (minus_rel a b HP.out.1 HP.out.2.1 _).mono ?_)
          rintro e V3 ⟨L3, rfl, hL, hb⟩
          have HL3 := Lib.hid hL
          clear hL
          have HN := Lib.hid (HN.out.below hb)
          refine hK.out _ _ ⟨HN.out.sub (fun x hx => .tail _ (.tail _ (hx))), fun _ => trivial⟩ ?_
          clear hK K hb
          try simp only [Act.put, List.setIfInBounds_toArray, List.set_cons_zero, List.set_cons_succ]
          refine anyC_keep (i := 24) (o := ⟨none, _, _, _, _, _⟩) (by kernel_rfl) rfl (fun K hK => ?_)
          rw [if_pos (by rfl)]
          have HN := Lib.hid HN.out.swap
          refine wp_store_row 44 _ _ rfl G2 (lsC L2) rfl rfl 44 _ (HN.out.k (G2, 44, [0, 0, 0, 0, 0]) (.head _)) (by rw [size44, lsC_size, HL2.out.1]) (by rw [lsC_size, lsC_size, HL2.out.1]; rfl) (lsC_one _) ?_
          have HN := Lib.hid (HN.out.row (fun x hx => by rcases List.mem_cons.1 hx with rfl | hx; (first | exact HNE.out | exact HNE.out.symm); exact HDG2.out x hx) HZG2.out L2)
          refine hK.out _ _ ⟨HN.out.sub (fun x hx => .tail _ (.tail _ (hx))), fun _ => trivial⟩ ?_
          clear hK K
          generalize World.setRow V3 G2 (lsC L2) = V4 at HN ⊢
          try simp only [Act.put]
          refine anyC_keep (i := 25) (o := ⟨none, _, _, _, _, _⟩) (by kernel_rfl) rfl (fun K hK => ?_)
          rw [if_pos (by rfl)]
          have HN := Lib.hid HN.out.swap
          refine wp_store_row 44 _ _ rfl G3 (lsC L3) rfl rfl 44 _ (HN.out.k (G3, 44, [0, 0, 0, 0, 0]) (.head _)) (by rw [size44, lsC_size, HL3.out.1]) (by rw [lsC_size, lsC_size, HL3.out.1]; rfl) (lsC_one _) ?_
          have HN := Lib.hid (HN.out.row (fun x hx => by rcases List.mem_cons.1 hx with rfl | hx; (first | exact HNE.out | exact HNE.out.symm); exact HDG3.out x hx) HZG3.out L3)
          refine hK.out _ _ ⟨HN.out.sub (fun x hx => .tail _ (.tail _ (hx))), fun _ => trivial⟩ ?_
          clear hK K
          generalize World.setRow V4 G3 (lsC L3) = V5 at HN ⊢
          try simp only [Act.put]
          refine anyC_done (by kernel_rfl) ?_ _
          go_wp2_with fail
          go_meet
          exact ⟨G2, G3, L2, L3, rfl, rfl, HL2, HL3, HN⟩
      · rw [if_pos (by rfl)]
        have hn := HN.out.new
        go_wp2_with fail
        generalize World.alloc V0 Z5o = V1 at hn ⊢
        generalize Array.size (World.heap V0) = G3 at hn ⊢
        have HZG3 := Lib.hid hn.2.2
        have HDG3 : Hid (∀ x ∈ [(g, 72, ST a b c d u)], x.1 ≠ G3) := Lib.hid (fun x hx => hn.2.1 x (hx))
        have HN := Lib.hid hn.1
        refine hK.out _ _ ⟨HN.out.sub (fun x hx => .tail _ (hx)), fun _ => trivial⟩ ?_
        clear hK K hn
        try simp only [Act.put, List.setIfInBounds_toArray, List.set_cons_zero, List.set_cons_succ]
        refine anyC_keep2 (i := 21) (o1 := ⟨some 32, _, _, _, _, _⟩) (j := 22) (o2 := ⟨some 2, _, _, _, _, _⟩) (by kernel_rfl) rfl rfl (fun K hK => ?_) (fun K hK => ?_)
        · rw [if_pos (by rfl)]
          go_wp2_with fail
          (with_reducible refine (minus_rel a b HP.out.1 HP.out.2.1 _).mono ?_)
          rintro e V2 ⟨L3, rfl, hL, hb⟩
          have HL3 := Lib.hid hL
          clear hL
          have HN := Lib.hid (HN.out.below hb)
          refine hK.out _ _ ⟨HN.out.sub (fun x hx => .tail _ (hx)), fun _ => trivial⟩ ?_
          clear hK K hb
          try simp only [Act.put, List.setIfInBounds_toArray, List.set_cons_zero, List.set_cons_succ]
          refine anyC_keep (i := 22) (o := ⟨some 2, _, _, _, _, _⟩) (by kernel_rfl) rfl (fun K hK => ?_)
          rw [if_pos (by rfl)]
          have hn := HN.out.new
          go_wp2_with fail
          generalize World.alloc V2 Z5o = V3 at hn ⊢
          generalize Array.size (World.heap V2) = G2 at hn ⊢
          have HZG2 := Lib.hid hn.2.2
          have HDG2 : Hid (∀ x ∈ [(g, 72, ST a b c d u)], x.1 ≠ G2) := Lib.hid (fun x hx => hn.2.1 x (.tail _ (hx)))
          have HNE : Hid (G3 ≠ G2) := Lib.hid (hn.2.1 _ (.head _))
          have HN := Lib.hid hn.1
          refine hK.out _ _ ⟨HN.out.sub (fun x hx => .tail _ (.tail _ (hx))), fun _ => trivial⟩ ?_
          clear hK K hn
          try simp only [Act.put, List.setIfInBounds_toArray, List.set_cons_zero, List.set_cons_succ]
          refine anyC_keep (i := 24) (o := ⟨none, _, _, _, _, _⟩) (by kernel_rfl) rfl (fun K hK => ?_)
          rw [if_pos (by rfl)]
          refine wp_store_row 44 _ _ rfl G2 (lsC L2) rfl rfl 44 _ (HN.out.k (G2, 44, [0, 0, 0, 0, 0]) (.head _)) (by rw [size44, lsC_size, HL2.out.1]) (by rw [lsC_size, lsC_size, HL2.out.1]; rfl) (lsC_one _) ?_
          have HN := Lib.hid (HN.out.row (fun x hx => by rcases List.mem_cons.1 hx with rfl | hx; (first | exact HNE.out | exact HNE.out.symm); exact HDG2.out x hx) HZG2.out L2)
          refine hK.out _ _ ⟨HN.out.sub (fun x hx => .tail _ (.tail _ (hx))), fun _ => trivial⟩ ?_
          clear hK K
          generalize World.setRow V3 G2 (lsC L2) = V4 at HN ⊢
          try simp only [Act.put]
          refine anyC_keep (i := 25) (o := ⟨none, _, _, _, _, _⟩) (by kernel_rfl) rfl (fun K hK => ?_)
          rw [if_pos (by rfl)]
          have HN := Lib.hid HN.out.swap
          refine wp_store_row 44 _ _ rfl G3 (lsC L3) rfl rfl 44 _ (HN.out.k (G3, 44, [0, 0, 0, 0, 0]) (.head _)) (by rw [size44, lsC_size, HL3.out.1]) (by rw [lsC_size, lsC_size, HL3.out.1]; rfl) (lsC_one _) ?_
          have HN := Lib.hid (HN.out.row (fun x hx => by rcases List.mem_cons.1 hx with rfl | hx; (first | exact HNE.out | exact HNE.out.symm); exact HDG3.out x hx) HZG3.out L3)
          refine hK.out _ _ ⟨HN.out.sub (fun x hx => .tail _ (.tail _ (hx))), fun _ => trivial⟩ ?_
          clear hK K
          generalize World.setRow V4 G3 (lsC L3) = V5 at HN ⊢
          try simp only [Act.put]
          refine anyC_done (by kernel_rfl) ?_ _
          go_wp2_with fail
          go_meet
          exact ⟨G2, G3, L2, L3, rfl, rfl, HL2, HL3, HN⟩
        · rw [if_pos (by rfl)]
          have hn := HN.out.new
          go_wp2_with fail
          generalize World.alloc V1 Z5o = V2 at hn ⊢
          generalize Array.size (World.heap V1) = G2 at hn ⊢
          have HZG2 := Lib.hid hn.2.2
          have HDG2 : Hid (∀ x ∈ [(g, 72, ST a b c d u)], x.1 ≠ G2) := Lib.hid (fun x hx => hn.2.1 x (.tail _ (hx)))
          have HNE : Hid (G3 ≠ G2) := Lib.hid (hn.2.1 _ (.head _))
          have HN := Lib.hid hn.1
          refine hK.out _ _ ⟨HN.out.sub (fun x hx => .tail _ (.tail _ (hx))), fun _ => trivial⟩ ?_
          clear hK K hn
          try simp only [Act.put, List.setIfInBounds_toArray, List.set_cons_zero, List.set_cons_succ]
          refine anyC_keep (i := 21) (o := ⟨some 32, _, _, _, _, _⟩) (by kernel_rfl) rfl (fun K hK => ?_)
          rw [if_pos (by rfl)]
          go_wp2_with fail
          (with_reducible refine (minus_rel a b HP.out.1 HP.out.2.1 _).mono ?_)
          rintro e V3 ⟨L3, rfl, hL, hb⟩
          have HL3 := Lib.hid hL
          clear hL
          have HN := Lib.hid (HN.out.below hb)
          refine hK.out _ _ ⟨HN.out.sub (fun x hx => .tail _ (.tail _ (hx))), fun _ => trivial⟩ ?_
          clear hK K hb
          try simp only [Act.put, List.setIfInBounds_toArray, List.set_cons_zero, List.set_cons_succ]
          refine anyC_keep (i := 24) (o := ⟨none, _, _, _, _, _⟩) (by kernel_rfl) rfl (fun K hK => ?_)
          rw [if_pos (by rfl)]
          refine wp_store_row 44 _ _ rfl G2 (lsC L2) rfl rfl 44 _ (HN.out.k (G2, 44, [0, 0, 0, 0, 0]) (.head _)) (by rw [size44, lsC_size, HL2.out.1]) (by rw [lsC_size, lsC_size, HL2.out.1]; rfl) (lsC_one _) ?_
          have HN := Lib.hid (HN.out.row (fun x hx => by rcases List.mem_cons.1 hx with rfl | hx; (first | exact HNE.out | exact HNE.out.symm); exact HDG2.out x hx) HZG2.out L2)
          refine hK.out _ _ ⟨HN.out.sub (fun x hx => .tail _ (.tail _ (hx))), fun _ => trivial⟩ ?_
          clear hK K
          generalize World.setRow V3 G2 (lsC L2) = V4 at HN ⊢
          try simp only [Act.put]
          refine anyC_keep (i := 25) (o := ⟨none, _, _, _, _, _⟩) (by kernel_rfl) rfl (fun K hK => ?_)
          rw [if_pos (by rfl)]
          have HN := Lib.hid HN.out.swap
          refine wp_store_row 44 _ _ rfl G3 (lsC L3) rfl rfl 44 _ (HN.out.k (G3, 44, [0, 0, 0, 0, 0]) (.head _)) (by rw [size44, lsC_size, HL3.out.1]) (by rw [lsC_size, lsC_size, HL3.out.1]; rfl) (lsC_one _) ?_
          have HN := Lib.hid (HN.out.row (fun x hx => by rcases List.mem_cons.1 hx with rfl | hx; (first | exact HNE.out | exact HNE.out.symm); exact HDG3.out x hx) HZG3.out L3)
          refine hK.out _ _ ⟨HN.out.sub (fun x hx => .tail _ (.tail _ (hx))), fun _ => trivial⟩ ?_
          clear hK K
          generalize World.setRow V4 G3 (lsC L3) = V5 at HN ⊢
          try simp only [Act.put]
          refine anyC_done (by kernel_rfl) ?_ _
          go_wp2_with fail
          go_meet
          exact ⟨G2, G3, L2, L3, rfl, rfl, HL2, HL3, HN⟩
    · rw [if_pos (by rfl)]
      have hn := HN.out.new
      go_wp2_with fail
      generalize World.alloc W0 Z5o = V0 at hn ⊢
      generalize Array.size (World.heap W0) = G2 at hn ⊢
      have HZG2 := Lib.hid hn.2.2
      have HDG2 : Hid (∀ x ∈ [(g, 72, ST a b c d u)], x.1 ≠ G2) := Lib.hid (fun x hx => hn.2.1 x (hx))
      have HN := Lib.hid hn.1
      refine hK.out _ _ ⟨HN.out.sub (fun x hx => .tail _ (hx)), fun _ => trivial⟩ ?_
      clear hK K hn
      try simp only [Act.put, List.setIfInBounds_toArray, List.set_cons_zero, List.set_cons_succ]
      refine anyC_keep2 (i := 10) (o1 := ⟨some 21, _, _, _, _, _⟩) (j := 23) (o2 := ⟨some 3, _, _, _, _, _⟩) (by kernel_rfl) rfl rfl (fun K hK => ?_) (fun K hK => ?_)
      · rw [if_pos (by rfl)]
        go_wp2_with fail
        (with_reducible refine (plus_rel a b HP.out.1 HP.out.2.1 _).mono ?_)
        rintro e V1 ⟨L2, rfl, hL, hb⟩
        have HL2 := Lib.hid hL
        clear hL
        have HN := Lib.hid (HN.out.below hb)
        refine hK.out _ _ ⟨HN.out.sub (fun x hx => .tail _ (hx)), fun _ => trivial⟩ ?_
        clear hK K hb
        try simp only [Act.put, List.setIfInBounds_toArray, List.set_cons_zero, List.set_cons_succ]
        refine anyC_keep2 (i := 21) (o1 := ⟨some 32, _, _, _, _, _⟩) (j := 23) (o2 := ⟨some 3, _, _, _, _, _⟩) (by kernel_rfl) rfl rfl (fun K hK => ?_) (fun K hK => ?_)
        · rw [if_pos (by rfl)]
          go_wp2_with fail
          (with_reducible refine (minus_rel a b HP.out.1 HP.out.2.1 _).mono ?_)
          rintro e V2 ⟨L3, rfl, hL, hb⟩
          have HL3 := Lib.hid hL
          clear hL
          have HN := Lib.hid (HN.out.below hb)
          refine hK.out _ _ ⟨HN.out.sub (fun x hx => .tail _ (hx)), fun _ => trivial⟩ ?_
          clear hK K hb
          try simp only [Act.put, List.setIfInBounds_toArray, List.set_cons_zero, List.set_cons_succ]
          refine anyC_keep (i := 23) (o := ⟨some 3, _, _, _, _, _⟩) (by kernel_rfl) rfl (fun K hK => ?_)
          rw [if_pos (by rfl)]
          have hn := HN.out.new
          go_wp2_with fail
          generalize World.alloc V2 Z5o = V3 at hn ⊢
          generalize Array.size (World.heap V2) = G3 at hn ⊢
          have HZG3 := Lib.hid hn.2.2
          have HDG3 : Hid (∀ x ∈ [(g, 72, ST a b c d u)], x.1 ≠ G3) := Lib.hid (fun x hx => hn.2.1 x (.tail _ (hx)))
          have HNE : Hid (G2 ≠ G3) := Lib.hid (hn.2.1 _ (.head _))
          have HN := Lib.hid hn.1
          refine hK.out _ _ ⟨HN.out.sub (fun x hx => .tail _ (.tail _ (hx))), fun _ => trivial⟩ ?_
          clear hK K hn
          try simp only [Act.put, List.setIfInBounds_toArray, List.set_cons_zero, List.set_cons_succ]
          refine anyC_keep (i := 24) (o := ⟨none, _, _, _, _, _⟩) (by kernel_rfl) rfl (fun K hK => ?_)
          rw [if_pos (by rfl)]
          have HN := Lib.hid HN.out.swap
          refine wp_store_row 44 _ _ rfl G2 (lsC L2) rfl rfl 44 _ (HN.out.k (G2, 44, [0, 0, 0, 0, 0]) (.head _)) (by rw [size44, lsC_size, HL2.out.1]) (by rw [lsC_size, lsC_size, HL2.out.1]; rfl) (lsC_one _) ?_
          have HN := Lib.hid (HN.out.row (fun x hx => by rcases List.mem_cons.1 hx with rfl | hx; (first | exact HNE.out | exact HNE.out.symm); exact HDG2.out x hx) HZG2.out L2)
          refine hK.out _ _ ⟨HN.out.sub (fun x hx => .tail _ (.tail _ (hx))), fun _ => trivial⟩ ?_
          clear hK K
          generalize World.setRow V3 G2 (lsC L2) = V4 at HN ⊢
          try simp only [Act.put]
          refine anyC_keep (i := 25) (o := ⟨none, _, _, _, _, _⟩) (by kernel_rfl) rfl (fun K hK => ?_)
          rw [if_pos (by rfl)]
          have HN := Lib.hid HN.out.swap
          refine wp_store_row 44 _ _ rfl G3 (lsC L3) rfl rfl 44 _ (HN.out.k (G3, 44, [0, 0, 0, 0, 0]) (.head _)) (by rw [size44, lsC_size, HL3.out.1]) (by rw [lsC_size, lsC_size, HL3.out.1]; rfl) (lsC_one _) ?_
          have HN := Lib.hid (HN.out.row (fun x hx => by rcases List.mem_cons.1 hx with rfl | hx; (first | exact HNE.out | exact HNE.out.symm); exact HDG3.out x hx) HZG3.out L3)
          refine hK.out _ _ ⟨HN.out.sub (fun x hx => .tail _ (.tail _ (hx))), fun _ => trivial⟩ ?_
          clear hK K
          generalize World.setRow V4 G3 (lsC L3) = V5 at HN ⊢
          try simp only [Act.put]
          refine anyC_done (by kernel_rfl) ?_ _
          go_wp2_with fail
          go_meet
          exact ⟨G2, G3, L2, L3, rfl, rfl, HL2, HL3, HN⟩
        · rw [if_pos (by rfl)]
          have hn := HN.out.new
          go_wp2_with fail
          generalize World.alloc V1 Z5o = V2 at hn ⊢
          generalize Array.size (World.heap V1) = G3 at hn ⊢
          have HZG3 := Lib.hid hn.2.2
          have HDG3 : Hid (∀ x ∈ [(g, 72, ST a b c d u)], x.1 ≠ G3) := Lib.hid (fun x hx => hn.2.1 x (.tail _ (hx)))
          have HNE : Hid (G2 ≠ G3) := Lib.hid (hn.2.1 _ (.head _))
          have HN := Lib.hid hn.1
          refine hK.out _ _ ⟨HN.out.sub (fun x hx => .tail _ (.tail _ (hx))), fun _ => trivial⟩ ?_
          clear hK K hn
          try simp only [Act.put, List.setIfInBounds_toArray, List.set_cons_zero, List.set_cons_succ]
          refine anyC_keep (i := 21) (o := ⟨some 32, _, _, _, _, _⟩) (by kernel_rfl) rfl (fun K hK => ?_)
          rw [if_pos (by rfl)]
          go_wp2_with fail
          (with_reducible refine (minus_rel a b HP.out.1 HP.out.2.1 _).mono ?_)
          rintro e V3 ⟨L3, rfl, hL, hb⟩
          have HL3 := Lib.hid hL
          clear hL
          have HN := Lib.hid (HN.out.below hb)
          refine hK.out _ _ ⟨HN.out.sub (fun x hx => .tail _ (.tail _ (hx))), fun _ => trivial⟩ ?_
          clear hK K hb
          try simp only [Act.put, List.setIfInBounds_toArray, List.set_cons_zero, List.set_cons_succ]
          refine anyC_keep (i := 24) (o := ⟨none, _, _, _, _, _⟩) (by kernel_rfl) rfl (fun K hK => ?_)
          rw [if_pos (by rfl)]
          have HN := Lib.hid HN.out.swap
          refine wp_store_row 44 _ _ rfl G2 (lsC L2) rfl rfl 44 _ (HN.out.k (G2, 44, [0, 0, 0, 0, 0]) (.head _)) (by rw [size44, lsC_size, HL2.out.1]) (by rw [lsC_size, lsC_size, HL2.out.1]; rfl) (lsC_one _) ?_
          have HN := Lib.hid (HN.out.row (fun x hx => by rcases List.mem_cons.1 hx with rfl | hx; (first | exact HNE.out | exact HNE.out.symm); exact HDG2.out x hx) HZG2.out L2)
          refine hK.out _ _ ⟨HN.out.sub (fun x hx => .tail _ (.tail _ (hx))), fun _ => trivial⟩ ?_
          clear hK K
          generalize World.setRow V3 G2 (lsC L2) = V4 at HN ⊢
          try simp only [Act.put]
          refine anyC_keep (i := 25) (o := ⟨none, _, _, _, _, _⟩) (by kernel_rfl) rfl (fun K hK => ?_)
          rw [if_pos (by rfl)]
          have HN := Lib.hid HN.out.swap
          refine wp_store_row 44 _ _ rfl G3 (lsC L3) rfl rfl 44 _ (HN.out.k (G3, 44, [0, 0, 0, 0, 0]) (.head _)) (by rw [size44, lsC_size, HL3.out.1]) (by rw [lsC_size, lsC_size, HL3.out.1]; rfl) (lsC_one _) ?_
          have HN := Lib.hid (HN.out.row (fun x hx => by rcases List.mem_cons.1 hx with rfl | hx; (first | exact HNE.out | exact HNE.out.symm); exact HDG3.out x hx) HZG3.out L3)
          refine hK.out _ _ ⟨HN.out.sub (fun x hx => .tail _ (.tail _ (hx))), fun _ => trivial⟩ ?_
          clear hK K
          generalize World.setRow V4 G3 (lsC L3) = V5 at HN ⊢
          try simp only [Act.put]
          refine anyC_done (by kernel_rfl) ?_ _
          go_wp2_with fail
          go_meet
          exact ⟨G2, G3, L2, L3, rfl, rfl, HL2, HL3, HN⟩
      · rw [if_pos (by rfl)]
        have hn := HN.out.new
        go_wp2_with fail
        generalize World.alloc V0 Z5o = V1 at hn ⊢
        generalize Array.size (World.heap V0) = G3 at hn ⊢
        have HZG3 := Lib.hid hn.2.2
        have HDG3 : Hid (∀ x ∈ [(g, 72, ST a b c d u)], x.1 ≠ G3) := Lib.hid (fun x hx => hn.2.1 x (.tail _ (hx)))
        have HNE : Hid (G2 ≠ G3) := Lib.hid (hn.2.1 _ (.head _))
        have HN := Lib.hid hn.1
        refine hK.out _ _ ⟨HN.out.sub (fun x hx => .tail _ (.tail _ (hx))), fun _ => trivial⟩ ?_
        clear hK K hn
        try simp only [Act.put, List.setIfInBounds_toArray, List.set_cons_zero, List.set_cons_succ]
        refine anyC_keep (i := 10) (o := ⟨some 21, _, _, _, _, _⟩) (by kernel_rfl) rfl (fun K hK => ?_)
        rw [if_pos (by rfl)]
        go_wp2_with fail
        (with_reducible refine (plus_rel a b HP.out.1 HP.out.2.1 _).mono ?_)
        rintro e V2 ⟨L2, rfl, hL, hb⟩
        have HL2 := Lib.hid hL
        clear hL
        have HN := Lib.hid (HN.out.below hb)
        refine hK.out _ _ ⟨HN.out.sub (fun x hx => .tail _ (.tail _ (hx))), fun _ => trivial⟩ ?_
        clear hK K hb
        try simp only [Act.put, List.setIfInBounds_toArray, List.set_cons_zero, List.set_cons_succ]
        refine anyC_keep (i := 21) (o := ⟨some 32, _, _, _, _, _⟩) (by kernel_rfl) rfl (fun K hK => ?_)
        rw [if_pos (by rfl)]
        go_wp2_with fail
        (with_reducible refine (minus_rel a b HP.out.1 HP.out.2.1 _).mono ?_)
        rintro e V3 ⟨L3, rfl, hL, hb⟩
        have HL3 := Lib.hid hL
        clear hL
        have HN := Lib.hid (HN.out.below hb)
        refine hK.out _ _ ⟨HN.out.sub (fun x hx => .tail _ (.tail _ (hx))), fun _ => trivial⟩ ?_
        clear hK K hb
        try simp only [Act.put, List.setIfInBounds_toArray, List.set_cons_zero, List.set_cons_succ]
        refine anyC_keep (i := 24) (o := ⟨none, _, _, _, _, _⟩) (by kernel_rfl) rfl (fun K hK => ?_)
        rw [if_pos (by rfl)]
        have HN := Lib.hid HN.out.swap
        refine wp_store_row 44 _ _ rfl G2 (lsC L2) rfl rfl 44 _ (HN.out.k (G2, 44, [0, 0, 0, 0, 0]) (.head _)) (by rw [size44, lsC_size, HL2.out.1]) (by rw [lsC_size, lsC_size, HL2.out.1]; rfl) (lsC_one _) ?_
        have HN := Lib.hid (HN.out.row (fun x hx => by rcases List.mem_cons.1 hx with rfl | hx; (first | exact HNE.out | exact HNE.out.symm); exact HDG2.out x hx) HZG2.out L2)
        refine hK.out _ _ ⟨HN.out.sub (fun x hx => .tail _ (.tail _ (hx))), fun _ => trivial⟩ ?_
        clear hK K
        generalize World.setRow V3 G2 (lsC L2) = V4 at HN ⊢
        try simp only [Act.put]
        refine anyC_keep (i := 25) (o := ⟨none, _, _, _, _, _⟩) (by kernel_rfl) rfl (fun K hK => ?_)
        rw [if_pos (by rfl)]
        have HN := Lib.hid HN.out.swap
        refine wp_store_row 44 _ _ rfl G3 (lsC L3) rfl rfl 44 _ (HN.out.k (G3, 44, [0, 0, 0, 0, 0]) (.head _)) (by rw [size44, lsC_size, HL3.out.1]) (by rw [lsC_size, lsC_size, HL3.out.1]; rfl) (lsC_one _) ?_
        have HN := Lib.hid (HN.out.row (fun x hx => by rcases List.mem_cons.1 hx with rfl | hx; (first | exact HNE.out | exact HNE.out.symm); exact HDG3.out x hx) HZG3.out L3)
        refine hK.out _ _ ⟨HN.out.sub (fun x hx => .tail _ (.tail _ (hx))), fun _ => trivial⟩ ?_
        clear hK K
        generalize World.setRow V4 G3 (lsC L3) = V5 at HN ⊢
        try simp only [Act.put]
        refine anyC_done (by kernel_rfl) ?_ _
        go_wp2_with fail
        go_meet
        exact ⟨G2, G3, L2, L3, rfl, rfl, HL2, HL3, HN⟩
    · rw [if_pos (by rfl)]
      have hn := HN.out.new
      go_wp2_with fail
      generalize World.alloc W0 Z5o = V0 at hn ⊢
      generalize Array.size (World.heap W0) = G3 at hn ⊢
      have HZG3 := Lib.hid hn.2.2
      have HDG3 : Hid (∀ x ∈ [(g, 72, ST a b c d u)], x.1 ≠ G3) := Lib.hid (fun x hx => hn.2.1 x (hx))
      have HN := Lib.hid hn.1
      refine hK.out _ _ ⟨HN.out.sub (fun x hx => .tail _ (hx)), fun _ => trivial⟩ ?_
      clear hK K hn
      try simp only [Act.put, List.setIfInBounds_toArray, List.set_cons_zero, List.set_cons_succ]
      refine anyC_keep2 (i := 10) (o1 := ⟨some 21, _, _, _, _, _⟩) (j := 22) (o2 := ⟨some 2, _, _, _, _, _⟩) (by kernel_rfl) rfl rfl (fun K hK => ?_) (fun K hK => ?_)
      · rw [if_pos (by rfl)]
        go_wp2_with fail
        (with_reducible refine (plus_rel a b HP.out.1 HP.out.2.1 _).mono ?_)
        rintro e V1 ⟨L2, rfl, hL, hb⟩
        have HL2 := Lib.hid hL
        clear hL
        have HN := Lib.hid (HN.out.below hb)
        refine hK.out _ _ ⟨HN.out.sub (fun x hx => .tail _ (hx)), fun _ => trivial⟩ ?_
        clear hK K hb
        try simp only [Act.put, List.setIfInBounds_toArray, List.set_cons_zero, List.set_cons_succ]
        refine anyC_keep2 (i := 21) (o1 := ⟨some 32, _, _, _, _, _⟩) (j := 22) (o2 := ⟨some 2, _, _, _, _, _⟩) (by kernel_rfl) rfl rfl (fun K hK => ?_) (fun K hK => ?_)
        · rw [if_pos (by rfl)]
          go_wp2_with fail
          (with_reducible refine (minus_rel a b HP.out.1 HP.out.2.1 _).mono ?_)
          rintro e V2 ⟨L3, rfl, hL, hb⟩
          have HL3 := Lib.hid hL
          clear hL
          have HN := Lib.hid (HN.out.below hb)
          refine hK.out _ _ ⟨HN.out.sub (fun x hx => .tail _ (hx)), fun _ => trivial⟩ ?_
          clear hK K hb
          try simp only [Act.put, List.setIfInBounds_toArray, List.set_cons_zero, List.set_cons_succ]
          refine anyC_keep (i := 22) (o := ⟨some 2, _, _, _, _, _⟩) (by kernel_rfl) rfl (fun K hK => ?_)
          rw [if_pos (by rfl)]
          have hn := HN.out.new
          go_wp2_with fail
          generalize World.alloc V2 Z5o = V3 at hn ⊢
          generalize Array.size (World.heap V2) = G2 at hn ⊢
          have HZG2 := Lib.hid hn.2.2
          have HDG2 : Hid (∀ x ∈ [(g, 72, ST a b c d u)], x.1 ≠ G2) := Lib.hid (fun x hx => hn.2.1 x (.tail _ (hx)))
          have HNE : Hid (G3 ≠ G2) := Lib.hid (hn.2.1 _ (.head _))
          have HN := Lib.hid hn.1
          refine hK.out _ _ ⟨HN.out.sub (fun x hx => .tail _ (.tail _ (hx))), fun _ => trivial⟩ ?_
          clear hK K hn
          try simp only [Act.put, List.setIfInBounds_toArray, List.set_cons_zero, List.set_cons_succ]
          refine anyC_keep (i := 24) (o := ⟨none, _, _, _, _, _⟩) (by kernel_rfl) rfl (fun K hK => ?_)
          rw [if_pos (by rfl)]
          refine wp_store_row 44 _ _ rfl G2 (lsC L2) rfl rfl 44 _ (HN.out.k (G2, 44, [0, 0, 0, 0, 0]) (.head _)) (by rw [size44, lsC_size, HL2.out.1]) (by rw [lsC_size, lsC_size, HL2.out.1]; rfl) (lsC_one _) ?_
          have HN := Lib.hid (HN.out.row (fun x hx => by rcases List.mem_cons.1 hx with rfl | hx; (first | exact HNE.out | exact HNE.out.symm); exact HDG2.out x hx) HZG2.out L2)
          refine hK.out _ _ ⟨HN.out.sub (fun x hx => .tail _ (.tail _ (hx))), fun _ => trivial⟩ ?_
          clear hK K
          generalize World.setRow V3 G2 (lsC L2) = V4 at HN ⊢
          try simp only [Act.put]
          refine anyC_keep (i := 25) (o := ⟨none, _, _, _, _, _⟩) (by kernel_rfl) rfl (fun K hK => ?_)
          rw [if_pos (by rfl)]
          have HN := Lib.hid HN.out.swap
          refine wp_store_row 44 _ _ rfl G3 (lsC L3) rfl rfl 44 _ (HN.out.k (G3, 44, [0, 0, 0, 0, 0]) (.head _)) (by rw [size44, lsC_size, HL3.out.1]) (by rw [lsC_size, lsC_size, HL3.out.1]; rfl) (lsC_one _) ?_
          have HN := Lib.hid (HN.out.row (fun x hx => by rcases List.mem_cons.1 hx with rfl | hx; (first | exact HNE.out | exact HNE.out.symm); exact HDG3.out x hx) HZG3.out L3)
          refine hK.out _ _ ⟨HN.out.sub (fun x hx => .tail _ (.tail _ (hx))), fun _ => trivial⟩ ?_
          clear hK K
          generalize World.setRow V4 G3 (lsC L3) = V5 at HN ⊢
          try simp only [Act.put]
          refine anyC_done (by kernel_rfl) ?_ _
          go_wp2_with fail
          go_meet
          exact ⟨G2, G3, L2, L3, rfl, rfl, HL2, HL3, HN⟩
        · rw [if_pos (by rfl)]
          have hn := HN.out.new
          go_wp2_with fail
          generalize World.alloc V1 Z5o = V2 at hn ⊢
          generalize Array.size (World.heap V1) = G2 at hn ⊢
          have HZG2 := Lib.hid hn.2.2
          have HDG2 : Hid (∀ x ∈ [(g, 72, ST a b c d u)], x.1 ≠ G2) := Lib.hid (fun x hx => hn.2.1 x (.tail _ (hx)))
          have HNE : Hid (G3 ≠ G2) := Lib.hid (hn.2.1 _ (.head _))
          have HN := Lib.hid hn.1
          refine hK.out _ _ ⟨HN.out.sub (fun x hx => .tail _ (.tail _ (hx))), fun _ => trivial⟩ ?_
          clear hK K hn
          try simp only [Act.put, List.setIfInBounds_toArray, List.set_cons_zero, List.set_cons_succ]
          refine anyC_keep (i := 21) (o := ⟨some 32, _, _, _, _, _⟩) (by kernel_rfl) rfl (fun K hK => ?_)
          rw [if_pos (by rfl)]
          go_wp2_with fail
          (with_reducible refine (minus_rel a b HP.out.1 HP.out.2.1 _).mono ?_)
          rintro e V3 ⟨L3, rfl, hL, hb⟩
          have HL3 := Lib.hid hL
          clear hL
          have HN := Lib.hid (HN.out.below hb)
          refine hK.out _ _ ⟨HN.out.sub (fun x hx => .tail _ (.tail _ (hx))), fun _ => trivial⟩ ?_
          clear hK K hb
          try simp only [Act.put, List.setIfInBounds_toArray, List.set_cons_zero, List.set_cons_succ]
          refine anyC_keep (i := 24) (o := ⟨none, _, _, _, _, _⟩) (by kernel_rfl) rfl (fun K hK => ?_)
          rw [if_pos (by rfl)]
          refine wp_store_row 44 _ _ rfl G2 (lsC L2) rfl rfl 44 _ (HN.out.k (G2, 44, [0, 0, 0, 0, 0]) (.head _)) (by rw [size44, lsC_size, HL2.out.1]) (by rw [lsC_size, lsC_size, HL2.out.1]; rfl) (lsC_one _) ?_
          have HN := Lib.hid (HN.out.row (fun x hx => by rcases List.mem_cons.1 hx with rfl | hx; (first | exact HNE.out | exact HNE.out.symm); exact HDG2.out x hx) HZG2.out L2)
          refine hK.out _ _ ⟨HN.out.sub (fun x hx => .tail _ (.tail _ (hx))), fun _ => trivial⟩ ?_
          clear hK K
          generalize World.setRow V3 G2 (lsC L2) = V4 at HN ⊢
          try simp only [Act.put]
          refine anyC_keep (i := 25) (o := ⟨none, _, _, _, _, _⟩) (by kernel_rfl) rfl (fun K hK => ?_)
          rw [if_pos (by rfl)]
          have HN := Lib.hid HN.out.swap
          refine wp_store_row 44 _ _ rfl G3 (lsC L3) rfl rfl 44 _ (HN.out.k (G3, 44, [0, 0, 0, 0, 0]) (.head _)) (by rw [size44, lsC_size, HL3.out.1]) (by rw [lsC_size, lsC_size, HL3.out.1]; rfl) (lsC_one _) ?_
          have HN := Lib.hid (HN.out.row (fun x hx => by rcases List.mem_cons.1 hx with rfl | hx; (first | exact HNE.out | exact HNE.out.symm); exact HDG3.out x hx) HZG3.out L3)
          refine hK.out _ _ ⟨HN.out.sub (fun x hx => .tail _ (.tail _ (hx))), fun _ => trivial⟩ ?_
          clear hK K
          generalize World.setRow V4 G3 (lsC L3) = V5 at HN ⊢
          try simp only [Act.put]
          refine anyC_done (by kernel_rfl) ?_ _
          go_wp2_with fail
          go_meet
          exact ⟨G2, G3, L2, L3, rfl, rfl, HL2, HL3, HN⟩
      · rw [if_pos (by rfl)]
        have hn := HN.out.new
        go_wp2_with fail
        generalize World.alloc V0 Z5o = V1 at hn ⊢
        generalize Array.size (World.heap V0) = G2 at hn ⊢
        have HZG2 := Lib.hid hn.2.2
        have HDG2 : Hid (∀ x ∈ [(g, 72, ST a b c d u)], x.1 ≠ G2) := Lib.hid (fun x hx => hn.2.1 x (.tail _ (hx)))
        have HNE : Hid (G3 ≠ G2) := Lib.hid (hn.2.1 _ (.head _))
        have HN := Lib.hid hn.1
        refine hK.out _ _ ⟨HN.out.sub (fun x hx => .tail _ (.tail _ (hx))), fun _ => trivial⟩ ?_
        clear hK K hn
        try simp only [Act.put, List.setIfInBounds_toArray, List.set_cons_zero, List.set_cons_succ]
        refine anyC_keep (i := 10) (o := ⟨some 21, _, _, _, _, _⟩) (by kernel_rfl) rfl (fun K hK => ?_)
        rw [if_pos (by rfl)]
        go_wp2_with fail
        (with_reducible refine (plus_rel a b HP.out.1 HP.out.2.1 _).mono ?_)
        rintro e V2 ⟨L2, rfl, hL, hb⟩
        have HL2 := Lib.hid hL
        clear hL
        have HN := Lib.hid (HN.out.below hb)
        refine hK.out _ _ ⟨HN.out.sub (fun x hx => .tail _ (.tail _ (hx))), fun _ => trivial⟩ ?_
        clear hK K hb
        try simp only [Act.put, List.setIfInBounds_toArray, List.set_cons_zero, List.set_cons_succ]
        refine anyC_keep (i := 21) (o := ⟨some 32, _, _, _, _, _⟩) (by kernel_rfl) rfl (fun K hK => ?_)
        rw [if_pos (by rfl)]
        go_wp2_with fail
        (with_reducible refine (minus_rel a b HP.out.1 HP.out.2.1 _).mono ?_)
        rintro e V3 ⟨L3, rfl, hL, hb⟩
        have HL3 := Lib.hid hL
        clear hL
        have HN := Lib.hid (HN.out.below hb)
        refine hK.out _ _ ⟨HN.out.sub (fun x hx => .tail _ (.tail _ (hx))), fun _ => trivial⟩ ?_
        clear hK K hb
        try simp only [Act.put, List.setIfInBounds_toArray, List.set_cons_zero, List.set_cons_succ]
        refine anyC_keep (i := 24) (o := ⟨none, _, _, _, _, _⟩) (by kernel_rfl) rfl (fun K hK => ?_)
        rw [if_pos (by rfl)]
        refine wp_store_row 44 _ _ rfl G2 (lsC L2) rfl rfl 44 _ (HN.out.k (G2, 44, [0, 0, 0, 0, 0]) (.head _)) (by rw [size44, lsC_size, HL2.out.1]) (by rw [lsC_size, lsC_size, HL2.out.1]; rfl) (lsC_one _) ?_
        have HN := Lib.hid (HN.out.row (fun x hx => by rcases List.mem_cons.1 hx with rfl | hx; (first | exact HNE.out | exact HNE.out.symm); exact HDG2.out x hx) HZG2.out L2)
        refine hK.out _ _ ⟨HN.out.sub (fun x hx => .tail _ (.tail _ (hx))), fun _ => trivial⟩ ?_
        clear hK K
        generalize World.setRow V3 G2 (lsC L2) = V4 at HN ⊢
        try simp only [Act.put]
        refine anyC_keep (i := 25) (o := ⟨none, _, _, _, _, _⟩) (by kernel_rfl) rfl (fun K hK => ?_)
        rw [if_pos (by rfl)]
        have HN := Lib.hid HN.out.swap
        refine wp_store_row 44 _ _ rfl G3 (lsC L3) rfl rfl 44 _ (HN.out.k (G3, 44, [0, 0, 0, 0, 0]) (.head _)) (by rw [size44, lsC_size, HL3.out.1]) (by rw [lsC_size, lsC_size, HL3.out.1]; rfl) (lsC_one _) ?_
        have HN := Lib.hid (HN.out.row (fun x hx => by rcases List.mem_cons.1 hx with rfl | hx; (first | exact HNE.out | exact HNE.out.symm); exact HDG3.out x hx) HZG3.out L3)
        refine hK.out _ _ ⟨HN.out.sub (fun x hx => .tail _ (.tail _ (hx))), fun _ => trivial⟩ ?_
        clear hK K
        generalize World.setRow V4 G3 (lsC L3) = V5 at HN ⊢
        try simp only [Act.put]
        refine anyC_done (by kernel_rfl) ?_ _
        go_wp2_with fail
        go_meet
        exact ⟨G2, G3, L2, L3, rfl, rfl, HL2, HL3, HN⟩
  case rest =>
    obtain ⟨G2, G3, L2, L3, rfl, rfl, HL2, HL3, HN⟩ := hcut
    obtain ⟨s, hs⟩ : ∃ s, muN (a + b) (a + b) = s := ⟨_, rfl⟩
    obtain ⟨m, hm⟩ : ∃ m, muN (sbN a b) (sbN a b) = m := ⟨_, rfl⟩
    have HS := Lib.hid (And.intro hs hm)
    have HT1 := Lib.hid (fun W => times_rel HL2.out HL2.out W)
    have HT2 := Lib.hid (fun W => times_rel HL3.out HL3.out W)
    rw [hs] at HT1
    rw [hm] at HT2
    clear hs hm
    go_upto_region 1 with fail
    go_cut [4, 5] (fun a4 a5 wx => ∃ G4 G5, a4 = .pointer (some ⟨G4, 0, none⟩) ∧ a5 = .pointer (some ⟨G5, 0, none⟩) ∧ Hid (Sk g w [(G5, 44, lm m), (G4, 44, lm s), (G3, 44, L3), (G2, 44, L2), (g, 72, ST a b c d u)] wx))
    case first =>
      go_wp2_with fail
      refine region_anyC (fun w' => Sk g w [(G3, 44, L3), (G2, 44, L2), (g, 72, ST a b c d u)] w') (fun _ => True) [] (by kernel_rfl) ?_
      have HN := Lib.hid HN.out.drew
      generalize World.drew wc = W0 at HN ⊢
      refine anyC_takeS (i := 0) (oi := ⟨some 33, _, _, _, _, _⟩) (v := .agg (lsC L2)) rfl (by kernel_rfl) (by kernel_rfl) (by kernel_rfl) (by kernel_rfl) (fun _ _ _ h => h) (yieldsIf_load_mid (by rfl) 44 _ rfl G2 0 rfl (L2.map ld) _ (fun w' hw' => rangeL [] L2 [] (by have h := hw'.k (G2, 44, L2) (.tail _ (.head _)); rw [List.append_nil]; exact h)) Tryd.underlying44 rfl (by rw [size44, List.length_map, HL2.out.1])) (HN.out) (fun _ => trivial) ?_
      try simp only [Act.put, List.setIfInBounds_toArray, List.set_cons_zero, List.set_cons_succ]
      refine anyC_takeS (i := 1) (oi := ⟨some 34, _, _, _, _, _⟩) (v := .agg (lsC L2)) rfl (by kernel_rfl) (by kernel_rfl) (by kernel_rfl) (by kernel_rfl) (fun _ _ _ h => h) (yieldsIf_load_mid (by rfl) 44 _ rfl G2 0 rfl (L2.map ld) _ (fun w' hw' => rangeL [] L2 [] (by have h := hw'.k (G2, 44, L2) (.tail _ (.head _)); rw [List.append_nil]; exact h)) Tryd.underlying44 rfl (by rw [size44, List.length_map, HL2.out.1])) (HN.out) (fun _ => trivial) ?_
      try simp only [Act.put, List.setIfInBounds_toArray, List.set_cons_zero, List.set_cons_succ]
      refine anyC_takeS (i := 3) (oi := ⟨some 36, _, _, _, _, _⟩) (v := .agg (lsC L3)) rfl (by kernel_rfl) (by kernel_rfl) (by kernel_rfl) (by kernel_rfl) (fun _ _ _ h => h) (yieldsIf_load_mid (by rfl) 44 _ rfl G3 0 rfl (L3.map ld) _ (fun w' hw' => rangeL [] L3 [] (by have h := hw'.k (G3, 44, L3) (.head _); rw [List.append_nil]; exact h)) Tryd.underlying44 rfl (by rw [size44, List.length_map, HL3.out.1])) (HN.out) (fun _ => trivial) ?_
      try simp only [Act.put, List.setIfInBounds_toArray, List.set_cons_zero, List.set_cons_succ]
      refine anyC_takeS (i := 4) (oi := ⟨some 37, _, _, _, _, _⟩) (v := .agg (lsC L3)) rfl (by kernel_rfl) (by kernel_rfl) (by kernel_rfl) (by kernel_rfl) (fun _ _ _ h => h) (yieldsIf_load_mid (by rfl) 44 _ rfl G3 0 rfl (L3.map ld) _ (fun w' hw' => rangeL [] L3 [] (by have h := hw'.k (G3, 44, L3) (.head _); rw [List.append_nil]; exact h)) Tryd.underlying44 rfl (by rw [size44, List.length_map, HL3.out.1])) (HN.out) (fun _ => trivial) ?_
      try simp only [Act.put, List.setIfInBounds_toArray, List.set_cons_zero, List.set_cons_succ]
      refine anyC_keep3 (i := 2) (o1 := ⟨some 35, _, _, _, _, _⟩) (j := 6) (o2 := ⟨some 4, _, _, _, _, _⟩) (k := 7) (o3 := ⟨some 5, _, _, _, _, _⟩) (by kernel_rfl) rfl rfl rfl (fun K hK => ?_) (fun K hK => ?_) (fun K hK => ?_)
      · rw [if_pos (by rfl)]
        go_wp2_with fail
        (with_reducible refine (HT1.out _).mono ?_)
        rintro e V0 ⟨rfl, hb⟩
        have HN := Lib.hid (HN.out.below hb)
        refine hK.out _ _ ⟨HN.out, fun _ => trivial⟩ ?_
        clear hK K hb
        try simp only [Act.put, List.setIfInBounds_toArray, List.set_cons_zero, List.set_cons_succ]
        refine anyC_keep3 (i := 5) (o1 := ⟨some 38, _, _, _, _, _⟩) (j := 6) (o2 := ⟨some 4, _, _, _, _, _⟩) (k := 7) (o3 := ⟨some 5, _, _, _, _, _⟩) (by kernel_rfl) rfl rfl rfl (fun K hK => ?_) (fun K hK => ?_) (fun K hK => ?_)
        · rw [if_pos (by rfl)]
          go_wp2_with fail
          (with_reducible refine (HT2.out _).mono ?_)
          rintro e V1 ⟨rfl, hb⟩
          have HN := Lib.hid (HN.out.below hb)
          refine hK.out _ _ ⟨HN.out, fun _ => trivial⟩ ?_
          clear hK K hb
          try simp only [Act.put, List.setIfInBounds_toArray, List.set_cons_zero, List.set_cons_succ]
          refine anyC_keep2 (i := 6) (o1 := ⟨some 4, _, _, _, _, _⟩) (j := 7) (o2 := ⟨some 5, _, _, _, _, _⟩) (by kernel_rfl) rfl rfl (fun K hK => ?_) (fun K hK => ?_)
          · rw [if_pos (by rfl)]
            have hn := HN.out.new
            go_wp2_with fail
            generalize World.alloc V1 Z5o = V2 at hn ⊢
            generalize Array.size (World.heap V1) = G4 at hn ⊢
            have HZG4 := Lib.hid hn.2.2
            have HDG4 : Hid (∀ x ∈ [(G3, 44, L3), (G2, 44, L2), (g, 72, ST a b c d u)], x.1 ≠ G4) := Lib.hid (fun x hx => hn.2.1 x (hx))
            have HN := Lib.hid hn.1
            refine hK.out _ _ ⟨HN.out.sub (fun x hx => .tail _ (hx)), fun _ => trivial⟩ ?_
            clear hK K hn
            try simp only [Act.put, List.setIfInBounds_toArray, List.set_cons_zero, List.set_cons_succ]
            refine anyC_keep (i := 7) (o := ⟨some 5, _, _, _, _, _⟩) (by kernel_rfl) rfl (fun K hK => ?_)
            rw [if_pos (by rfl)]
            have hn := HN.out.new
            go_wp2_with fail
            generalize World.alloc V2 Z5o = V3 at hn ⊢
            generalize Array.size (World.heap V2) = G5 at hn ⊢
            have HZG5 := Lib.hid hn.2.2
            have HDG5 : Hid (∀ x ∈ [(G3, 44, L3), (G2, 44, L2), (g, 72, ST a b c d u)], x.1 ≠ G5) := Lib.hid (fun x hx => hn.2.1 x (.tail _ (hx)))
            have HNE : Hid (G4 ≠ G5) := Lib.hid (hn.2.1 _ (.head _))
            have HN := Lib.hid hn.1
            refine hK.out _ _ ⟨HN.out.sub (fun x hx => .tail _ (.tail _ (hx))), fun _ => trivial⟩ ?_
            clear hK K hn
            try simp only [Act.put, List.setIfInBounds_toArray, List.set_cons_zero, List.set_cons_succ]
            refine anyC_keep (i := 8) (o := ⟨none, _, _, _, _, _⟩) (by kernel_rfl) rfl (fun K hK => ?_)
            rw [if_pos (by rfl)]
            have HN := Lib.hid HN.out.swap
            refine wp_store_row 44 _ _ rfl G4 (lsC (lm s)) rfl rfl 44 _ (HN.out.k (G4, 44, [0, 0, 0, 0, 0]) (.head _)) (by rw [size44, lsC_size, lm_length]) (by rw [lsC_size, lsC_size, lm_length]; rfl) (lsC_one _) ?_
            have HN := Lib.hid (HN.out.row (fun x hx => by rcases List.mem_cons.1 hx with rfl | hx; (first | exact HNE.out | exact HNE.out.symm); exact HDG4.out x hx) HZG4.out (lm s))
            refine hK.out _ _ ⟨HN.out.sub (fun x hx => .tail _ (.tail _ (hx))), fun _ => trivial⟩ ?_
            clear hK K
            generalize World.setRow V3 G4 (lsC (lm s)) = V4 at HN ⊢
            try simp only [Act.put]
            refine anyC_keep (i := 9) (o := ⟨none, _, _, _, _, _⟩) (by kernel_rfl) rfl (fun K hK => ?_)
            rw [if_pos (by rfl)]
            have HN := Lib.hid HN.out.swap
            refine wp_store_row 44 _ _ rfl G5 (lsC (lm m)) rfl rfl 44 _ (HN.out.k (G5, 44, [0, 0, 0, 0, 0]) (.head _)) (by rw [size44, lsC_size, lm_length]) (by rw [lsC_size, lsC_size, lm_length]; rfl) (lsC_one _) ?_
            have HN := Lib.hid (HN.out.row (fun x hx => by rcases List.mem_cons.1 hx with rfl | hx; (first | exact HNE.out | exact HNE.out.symm); exact HDG5.out x hx) HZG5.out (lm m))
            refine hK.out _ _ ⟨HN.out.sub (fun x hx => .tail _ (.tail _ (hx))), fun _ => trivial⟩ ?_
            clear hK K
            generalize World.setRow V4 G5 (lsC (lm m)) = V5 at HN ⊢
            try simp only [Act.put]
            refine anyC_done (by kernel_rfl) ?_ _
            go_wp2_with fail
            go_meet
            exact ⟨G4, G5, rfl, rfl, HN⟩
          · rw [if_pos (by rfl)]
            have hn := HN.out.new
            go_wp2_with fail
            generalize World.alloc V1 Z5o = V2 at hn ⊢
            generalize Array.size (World.heap V1) = G5 at hn ⊢
            have HZG5 := Lib.hid hn.2.2
            have HDG5 : Hid (∀ x ∈ [(G3, 44, L3), (G2, 44, L2), (g, 72, ST a b c d u)], x.1 ≠ G5) := Lib.hid (fun x hx => hn.2.1 x (hx))
            have HN := Lib.hid hn.1
            refine hK.out _ _ ⟨HN.out.sub (fun x hx => .tail _ (hx)), fun _ => trivial⟩ ?_
            clear hK K hn
            try simp only [Act.put, List.setIfInBounds_toArray, List.set_cons_zero, List.set_cons_succ]
            refine anyC_keep (i := 6) (o := ⟨some 4, _, _, _, _, _⟩) (by kernel_rfl) rfl (fun K hK => ?_)
            rw [if_pos (by rfl)]
            have hn := HN.out.new
            go_wp2_with fail
            generalize World.alloc V2 Z5o = V3 at hn ⊢
            generalize Array.size (World.heap V2) = G4 at hn ⊢
            have HZG4 := Lib.hid hn.2.2
            have HDG4 : Hid (∀ x ∈ [(G3, 44, L3), (G2, 44, L2), (g, 72, ST a b c d u)], x.1 ≠ G4) := Lib.hid (fun x hx => hn.2.1 x (.tail _ (hx)))
            have HNE : Hid (G5 ≠ G4) := Lib.hid (hn.2.1 _ (.head _))
            have HN := Lib.hid hn.1
            refine hK.out _ _ ⟨HN.out.sub (fun x hx => .tail _ (.tail _ (hx))), fun _ => trivial⟩ ?_
            clear hK K hn
            try simp only [Act.put, List.setIfInBounds_toArray, List.set_cons_zero, List.set_cons_succ]
            refine anyC_keep (i := 8) (o := ⟨none, _, _, _, _, _⟩) (by kernel_rfl) rfl (fun K hK => ?_)
            rw [if_pos (by rfl)]
            refine wp_store_row 44 _ _ rfl G4 (lsC (lm s)) rfl rfl 44 _ (HN.out.k (G4, 44, [0, 0, 0, 0, 0]) (.head _)) (by rw [size44, lsC_size, lm_length]) (by rw [lsC_size, lsC_size, lm_length]; rfl) (lsC_one _) ?_
            have HN := Lib.hid (HN.out.row (fun x hx => by rcases List.mem_cons.1 hx with rfl | hx; (first | exact HNE.out | exact HNE.out.symm); exact HDG4.out x hx) HZG4.out (lm s))
            refine hK.out _ _ ⟨HN.out.sub (fun x hx => .tail _ (.tail _ (hx))), fun _ => trivial⟩ ?_
            clear hK K
            generalize World.setRow V3 G4 (lsC (lm s)) = V4 at HN ⊢
            try simp only [Act.put]
            refine anyC_keep (i := 9) (o := ⟨none, _, _, _, _, _⟩) (by kernel_rfl) rfl (fun K hK => ?_)
            rw [if_pos (by rfl)]
            have HN := Lib.hid HN.out.swap
            refine wp_store_row 44 _ _ rfl G5 (lsC (lm m)) rfl rfl 44 _ (HN.out.k (G5, 44, [0, 0, 0, 0, 0]) (.head _)) (by rw [size44, lsC_size, lm_length]) (by rw [lsC_size, lsC_size, lm_length]; rfl) (lsC_one _) ?_
            have HN := Lib.hid (HN.out.row (fun x hx => by rcases List.mem_cons.1 hx with rfl | hx; (first | exact HNE.out | exact HNE.out.symm); exact HDG5.out x hx) HZG5.out (lm m))
            refine hK.out _ _ ⟨HN.out.sub (fun x hx => .tail _ (.tail _ (hx))), fun _ => trivial⟩ ?_
            clear hK K
            generalize World.setRow V4 G5 (lsC (lm m)) = V5 at HN ⊢
            try simp only [Act.put]
            refine anyC_done (by kernel_rfl) ?_ _
            go_wp2_with fail
            go_meet
            exact ⟨G4, G5, rfl, rfl, HN⟩
        · rw [if_pos (by rfl)]
          have hn := HN.out.new
          go_wp2_with fail
          generalize World.alloc V0 Z5o = V1 at hn ⊢
          generalize Array.size (World.heap V0) = G4 at hn ⊢
          have HZG4 := Lib.hid hn.2.2
          have HDG4 : Hid (∀ x ∈ [(G3, 44, L3), (G2, 44, L2), (g, 72, ST a b c d u)], x.1 ≠ G4) := Lib.hid (fun x hx => hn.2.1 x (hx))
          have HN := Lib.hid hn.1
          refine hK.out _ _ ⟨HN.out.sub (fun x hx => .tail _ (hx)), fun _ => trivial⟩ ?_
          clear hK K hn
          try simp only [Act.put, List.setIfInBounds_toArray, List.set_cons_zero, List.set_cons_succ]
          refine anyC_keep2 (i := 5) (o1 := ⟨some 38, _, _, _, _, _⟩) (j := 7) (o2 := ⟨some 5, _, _, _, _, _⟩) (by kernel_rfl) rfl rfl (fun K hK => ?_) (fun K hK => ?_)
          · rw [if_pos (by rfl)]
            go_wp2_with fail
            (with_reducible refine (HT2.out _).mono ?_)
            rintro e V2 ⟨rfl, hb⟩
            have HN := Lib.hid (HN.out.below hb)
            refine hK.out _ _ ⟨HN.out.sub (fun x hx => .tail _ (hx)), fun _ => trivial⟩ ?_
            clear hK K hb
            try simp only [Act.put, List.setIfInBounds_toArray, List.set_cons_zero, List.set_cons_succ]
            refine anyC_keep (i := 7) (o := ⟨some 5, _, _, _, _, _⟩) (by kernel_rfl) rfl (fun K hK => ?_)
            rw [if_pos (by rfl)]
            have hn := HN.out.new
            go_wp2_with fail
            generalize World.alloc V2 Z5o = V3 at hn ⊢
            generalize Array.size (World.heap V2) = G5 at hn ⊢
            have HZG5 := Lib.hid hn.2.2
            have HDG5 : Hid (∀ x ∈ [(G3, 44, L3), (G2, 44, L2), (g, 72, ST a b c d u)], x.1 ≠ G5) := Lib.hid (fun x hx => hn.2.1 x (.tail _ (hx)))
            have HNE : Hid (G4 ≠ G5) := Lib.hid (hn.2.1 _ (.head _))
            have HN := Lib.hid hn.1
            refine hK.out _ _ ⟨HN.out.sub (fun x hx => .tail _ (.tail _ (hx))), fun _ => trivial⟩ ?_
            clear hK K hn
            try simp only [Act.put, List.setIfInBounds_toArray, List.set_cons_zero, List.set_cons_succ]
            refine anyC_keep (i := 8) (o := ⟨none, _, _, _, _, _⟩) (by kernel_rfl) rfl (fun K hK => ?_)
            rw [if_pos (by rfl)]
            have HN := Lib.hid HN.out.swap
            refine wp_store_row 44 _ _ rfl G4 (lsC (lm s)) rfl rfl 44 _ (HN.out.k (G4, 44, [0, 0, 0, 0, 0]) (.head _)) (by rw [size44, lsC_size, lm_length]) (by rw [lsC_size, lsC_size, lm_length]; rfl) (lsC_one _) ?_
            have HN := Lib.hid (HN.out.row (fun x hx => by rcases List.mem_cons.1 hx with rfl | hx; (first | exact HNE.out | exact HNE.out.symm); exact HDG4.out x hx) HZG4.out (lm s))
            refine hK.out _ _ ⟨HN.out.sub (fun x hx => .tail _ (.tail _ (hx))), fun _ => trivial⟩ ?_
            clear hK K
            generalize World.setRow V3 G4 (lsC (lm s)) = V4 at HN ⊢
            try simp only [Act.put]
            refine anyC_keep (i := 9) (o := ⟨none, _, _, _, _, _⟩) (by kernel_rfl) rfl (fun K hK => ?_)
            rw [if_pos (by rfl)]
            have HN := Lib.hid HN.out.swap
            refine wp_store_row 44 _ _ rfl G5 (lsC (lm m)) rfl rfl 44 _ (HN.out.k (G5, 44, [0, 0, 0, 0, 0]) (.head _)) (by rw [size44, lsC_size, lm_length]) (by rw [lsC_size, lsC_size, lm_length]; rfl) (lsC_one _) ?_
            have HN := Lib.hid (HN.out.row (fun x hx => by rcases List.mem_cons.1 hx with rfl | hx; (first | exact HNE.out | exact HNE.out.symm); exact HDG5.out x hx) HZG5.out (lm m))
            refine hK.out _ _ ⟨HN.out.sub (fun x hx => .tail _ (.tail _ (hx))), fun _ => trivial⟩ ?_
            clear hK K
            generalize World.setRow V4 G5 (lsC (lm m)) = V5 at HN ⊢
            try simp only [Act.put]
            refine anyC_done (by kernel_rfl) ?_ _
            go_wp2_with fail
            go_meet
            exact ⟨G4, G5, rfl, rfl, HN⟩
          · rw [if_pos (by rfl)]
            have hn := HN.out.new
            go_wp2_with fail
            generalize World.alloc V1 Z5o = V2 at hn ⊢
            generalize Array.size (World.heap V1) = G5 at hn ⊢
            have HZG5 := Lib.hid hn.2.2
            have HDG5 : Hid (∀ x ∈ [(G3, 44, L3), (G2, 44, L2), (g, 72, ST a b c d u)], x.1 ≠ G5) := Lib.hid (fun x hx => hn.2.1 x (.tail _ (hx)))
            have HNE : Hid (G4 ≠ G5) := Lib.hid (hn.2.1 _ (.head _))
            have HN := Lib.hid hn.1
            refine hK.out _ _ ⟨HN.out.sub (fun x hx => .tail _ (.tail _ (hx))), fun _ => trivial⟩ ?_
            clear hK K hn
            try simp only [Act.put, List.setIfInBounds_toArray, List.set_cons_zero, List.set_cons_succ]
            refine anyC_keep (i := 5) (o := ⟨some 38, _, _, _, _, _⟩) (by kernel_rfl) rfl (fun K hK => ?_)
            rw [if_pos (by rfl)]
            go_wp2_with fail
            (with_reducible refine (HT2.out _).mono ?_)
            rintro e V3 ⟨rfl, hb⟩
            have HN := Lib.hid (HN.out.below hb)
            refine hK.out _ _ ⟨HN.out.sub (fun x hx => .tail _ (.tail _ (hx))), fun _ => trivial⟩ ?_
            clear hK K hb
            try simp only [Act.put, List.setIfInBounds_toArray, List.set_cons_zero, List.set_cons_succ]
            refine anyC_keep (i := 8) (o := ⟨none, _, _, _, _, _⟩) (by kernel_rfl) rfl (fun K hK => ?_)
            rw [if_pos (by rfl)]
            have HN := Lib.hid HN.out.swap
            refine wp_store_row 44 _ _ rfl G4 (lsC (lm s)) rfl rfl 44 _ (HN.out.k (G4, 44, [0, 0, 0, 0, 0]) (.head _)) (by rw [size44, lsC_size, lm_length]) (by rw [lsC_size, lsC_size, lm_length]; rfl) (lsC_one _) ?_
            have HN := Lib.hid (HN.out.row (fun x hx => by rcases List.mem_cons.1 hx with rfl | hx; (first | exact HNE.out | exact HNE.out.symm); exact HDG4.out x hx) HZG4.out (lm s))
            refine hK.out _ _ ⟨HN.out.sub (fun x hx => .tail _ (.tail _ (hx))), fun _ => trivial⟩ ?_
            clear hK K
            generalize World.setRow V3 G4 (lsC (lm s)) = V4 at HN ⊢
            try simp only [Act.put]
            refine anyC_keep (i := 9) (o := ⟨none, _, _, _, _, _⟩) (by kernel_rfl) rfl (fun K hK => ?_)
            rw [if_pos (by rfl)]
            have HN := Lib.hid HN.out.swap
            refine wp_store_row 44 _ _ rfl G5 (lsC (lm m)) rfl rfl 44 _ (HN.out.k (G5, 44, [0, 0, 0, 0, 0]) (.head _)) (by rw [size44, lsC_size, lm_length]) (by rw [lsC_size, lsC_size, lm_length]; rfl) (lsC_one _) ?_
            have HN := Lib.hid (HN.out.row (fun x hx => by rcases List.mem_cons.1 hx with rfl | hx; (first | exact HNE.out | exact HNE.out.symm); exact HDG5.out x hx) HZG5.out (lm m))
            refine hK.out _ _ ⟨HN.out.sub (fun x hx => .tail _ (.tail _ (hx))), fun _ => trivial⟩ ?_
            clear hK K
            generalize World.setRow V4 G5 (lsC (lm m)) = V5 at HN ⊢
            try simp only [Act.put]
            refine anyC_done (by kernel_rfl) ?_ _
            go_wp2_with fail
            go_meet
            exact ⟨G4, G5, rfl, rfl, HN⟩
        · rw [if_pos (by rfl)]
          have hn := HN.out.new
          go_wp2_with fail
          generalize World.alloc V0 Z5o = V1 at hn ⊢
          generalize Array.size (World.heap V0) = G5 at hn ⊢
          have HZG5 := Lib.hid hn.2.2
          have HDG5 : Hid (∀ x ∈ [(G3, 44, L3), (G2, 44, L2), (g, 72, ST a b c d u)], x.1 ≠ G5) := Lib.hid (fun x hx => hn.2.1 x (hx))
          have HN := Lib.hid hn.1
          refine hK.out _ _ ⟨HN.out.sub (fun x hx => .tail _ (hx)), fun _ => trivial⟩ ?_
          clear hK K hn
          try simp only [Act.put, List.setIfInBounds_toArray, List.set_cons_zero, List.set_cons_succ]
          refine anyC_keep2 (i := 5) (o1 := ⟨some 38, _, _, _, _, _⟩) (j := 6) (o2 := ⟨some 4, _, _, _, _, _⟩) (by kernel_rfl) rfl rfl (fun K hK => ?_) (fun K hK => ?_)
          · rw [if_pos (by rfl)]
            go_wp2_with fail
            (with_reducible refine (HT2.out _).mono ?_)
            rintro e V2 ⟨rfl, hb⟩
            have HN := Lib.hid (HN.out.below hb)
            refine hK.out _ _ ⟨HN.out.sub (fun x hx => .tail _ (hx)), fun _ => trivial⟩ ?_
            clear hK K hb
            try simp only [Act.put, List.setIfInBounds_toArray, List.set_cons_zero, List.set_cons_succ]
            refine anyC_keep (i := 6) (o := ⟨some 4, _, _, _, _, _⟩) (by kernel_rfl) rfl (fun K hK => ?_)
            rw [if_pos (by rfl)]
            have hn := HN.out.new
            go_wp2_with fail
            generalize World.alloc V2 Z5o = V3 at hn ⊢
            generalize Array.size (World.heap V2) = G4 at hn ⊢
            have HZG4 := Lib.hid hn.2.2
            have HDG4 : Hid (∀ x ∈ [(G3, 44, L3), (G2, 44, L2), (g, 72, ST a b c d u)], x.1 ≠ G4) := Lib.hid (fun x hx => hn.2.1 x (.tail _ (hx)))
            have HNE : Hid (G5 ≠ G4) := Lib.hid (hn.2.1 _ (.head _))
            have HN := Lib.hid hn.1
            refine hK.out _ _ ⟨HN.out.sub (fun x hx => .tail _ (.tail _ (hx))), fun _ => trivial⟩ ?_
            clear hK K hn
            try simp only [Act.put, List.setIfInBounds_toArray, List.set_cons_zero, List.set_cons_succ]
            refine anyC_keep (i := 8) (o := ⟨none, _, _, _, _, _⟩) (by kernel_rfl) rfl (fun K hK => ?_)
            rw [if_pos (by rfl)]
            refine wp_store_row 44 _ _ rfl G4 (lsC (lm s)) rfl rfl 44 _ (HN.out.k (G4, 44, [0, 0, 0, 0, 0]) (.head _)) (by rw [size44, lsC_size, lm_length]) (by rw [lsC_size, lsC_size, lm_length]; rfl) (lsC_one _) ?_
            have HN := Lib.hid (HN.out.row (fun x hx => by rcases List.mem_cons.1 hx with rfl | hx; (first | exact HNE.out | exact HNE.out.symm); exact HDG4.out x hx) HZG4.out (lm s))
            refine hK.out _ _ ⟨HN.out.sub (fun x hx => .tail _ (.tail _ (hx))), fun _ => trivial⟩ ?_
            clear hK K
            generalize World.setRow V3 G4 (lsC (lm s)) = V4 at HN ⊢
            try simp only [Act.put]
            refine anyC_keep (i := 9) (o := ⟨none, _, _, _, _, _⟩) (by kernel_rfl) rfl (fun K hK => ?_)
            rw [if_pos (by rfl)]
            have HN := Lib.hid HN.out.swap
            refine wp_store_row 44 _ _ rfl G5 (lsC (lm m)) rfl rfl 44 _ (HN.out.k (G5, 44, [0, 0, 0, 0, 0]) (.head _)) (by rw [size44, lsC_size, lm_length]) (by rw [lsC_size, lsC_size, lm_length]; rfl) (lsC_one _) ?_
            have HN := Lib.hid (HN.out.row (fun x hx => by rcases List.mem_cons.1 hx with rfl | hx; (first | exact HNE.out | exact HNE.out.symm); exact HDG5.out x hx) HZG5.out (lm m))
            refine hK.out _ _ ⟨HN.out.sub (fun x hx => .tail _ (.tail _ (hx))), fun _ => trivial⟩ ?_
            clear hK K
            generalize World.setRow V4 G5 (lsC (lm m)) = V5 at HN ⊢
            try simp only [Act.put]
            refine anyC_done (by kernel_rfl) ?_ _
            go_wp2_with fail
            go_meet
            exact ⟨G4, G5, rfl, rfl, HN⟩
          · rw [if_pos (by rfl)]
            have hn := HN.out.new
            go_wp2_with fail
            generalize World.alloc V1 Z5o = V2 at hn ⊢
            generalize Array.size (World.heap V1) = G4 at hn ⊢
            have HZG4 := Lib.hid hn.2.2
            have HDG4 : Hid (∀ x ∈ [(G3, 44, L3), (G2, 44, L2), (g, 72, ST a b c d u)], x.1 ≠ G4) := Lib.hid (fun x hx => hn.2.1 x (.tail _ (hx)))
            have HNE : Hid (G5 ≠ G4) := Lib.hid (hn.2.1 _ (.head _))
            have HN := Lib.hid hn.1
            refine hK.out _ _ ⟨HN.out.sub (fun x hx => .tail _ (.tail _ (hx))), fun _ => trivial⟩ ?_
            clear hK K hn
            try simp only [Act.put, List.setIfInBounds_toArray, List.set_cons_zero, List.set_cons_succ]
            refine anyC_keep (i := 5) (o := ⟨some 38, _, _, _, _, _⟩) (by kernel_rfl) rfl (fun K hK => ?_)
            rw [if_pos (by rfl)]
            go_wp2_with fail
            (with_reducible refine (HT2.out _).mono ?_)
            rintro e V3 ⟨rfl, hb⟩
            have HN := Lib.hid (HN.out.below hb)
            refine hK.out _ _ ⟨HN.out.sub (fun x hx => .tail _ (.tail _ (hx))), fun _ => trivial⟩ ?_
            clear hK K hb
            try simp only [Act.put, List.setIfInBounds_toArray, List.set_cons_zero, List.set_cons_succ]
            refine anyC_keep (i := 8) (o := ⟨none, _, _, _, _, _⟩) (by kernel_rfl) rfl (fun K hK => ?_)
            rw [if_pos (by rfl)]
            refine wp_store_row 44 _ _ rfl G4 (lsC (lm s)) rfl rfl 44 _ (HN.out.k (G4, 44, [0, 0, 0, 0, 0]) (.head _)) (by rw [size44, lsC_size, lm_length]) (by rw [lsC_size, lsC_size, lm_length]; rfl) (lsC_one _) ?_
            have HN := Lib.hid (HN.out.row (fun x hx => by rcases List.mem_cons.1 hx with rfl | hx; (first | exact HNE.out | exact HNE.out.symm); exact HDG4.out x hx) HZG4.out (lm s))
            refine hK.out _ _ ⟨HN.out.sub (fun x hx => .tail _ (.tail _ (hx))), fun _ => trivial⟩ ?_
            clear hK K
            generalize World.setRow V3 G4 (lsC (lm s)) = V4 at HN ⊢
            try simp only [Act.put]
            refine anyC_keep (i := 9) (o := ⟨none, _, _, _, _, _⟩) (by kernel_rfl) rfl (fun K hK => ?_)
            rw [if_pos (by rfl)]
            have HN := Lib.hid HN.out.swap
            refine wp_store_row 44 _ _ rfl G5 (lsC (lm m)) rfl rfl 44 _ (HN.out.k (G5, 44, [0, 0, 0, 0, 0]) (.head _)) (by rw [size44, lsC_size, lm_length]) (by rw [lsC_size, lsC_size, lm_length]; rfl) (lsC_one _) ?_
            have HN := Lib.hid (HN.out.row (fun x hx => by rcases List.mem_cons.1 hx with rfl | hx; (first | exact HNE.out | exact HNE.out.symm); exact HDG5.out x hx) HZG5.out (lm m))
            refine hK.out _ _ ⟨HN.out.sub (fun x hx => .tail _ (.tail _ (hx))), fun _ => trivial⟩ ?_
            clear hK K
            generalize World.setRow V4 G5 (lsC (lm m)) = V5 at HN ⊢
            try simp only [Act.put]
            refine anyC_done (by kernel_rfl) ?_ _
            go_wp2_with fail
            go_meet
            exact ⟨G4, G5, rfl, rfl, HN⟩
      · rw [if_pos (by rfl)]
        have hn := HN.out.new
        go_wp2_with fail
        generalize World.alloc W0 Z5o = V0 at hn ⊢
        generalize Array.size (World.heap W0) = G4 at hn ⊢
        have HZG4 := Lib.hid hn.2.2
        have HDG4 : Hid (∀ x ∈ [(G3, 44, L3), (G2, 44, L2), (g, 72, ST a b c d u)], x.1 ≠ G4) := Lib.hid (fun x hx => hn.2.1 x (hx))
        have HN := Lib.hid hn.1
        refine hK.out _ _ ⟨HN.out.sub (fun x hx => .tail _ (hx)), fun _ => trivial⟩ ?_
        clear hK K hn
        try simp only [Act.put, List.setIfInBounds_toArray, List.set_cons_zero, List.set_cons_succ]
        refine anyC_keep2 (i := 2) (o1 := ⟨some 35, _, _, _, _, _⟩) (j := 7) (o2 := ⟨some 5, _, _, _, _, _⟩) (by kernel_rfl) rfl rfl (fun K hK => ?_) (fun K hK => ?_)
        · rw [if_pos (by rfl)]
          go_wp2_with fail
          (with_reducible refine (HT1.out _).mono ?_)
          rintro e V1 ⟨rfl, hb⟩
          have HN := Lib.hid (HN.out.below hb)
          refine hK.out _ _ ⟨HN.out.sub (fun x hx => .tail _ (hx)), fun _ => trivial⟩ ?_
          clear hK K hb
          try simp only [Act.put, List.setIfInBounds_toArray, List.set_cons_zero, List.set_cons_succ]
          refine anyC_keep2 (i := 5) (o1 := ⟨some 38, _, _, _, _, _⟩) (j := 7) (o2 := ⟨some 5, _, _, _, _, _⟩) (by kernel_rfl) rfl rfl (fun K hK => ?_) (fun K hK => ?_)
          · rw [if_pos (by rfl)]
            go_wp2_with fail
            (with_reducible refine (HT2.out _).mono ?_)
            rintro e V2 ⟨rfl, hb⟩
            have HN := Lib.hid (HN.out.below hb)
            refine hK.out _ _ ⟨HN.out.sub (fun x hx => .tail _ (hx)), fun _ => trivial⟩ ?_
            clear hK K hb
            try simp only [Act.put, List.setIfInBounds_toArray, List.set_cons_zero, List.set_cons_succ]
            refine anyC_keep (i := 7) (o := ⟨some 5, _, _, _, _, _⟩) (by kernel_rfl) rfl (fun K hK => ?_)
            rw [if_pos (by rfl)]
            have hn := HN.out.new
            go_wp2_with fail
            generalize World.alloc V2 Z5o = V3 at hn ⊢
            generalize Array.size (World.heap V2) = G5 at hn ⊢
            have HZG5 := Lib.hid hn.2.2
            have HDG5 : Hid (∀ x ∈ [(G3, 44, L3), (G2, 44, L2), (g, 72, ST a b c d u)], x.1 ≠ G5) := Lib.hid (fun x hx => hn.2.1 x (.tail _ (hx)))
            have HNE : Hid (G4 ≠ G5) := Lib.hid (hn.2.1 _ (.head _))
            have HN := Lib.hid hn.1
            refine hK.out _ _ ⟨HN.out.sub (fun x hx => .tail _ (.tail _ (hx))), fun _ => trivial⟩ ?_
            clear hK K hn
            try simp only [Act.put, List.setIfInBounds_toArray, List.set_cons_zero, List.set_cons_succ]
            refine anyC_keep (i := 8) (o := ⟨none, _, _, _, _, _⟩) (by kernel_rfl) rfl (fun K hK => ?_)
            rw [if_pos (by rfl)]
            have HN := Lib.hid HN.out.swap
            refine wp_store_row 44 _ _ rfl G4 (lsC (lm s)) rfl rfl 44 _ (HN.out.k (G4, 44, [0, 0, 0, 0, 0]) (.head _)) (by rw [size44, lsC_size, lm_length]) (by rw [lsC_size, lsC_size, lm_length]; rfl) (lsC_one _) ?_
            have HN := Lib.hid (HN.out.row (fun x hx => by rcases List.mem_cons.1 hx with rfl | hx; (first | exact HNE.out | exact HNE.out.symm); exact HDG4.out x hx) HZG4.out (lm s))
            refine hK.out _ _ ⟨HN.out.sub (fun x hx => .tail _ (.tail _ (hx))), fun _ => trivial⟩ ?_
            clear hK K
            generalize World.setRow V3 G4 (lsC (lm s)) = V4 at HN ⊢
            try simp only [Act.put]
            refine anyC_keep (i := 9) (o := ⟨none, _, _, _, _, _⟩) (by kernel_rfl) rfl (fun K hK => ?_)
            rw [if_pos (by rfl)]
            have HN := Lib.hid HN.out.swap
            refine wp_store_row 44 _ _ rfl G5 (lsC (lm m)) rfl rfl 44 _ (HN.out.k (G5, 44, [0, 0, 0, 0, 0]) (.head _)) (by rw [size44, lsC_size, lm_length]) (by rw [lsC_size, lsC_size, lm_length]; rfl) (lsC_one _) ?_
            have HN := Lib.hid (HN.out.row (fun x hx => by rcases List.mem_cons.1 hx with rfl | hx; (first | exact HNE.out | exact HNE.out.symm); exact HDG5.out x hx) HZG5.out (lm m))
            refine hK.out _ _ ⟨HN.out.sub (fun x hx => .tail _ (.tail _ (hx))), fun _ => trivial⟩ ?_
            clear hK K
            generalize World.setRow V4 G5 (lsC (lm m)) = V5 at HN ⊢
            try simp only [Act.put]
            refine anyC_done (by kernel_rfl) ?_ _
            go_wp2_with fail
            go_meet
            exact ⟨G4, G5, rfl, rfl, HN⟩
          · rw [if_pos (by rfl)]
            have hn := HN.out.new
            go_wp2_with fail
            generalize World.alloc V1 Z5o = V2 at hn ⊢
            generalize Array.size (World.heap V1) = G5 at hn ⊢
            have HZG5 := Lib.hid hn.2.2
            have HDG5 : Hid (∀ x ∈ [(G3, 44, L3), (G2, 44, L2), (g, 72, ST a b c d u)], x.1 ≠ G5) := Lib.hid (fun x hx => hn.2.1 x (.tail _ (hx)))
            have HNE : Hid (G4 ≠ G5) := Lib.hid (hn.2.1 _ (.head _))
            have HN := Lib.hid hn.1
            refine hK.out _ _ ⟨HN.out.sub (fun x hx => .tail _ (.tail _ (hx))), fun _ => trivial⟩ ?_
            clear hK K hn
            try simp only [Act.put, List.setIfInBounds_toArray, List.set_cons_zero, List.set_cons_succ]
            refine anyC_keep (i := 5) (o := ⟨some 38, _, _, _, _, _⟩) (by kernel_rfl) rfl (fun K hK => ?_)
            rw [if_pos (by rfl)]
            go_wp2_with fail
            (with_reducible refine (HT2.out _).mono ?_)
            rintro e V3 ⟨rfl, hb⟩
            have HN := Lib.hid (HN.out.below hb)
            refine hK.out _ _ ⟨HN.out.sub (fun x hx => .tail _ (.tail _ (hx))), fun _ => trivial⟩ ?_
            clear hK K hb
            try simp only [Act.put, List.setIfInBounds_toArray, List.set_cons_zero, List.set_cons_succ]
            refine anyC_keep (i := 8) (o := ⟨none, _, _, _, _, _⟩) (by kernel_rfl) rfl (fun K hK => ?_)
            rw [if_pos (by rfl)]
            have HN := Lib.hid HN.out.swap
            refine wp_store_row 44 _ _ rfl G4 (lsC (lm s)) rfl rfl 44 _ (HN.out.k (G4, 44, [0, 0, 0, 0, 0]) (.head _)) (by rw [size44, lsC_size, lm_length]) (by rw [lsC_size, lsC_size, lm_length]; rfl) (lsC_one _) ?_
            have HN := Lib.hid (HN.out.row (fun x hx => by rcases List.mem_cons.1 hx with rfl | hx; (first | exact HNE.out | exact HNE.out.symm); exact HDG4.out x hx) HZG4.out (lm s))
            refine hK.out _ _ ⟨HN.out.sub (fun x hx => .tail _ (.tail _ (hx))), fun _ => trivial⟩ ?_
            clear hK K
            generalize World.setRow V3 G4 (lsC (lm s)) = V4 at HN ⊢
            try simp only [Act.put]
            refine anyC_keep (i := 9) (o := ⟨none, _, _, _, _, _⟩) (by kernel_rfl) rfl (fun K hK => ?_)
            rw [if_pos (by rfl)]
            have HN := Lib.hid HN.out.swap
            refine wp_store_row 44 _ _ rfl G5 (lsC (lm m)) rfl rfl 44 _ (HN.out.k (G5, 44, [0, 0, 0, 0, 0]) (.head _)) (by rw [size44, lsC_size, lm_length]) (by rw [lsC_size, lsC_size, lm_length]; rfl) (lsC_one _) ?_
            have HN := Lib.hid (HN.out.row (fun x hx => by rcases List.mem_cons.1 hx with rfl | hx; (first | exact HNE.out | exact HNE.out.symm); exact HDG5.out x hx) HZG5.out (lm m))
            refine hK.out _ _ ⟨HN.out.sub (fun x hx => .tail _ (.tail _ (hx))), fun _ => trivial⟩ ?_
            clear hK K
            generalize World.setRow V4 G5 (lsC (lm m)) = V5 at HN ⊢
            try simp only [Act.put]
            refine anyC_done (by kernel_rfl) ?_ _
            go_wp2_with fail
            go_meet
            exact ⟨G4, G5, rfl, rfl, HN⟩
        · rw [if_pos (by rfl)]
          have hn := HN.out.new
          go_wp2_with fail
          generalize World.alloc V0 Z5o = V1 at hn ⊢
          generalize Array.size (World.heap V0) = G5 at hn ⊢
          have HZG5 := Lib.hid hn.2.2
          have HDG5 : Hid (∀ x ∈ [(G3, 44, L3), (G2, 44, L2), (g, 72, ST a b c d u)], x.1 ≠ G5) := Lib.hid (fun x hx => hn.2.1 x (.tail _ (hx)))
          have HNE : Hid (G4 ≠ G5) := Lib.hid (hn.2.1 _ (.head _))
          have HN := Lib.hid hn.1
          refine hK.out _ _ ⟨HN.out.sub (fun x hx => .tail _ (.tail _ (hx))), fun _ => trivial⟩ ?_
          clear hK K hn
          try simp only [Act.put, List.setIfInBounds_toArray, List.set_cons_zero, List.set_cons_succ]
          refine anyC_keep (i := 2) (o := ⟨some 35, _, _, _, _, _⟩) (by kernel_rfl) rfl (fun K hK => ?_)
          rw [if_pos (by rfl)]
          go_wp2_with fail
          (with_reducible refine (HT1.out _).mono ?_)
          rintro e V2 ⟨rfl, hb⟩
          have HN := Lib.hid (HN.out.below hb)
          refine hK.out _ _ ⟨HN.out.sub (fun x hx => .tail _ (.tail _ (hx))), fun _ => trivial⟩ ?_
          clear hK K hb
          try simp only [Act.put, List.setIfInBounds_toArray, List.set_cons_zero, List.set_cons_succ]
          refine anyC_keep (i := 5) (o := ⟨some 38, _, _, _, _, _⟩) (by kernel_rfl) rfl (fun K hK => ?_)
          rw [if_pos (by rfl)]
          go_wp2_with fail
          (with_reducible refine (HT2.out _).mono ?_)
          rintro e V3 ⟨rfl, hb⟩
          have HN := Lib.hid (HN.out.below hb)
          refine hK.out _ _ ⟨HN.out.sub (fun x hx => .tail _ (.tail _ (hx))), fun _ => trivial⟩ ?_
          clear hK K hb
          try simp only [Act.put, List.setIfInBounds_toArray, List.set_cons_zero, List.set_cons_succ]
          refine anyC_keep (i := 8) (o := ⟨none, _, _, _, _, _⟩) (by kernel_rfl) rfl (fun K hK => ?_)
          rw [if_pos (by rfl)]
          have HN := Lib.hid HN.out.swap
          refine wp_store_row 44 _ _ rfl G4 (lsC (lm s)) rfl rfl 44 _ (HN.out.k (G4, 44, [0, 0, 0, 0, 0]) (.head _)) (by rw [size44, lsC_size, lm_length]) (by rw [lsC_size, lsC_size, lm_length]; rfl) (lsC_one _) ?_
          have HN := Lib.hid (HN.out.row (fun x hx => by rcases List.mem_cons.1 hx with rfl | hx; (first | exact HNE.out | exact HNE.out.symm); exact HDG4.out x hx) HZG4.out (lm s))
          refine hK.out _ _ ⟨HN.out.sub (fun x hx => .tail _ (.tail _ (hx))), fun _ => trivial⟩ ?_
          clear hK K
          generalize World.setRow V3 G4 (lsC (lm s)) = V4 at HN ⊢
          try simp only [Act.put]
          refine anyC_keep (i := 9) (o := ⟨none, _, _, _, _, _⟩) (by kernel_rfl) rfl (fun K hK => ?_)
          rw [if_pos (by rfl)]
          have HN := Lib.hid HN.out.swap
          refine wp_store_row 44 _ _ rfl G5 (lsC (lm m)) rfl rfl 44 _ (HN.out.k (G5, 44, [0, 0, 0, 0, 0]) (.head _)) (by rw [size44, lsC_size, lm_length]) (by rw [lsC_size, lsC_size, lm_length]; rfl) (lsC_one _) ?_
          have HN := Lib.hid (HN.out.row (fun x hx => by rcases List.mem_cons.1 hx with rfl | hx; (first | exact HNE.out | exact HNE.out.symm); exact HDG5.out x hx) HZG5.out (lm m))
          refine hK.out _ _ ⟨HN.out.sub (fun x hx => .tail _ (.tail _ (hx))), fun _ => trivial⟩ ?_
          clear hK K
          generalize World.setRow V4 G5 (lsC (lm m)) = V5 at HN ⊢
          try simp only [Act.put]
          refine anyC_done (by kernel_rfl) ?_ _
          go_wp2_with fail
          go_meet
          exact ⟨G4, G5, rfl, rfl, HN⟩
      · rw [if_pos (by rfl)]
        have hn := HN.out.new
        go_wp2_with fail
        generalize World.alloc W0 Z5o = V0 at hn ⊢
        generalize Array.size (World.heap W0) = G5 at hn ⊢
        have HZG5 := Lib.hid hn.2.2
        have HDG5 : Hid (∀ x ∈ [(G3, 44, L3), (G2, 44, L2), (g, 72, ST a b c d u)], x.1 ≠ G5) := Lib.hid (fun x hx => hn.2.1 x (hx))
        have HN := Lib.hid hn.1
        refine hK.out _ _ ⟨HN.out.sub (fun x hx => .tail _ (hx)), fun _ => trivial⟩ ?_
        clear hK K hn
        try simp only [Act.put, List.setIfInBounds_toArray, List.set_cons_zero, List.set_cons_succ]
        refine anyC_keep2 (i := 2) (o1 := ⟨some 35, _, _, _, _, _⟩) (j := 6) (o2 := ⟨some 4, _, _, _, _, _⟩) (by kernel_rfl) rfl rfl (fun K hK => ?_) (fun K hK => ?_)
        · rw [if_pos (by rfl)]
          go_wp2_with fail
          (with_reducible refine (HT1.out _).mono ?_)
          rintro e V1 ⟨rfl, hb⟩
          have HN := Lib.hid (HN.out.below hb)
          refine hK.out _ _ ⟨HN.out.sub (fun x hx => .tail _ (hx)), fun _ => trivial⟩ ?_
          clear hK K hb
          try simp only [Act.put, List.setIfInBounds_toArray, List.set_cons_zero, List.set_cons_succ]
          refine anyC_keep2 (i := 5) (o1 := ⟨some 38, _, _, _, _, _⟩) (j := 6) (o2 := ⟨some 4, _, _, _, _, _⟩) (by kernel_rfl) rfl rfl (fun K hK => ?_) (fun K hK => ?_)
          · rw [if_pos (by rfl)]
            go_wp2_with fail
            (with_reducible refine (HT2.out _).mono ?_)
            rintro e V2 ⟨rfl, hb⟩
            have HN := Lib.hid (HN.out.below hb)
            refine hK.out _ _ ⟨HN.out.sub (fun x hx => .tail _ (hx)), fun _ => trivial⟩ ?_
            clear hK K hb
            try simp only [Act.put, List.setIfInBounds_toArray, List.set_cons_zero, List.set_cons_succ]
            refine anyC_keep (i := 6) (o := ⟨some 4, _, _, _, _, _⟩) (by kernel_rfl) rfl (fun K hK => ?_)
            rw [if_pos (by rfl)]
            have hn := HN.out.new
            go_wp2_with fail
            generalize World.alloc V2 Z5o = V3 at hn ⊢
            generalize Array.size (World.heap V2) = G4 at hn ⊢
            have HZG4 := Lib.hid hn.2.2
            have HDG4 : Hid (∀ x ∈ [(G3, 44, L3), (G2, 44, L2), (g, 72, ST a b c d u)], x.1 ≠ G4) := Lib.hid (fun x hx => hn.2.1 x (.tail _ (hx)))
            have HNE : Hid (G5 ≠ G4) := Lib.hid (hn.2.1 _ (.head _))
            have HN := Lib.hid hn.1
            refine hK.out _ _ ⟨HN.out.sub (fun x hx => .tail _ (.tail _ (hx))), fun _ => trivial⟩ ?_
            clear hK K hn
            try simp only [Act.put, List.setIfInBounds_toArray, List.set_cons_zero, List.set_cons_succ]
            refine anyC_keep (i := 8) (o := ⟨none, _, _, _, _, _⟩) (by kernel_rfl) rfl (fun K hK => ?_)
            rw [if_pos (by rfl)]
            refine wp_store_row 44 _ _ rfl G4 (lsC (lm s)) rfl rfl 44 _ (HN.out.k (G4, 44, [0, 0, 0, 0, 0]) (.head _)) (by rw [size44, lsC_size, lm_length]) (by rw [lsC_size, lsC_size, lm_length]; rfl) (lsC_one _) ?_
            have HN := Lib.hid (HN.out.row (fun x hx => by rcases List.mem_cons.1 hx with rfl | hx; (first | exact HNE.out | exact HNE.out.symm); exact HDG4.out x hx) HZG4.out (lm s))
            refine hK.out _ _ ⟨HN.out.sub (fun x hx => .tail _ (.tail _ (hx))), fun _ => trivial⟩ ?_
            clear hK K
            generalize World.setRow V3 G4 (lsC (lm s)) = V4 at HN ⊢
            try simp only [Act.put]
            refine anyC_keep (i := 9) (o := ⟨none, _, _, _, _, _⟩) (by kernel_rfl) rfl (fun K hK => ?_)
            rw [if_pos (by rfl)]
            have HN := Lib.hid HN.out.swap
            refine wp_store_row 44 _ _ rfl G5 (lsC (lm m)) rfl rfl 44 _ (HN.out.k (G5, 44, [0, 0, 0, 0, 0]) (.head _)) (by rw [size44, lsC_size, lm_length]) (by rw [lsC_size, lsC_size, lm_length]; rfl) (lsC_one _) ?_
            have HN := Lib.hid (HN.out.row (fun x hx => by rcases List.mem_cons.1 hx with rfl | hx; (first | exact HNE.out | exact HNE.out.symm); exact HDG5.out x hx) HZG5.out (lm m))
            refine hK.out _ _ ⟨HN.out.sub (fun x hx => .tail _ (.tail _ (hx))), fun _ => trivial⟩ ?_
            clear hK K
            generalize World.setRow V4 G5 (lsC (lm m)) = V5 at HN ⊢
            try simp only [Act.put]
            refine anyC_done (by kernel_rfl) ?_ _
            go_wp2_with fail
            go_meet
            exact ⟨G4, G5, rfl, rfl, HN⟩
          · rw [if_pos (by rfl)]
            have hn := HN.out.new
            go_wp2_with fail
            generalize World.alloc V1 Z5o = V2 at hn ⊢
            generalize Array.size (World.heap V1) = G4 at hn ⊢
            have HZG4 := Lib.hid hn.2.2
            have HDG4 : Hid (∀ x ∈ [(G3, 44, L3), (G2, 44, L2), (g, 72, ST a b c d u)], x.1 ≠ G4) := Lib.hid (fun x hx => hn.2.1 x (.tail _ (hx)))
            have HNE : Hid (G5 ≠ G4) := Lib.hid (hn.2.1 _ (.head _))
            have HN := Lib.hid hn.1
            refine hK.out _ _ ⟨HN.out.sub (fun x hx => .tail _ (.tail _ (hx))), fun _ => trivial⟩ ?_
            clear hK K hn
            try simp only [Act.put, List.setIfInBounds_toArray, List.set_cons_zero, List.set_cons_succ]
            refine anyC_keep (i := 5) (o := ⟨some 38, _, _, _, _, _⟩) (by kernel_rfl) rfl (fun K hK => ?_)
            rw [if_pos (by rfl)]
            go_wp2_with fail
            (with_reducible refine (HT2.out _).mono ?_)
            rintro e V3 ⟨rfl, hb⟩
            have HN := Lib.hid (HN.out.below hb)
            refine hK.out _ _ ⟨HN.out.sub (fun x hx => .tail _ (.tail _ (hx))), fun _ => trivial⟩ ?_
            clear hK K hb
            try simp only [Act.put, List.setIfInBounds_toArray, List.set_cons_zero, List.set_cons_succ]
            refine anyC_keep (i := 8) (o := ⟨none, _, _, _, _, _⟩) (by kernel_rfl) rfl (fun K hK => ?_)
            rw [if_pos (by rfl)]
            refine wp_store_row 44 _ _ rfl G4 (lsC (lm s)) rfl rfl 44 _ (HN.out.k (G4, 44, [0, 0, 0, 0, 0]) (.head _)) (by rw [size44, lsC_size, lm_length]) (by rw [lsC_size, lsC_size, lm_length]; rfl) (lsC_one _) ?_
            have HN := Lib.hid (HN.out.row (fun x hx => by rcases List.mem_cons.1 hx with rfl | hx; (first | exact HNE.out | exact HNE.out.symm); exact HDG4.out x hx) HZG4.out (lm s))
            refine hK.out _ _ ⟨HN.out.sub (fun x hx => .tail _ (.tail _ (hx))), fun _ => trivial⟩ ?_
            clear hK K
            generalize World.setRow V3 G4 (lsC (lm s)) = V4 at HN ⊢
            try simp only [Act.put]
            refine anyC_keep (i := 9) (o := ⟨none, _, _, _, _, _⟩) (by kernel_rfl) rfl (fun K hK => ?_)
            rw [if_pos (by rfl)]
            have HN := Lib.hid HN.out.swap
            refine wp_store_row 44 _ _ rfl G5 (lsC (lm m)) rfl rfl 44 _ (HN.out.k (G5, 44, [0, 0, 0, 0, 0]) (.head _)) (by rw [size44, lsC_size, lm_length]) (by rw [lsC_size, lsC_size, lm_length]; rfl) (lsC_one _) ?_
            have HN := Lib.hid (HN.out.row (fun x hx => by rcases List.mem_cons.1 hx with rfl | hx; (first | exact HNE.out | exact HNE.out.symm); exact HDG5.out x hx) HZG5.out (lm m))
            refine hK.out _ _ ⟨HN.out.sub (fun x hx => .tail _ (.tail _ (hx))), fun _ => trivial⟩ ?_
            clear hK K
            generalize World.setRow V4 G5 (lsC (lm m)) = V5 at HN ⊢
            try simp only [Act.put]
            refine anyC_done (by kernel_rfl) ?_ _
            go_wp2_with fail
            go_meet
            exact ⟨G4, G5, rfl, rfl, HN⟩
        · rw [if_pos (by rfl)]
          have hn := HN.out.new
          go_wp2_with fail
          generalize World.alloc V0 Z5o = V1 at hn ⊢
          generalize Array.size (World.heap V0) = G4 at hn ⊢
          have HZG4 := Lib.hid hn.2.2
          have HDG4 : Hid (∀ x ∈ [(G3, 44, L3), (G2, 44, L2), (g, 72, ST a b c d u)], x.1 ≠ G4) := Lib.hid (fun x hx => hn.2.1 x (.tail _ (hx)))
          have HNE : Hid (G5 ≠ G4) := Lib.hid (hn.2.1 _ (.head _))
          have HN := Lib.hid hn.1
          refine hK.out _ _ ⟨HN.out.sub (fun x hx => .tail _ (.tail _ (hx))), fun _ => trivial⟩ ?_
          clear hK K hn
          try simp only [Act.put, List.setIfInBounds_toArray, List.set_cons_zero, List.set_cons_succ]
          refine anyC_keep (i := 2) (o := ⟨some 35, _, _, _, _, _⟩) (by kernel_rfl) rfl (fun K hK => ?_)
          rw [if_pos (by rfl)]
          go_wp2_with fail
          (with_reducible refine (HT1.out _).mono ?_)
          rintro e V2 ⟨rfl, hb⟩
          have HN := Lib.hid (HN.out.below hb)
          refine hK.out _ _ ⟨HN.out.sub (fun x hx => .tail _ (.tail _ (hx))), fun _ => trivial⟩ ?_
          clear hK K hb
          try simp only [Act.put, List.setIfInBounds_toArray, List.set_cons_zero, List.set_cons_succ]
          refine anyC_keep (i := 5) (o := ⟨some 38, _, _, _, _, _⟩) (by kernel_rfl) rfl (fun K hK => ?_)
          rw [if_pos (by rfl)]
          go_wp2_with fail
          (with_reducible refine (HT2.out _).mono ?_)
          rintro e V3 ⟨rfl, hb⟩
          have HN := Lib.hid (HN.out.below hb)
          refine hK.out _ _ ⟨HN.out.sub (fun x hx => .tail _ (.tail _ (hx))), fun _ => trivial⟩ ?_
          clear hK K hb
          try simp only [Act.put, List.setIfInBounds_toArray, List.set_cons_zero, List.set_cons_succ]
          refine anyC_keep (i := 8) (o := ⟨none, _, _, _, _, _⟩) (by kernel_rfl) rfl (fun K hK => ?_)
          rw [if_pos (by rfl)]
          refine wp_store_row 44 _ _ rfl G4 (lsC (lm s)) rfl rfl 44 _ (HN.out.k (G4, 44, [0, 0, 0, 0, 0]) (.head _)) (by rw [size44, lsC_size, lm_length]) (by rw [lsC_size, lsC_size, lm_length]; rfl) (lsC_one _) ?_
          have HN := Lib.hid (HN.out.row (fun x hx => by rcases List.mem_cons.1 hx with rfl | hx; (first | exact HNE.out | exact HNE.out.symm); exact HDG4.out x hx) HZG4.out (lm s))
          refine hK.out _ _ ⟨HN.out.sub (fun x hx => .tail _ (.tail _ (hx))), fun _ => trivial⟩ ?_
          clear hK K
          generalize World.setRow V3 G4 (lsC (lm s)) = V4 at HN ⊢
          try simp only [Act.put]
          refine anyC_keep (i := 9) (o := ⟨none, _, _, _, _, _⟩) (by kernel_rfl) rfl (fun K hK => ?_)
          rw [if_pos (by rfl)]
          have HN := Lib.hid HN.out.swap
          refine wp_store_row 44 _ _ rfl G5 (lsC (lm m)) rfl rfl 44 _ (HN.out.k (G5, 44, [0, 0, 0, 0, 0]) (.head _)) (by rw [size44, lsC_size, lm_length]) (by rw [lsC_size, lsC_size, lm_length]; rfl) (lsC_one _) ?_
          have HN := Lib.hid (HN.out.row (fun x hx => by rcases List.mem_cons.1 hx with rfl | hx; (first | exact HNE.out | exact HNE.out.symm); exact HDG5.out x hx) HZG5.out (lm m))
          refine hK.out _ _ ⟨HN.out.sub (fun x hx => .tail _ (.tail _ (hx))), fun _ => trivial⟩ ?_
          clear hK K
          generalize World.setRow V4 G5 (lsC (lm m)) = V5 at HN ⊢
          try simp only [Act.put]
          refine anyC_done (by kernel_rfl) ?_ _
          go_wp2_with fail
          go_meet
          exact ⟨G4, G5, rfl, rfl, HN⟩
    case rest =>
      obtain ⟨G4, G5, rfl, rfl, HN⟩ := hcut
      clear HT1 HT2
      have HMS := Lib.hid (show s < pC ∧ m < pC from ⟨by rw [← HS.out.1]; exact muN_lt _ _, by rw [← HS.out.2]; exact muN_lt _ _⟩)
      go_upto_region 2 with fail
      go_cut [6] (fun a6 wx => ∃ G6 L6, a6 = .pointer (some ⟨G6, 0, none⟩) ∧ Hid (Lb L6 (sbN s m)) ∧ Hid (Sk g w [(G6, 44, L6), (G5, 44, lm m), (G4, 44, lm s), (G3, 44, L3), (G2, 44, L2), (g, 72, ST a b c d u)] wx))
      case first =>
        go_wp2_with (first | (refine wpList_load_row rfl 44 _ rfl G4 rfl 44 (lsC (lm s)) (0, 0) _ (HN.out.k (G4, 44, lm s) (.tail _ (.head _))) Tryd.underlying44 rfl (by rw [size44, lsC_size, lm_length]) ?_) | (refine wpList_load_row rfl 44 _ rfl G5 rfl 44 (lsC (lm m)) (0, 0) _ (HN.out.k (G5, 44, lm m) (.head _)) Tryd.underlying44 rfl (by rw [size44, lsC_size, lm_length]) ?_))
        (with_reducible refine (minus_rel s m HMS.out.1 HMS.out.2 _).mono ?_)
        rintro e V0 ⟨L6, rfl, hL, hb⟩
        have HL6 := Lib.hid hL
        have HN := Lib.hid (HN.out.below hb)
        have hn := HN.out.new
        clear hL hb
        go_wp2_with (refine wpList_store_row rfl 44 _ _ rfl V0.heap.size (lsC L6) rfl rfl 44 _ (hn.1.k (V0.heap.size, 44, [0, 0, 0, 0, 0]) (.head _)) (by rw [size44, lsC_size, HL6.out.1]) (by rw [lsC_size, lsC_size, HL6.out.1]; rfl) (lsC_one _) ?_)
        have HN := Lib.hid (hn.1.row hn.2.1 hn.2.2 L6)
        clear hn
        go_meet
        exact ⟨V0.heap.size, L6, rfl, HL6, HN⟩
      case rest =>
        obtain ⟨G6, L6, rfl, HL6, HN⟩ := hcut
        go_upto_region 3 with fail
        go_cut [7] (fun a7 wx => ∃ G7, a7 = .pointer (some ⟨G7, 0, none⟩) ∧ Hid (Sk g w [(G7, 44, lm (muN (sbN c d) (a + b))), (G6, 44, L6), (G5, 44, lm m), (G4, 44, lm s), (G3, 44, L3), (G2, 44, L2), (g, 72, ST a b c d u)] wx))
        case first =>
          go_wp2_with fail
          refine region_anyC (fun w' => Sk g w [(G6, 44, L6), (G5, 44, (lm m)), (G4, 44, (lm s)), (G3, 44, L3), (G2, 44, L2), (g, 72, ST a b c d u)] w') (fun _ => True) [] (by kernel_rfl) ?_
          have HN := Lib.hid HN.out.drew
          generalize World.drew wc = W0 at HN ⊢
          refine anyC_takeS (i := 0) (oi := ⟨some 42, _, _, _, _, _⟩) (v := _) rfl (by kernel_rfl) (by kernel_rfl) (by kernel_rfl) (by kernel_rfl) (fun _ _ _ h => h) (Or.inl ⟨by rfl, fun w' hw' => (by clear hw'; go_simp; try with_reducible rfl)⟩) (HN.out) (fun _ => trivial) ?_
          try simp only [Act.put, List.setIfInBounds_toArray, List.set_cons_zero, List.set_cons_succ]
          refine anyC_takeS (i := 1) (oi := ⟨some 43, _, _, _, _, _⟩) (v := _) rfl (by kernel_rfl) (by kernel_rfl) (by kernel_rfl) (by kernel_rfl) (fun _ _ _ h => h) (Or.inl ⟨by rfl, fun w' hw' => (by clear hw'; go_simp; try with_reducible rfl)⟩) (HN.out) (fun _ => trivial) ?_
          try simp only [Act.put, List.setIfInBounds_toArray, List.set_cons_zero, List.set_cons_succ]
          refine anyC_takeS (i := 2) (oi := ⟨some 44, _, _, _, _, _⟩) (v := _) rfl (by kernel_rfl) (by kernel_rfl) (by kernel_rfl) (by kernel_rfl) (fun _ _ _ h => h) (Or.inl ⟨by rfl, fun w' hw' => (by clear hw'; go_simp; try with_reducible rfl)⟩) (HN.out) (fun _ => trivial) ?_
          try simp only [Act.put, List.setIfInBounds_toArray, List.set_cons_zero, List.set_cons_succ]
          refine anyC_takeS (i := 3) (oi := ⟨some 45, _, _, _, _, _⟩) (v := _) rfl (by kernel_rfl) (by kernel_rfl) (by kernel_rfl) (by kernel_rfl) (fun _ _ _ h => h) (Or.inl ⟨by rfl, fun w' hw' => (by clear hw'; go_simp; try with_reducible rfl)⟩) (HN.out) (fun _ => trivial) ?_
          try simp only [Act.put, List.setIfInBounds_toArray, List.set_cons_zero, List.set_cons_succ]
          refine anyC_takeS (i := 4) (oi := ⟨some 46, _, _, _, _, _⟩) (v := .agg (lsC (lm c))) rfl (by kernel_rfl) (by kernel_rfl) (by kernel_rfl) (by kernel_rfl) (fun _ _ _ h => h) (yieldsIf_load_mid (by rfl) 44 _ rfl g 10 rfl ((lm c).map ld) _ (fun w' hw' => st_c (hw'.k (g, 72, ST a b c d u) (.tail _ (.tail _ (.tail _ (.tail _ (.tail _ (.head _)))))))) Tryd.underlying44 rfl (by rw [size44, lmap_len])) (HN.out) (fun _ => trivial) ?_
          try simp only [Act.put, List.setIfInBounds_toArray, List.set_cons_zero, List.set_cons_succ]
          refine anyC_takeS (i := 5) (oi := ⟨some 47, _, _, _, _, _⟩) (v := _) rfl (by kernel_rfl) (by kernel_rfl) (by kernel_rfl) (by kernel_rfl) (fun _ _ _ h => h) (Or.inl ⟨by rfl, fun w' hw' => (by clear hw'; go_simp; try with_reducible rfl)⟩) (HN.out) (fun _ => trivial) ?_
          try simp only [Act.put, List.setIfInBounds_toArray, List.set_cons_zero, List.set_cons_succ]
          refine anyC_takeS (i := 6) (oi := ⟨some 48, _, _, _, _, _⟩) (v := _) rfl (by kernel_rfl) (by kernel_rfl) (by kernel_rfl) (by kernel_rfl) (fun _ _ _ h => h) (Or.inl ⟨by rfl, fun w' hw' => (by clear hw'; go_simp; try with_reducible rfl)⟩) (HN.out) (fun _ => trivial) ?_
          try simp only [Act.put, List.setIfInBounds_toArray, List.set_cons_zero, List.set_cons_succ]
          refine anyC_takeS (i := 7) (oi := ⟨some 49, _, _, _, _, _⟩) (v := _) rfl (by kernel_rfl) (by kernel_rfl) (by kernel_rfl) (by kernel_rfl) (fun _ _ _ h => h) (Or.inl ⟨by rfl, fun w' hw' => (by clear hw'; go_simp; try with_reducible rfl)⟩) (HN.out) (fun _ => trivial) ?_
          try simp only [Act.put, List.setIfInBounds_toArray, List.set_cons_zero, List.set_cons_succ]
          refine anyC_takeS (i := 8) (oi := ⟨some 50, _, _, _, _, _⟩) (v := _) rfl (by kernel_rfl) (by kernel_rfl) (by kernel_rfl) (by kernel_rfl) (fun _ _ _ h => h) (Or.inl ⟨by rfl, fun w' hw' => (by clear hw'; go_simp; try with_reducible rfl)⟩) (HN.out) (fun _ => trivial) ?_
          try simp only [Act.put, List.setIfInBounds_toArray, List.set_cons_zero, List.set_cons_succ]
          refine anyC_takeS (i := 9) (oi := ⟨some 51, _, _, _, _, _⟩) (v := .agg (lsC (lm d))) rfl (by kernel_rfl) (by kernel_rfl) (by kernel_rfl) (by kernel_rfl) (fun _ _ _ h => h) (yieldsIf_load_mid (by rfl) 44 _ rfl g 15 rfl ((lm d).map ld) _ (fun w' hw' => st_d (hw'.k (g, 72, ST a b c d u) (.tail _ (.tail _ (.tail _ (.tail _ (.tail _ (.head _)))))))) Tryd.underlying44 rfl (by rw [size44, lmap_len])) (HN.out) (fun _ => trivial) ?_
          try simp only [Act.put, List.setIfInBounds_toArray, List.set_cons_zero, List.set_cons_succ]
          refine anyC_takeS (i := 11) (oi := ⟨some 53, _, _, _, _, _⟩) (v := .agg (lsC L2)) rfl (by kernel_rfl) (by kernel_rfl) (by kernel_rfl) (by kernel_rfl) (fun _ _ _ h => h) (yieldsIf_load_mid (by rfl) 44 _ rfl G2 0 rfl (L2.map ld) _ (fun w' hw' => rangeL [] L2 [] (by have h := hw'.k (G2, 44, L2) (.tail _ (.tail _ (.tail _ (.tail _ (.head _))))); rw [List.append_nil]; exact h)) Tryd.underlying44 rfl (by rw [size44, List.length_map, HL2.out.1])) (HN.out) (fun _ => trivial) ?_
          try simp only [Act.put, List.setIfInBounds_toArray, List.set_cons_zero, List.set_cons_succ]
          refine anyC_keep2 (i := 10) (o1 := ⟨some 52, _, _, _, _, _⟩) (j := 13) (o2 := ⟨some 7, _, _, _, _, _⟩) (by kernel_rfl) rfl rfl (fun K hK => ?_) (fun K hK => ?_)
          · rw [if_pos (by rfl)]
            go_wp2_with fail
            (with_reducible refine (minus_rel c d HP.out.2.2.1 HP.out.2.2.2.1 _).mono ?_)
            rintro e V0 ⟨L7, rfl, hL, hb⟩
            have HL7 := Lib.hid hL
            clear hL
            have HN := Lib.hid (HN.out.below hb)
            refine hK.out _ _ ⟨HN.out, fun _ => trivial⟩ ?_
            clear hK K hb
            try simp only [Act.put, List.setIfInBounds_toArray, List.set_cons_zero, List.set_cons_succ]
            refine anyC_keep2 (i := 12) (o1 := ⟨some 54, _, _, _, _, _⟩) (j := 13) (o2 := ⟨some 7, _, _, _, _, _⟩) (by kernel_rfl) rfl rfl (fun K hK => ?_) (fun K hK => ?_)
            · rw [if_pos (by rfl)]
              go_wp2_with fail
              (with_reducible refine (times_rel HL7.out HL2.out _).mono ?_)
              rintro e V1 ⟨rfl, hb⟩
              have HN := Lib.hid (HN.out.below hb)
              refine hK.out _ _ ⟨HN.out, fun _ => trivial⟩ ?_
              clear hK K hb
              try simp only [Act.put, List.setIfInBounds_toArray, List.set_cons_zero, List.set_cons_succ]
              refine anyC_keep (i := 13) (o := ⟨some 7, _, _, _, _, _⟩) (by kernel_rfl) rfl (fun K hK => ?_)
              rw [if_pos (by rfl)]
              have hn := HN.out.new
              go_wp2_with fail
              generalize World.alloc V1 Z5o = V2 at hn ⊢
              generalize Array.size (World.heap V1) = G7 at hn ⊢
              have HZG7 := Lib.hid hn.2.2
              have HDG7 : Hid (∀ x ∈ [(G6, 44, L6), (G5, 44, (lm m)), (G4, 44, (lm s)), (G3, 44, L3), (G2, 44, L2), (g, 72, ST a b c d u)], x.1 ≠ G7) := Lib.hid (fun x hx => hn.2.1 x (hx))
              have HN := Lib.hid hn.1
              refine hK.out _ _ ⟨HN.out.sub (fun x hx => .tail _ (hx)), fun _ => trivial⟩ ?_
              clear hK K hn
              try simp only [Act.put, List.setIfInBounds_toArray, List.set_cons_zero, List.set_cons_succ]
              refine anyC_keep (i := 14) (o := ⟨none, _, _, _, _, _⟩) (by kernel_rfl) rfl (fun K hK => ?_)
              rw [if_pos (by rfl)]
              refine wp_store_row 44 _ _ rfl G7 (lsC (lm (muN (sbN c d) (a + b)))) rfl rfl 44 _ (HN.out.k (G7, 44, [0, 0, 0, 0, 0]) (.head _)) (by rw [size44, lsC_size, lm_length]) (by rw [lsC_size, lsC_size, lm_length]; rfl) (lsC_one _) ?_
              have HN := Lib.hid (HN.out.row HDG7.out HZG7.out (lm (muN (sbN c d) (a + b))))
              refine hK.out _ _ ⟨HN.out.sub (fun x hx => .tail _ (hx)), fun _ => trivial⟩ ?_
              clear hK K
              generalize World.setRow V2 G7 (lsC (lm (muN (sbN c d) (a + b)))) = V3 at HN ⊢
              try simp only [Act.put]
              refine anyC_done (by kernel_rfl) ?_ _
              go_wp2_with fail
              go_meet
              exact ⟨G7, rfl, HN⟩
            · rw [if_pos (by rfl)]
              have hn := HN.out.new
              go_wp2_with fail
              generalize World.alloc V0 Z5o = V1 at hn ⊢
              generalize Array.size (World.heap V0) = G7 at hn ⊢
              have HZG7 := Lib.hid hn.2.2
              have HDG7 : Hid (∀ x ∈ [(G6, 44, L6), (G5, 44, (lm m)), (G4, 44, (lm s)), (G3, 44, L3), (G2, 44, L2), (g, 72, ST a b c d u)], x.1 ≠ G7) := Lib.hid (fun x hx => hn.2.1 x (hx))
              have HN := Lib.hid hn.1
              refine hK.out _ _ ⟨HN.out.sub (fun x hx => .tail _ (hx)), fun _ => trivial⟩ ?_
              clear hK K hn
              try simp only [Act.put, List.setIfInBounds_toArray, List.set_cons_zero, List.set_cons_succ]
              refine anyC_keep (i := 12) (o := ⟨some 54, _, _, _, _, _⟩) (by kernel_rfl) rfl (fun K hK => ?_)
              rw [if_pos (by rfl)]
              go_wp2_with fail
              (with_reducible refine (times_rel HL7.out HL2.out _).mono ?_)
              rintro e V2 ⟨rfl, hb⟩
              have HN := Lib.hid (HN.out.below hb)
              refine hK.out _ _ ⟨HN.out.sub (fun x hx => .tail _ (hx)), fun _ => trivial⟩ ?_
              clear hK K hb
              try simp only [Act.put, List.setIfInBounds_toArray, List.set_cons_zero, List.set_cons_succ]
              refine anyC_keep (i := 14) (o := ⟨none, _, _, _, _, _⟩) (by kernel_rfl) rfl (fun K hK => ?_)
              rw [if_pos (by rfl)]
              refine wp_store_row 44 _ _ rfl G7 (lsC (lm (muN (sbN c d) (a + b)))) rfl rfl 44 _ (HN.out.k (G7, 44, [0, 0, 0, 0, 0]) (.head _)) (by rw [size44, lsC_size, lm_length]) (by rw [lsC_size, lsC_size, lm_length]; rfl) (lsC_one _) ?_
              have HN := Lib.hid (HN.out.row HDG7.out HZG7.out (lm (muN (sbN c d) (a + b))))
              refine hK.out _ _ ⟨HN.out.sub (fun x hx => .tail _ (hx)), fun _ => trivial⟩ ?_
              clear hK K
              generalize World.setRow V2 G7 (lsC (lm (muN (sbN c d) (a + b)))) = V3 at HN ⊢
              try simp only [Act.put]
              refine anyC_done (by kernel_rfl) ?_ _
              go_wp2_with fail
              go_meet
              exact ⟨G7, rfl, HN⟩
          · rw [if_pos (by rfl)]
            have hn := HN.out.new
            go_wp2_with fail
            generalize World.alloc W0 Z5o = V0 at hn ⊢
            generalize Array.size (World.heap W0) = G7 at hn ⊢
            have HZG7 := Lib.hid hn.2.2
            have HDG7 : Hid (∀ x ∈ [(G6, 44, L6), (G5, 44, (lm m)), (G4, 44, (lm s)), (G3, 44, L3), (G2, 44, L2), (g, 72, ST a b c d u)], x.1 ≠ G7) := Lib.hid (fun x hx => hn.2.1 x (hx))
            have HN := Lib.hid hn.1
            refine hK.out _ _ ⟨HN.out.sub (fun x hx => .tail _ (hx)), fun _ => trivial⟩ ?_
            clear hK K hn
            try simp only [Act.put, List.setIfInBounds_toArray, List.set_cons_zero, List.set_cons_succ]
            refine anyC_keep (i := 10) (o := ⟨some 52, _, _, _, _, _⟩) (by kernel_rfl) rfl (fun K hK => ?_)
            rw [if_pos (by rfl)]
            go_wp2_with fail
            (with_reducible refine (minus_rel c d HP.out.2.2.1 HP.out.2.2.2.1 _).mono ?_)
            rintro e V1 ⟨L7, rfl, hL, hb⟩
            have HL7 := Lib.hid hL
            clear hL
            have HN := Lib.hid (HN.out.below hb)
            refine hK.out _ _ ⟨HN.out.sub (fun x hx => .tail _ (hx)), fun _ => trivial⟩ ?_
            clear hK K hb
            try simp only [Act.put, List.setIfInBounds_toArray, List.set_cons_zero, List.set_cons_succ]
            refine anyC_keep (i := 12) (o := ⟨some 54, _, _, _, _, _⟩) (by kernel_rfl) rfl (fun K hK => ?_)
            rw [if_pos (by rfl)]
            go_wp2_with fail
            (with_reducible refine (times_rel HL7.out HL2.out _).mono ?_)
            rintro e V2 ⟨rfl, hb⟩
            have HN := Lib.hid (HN.out.below hb)
            refine hK.out _ _ ⟨HN.out.sub (fun x hx => .tail _ (hx)), fun _ => trivial⟩ ?_
            clear hK K hb
            try simp only [Act.put, List.setIfInBounds_toArray, List.set_cons_zero, List.set_cons_succ]
            refine anyC_keep (i := 14) (o := ⟨none, _, _, _, _, _⟩) (by kernel_rfl) rfl (fun K hK => ?_)
            rw [if_pos (by rfl)]
            refine wp_store_row 44 _ _ rfl G7 (lsC (lm (muN (sbN c d) (a + b)))) rfl rfl 44 _ (HN.out.k (G7, 44, [0, 0, 0, 0, 0]) (.head _)) (by rw [size44, lsC_size, lm_length]) (by rw [lsC_size, lsC_size, lm_length]; rfl) (lsC_one _) ?_
            have HN := Lib.hid (HN.out.row HDG7.out HZG7.out (lm (muN (sbN c d) (a + b))))
            refine hK.out _ _ ⟨HN.out.sub (fun x hx => .tail _ (hx)), fun _ => trivial⟩ ?_
            clear hK K
            generalize World.setRow V2 G7 (lsC (lm (muN (sbN c d) (a + b)))) = V3 at HN ⊢
            try simp only [Act.put]
            refine anyC_done (by kernel_rfl) ?_ _
            go_wp2_with fail
            go_meet
            exact ⟨G7, rfl, HN⟩
        case rest =>
          obtain ⟨G7, rfl, HN⟩ := hcut
          obtain ⟨f, hf⟩ : ∃ f, muN (sbN c d) (a + b) = f := ⟨_, rfl⟩
          rw [hf] at HN
          have HF := Lib.hid (And.intro hf (show f < pC by rw [← hf]; exact muN_lt _ _))
          clear hf
          go_upto_region 4 with fail
          go_cut [8] (fun a8 wx => ∃ G8, a8 = .pointer (some ⟨G8, 0, none⟩) ∧ Hid (Sk g w [(G8, 44, lm (muN (c + d) (sbN a b))), (G7, 44, lm f), (G6, 44, L6), (G5, 44, lm m), (G4, 44, lm s), (G3, 44, L3), (G2, 44, L2), (g, 72, ST a b c d u)] wx))
          case first =>
            go_wp2_with fail
            refine region_anyC (fun w' => Sk g w [(G7, 44, (lm f)), (G6, 44, L6), (G5, 44, (lm m)), (G4, 44, (lm s)), (G3, 44, L3), (G2, 44, L2), (g, 72, ST a b c d u)] w') (fun _ => True) [] (by kernel_rfl) ?_
            have HN := Lib.hid HN.out.drew
            generalize World.drew wc = W0 at HN ⊢
            refine anyC_takeS (i := 0) (oi := ⟨some 55, _, _, _, _, _⟩) (v := _) rfl (by kernel_rfl) (by kernel_rfl) (by kernel_rfl) (by kernel_rfl) (fun _ _ _ h => h) (Or.inl ⟨by rfl, fun w' hw' => (by clear hw'; go_simp; try with_reducible rfl)⟩) (HN.out) (fun _ => trivial) ?_
            try simp only [Act.put, List.setIfInBounds_toArray, List.set_cons_zero, List.set_cons_succ]
            refine anyC_takeS (i := 1) (oi := ⟨some 56, _, _, _, _, _⟩) (v := _) rfl (by kernel_rfl) (by kernel_rfl) (by kernel_rfl) (by kernel_rfl) (fun _ _ _ h => h) (Or.inl ⟨by rfl, fun w' hw' => (by clear hw'; go_simp; try with_reducible rfl)⟩) (HN.out) (fun _ => trivial) ?_
            try simp only [Act.put, List.setIfInBounds_toArray, List.set_cons_zero, List.set_cons_succ]
            refine anyC_takeS (i := 2) (oi := ⟨some 57, _, _, _, _, _⟩) (v := _) rfl (by kernel_rfl) (by kernel_rfl) (by kernel_rfl) (by kernel_rfl) (fun _ _ _ h => h) (Or.inl ⟨by rfl, fun w' hw' => (by clear hw'; go_simp; try with_reducible rfl)⟩) (HN.out) (fun _ => trivial) ?_
            try simp only [Act.put, List.setIfInBounds_toArray, List.set_cons_zero, List.set_cons_succ]
            refine anyC_takeS (i := 3) (oi := ⟨some 58, _, _, _, _, _⟩) (v := _) rfl (by kernel_rfl) (by kernel_rfl) (by kernel_rfl) (by kernel_rfl) (fun _ _ _ h => h) (Or.inl ⟨by rfl, fun w' hw' => (by clear hw'; go_simp; try with_reducible rfl)⟩) (HN.out) (fun _ => trivial) ?_
            try simp only [Act.put, List.setIfInBounds_toArray, List.set_cons_zero, List.set_cons_succ]
            refine anyC_takeS (i := 4) (oi := ⟨some 59, _, _, _, _, _⟩) (v := .agg (lsC (lm c))) rfl (by kernel_rfl) (by kernel_rfl) (by kernel_rfl) (by kernel_rfl) (fun _ _ _ h => h) (yieldsIf_load_mid (by rfl) 44 _ rfl g 10 rfl ((lm c).map ld) _ (fun w' hw' => st_c (hw'.k (g, 72, ST a b c d u) (.tail _ (.tail _ (.tail _ (.tail _ (.tail _ (.tail _ (.head _))))))))) Tryd.underlying44 rfl (by rw [size44, lmap_len])) (HN.out) (fun _ => trivial) ?_
            try simp only [Act.put, List.setIfInBounds_toArray, List.set_cons_zero, List.set_cons_succ]
            refine anyC_takeS (i := 5) (oi := ⟨some 60, _, _, _, _, _⟩) (v := _) rfl (by kernel_rfl) (by kernel_rfl) (by kernel_rfl) (by kernel_rfl) (fun _ _ _ h => h) (Or.inl ⟨by rfl, fun w' hw' => (by clear hw'; go_simp; try with_reducible rfl)⟩) (HN.out) (fun _ => trivial) ?_
            try simp only [Act.put, List.setIfInBounds_toArray, List.set_cons_zero, List.set_cons_succ]
            refine anyC_takeS (i := 6) (oi := ⟨some 61, _, _, _, _, _⟩) (v := _) rfl (by kernel_rfl) (by kernel_rfl) (by kernel_rfl) (by kernel_rfl) (fun _ _ _ h => h) (Or.inl ⟨by rfl, fun w' hw' => (by clear hw'; go_simp; try with_reducible rfl)⟩) (HN.out) (fun _ => trivial) ?_
            try simp only [Act.put, List.setIfInBounds_toArray, List.set_cons_zero, List.set_cons_succ]
            refine anyC_takeS (i := 7) (oi := ⟨some 62, _, _, _, _, _⟩) (v := _) rfl (by kernel_rfl) (by kernel_rfl) (by kernel_rfl) (by kernel_rfl) (fun _ _ _ h => h) (Or.inl ⟨by rfl, fun w' hw' => (by clear hw'; go_simp; try with_reducible rfl)⟩) (HN.out) (fun _ => trivial) ?_
            try simp only [Act.put, List.setIfInBounds_toArray, List.set_cons_zero, List.set_cons_succ]
            refine anyC_takeS (i := 8) (oi := ⟨some 63, _, _, _, _, _⟩) (v := _) rfl (by kernel_rfl) (by kernel_rfl) (by kernel_rfl) (by kernel_rfl) (fun _ _ _ h => h) (Or.inl ⟨by rfl, fun w' hw' => (by clear hw'; go_simp; try with_reducible rfl)⟩) (HN.out) (fun _ => trivial) ?_
            try simp only [Act.put, List.setIfInBounds_toArray, List.set_cons_zero, List.set_cons_succ]
            refine anyC_takeS (i := 9) (oi := ⟨some 64, _, _, _, _, _⟩) (v := .agg (lsC (lm d))) rfl (by kernel_rfl) (by kernel_rfl) (by kernel_rfl) (by kernel_rfl) (fun _ _ _ h => h) (yieldsIf_load_mid (by rfl) 44 _ rfl g 15 rfl ((lm d).map ld) _ (fun w' hw' => st_d (hw'.k (g, 72, ST a b c d u) (.tail _ (.tail _ (.tail _ (.tail _ (.tail _ (.tail _ (.head _))))))))) Tryd.underlying44 rfl (by rw [size44, lmap_len])) (HN.out) (fun _ => trivial) ?_
            try simp only [Act.put, List.setIfInBounds_toArray, List.set_cons_zero, List.set_cons_succ]
            refine anyC_takeS (i := 11) (oi := ⟨some 66, _, _, _, _, _⟩) (v := .agg (lsC L3)) rfl (by kernel_rfl) (by kernel_rfl) (by kernel_rfl) (by kernel_rfl) (fun _ _ _ h => h) (yieldsIf_load_mid (by rfl) 44 _ rfl G3 0 rfl (L3.map ld) _ (fun w' hw' => rangeL [] L3 [] (by have h := hw'.k (G3, 44, L3) (.tail _ (.tail _ (.tail _ (.tail _ (.head _))))); rw [List.append_nil]; exact h)) Tryd.underlying44 rfl (by rw [size44, List.length_map, HL3.out.1])) (HN.out) (fun _ => trivial) ?_
            try simp only [Act.put, List.setIfInBounds_toArray, List.set_cons_zero, List.set_cons_succ]
            refine anyC_keep2 (i := 10) (o1 := ⟨some 65, _, _, _, _, _⟩) (j := 13) (o2 := ⟨some 8, _, _, _, _, _⟩) (by kernel_rfl) rfl rfl (fun K hK => ?_) (fun K hK => ?_)
            · rw [if_pos (by rfl)]
              go_wp2_with fail
              (with_reducible refine (plus_rel c d HP.out.2.2.1 HP.out.2.2.2.1 _).mono ?_)
              rintro e V0 ⟨L8, rfl, hL, hb⟩
              have HL8 := Lib.hid hL
              clear hL
              have HN := Lib.hid (HN.out.below hb)
              refine hK.out _ _ ⟨HN.out, fun _ => trivial⟩ ?_
              clear hK K hb
              try simp only [Act.put, List.setIfInBounds_toArray, List.set_cons_zero, List.set_cons_succ]
              refine anyC_keep2 (i := 12) (o1 := ⟨some 67, _, _, _, _, _⟩) (j := 13) (o2 := ⟨some 8, _, _, _, _, _⟩) (by kernel_rfl) rfl rfl (fun K hK => ?_) (fun K hK => ?_)
              · rw [if_pos (by rfl)]
                go_wp2_with fail
                (with_reducible refine (times_rel HL8.out HL3.out _).mono ?_)
                rintro e V1 ⟨rfl, hb⟩
                have HN := Lib.hid (HN.out.below hb)
                refine hK.out _ _ ⟨HN.out, fun _ => trivial⟩ ?_
                clear hK K hb
                try simp only [Act.put, List.setIfInBounds_toArray, List.set_cons_zero, List.set_cons_succ]
                refine anyC_keep (i := 13) (o := ⟨some 8, _, _, _, _, _⟩) (by kernel_rfl) rfl (fun K hK => ?_)
                rw [if_pos (by rfl)]
                have hn := HN.out.new
                go_wp2_with fail
                generalize World.alloc V1 Z5o = V2 at hn ⊢
                generalize Array.size (World.heap V1) = G8 at hn ⊢
                have HZG8 := Lib.hid hn.2.2
                have HDG8 : Hid (∀ x ∈ [(G7, 44, (lm f)), (G6, 44, L6), (G5, 44, (lm m)), (G4, 44, (lm s)), (G3, 44, L3), (G2, 44, L2), (g, 72, ST a b c d u)], x.1 ≠ G8) := Lib.hid (fun x hx => hn.2.1 x (hx))
                have HN := Lib.hid hn.1
                refine hK.out _ _ ⟨HN.out.sub (fun x hx => .tail _ (hx)), fun _ => trivial⟩ ?_
                clear hK K hn
                try simp only [Act.put, List.setIfInBounds_toArray, List.set_cons_zero, List.set_cons_succ]
                refine anyC_keep (i := 14) (o := ⟨none, _, _, _, _, _⟩) (by kernel_rfl) rfl (fun K hK => ?_)
                rw [if_pos (by rfl)]
                refine wp_store_row 44 _ _ rfl G8 (lsC (lm (muN (c + d) (sbN a b)))) rfl rfl 44 _ (HN.out.k (G8, 44, [0, 0, 0, 0, 0]) (.head _)) (by rw [size44, lsC_size, lm_length]) (by rw [lsC_size, lsC_size, lm_length]; rfl) (lsC_one _) ?_
                have HN := Lib.hid (HN.out.row HDG8.out HZG8.out (lm (muN (c + d) (sbN a b))))
                refine hK.out _ _ ⟨HN.out.sub (fun x hx => .tail _ (hx)), fun _ => trivial⟩ ?_
                clear hK K
                generalize World.setRow V2 G8 (lsC (lm (muN (c + d) (sbN a b)))) = V3 at HN ⊢
                try simp only [Act.put]
                refine anyC_done (by kernel_rfl) ?_ _
                go_wp2_with fail
                go_meet
                exact ⟨G8, rfl, HN⟩
              · rw [if_pos (by rfl)]
                have hn := HN.out.new
                go_wp2_with fail
                generalize World.alloc V0 Z5o = V1 at hn ⊢
                generalize Array.size (World.heap V0) = G8 at hn ⊢
                have HZG8 := Lib.hid hn.2.2
                have HDG8 : Hid (∀ x ∈ [(G7, 44, (lm f)), (G6, 44, L6), (G5, 44, (lm m)), (G4, 44, (lm s)), (G3, 44, L3), (G2, 44, L2), (g, 72, ST a b c d u)], x.1 ≠ G8) := Lib.hid (fun x hx => hn.2.1 x (hx))
                have HN := Lib.hid hn.1
                refine hK.out _ _ ⟨HN.out.sub (fun x hx => .tail _ (hx)), fun _ => trivial⟩ ?_
                clear hK K hn
                try simp only [Act.put, List.setIfInBounds_toArray, List.set_cons_zero, List.set_cons_succ]
                refine anyC_keep (i := 12) (o := ⟨some 67, _, _, _, _, _⟩) (by kernel_rfl) rfl (fun K hK => ?_)
                rw [if_pos (by rfl)]
                go_wp2_with fail
                (with_reducible refine (times_rel HL8.out HL3.out _).mono ?_)
                rintro e V2 ⟨rfl, hb⟩
                have HN := Lib.hid (HN.out.below hb)
                refine hK.out _ _ ⟨HN.out.sub (fun x hx => .tail _ (hx)), fun _ => trivial⟩ ?_
                clear hK K hb
                try simp only [Act.put, List.setIfInBounds_toArray, List.set_cons_zero, List.set_cons_succ]
                refine anyC_keep (i := 14) (o := ⟨none, _, _, _, _, _⟩) (by kernel_rfl) rfl (fun K hK => ?_)
                rw [if_pos (by rfl)]
                refine wp_store_row 44 _ _ rfl G8 (lsC (lm (muN (c + d) (sbN a b)))) rfl rfl 44 _ (HN.out.k (G8, 44, [0, 0, 0, 0, 0]) (.head _)) (by rw [size44, lsC_size, lm_length]) (by rw [lsC_size, lsC_size, lm_length]; rfl) (lsC_one _) ?_
                have HN := Lib.hid (HN.out.row HDG8.out HZG8.out (lm (muN (c + d) (sbN a b))))
                refine hK.out _ _ ⟨HN.out.sub (fun x hx => .tail _ (hx)), fun _ => trivial⟩ ?_
                clear hK K
                generalize World.setRow V2 G8 (lsC (lm (muN (c + d) (sbN a b)))) = V3 at HN ⊢
                try simp only [Act.put]
                refine anyC_done (by kernel_rfl) ?_ _
                go_wp2_with fail
                go_meet
                exact ⟨G8, rfl, HN⟩
            · rw [if_pos (by rfl)]
              have hn := HN.out.new
              go_wp2_with fail
              generalize World.alloc W0 Z5o = V0 at hn ⊢
              generalize Array.size (World.heap W0) = G8 at hn ⊢
              have HZG8 := Lib.hid hn.2.2
              have HDG8 : Hid (∀ x ∈ [(G7, 44, (lm f)), (G6, 44, L6), (G5, 44, (lm m)), (G4, 44, (lm s)), (G3, 44, L3), (G2, 44, L2), (g, 72, ST a b c d u)], x.1 ≠ G8) := Lib.hid (fun x hx => hn.2.1 x (hx))
              have HN := Lib.hid hn.1
              refine hK.out _ _ ⟨HN.out.sub (fun x hx => .tail _ (hx)), fun _ => trivial⟩ ?_
              clear hK K hn
              try simp only [Act.put, List.setIfInBounds_toArray, List.set_cons_zero, List.set_cons_succ]
              refine anyC_keep (i := 10) (o := ⟨some 65, _, _, _, _, _⟩) (by kernel_rfl) rfl (fun K hK => ?_)
              rw [if_pos (by rfl)]
              go_wp2_with fail
              (with_reducible refine (plus_rel c d HP.out.2.2.1 HP.out.2.2.2.1 _).mono ?_)
              rintro e V1 ⟨L8, rfl, hL, hb⟩
              have HL8 := Lib.hid hL
              clear hL
              have HN := Lib.hid (HN.out.below hb)
              refine hK.out _ _ ⟨HN.out.sub (fun x hx => .tail _ (hx)), fun _ => trivial⟩ ?_
              clear hK K hb
              try simp only [Act.put, List.setIfInBounds_toArray, List.set_cons_zero, List.set_cons_succ]
              refine anyC_keep (i := 12) (o := ⟨some 67, _, _, _, _, _⟩) (by kernel_rfl) rfl (fun K hK => ?_)
              rw [if_pos (by rfl)]
              go_wp2_with fail
              (with_reducible refine (times_rel HL8.out HL3.out _).mono ?_)
              rintro e V2 ⟨rfl, hb⟩
              have HN := Lib.hid (HN.out.below hb)
              refine hK.out _ _ ⟨HN.out.sub (fun x hx => .tail _ (hx)), fun _ => trivial⟩ ?_
              clear hK K hb
              try simp only [Act.put, List.setIfInBounds_toArray, List.set_cons_zero, List.set_cons_succ]
              refine anyC_keep (i := 14) (o := ⟨none, _, _, _, _, _⟩) (by kernel_rfl) rfl (fun K hK => ?_)
              rw [if_pos (by rfl)]
              refine wp_store_row 44 _ _ rfl G8 (lsC (lm (muN (c + d) (sbN a b)))) rfl rfl 44 _ (HN.out.k (G8, 44, [0, 0, 0, 0, 0]) (.head _)) (by rw [size44, lsC_size, lm_length]) (by rw [lsC_size, lsC_size, lm_length]; rfl) (lsC_one _) ?_
              have HN := Lib.hid (HN.out.row HDG8.out HZG8.out (lm (muN (c + d) (sbN a b))))
              refine hK.out _ _ ⟨HN.out.sub (fun x hx => .tail _ (hx)), fun _ => trivial⟩ ?_
              clear hK K
              generalize World.setRow V2 G8 (lsC (lm (muN (c + d) (sbN a b)))) = V3 at HN ⊢
              try simp only [Act.put]
              refine anyC_done (by kernel_rfl) ?_ _
              go_wp2_with fail
              go_meet
              exact ⟨G8, rfl, HN⟩
          case rest =>
            obtain ⟨G8, rfl, HN⟩ := hcut
            obtain ⟨q, hq⟩ : ∃ q, muN (c + d) (sbN a b) = q := ⟨_, rfl⟩
            rw [hq] at HN
            have HQ := Lib.hid (And.intro hq (show q < pC by rw [← hq]; exact muN_lt _ _))
            clear hq
            go_upto_region 5 with fail
            go_cut [9, 10] (fun a9 a10 wx => ∃ G9 G10 L9 L10, a9 = .pointer (some ⟨G9, 0, none⟩) ∧ a10 = .pointer (some ⟨G10, 0, none⟩) ∧ Hid (Lb L9 (f + q)) ∧ Hid (Lb L10 (sbN f q)) ∧ Hid (Sk g w [(G10, 44, L10), (G9, 44, L9), (G8, 44, lm q), (G7, 44, lm f), (G6, 44, L6), (G5, 44, lm m), (G4, 44, lm s), (G3, 44, L3), (G2, 44, L2), (g, 72, ST a b c d u)] wx))
            case first =>
              go_wp2_with fail
              refine region_anyC (fun w' => Sk g w [(G8, 44, (lm q)), (G7, 44, (lm f)), (G6, 44, L6), (G5, 44, (lm m)), (G4, 44, (lm s)), (G3, 44, L3), (G2, 44, L2), (g, 72, ST a b c d u)] w') (fun _ => True) [] (by kernel_rfl) ?_
              have HN := Lib.hid HN.out.drew
              generalize World.drew wc = W0 at HN ⊢
              refine anyC_takeS (i := 0) (oi := ⟨some 68, _, _, _, _, _⟩) (v := .agg (lsC (lm f))) rfl (by kernel_rfl) (by kernel_rfl) (by kernel_rfl) (by kernel_rfl) (fun _ _ _ h => h) (yieldsIf_load_mid (by rfl) 44 _ rfl G7 0 rfl ((lm f).map ld) _ (fun w' hw' => rangeL [] (lm f) [] (by have h := hw'.k (G7, 44, (lm f)) (.tail _ (.head _)); rw [List.append_nil]; exact h)) Tryd.underlying44 rfl (by rw [size44, lmap_len])) (HN.out) (fun _ => trivial) ?_
              try simp only [Act.put, List.setIfInBounds_toArray, List.set_cons_zero, List.set_cons_succ]
              refine anyC_takeS (i := 1) (oi := ⟨some 69, _, _, _, _, _⟩) (v := .agg (lsC (lm q))) rfl (by kernel_rfl) (by kernel_rfl) (by kernel_rfl) (by kernel_rfl) (fun _ _ _ h => h) (yieldsIf_load_mid (by rfl) 44 _ rfl G8 0 rfl ((lm q).map ld) _ (fun w' hw' => rangeL [] (lm q) [] (by have h := hw'.k (G8, 44, (lm q)) (.head _); rw [List.append_nil]; exact h)) Tryd.underlying44 rfl (by rw [size44, lmap_len])) (HN.out) (fun _ => trivial) ?_
              try simp only [Act.put, List.setIfInBounds_toArray, List.set_cons_zero, List.set_cons_succ]
              refine anyC_takeS (i := 3) (oi := ⟨some 71, _, _, _, _, _⟩) (v := .agg (lsC (lm f))) rfl (by kernel_rfl) (by kernel_rfl) (by kernel_rfl) (by kernel_rfl) (fun _ _ _ h => h) (yieldsIf_load_mid (by rfl) 44 _ rfl G7 0 rfl ((lm f).map ld) _ (fun w' hw' => rangeL [] (lm f) [] (by have h := hw'.k (G7, 44, (lm f)) (.tail _ (.head _)); rw [List.append_nil]; exact h)) Tryd.underlying44 rfl (by rw [size44, lmap_len])) (HN.out) (fun _ => trivial) ?_
              try simp only [Act.put, List.setIfInBounds_toArray, List.set_cons_zero, List.set_cons_succ]
              refine anyC_takeS (i := 4) (oi := ⟨some 72, _, _, _, _, _⟩) (v := .agg (lsC (lm q))) rfl (by kernel_rfl) (by kernel_rfl) (by kernel_rfl) (by kernel_rfl) (fun _ _ _ h => h) (yieldsIf_load_mid (by rfl) 44 _ rfl G8 0 rfl ((lm q).map ld) _ (fun w' hw' => rangeL [] (lm q) [] (by have h := hw'.k (G8, 44, (lm q)) (.head _); rw [List.append_nil]; exact h)) Tryd.underlying44 rfl (by rw [size44, lmap_len])) (HN.out) (fun _ => trivial) ?_
              try simp only [Act.put, List.setIfInBounds_toArray, List.set_cons_zero, List.set_cons_succ]
              refine anyC_keep3 (i := 2) (o1 := ⟨some 70, _, _, _, _, _⟩) (j := 6) (o2 := ⟨some 9, _, _, _, _, _⟩) (k := 7) (o3 := ⟨some 10, _, _, _, _, _⟩) (by kernel_rfl) rfl rfl rfl (fun K hK => ?_) (fun K hK => ?_) (fun K hK => ?_)
              · rw [if_pos (by rfl)]
                go_wp2_with fail
                (with_reducible refine (plus_rel f q HF.out.2 HQ.out.2 _).mono ?_)
                rintro e V0 ⟨L9, rfl, hL, hb⟩
                have HL9 := Lib.hid hL
                clear hL
                have HN := Lib.hid (HN.out.below hb)
                refine hK.out _ _ ⟨HN.out, fun _ => trivial⟩ ?_
                clear hK K hb
                try simp only [Act.put, List.setIfInBounds_toArray, List.set_cons_zero, List.set_cons_succ]
                refine anyC_keep3 (i := 5) (o1 := ⟨some 73, _, _, _, _, _⟩) (j := 6) (o2 := ⟨some 9, _, _, _, _, _⟩) (k := 7) (o3 := ⟨some 10, _, _, _, _, _⟩) (by kernel_rfl) rfl rfl rfl (fun K hK => ?_) (fun K hK => ?_) (fun K hK => ?_)
                · rw [if_pos (by rfl)]
                  go_wp2_with fail
                  (with_reducible refine (minus_rel f q HF.out.2 HQ.out.2 _).mono ?_)
                  rintro e V1 ⟨L10, rfl, hL, hb⟩
                  have HL10 := Lib.hid hL
                  clear hL
                  have HN := Lib.hid (HN.out.below hb)
                  refine hK.out _ _ ⟨HN.out, fun _ => trivial⟩ ?_
                  clear hK K hb
                  try simp only [Act.put, List.setIfInBounds_toArray, List.set_cons_zero, List.set_cons_succ]
                  refine anyC_keep2 (i := 6) (o1 := ⟨some 9, _, _, _, _, _⟩) (j := 7) (o2 := ⟨some 10, _, _, _, _, _⟩) (by kernel_rfl) rfl rfl (fun K hK => ?_) (fun K hK => ?_)
                  · rw [if_pos (by rfl)]
                    have hn := HN.out.new
                    go_wp2_with fail
                    generalize World.alloc V1 Z5o = V2 at hn ⊢
                    generalize Array.size (World.heap V1) = G9 at hn ⊢
                    have HZG9 := Lib.hid hn.2.2
                    have HDG9 : Hid (∀ x ∈ [(G8, 44, (lm q)), (G7, 44, (lm f)), (G6, 44, L6), (G5, 44, (lm m)), (G4, 44, (lm s)), (G3, 44, L3), (G2, 44, L2), (g, 72, ST a b c d u)], x.1 ≠ G9) := Lib.hid (fun x hx => hn.2.1 x (hx))
                    have HN := Lib.hid hn.1
                    refine hK.out _ _ ⟨HN.out.sub (fun x hx => .tail _ (hx)), fun _ => trivial⟩ ?_
                    clear hK K hn
                    try simp only [Act.put, List.setIfInBounds_toArray, List.set_cons_zero, List.set_cons_succ]
                    refine anyC_keep (i := 7) (o := ⟨some 10, _, _, _, _, _⟩) (by kernel_rfl) rfl (fun K hK => ?_)
                    rw [if_pos (by rfl)]
                    have hn := HN.out.new
                    go_wp2_with fail
                    generalize World.alloc V2 Z5o = V3 at hn ⊢
                    generalize Array.size (World.heap V2) = G10 at hn ⊢
                    have HZG10 := Lib.hid hn.2.2
                    have HDG10 : Hid (∀ x ∈ [(G8, 44, (lm q)), (G7, 44, (lm f)), (G6, 44, L6), (G5, 44, (lm m)), (G4, 44, (lm s)), (G3, 44, L3), (G2, 44, L2), (g, 72, ST a b c d u)], x.1 ≠ G10) := Lib.hid (fun x hx => hn.2.1 x (.tail _ (hx)))
                    have HNE : Hid (G9 ≠ G10) := Lib.hid (hn.2.1 _ (.head _))
                    have HN := Lib.hid hn.1
                    refine hK.out _ _ ⟨HN.out.sub (fun x hx => .tail _ (.tail _ (hx))), fun _ => trivial⟩ ?_
                    clear hK K hn
                    try simp only [Act.put, List.setIfInBounds_toArray, List.set_cons_zero, List.set_cons_succ]
                    refine anyC_keep (i := 8) (o := ⟨none, _, _, _, _, _⟩) (by kernel_rfl) rfl (fun K hK => ?_)
                    rw [if_pos (by rfl)]
                    have HN := Lib.hid HN.out.swap
                    refine wp_store_row 44 _ _ rfl G9 (lsC L9) rfl rfl 44 _ (HN.out.k (G9, 44, [0, 0, 0, 0, 0]) (.head _)) (by rw [size44, lsC_size, HL9.out.1]) (by rw [lsC_size, lsC_size, HL9.out.1]; rfl) (lsC_one _) ?_
                    have HN := Lib.hid (HN.out.row (fun x hx => by rcases List.mem_cons.1 hx with rfl | hx; (first | exact HNE.out | exact HNE.out.symm); exact HDG9.out x hx) HZG9.out L9)
                    refine hK.out _ _ ⟨HN.out.sub (fun x hx => .tail _ (.tail _ (hx))), fun _ => trivial⟩ ?_
                    clear hK K
                    generalize World.setRow V3 G9 (lsC L9) = V4 at HN ⊢
                    try simp only [Act.put]
                    refine anyC_keep (i := 9) (o := ⟨none, _, _, _, _, _⟩) (by kernel_rfl) rfl (fun K hK => ?_)
                    rw [if_pos (by rfl)]
                    have HN := Lib.hid HN.out.swap
                    refine wp_store_row 44 _ _ rfl G10 (lsC L10) rfl rfl 44 _ (HN.out.k (G10, 44, [0, 0, 0, 0, 0]) (.head _)) (by rw [size44, lsC_size, HL10.out.1]) (by rw [lsC_size, lsC_size, HL10.out.1]; rfl) (lsC_one _) ?_
                    have HN := Lib.hid (HN.out.row (fun x hx => by rcases List.mem_cons.1 hx with rfl | hx; (first | exact HNE.out | exact HNE.out.symm); exact HDG10.out x hx) HZG10.out L10)
                    refine hK.out _ _ ⟨HN.out.sub (fun x hx => .tail _ (.tail _ (hx))), fun _ => trivial⟩ ?_
                    clear hK K
                    generalize World.setRow V4 G10 (lsC L10) = V5 at HN ⊢
                    try simp only [Act.put]
                    refine anyC_done (by kernel_rfl) ?_ _
                    go_wp2_with fail
                    go_meet
                    exact ⟨G9, G10, L9, L10, rfl, rfl, HL9, HL10, HN⟩
                  · rw [if_pos (by rfl)]
                    have hn := HN.out.new
                    go_wp2_with fail
                    generalize World.alloc V1 Z5o = V2 at hn ⊢
                    generalize Array.size (World.heap V1) = G10 at hn ⊢
                    have HZG10 := Lib.hid hn.2.2
                    have HDG10 : Hid (∀ x ∈ [(G8, 44, (lm q)), (G7, 44, (lm f)), (G6, 44, L6), (G5, 44, (lm m)), (G4, 44, (lm s)), (G3, 44, L3), (G2, 44, L2), (g, 72, ST a b c d u)], x.1 ≠ G10) := Lib.hid (fun x hx => hn.2.1 x (hx))
                    have HN := Lib.hid hn.1
                    refine hK.out _ _ ⟨HN.out.sub (fun x hx => .tail _ (hx)), fun _ => trivial⟩ ?_
                    clear hK K hn
                    try simp only [Act.put, List.setIfInBounds_toArray, List.set_cons_zero, List.set_cons_succ]
                    refine anyC_keep (i := 6) (o := ⟨some 9, _, _, _, _, _⟩) (by kernel_rfl) rfl (fun K hK => ?_)
                    rw [if_pos (by rfl)]
                    have hn := HN.out.new
                    go_wp2_with fail
                    generalize World.alloc V2 Z5o = V3 at hn ⊢
                    generalize Array.size (World.heap V2) = G9 at hn ⊢
                    have HZG9 := Lib.hid hn.2.2
                    have HDG9 : Hid (∀ x ∈ [(G8, 44, (lm q)), (G7, 44, (lm f)), (G6, 44, L6), (G5, 44, (lm m)), (G4, 44, (lm s)), (G3, 44, L3), (G2, 44, L2), (g, 72, ST a b c d u)], x.1 ≠ G9) := Lib.hid (fun x hx => hn.2.1 x (.tail _ (hx)))
                    have HNE : Hid (G10 ≠ G9) := Lib.hid (hn.2.1 _ (.head _))
                    have HN := Lib.hid hn.1
                    refine hK.out _ _ ⟨HN.out.sub (fun x hx => .tail _ (.tail _ (hx))), fun _ => trivial⟩ ?_
                    clear hK K hn
                    try simp only [Act.put, List.setIfInBounds_toArray, List.set_cons_zero, List.set_cons_succ]
                    refine anyC_keep (i := 8) (o := ⟨none, _, _, _, _, _⟩) (by kernel_rfl) rfl (fun K hK => ?_)
                    rw [if_pos (by rfl)]
                    refine wp_store_row 44 _ _ rfl G9 (lsC L9) rfl rfl 44 _ (HN.out.k (G9, 44, [0, 0, 0, 0, 0]) (.head _)) (by rw [size44, lsC_size, HL9.out.1]) (by rw [lsC_size, lsC_size, HL9.out.1]; rfl) (lsC_one _) ?_
                    have HN := Lib.hid (HN.out.row (fun x hx => by rcases List.mem_cons.1 hx with rfl | hx; (first | exact HNE.out | exact HNE.out.symm); exact HDG9.out x hx) HZG9.out L9)
                    refine hK.out _ _ ⟨HN.out.sub (fun x hx => .tail _ (.tail _ (hx))), fun _ => trivial⟩ ?_
                    clear hK K
                    generalize World.setRow V3 G9 (lsC L9) = V4 at HN ⊢
                    try simp only [Act.put]
                    refine anyC_keep (i := 9) (o := ⟨none, _, _, _, _, _⟩) (by kernel_rfl) rfl (fun K hK => ?_)
                    rw [if_pos (by rfl)]
                    have HN := Lib.hid HN.out.swap
                    refine wp_store_row 44 _ _ rfl G10 (lsC L10) rfl rfl 44 _ (HN.out.k (G10, 44, [0, 0, 0, 0, 0]) (.head _)) (by rw [size44, lsC_size, HL10.out.1]) (by rw [lsC_size, lsC_size, HL10.out.1]; rfl) (lsC_one _) ?_
                    have HN := Lib.hid (HN.out.row (fun x hx => by rcases List.mem_cons.1 hx with rfl | hx; (first | exact HNE.out | exact HNE.out.symm); exact HDG10.out x hx) HZG10.out L10)
                    refine hK.out _ _ ⟨HN.out.sub (fun x hx => .tail _ (.tail _ (hx))), fun _ => trivial⟩ ?_
                    clear hK K
                    generalize World.setRow V4 G10 (lsC L10) = V5 at HN ⊢
                    try simp only [Act.put]
                    refine anyC_done (by kernel_rfl) ?_ _
                    go_wp2_with fail
                    go_meet
                    exact ⟨G9, G10, L9, L10, rfl, rfl, HL9, HL10, HN⟩
                · rw [if_pos (by rfl)]
                  have hn := HN.out.new
                  go_wp2_with fail
                  generalize World.alloc V0 Z5o = V1 at hn ⊢
                  generalize Array.size (World.heap V0) = G9 at hn ⊢
                  have HZG9 := Lib.hid hn.2.2
                  have HDG9 : Hid (∀ x ∈ [(G8, 44, (lm q)), (G7, 44, (lm f)), (G6, 44, L6), (G5, 44, (lm m)), (G4, 44, (lm s)), (G3, 44, L3), (G2, 44, L2), (g, 72, ST a b c d u)], x.1 ≠ G9) := Lib.hid (fun x hx => hn.2.1 x (hx))
                  have HN := Lib.hid hn.1
                  refine hK.out _ _ ⟨HN.out.sub (fun x hx => .tail _ (hx)), fun _ => trivial⟩ ?_
                  clear hK K hn
                  try simp only [Act.put, List.setIfInBounds_toArray, List.set_cons_zero, List.set_cons_succ]
                  refine anyC_keep2 (i := 5) (o1 := ⟨some 73, _, _, _, _, _⟩) (j := 7) (o2 := ⟨some 10, _, _, _, _, _⟩) (by kernel_rfl) rfl rfl (fun K hK => ?_) (fun K hK => ?_)
                  · rw [if_pos (by rfl)]
                    go_wp2_with fail
                    (with_reducible refine (minus_rel f q HF.out.2 HQ.out.2 _).mono ?_)
                    rintro e V2 ⟨L10, rfl, hL, hb⟩
                    have HL10 := Lib.hid hL
                    clear hL
                    have HN := Lib.hid (HN.out.below hb)
                    refine hK.out _ _ ⟨HN.out.sub (fun x hx => .tail _ (hx)), fun _ => trivial⟩ ?_
                    clear hK K hb
                    try simp only [Act.put, List.setIfInBounds_toArray, List.set_cons_zero, List.set_cons_succ]
                    refine anyC_keep (i := 7) (o := ⟨some 10, _, _, _, _, _⟩) (by kernel_rfl) rfl (fun K hK => ?_)
                    rw [if_pos (by rfl)]
                    have hn := HN.out.new
                    go_wp2_with fail
                    generalize World.alloc V2 Z5o = V3 at hn ⊢
                    generalize Array.size (World.heap V2) = G10 at hn ⊢
                    have HZG10 := Lib.hid hn.2.2
                    have HDG10 : Hid (∀ x ∈ [(G8, 44, (lm q)), (G7, 44, (lm f)), (G6, 44, L6), (G5, 44, (lm m)), (G4, 44, (lm s)), (G3, 44, L3), (G2, 44, L2), (g, 72, ST a b c d u)], x.1 ≠ G10) := Lib.hid (fun x hx => hn.2.1 x (.tail _ (hx)))
                    have HNE : Hid (G9 ≠ G10) := Lib.hid (hn.2.1 _ (.head _))
                    have HN := Lib.hid hn.1
                    refine hK.out _ _ ⟨HN.out.sub (fun x hx => .tail _ (.tail _ (hx))), fun _ => trivial⟩ ?_
                    clear hK K hn
                    try simp only [Act.put, List.setIfInBounds_toArray, List.set_cons_zero, List.set_cons_succ]
                    refine anyC_keep (i := 8) (o := ⟨none, _, _, _, _, _⟩) (by kernel_rfl) rfl (fun K hK => ?_)
                    rw [if_pos (by rfl)]
                    have HN := Lib.hid HN.out.swap
                    refine wp_store_row 44 _ _ rfl G9 (lsC L9) rfl rfl 44 _ (HN.out.k (G9, 44, [0, 0, 0, 0, 0]) (.head _)) (by rw [size44, lsC_size, HL9.out.1]) (by rw [lsC_size, lsC_size, HL9.out.1]; rfl) (lsC_one _) ?_
                    have HN := Lib.hid (HN.out.row (fun x hx => by rcases List.mem_cons.1 hx with rfl | hx; (first | exact HNE.out | exact HNE.out.symm); exact HDG9.out x hx) HZG9.out L9)
                    refine hK.out _ _ ⟨HN.out.sub (fun x hx => .tail _ (.tail _ (hx))), fun _ => trivial⟩ ?_
                    clear hK K
                    generalize World.setRow V3 G9 (lsC L9) = V4 at HN ⊢
                    try simp only [Act.put]
                    refine anyC_keep (i := 9) (o := ⟨none, _, _, _, _, _⟩) (by kernel_rfl) rfl (fun K hK => ?_)
                    rw [if_pos (by rfl)]
                    have HN := Lib.hid HN.out.swap
                    refine wp_store_row 44 _ _ rfl G10 (lsC L10) rfl rfl 44 _ (HN.out.k (G10, 44, [0, 0, 0, 0, 0]) (.head _)) (by rw [size44, lsC_size, HL10.out.1]) (by rw [lsC_size, lsC_size, HL10.out.1]; rfl) (lsC_one _) ?_
                    have HN := Lib.hid (HN.out.row (fun x hx => by rcases List.mem_cons.1 hx with rfl | hx; (first | exact HNE.out | exact HNE.out.symm); exact HDG10.out x hx) HZG10.out L10)
                    refine hK.out _ _ ⟨HN.out.sub (fun x hx => .tail _ (.tail _ (hx))), fun _ => trivial⟩ ?_
                    clear hK K
                    generalize World.setRow V4 G10 (lsC L10) = V5 at HN ⊢
                    try simp only [Act.put]
                    refine anyC_done (by kernel_rfl) ?_ _
                    go_wp2_with fail
                    go_meet
                    exact ⟨G9, G10, L9, L10, rfl, rfl, HL9, HL10, HN⟩
                  · rw [if_pos (by rfl)]
                    have hn := HN.out.new
                    go_wp2_with fail
                    generalize World.alloc V1 Z5o = V2 at hn ⊢
                    generalize Array.size (World.heap V1) = G10 at hn ⊢
                    have HZG10 := Lib.hid hn.2.2
                    have HDG10 : Hid (∀ x ∈ [(G8, 44, (lm q)), (G7, 44, (lm f)), (G6, 44, L6), (G5, 44, (lm m)), (G4, 44, (lm s)), (G3, 44, L3), (G2, 44, L2), (g, 72, ST a b c d u)], x.1 ≠ G10) := Lib.hid (fun x hx => hn.2.1 x (.tail _ (hx)))
                    have HNE : Hid (G9 ≠ G10) := Lib.hid (hn.2.1 _ (.head _))
                    have HN := Lib.hid hn.1
                    refine hK.out _ _ ⟨HN.out.sub (fun x hx => .tail _ (.tail _ (hx))), fun _ => trivial⟩ ?_
                    clear hK K hn
                    try simp only [Act.put, List.setIfInBounds_toArray, List.set_cons_zero, List.set_cons_succ]
                    refine anyC_keep (i := 5) (o := ⟨some 73, _, _, _, _, _⟩) (by kernel_rfl) rfl (fun K hK => ?_)
                    rw [if_pos (by rfl)]
                    go_wp2_with fail
                    (with_reducible refine (minus_rel f q HF.out.2 HQ.out.2 _).mono ?_)
                    rintro e V3 ⟨L10, rfl, hL, hb⟩
                    have HL10 := Lib.hid hL
                    clear hL
                    have HN := Lib.hid (HN.out.below hb)
                    refine hK.out _ _ ⟨HN.out.sub (fun x hx => .tail _ (.tail _ (hx))), fun _ => trivial⟩ ?_
                    clear hK K hb
                    try simp only [Act.put, List.setIfInBounds_toArray, List.set_cons_zero, List.set_cons_succ]
                    refine anyC_keep (i := 8) (o := ⟨none, _, _, _, _, _⟩) (by kernel_rfl) rfl (fun K hK => ?_)
                    rw [if_pos (by rfl)]
                    have HN := Lib.hid HN.out.swap
                    refine wp_store_row 44 _ _ rfl G9 (lsC L9) rfl rfl 44 _ (HN.out.k (G9, 44, [0, 0, 0, 0, 0]) (.head _)) (by rw [size44, lsC_size, HL9.out.1]) (by rw [lsC_size, lsC_size, HL9.out.1]; rfl) (lsC_one _) ?_
                    have HN := Lib.hid (HN.out.row (fun x hx => by rcases List.mem_cons.1 hx with rfl | hx; (first | exact HNE.out | exact HNE.out.symm); exact HDG9.out x hx) HZG9.out L9)
                    refine hK.out _ _ ⟨HN.out.sub (fun x hx => .tail _ (.tail _ (hx))), fun _ => trivial⟩ ?_
                    clear hK K
                    generalize World.setRow V3 G9 (lsC L9) = V4 at HN ⊢
                    try simp only [Act.put]
                    refine anyC_keep (i := 9) (o := ⟨none, _, _, _, _, _⟩) (by kernel_rfl) rfl (fun K hK => ?_)
                    rw [if_pos (by rfl)]
                    have HN := Lib.hid HN.out.swap
                    refine wp_store_row 44 _ _ rfl G10 (lsC L10) rfl rfl 44 _ (HN.out.k (G10, 44, [0, 0, 0, 0, 0]) (.head _)) (by rw [size44, lsC_size, HL10.out.1]) (by rw [lsC_size, lsC_size, HL10.out.1]; rfl) (lsC_one _) ?_
                    have HN := Lib.hid (HN.out.row (fun x hx => by rcases List.mem_cons.1 hx with rfl | hx; (first | exact HNE.out | exact HNE.out.symm); exact HDG10.out x hx) HZG10.out L10)
                    refine hK.out _ _ ⟨HN.out.sub (fun x hx => .tail _ (.tail _ (hx))), fun _ => trivial⟩ ?_
                    clear hK K
                    generalize World.setRow V4 G10 (lsC L10) = V5 at HN ⊢
                    try simp only [Act.put]
                    refine anyC_done (by kernel_rfl) ?_ _
                    go_wp2_with fail
                    go_meet
                    exact ⟨G9, G10, L9, L10, rfl, rfl, HL9, HL10, HN⟩
                · rw [if_pos (by rfl)]
                  have hn := HN.out.new
                  go_wp2_with fail
                  generalize World.alloc V0 Z5o = V1 at hn ⊢
                  generalize Array.size (World.heap V0) = G10 at hn ⊢
                  have HZG10 := Lib.hid hn.2.2
                  have HDG10 : Hid (∀ x ∈ [(G8, 44, (lm q)), (G7, 44, (lm f)), (G6, 44, L6), (G5, 44, (lm m)), (G4, 44, (lm s)), (G3, 44, L3), (G2, 44, L2), (g, 72, ST a b c d u)], x.1 ≠ G10) := Lib.hid (fun x hx => hn.2.1 x (hx))
                  have HN := Lib.hid hn.1
                  refine hK.out _ _ ⟨HN.out.sub (fun x hx => .tail _ (hx)), fun _ => trivial⟩ ?_
                  clear hK K hn
                  try simp only [Act.put, List.setIfInBounds_toArray, List.set_cons_zero, List.set_cons_succ]
                  refine anyC_keep2 (i := 5) (o1 := ⟨some 73, _, _, _, _, _⟩) (j := 6) (o2 := ⟨some 9, _, _, _, _, _⟩) (by kernel_rfl) rfl rfl (fun K hK => ?_) (fun K hK => ?_)
                  · rw [if_pos (by rfl)]
                    go_wp2_with fail
                    (with_reducible refine (minus_rel f q HF.out.2 HQ.out.2 _).mono ?_)
                    rintro e V2 ⟨L10, rfl, hL, hb⟩
                    have HL10 := Lib.hid hL
                    clear hL
                    have HN := Lib.hid (HN.out.below hb)
                    refine hK.out _ _ ⟨HN.out.sub (fun x hx => .tail _ (hx)), fun _ => trivial⟩ ?_
                    clear hK K hb
                    try simp only [Act.put, List.setIfInBounds_toArray, List.set_cons_zero, List.set_cons_succ]
                    refine anyC_keep (i := 6) (o := ⟨some 9, _, _, _, _, _⟩) (by kernel_rfl) rfl (fun K hK => ?_)
                    rw [if_pos (by rfl)]
                    have hn := HN.out.new
                    go_wp2_with fail
                    generalize World.alloc V2 Z5o = V3 at hn ⊢
                    generalize Array.size (World.heap V2) = G9 at hn ⊢
                    have HZG9 := Lib.hid hn.2.2
                    have HDG9 : Hid (∀ x ∈ [(G8, 44, (lm q)), (G7, 44, (lm f)), (G6, 44, L6), (G5, 44, (lm m)), (G4, 44, (lm s)), (G3, 44, L3), (G2, 44, L2), (g, 72, ST a b c d u)], x.1 ≠ G9) := Lib.hid (fun x hx => hn.2.1 x (.tail _ (hx)))
                    have HNE : Hid (G10 ≠ G9) := Lib.hid (hn.2.1 _ (.head _))
                    have HN := Lib.hid hn.1
                    refine hK.out _ _ ⟨HN.out.sub (fun x hx => .tail _ (.tail _ (hx))), fun _ => trivial⟩ ?_
                    clear hK K hn
                    try simp only [Act.put, List.setIfInBounds_toArray, List.set_cons_zero, List.set_cons_succ]
                    refine anyC_keep (i := 8) (o := ⟨none, _, _, _, _, _⟩) (by kernel_rfl) rfl (fun K hK => ?_)
                    rw [if_pos (by rfl)]
                    refine wp_store_row 44 _ _ rfl G9 (lsC L9) rfl rfl 44 _ (HN.out.k (G9, 44, [0, 0, 0, 0, 0]) (.head _)) (by rw [size44, lsC_size, HL9.out.1]) (by rw [lsC_size, lsC_size, HL9.out.1]; rfl) (lsC_one _) ?_
                    have HN := Lib.hid (HN.out.row (fun x hx => by rcases List.mem_cons.1 hx with rfl | hx; (first | exact HNE.out | exact HNE.out.symm); exact HDG9.out x hx) HZG9.out L9)
                    refine hK.out _ _ ⟨HN.out.sub (fun x hx => .tail _ (.tail _ (hx))), fun _ => trivial⟩ ?_
                    clear hK K
                    generalize World.setRow V3 G9 (lsC L9) = V4 at HN ⊢
                    try simp only [Act.put]
                    refine anyC_keep (i := 9) (o := ⟨none, _, _, _, _, _⟩) (by kernel_rfl) rfl (fun K hK => ?_)
                    rw [if_pos (by rfl)]
                    have HN := Lib.hid HN.out.swap
                    refine wp_store_row 44 _ _ rfl G10 (lsC L10) rfl rfl 44 _ (HN.out.k (G10, 44, [0, 0, 0, 0, 0]) (.head _)) (by rw [size44, lsC_size, HL10.out.1]) (by rw [lsC_size, lsC_size, HL10.out.1]; rfl) (lsC_one _) ?_
                    have HN := Lib.hid (HN.out.row (fun x hx => by rcases List.mem_cons.1 hx with rfl | hx; (first | exact HNE.out | exact HNE.out.symm); exact HDG10.out x hx) HZG10.out L10)
                    refine hK.out _ _ ⟨HN.out.sub (fun x hx => .tail _ (.tail _ (hx))), fun _ => trivial⟩ ?_
                    clear hK K
                    generalize World.setRow V4 G10 (lsC L10) = V5 at HN ⊢
                    try simp only [Act.put]
                    refine anyC_done (by kernel_rfl) ?_ _
                    go_wp2_with fail
                    go_meet
                    exact ⟨G9, G10, L9, L10, rfl, rfl, HL9, HL10, HN⟩
                  · rw [if_pos (by rfl)]
                    have hn := HN.out.new
                    go_wp2_with fail
                    generalize World.alloc V1 Z5o = V2 at hn ⊢
                    generalize Array.size (World.heap V1) = G9 at hn ⊢
                    have HZG9 := Lib.hid hn.2.2
                    have HDG9 : Hid (∀ x ∈ [(G8, 44, (lm q)), (G7, 44, (lm f)), (G6, 44, L6), (G5, 44, (lm m)), (G4, 44, (lm s)), (G3, 44, L3), (G2, 44, L2), (g, 72, ST a b c d u)], x.1 ≠ G9) := Lib.hid (fun x hx => hn.2.1 x (.tail _ (hx)))
                    have HNE : Hid (G10 ≠ G9) := Lib.hid (hn.2.1 _ (.head _))
                    have HN := Lib.hid hn.1
                    refine hK.out _ _ ⟨HN.out.sub (fun x hx => .tail _ (.tail _ (hx))), fun _ => trivial⟩ ?_
                    clear hK K hn
                    try simp only [Act.put, List.setIfInBounds_toArray, List.set_cons_zero, List.set_cons_succ]
                    refine anyC_keep (i := 5) (o := ⟨some 73, _, _, _, _, _⟩) (by kernel_rfl) rfl (fun K hK => ?_)
                    rw [if_pos (by rfl)]
                    go_wp2_with fail
                    (with_reducible refine (minus_rel f q HF.out.2 HQ.out.2 _).mono ?_)
                    rintro e V3 ⟨L10, rfl, hL, hb⟩
                    have HL10 := Lib.hid hL
                    clear hL
                    have HN := Lib.hid (HN.out.below hb)
                    refine hK.out _ _ ⟨HN.out.sub (fun x hx => .tail _ (.tail _ (hx))), fun _ => trivial⟩ ?_
                    clear hK K hb
                    try simp only [Act.put, List.setIfInBounds_toArray, List.set_cons_zero, List.set_cons_succ]
                    refine anyC_keep (i := 8) (o := ⟨none, _, _, _, _, _⟩) (by kernel_rfl) rfl (fun K hK => ?_)
                    rw [if_pos (by rfl)]
                    refine wp_store_row 44 _ _ rfl G9 (lsC L9) rfl rfl 44 _ (HN.out.k (G9, 44, [0, 0, 0, 0, 0]) (.head _)) (by rw [size44, lsC_size, HL9.out.1]) (by rw [lsC_size, lsC_size, HL9.out.1]; rfl) (lsC_one _) ?_
                    have HN := Lib.hid (HN.out.row (fun x hx => by rcases List.mem_cons.1 hx with rfl | hx; (first | exact HNE.out | exact HNE.out.symm); exact HDG9.out x hx) HZG9.out L9)
                    refine hK.out _ _ ⟨HN.out.sub (fun x hx => .tail _ (.tail _ (hx))), fun _ => trivial⟩ ?_
                    clear hK K
                    generalize World.setRow V3 G9 (lsC L9) = V4 at HN ⊢
                    try simp only [Act.put]
                    refine anyC_keep (i := 9) (o := ⟨none, _, _, _, _, _⟩) (by kernel_rfl) rfl (fun K hK => ?_)
                    rw [if_pos (by rfl)]
                    have HN := Lib.hid HN.out.swap
                    refine wp_store_row 44 _ _ rfl G10 (lsC L10) rfl rfl 44 _ (HN.out.k (G10, 44, [0, 0, 0, 0, 0]) (.head _)) (by rw [size44, lsC_size, HL10.out.1]) (by rw [lsC_size, lsC_size, HL10.out.1]; rfl) (lsC_one _) ?_
                    have HN := Lib.hid (HN.out.row (fun x hx => by rcases List.mem_cons.1 hx with rfl | hx; (first | exact HNE.out | exact HNE.out.symm); exact HDG10.out x hx) HZG10.out L10)
                    refine hK.out _ _ ⟨HN.out.sub (fun x hx => .tail _ (.tail _ (hx))), fun _ => trivial⟩ ?_
                    clear hK K
                    generalize World.setRow V4 G10 (lsC L10) = V5 at HN ⊢
                    try simp only [Act.put]
                    refine anyC_done (by kernel_rfl) ?_ _
                    go_wp2_with fail
                    go_meet
                    exact ⟨G9, G10, L9, L10, rfl, rfl, HL9, HL10, HN⟩
              · rw [if_pos (by rfl)]
                have hn := HN.out.new
                go_wp2_with fail
                generalize World.alloc W0 Z5o = V0 at hn ⊢
                generalize Array.size (World.heap W0) = G9 at hn ⊢
                have HZG9 := Lib.hid hn.2.2
                have HDG9 : Hid (∀ x ∈ [(G8, 44, (lm q)), (G7, 44, (lm f)), (G6, 44, L6), (G5, 44, (lm m)), (G4, 44, (lm s)), (G3, 44, L3), (G2, 44, L2), (g, 72, ST a b c d u)], x.1 ≠ G9) := Lib.hid (fun x hx => hn.2.1 x (hx))
                have HN := Lib.hid hn.1
                refine hK.out _ _ ⟨HN.out.sub (fun x hx => .tail _ (hx)), fun _ => trivial⟩ ?_
                clear hK K hn
                try simp only [Act.put, List.setIfInBounds_toArray, List.set_cons_zero, List.set_cons_succ]
                refine anyC_keep2 (i := 2) (o1 := ⟨some 70, _, _, _, _, _⟩) (j := 7) (o2 := ⟨some 10, _, _, _, _, _⟩) (by kernel_rfl) rfl rfl (fun K hK => ?_) (fun K hK => ?_)
                · rw [if_pos (by rfl)]
                  go_wp2_with fail
                  (with_reducible refine (plus_rel f q HF.out.2 HQ.out.2 _).mono ?_)
                  rintro e V1 ⟨L9, rfl, hL, hb⟩
                  have HL9 := Lib.hid hL
                  clear hL
                  have HN := Lib.hid (HN.out.below hb)
                  refine hK.out _ _ ⟨HN.out.sub (fun x hx => .tail _ (hx)), fun _ => trivial⟩ ?_
                  clear hK K hb
                  try simp only [Act.put, List.setIfInBounds_toArray, List.set_cons_zero, List.set_cons_succ]
                  refine anyC_keep2 (i := 5) (o1 := ⟨some 73, _, _, _, _, _⟩) (j := 7) (o2 := ⟨some 10, _, _, _, _, _⟩) (by kernel_rfl) rfl rfl (fun K hK => ?_) (fun K hK => ?_)
                  · rw [if_pos (by rfl)]
                    go_wp2_with fail
                    (with_reducible refine (minus_rel f q HF.out.2 HQ.out.2 _).mono ?_)
                    rintro e V2 ⟨L10, rfl, hL, hb⟩
                    have HL10 := Lib.hid hL
                    clear hL
                    have HN := Lib.hid (HN.out.below hb)
                    refine hK.out _ _ ⟨HN.out.sub (fun x hx => .tail _ (hx)), fun _ => trivial⟩ ?_
                    clear hK K hb
                    try simp only [Act.put, List.setIfInBounds_toArray, List.set_cons_zero, List.set_cons_succ]
                    refine anyC_keep (i := 7) (o := ⟨some 10, _, _, _, _, _⟩) (by kernel_rfl) rfl (fun K hK => ?_)
                    rw [if_pos (by rfl)]
                    have hn := HN.out.new
                    go_wp2_with fail
                    generalize World.alloc V2 Z5o = V3 at hn ⊢
                    generalize Array.size (World.heap V2) = G10 at hn ⊢
                    have HZG10 := Lib.hid hn.2.2
                    have HDG10 : Hid (∀ x ∈ [(G8, 44, (lm q)), (G7, 44, (lm f)), (G6, 44, L6), (G5, 44, (lm m)), (G4, 44, (lm s)), (G3, 44, L3), (G2, 44, L2), (g, 72, ST a b c d u)], x.1 ≠ G10) := Lib.hid (fun x hx => hn.2.1 x (.tail _ (hx)))
                    have HNE : Hid (G9 ≠ G10) := Lib.hid (hn.2.1 _ (.head _))
                    have HN := Lib.hid hn.1
                    refine hK.out _ _ ⟨HN.out.sub (fun x hx => .tail _ (.tail _ (hx))), fun _ => trivial⟩ ?_
                    clear hK K hn
                    try simp only [Act.put, List.setIfInBounds_toArray, List.set_cons_zero, List.set_cons_succ]
                    refine anyC_keep (i := 8) (o := ⟨none, _, _, _, _, _⟩) (by kernel_rfl) rfl (fun K hK => ?_)
                    rw [if_pos (by rfl)]
                    have HN := Lib.hid HN.out.swap
                    refine wp_store_row 44 _ _ rfl G9 (lsC L9) rfl rfl 44 _ (HN.out.k (G9, 44, [0, 0, 0, 0, 0]) (.head _)) (by rw [size44, lsC_size, HL9.out.1]) (by rw [lsC_size, lsC_size, HL9.out.1]; rfl) (lsC_one _) ?_
                    have HN := Lib.hid (HN.out.row (fun x hx => by rcases List.mem_cons.1 hx with rfl | hx; (first | exact HNE.out | exact HNE.out.symm); exact HDG9.out x hx) HZG9.out L9)
                    refine hK.out _ _ ⟨HN.out.sub (fun x hx => .tail _ (.tail _ (hx))), fun _ => trivial⟩ ?_
                    clear hK K
                    generalize World.setRow V3 G9 (lsC L9) = V4 at HN ⊢
                    try simp only [Act.put]
                    refine anyC_keep (i := 9) (o := ⟨none, _, _, _, _, _⟩) (by kernel_rfl) rfl (fun K hK => ?_)
                    rw [if_pos (by rfl)]
                    have HN := Lib.hid HN.out.swap
                    refine wp_store_row 44 _ _ rfl G10 (lsC L10) rfl rfl 44 _ (HN.out.k (G10, 44, [0, 0, 0, 0, 0]) (.head _)) (by rw [size44, lsC_size, HL10.out.1]) (by rw [lsC_size, lsC_size, HL10.out.1]; rfl) (lsC_one _) ?_
                    have HN := Lib.hid (HN.out.row (fun x hx => by rcases List.mem_cons.1 hx with rfl | hx; (first | exact HNE.out | exact HNE.out.symm); exact HDG10.out x hx) HZG10.out L10)
                    refine hK.out _ _ ⟨HN.out.sub (fun x hx => .tail _ (.tail _ (hx))), fun _ => trivial⟩ ?_
                    clear hK K
                    generalize World.setRow V4 G10 (lsC L10) = V5 at HN ⊢
                    try simp only [Act.put]
                    refine anyC_done (by kernel_rfl) ?_ _
                    go_wp2_with fail
                    go_meet
                    exact ⟨G9, G10, L9, L10, rfl, rfl, HL9, HL10, HN⟩
                  · rw [if_pos (by rfl)]
                    have hn := HN.out.new
                    go_wp2_with fail
                    generalize World.alloc V1 Z5o = V2 at hn ⊢
                    generalize Array.size (World.heap V1) = G10 at hn ⊢
                    have HZG10 := Lib.hid hn.2.2
                    have HDG10 : Hid (∀ x ∈ [(G8, 44, (lm q)), (G7, 44, (lm f)), (G6, 44, L6), (G5, 44, (lm m)), (G4, 44, (lm s)), (G3, 44, L3), (G2, 44, L2), (g, 72, ST a b c d u)], x.1 ≠ G10) := Lib.hid (fun x hx => hn.2.1 x (.tail _ (hx)))
                    have HNE : Hid (G9 ≠ G10) := Lib.hid (hn.2.1 _ (.head _))
                    have HN := Lib.hid hn.1
                    refine hK.out _ _ ⟨HN.out.sub (fun x hx => .tail _ (.tail _ (hx))), fun _ => trivial⟩ ?_
                    clear hK K hn
                    try simp only [Act.put, List.setIfInBounds_toArray, List.set_cons_zero, List.set_cons_succ]
                    refine anyC_keep (i := 5) (o := ⟨some 73, _, _, _, _, _⟩) (by kernel_rfl) rfl (fun K hK => ?_)
                    rw [if_pos (by rfl)]
                    go_wp2_with fail
                    (with_reducible refine (minus_rel f q HF.out.2 HQ.out.2 _).mono ?_)
                    rintro e V3 ⟨L10, rfl, hL, hb⟩
                    have HL10 := Lib.hid hL
                    clear hL
                    have HN := Lib.hid (HN.out.below hb)
                    refine hK.out _ _ ⟨HN.out.sub (fun x hx => .tail _ (.tail _ (hx))), fun _ => trivial⟩ ?_
                    clear hK K hb
                    try simp only [Act.put, List.setIfInBounds_toArray, List.set_cons_zero, List.set_cons_succ]
                    refine anyC_keep (i := 8) (o := ⟨none, _, _, _, _, _⟩) (by kernel_rfl) rfl (fun K hK => ?_)
                    rw [if_pos (by rfl)]
                    have HN := Lib.hid HN.out.swap
                    refine wp_store_row 44 _ _ rfl G9 (lsC L9) rfl rfl 44 _ (HN.out.k (G9, 44, [0, 0, 0, 0, 0]) (.head _)) (by rw [size44, lsC_size, HL9.out.1]) (by rw [lsC_size, lsC_size, HL9.out.1]; rfl) (lsC_one _) ?_
                    have HN := Lib.hid (HN.out.row (fun x hx => by rcases List.mem_cons.1 hx with rfl | hx; (first | exact HNE.out | exact HNE.out.symm); exact HDG9.out x hx) HZG9.out L9)
                    refine hK.out _ _ ⟨HN.out.sub (fun x hx => .tail _ (.tail _ (hx))), fun _ => trivial⟩ ?_
                    clear hK K
                    generalize World.setRow V3 G9 (lsC L9) = V4 at HN ⊢
                    try simp only [Act.put]
                    refine anyC_keep (i := 9) (o := ⟨none, _, _, _, _, _⟩) (by kernel_rfl) rfl (fun K hK => ?_)
                    rw [if_pos (by rfl)]
                    have HN := Lib.hid HN.out.swap
                    refine wp_store_row 44 _ _ rfl G10 (lsC L10) rfl rfl 44 _ (HN.out.k (G10, 44, [0, 0, 0, 0, 0]) (.head _)) (by rw [size44, lsC_size, HL10.out.1]) (by rw [lsC_size, lsC_size, HL10.out.1]; rfl) (lsC_one _) ?_
                    have HN := Lib.hid (HN.out.row (fun x hx => by rcases List.mem_cons.1 hx with rfl | hx; (first | exact HNE.out | exact HNE.out.symm); exact HDG10.out x hx) HZG10.out L10)
                    refine hK.out _ _ ⟨HN.out.sub (fun x hx => .tail _ (.tail _ (hx))), fun _ => trivial⟩ ?_
                    clear hK K
                    generalize World.setRow V4 G10 (lsC L10) = V5 at HN ⊢
                    try simp only [Act.put]
                    refine anyC_done (by kernel_rfl) ?_ _
                    go_wp2_with fail
                    go_meet
                    exact ⟨G9, G10, L9, L10, rfl, rfl, HL9, HL10, HN⟩
                · rw [if_pos (by rfl)]
                  have hn := HN.out.new
                  go_wp2_with fail
                  generalize World.alloc V0 Z5o = V1 at hn ⊢
                  generalize Array.size (World.heap V0) = G10 at hn ⊢
                  have HZG10 := Lib.hid hn.2.2
                  have HDG10 : Hid (∀ x ∈ [(G8, 44, (lm q)), (G7, 44, (lm f)), (G6, 44, L6), (G5, 44, (lm m)), (G4, 44, (lm s)), (G3, 44, L3), (G2, 44, L2), (g, 72, ST a b c d u)], x.1 ≠ G10) := Lib.hid (fun x hx => hn.2.1 x (.tail _ (hx)))
                  have HNE : Hid (G9 ≠ G10) := Lib.hid (hn.2.1 _ (.head _))
                  have HN := Lib.hid hn.1
                  refine hK.out _ _ ⟨HN.out.sub (fun x hx => .tail _ (.tail _ (hx))), fun _ => trivial⟩ ?_
                  clear hK K hn
                  try simp only [Act.put, List.setIfInBounds_toArray, List.set_cons_zero, List.set_cons_succ]
                  refine anyC_keep (i := 2) (o := ⟨some 70, _, _, _, _, _⟩) (by kernel_rfl) rfl (fun K hK => ?_)
                  rw [if_pos (by rfl)]
                  go_wp2_with fail
                  (with_reducible refine (plus_rel f q HF.out.2 HQ.out.2 _).mono ?_)
                  rintro e V2 ⟨L9, rfl, hL, hb⟩
                  have HL9 := Lib.hid hL
                  clear hL
                  have HN := Lib.hid (HN.out.below hb)
                  refine hK.out _ _ ⟨HN.out.sub (fun x hx => .tail _ (.tail _ (hx))), fun _ => trivial⟩ ?_
                  clear hK K hb
                  try simp only [Act.put, List.setIfInBounds_toArray, List.set_cons_zero, List.set_cons_succ]
                  refine anyC_keep (i := 5) (o := ⟨some 73, _, _, _, _, _⟩) (by kernel_rfl) rfl (fun K hK => ?_)
                  rw [if_pos (by rfl)]
                  go_wp2_with fail
                  (with_reducible refine (minus_rel f q HF.out.2 HQ.out.2 _).mono ?_)
                  rintro e V3 ⟨L10, rfl, hL, hb⟩
                  have HL10 := Lib.hid hL
                  clear hL
                  have HN := Lib.hid (HN.out.below hb)
                  refine hK.out _ _ ⟨HN.out.sub (fun x hx => .tail _ (.tail _ (hx))), fun _ => trivial⟩ ?_
                  clear hK K hb
                  try simp only [Act.put, List.setIfInBounds_toArray, List.set_cons_zero, List.set_cons_succ]
                  refine anyC_keep (i := 8) (o := ⟨none, _, _, _, _, _⟩) (by kernel_rfl) rfl (fun K hK => ?_)
                  rw [if_pos (by rfl)]
                  have HN := Lib.hid HN.out.swap
                  refine wp_store_row 44 _ _ rfl G9 (lsC L9) rfl rfl 44 _ (HN.out.k (G9, 44, [0, 0, 0, 0, 0]) (.head _)) (by rw [size44, lsC_size, HL9.out.1]) (by rw [lsC_size, lsC_size, HL9.out.1]; rfl) (lsC_one _) ?_
                  have HN := Lib.hid (HN.out.row (fun x hx => by rcases List.mem_cons.1 hx with rfl | hx; (first | exact HNE.out | exact HNE.out.symm); exact HDG9.out x hx) HZG9.out L9)
                  refine hK.out _ _ ⟨HN.out.sub (fun x hx => .tail _ (.tail _ (hx))), fun _ => trivial⟩ ?_
                  clear hK K
                  generalize World.setRow V3 G9 (lsC L9) = V4 at HN ⊢
                  try simp only [Act.put]
                  refine anyC_keep (i := 9) (o := ⟨none, _, _, _, _, _⟩) (by kernel_rfl) rfl (fun K hK => ?_)
                  rw [if_pos (by rfl)]
                  have HN := Lib.hid HN.out.swap
                  refine wp_store_row 44 _ _ rfl G10 (lsC L10) rfl rfl 44 _ (HN.out.k (G10, 44, [0, 0, 0, 0, 0]) (.head _)) (by rw [size44, lsC_size, HL10.out.1]) (by rw [lsC_size, lsC_size, HL10.out.1]; rfl) (lsC_one _) ?_
                  have HN := Lib.hid (HN.out.row (fun x hx => by rcases List.mem_cons.1 hx with rfl | hx; (first | exact HNE.out | exact HNE.out.symm); exact HDG10.out x hx) HZG10.out L10)
                  refine hK.out _ _ ⟨HN.out.sub (fun x hx => .tail _ (.tail _ (hx))), fun _ => trivial⟩ ?_
                  clear hK K
                  generalize World.setRow V4 G10 (lsC L10) = V5 at HN ⊢
                  try simp only [Act.put]
                  refine anyC_done (by kernel_rfl) ?_ _
                  go_wp2_with fail
                  go_meet
                  exact ⟨G9, G10, L9, L10, rfl, rfl, HL9, HL10, HN⟩
              · rw [if_pos (by rfl)]
                have hn := HN.out.new
                go_wp2_with fail
                generalize World.alloc W0 Z5o = V0 at hn ⊢
                generalize Array.size (World.heap W0) = G10 at hn ⊢
                have HZG10 := Lib.hid hn.2.2
                have HDG10 : Hid (∀ x ∈ [(G8, 44, (lm q)), (G7, 44, (lm f)), (G6, 44, L6), (G5, 44, (lm m)), (G4, 44, (lm s)), (G3, 44, L3), (G2, 44, L2), (g, 72, ST a b c d u)], x.1 ≠ G10) := Lib.hid (fun x hx => hn.2.1 x (hx))
                have HN := Lib.hid hn.1
                refine hK.out _ _ ⟨HN.out.sub (fun x hx => .tail _ (hx)), fun _ => trivial⟩ ?_
                clear hK K hn
                try simp only [Act.put, List.setIfInBounds_toArray, List.set_cons_zero, List.set_cons_succ]
                refine anyC_keep2 (i := 2) (o1 := ⟨some 70, _, _, _, _, _⟩) (j := 6) (o2 := ⟨some 9, _, _, _, _, _⟩) (by kernel_rfl) rfl rfl (fun K hK => ?_) (fun K hK => ?_)
                · rw [if_pos (by rfl)]
                  go_wp2_with fail
                  (with_reducible refine (plus_rel f q HF.out.2 HQ.out.2 _).mono ?_)
                  rintro e V1 ⟨L9, rfl, hL, hb⟩
                  have HL9 := Lib.hid hL
                  clear hL
                  have HN := Lib.hid (HN.out.below hb)
                  refine hK.out _ _ ⟨HN.out.sub (fun x hx => .tail _ (hx)), fun _ => trivial⟩ ?_
                  clear hK K hb
                  try simp only [Act.put, List.setIfInBounds_toArray, List.set_cons_zero, List.set_cons_succ]
                  refine anyC_keep2 (i := 5) (o1 := ⟨some 73, _, _, _, _, _⟩) (j := 6) (o2 := ⟨some 9, _, _, _, _, _⟩) (by kernel_rfl) rfl rfl (fun K hK => ?_) (fun K hK => ?_)
                  · rw [if_pos (by rfl)]
                    go_wp2_with fail
                    (with_reducible refine (minus_rel f q HF.out.2 HQ.out.2 _).mono ?_)
                    rintro e V2 ⟨L10, rfl, hL, hb⟩
                    have HL10 := Lib.hid hL
                    clear hL
                    have HN := Lib.hid (HN.out.below hb)
                    refine hK.out _ _ ⟨HN.out.sub (fun x hx => .tail _ (hx)), fun _ => trivial⟩ ?_
                    clear hK K hb
                    try simp only [Act.put, List.setIfInBounds_toArray, List.set_cons_zero, List.set_cons_succ]
                    refine anyC_keep (i := 6) (o := ⟨some 9, _, _, _, _, _⟩) (by kernel_rfl) rfl (fun K hK => ?_)
                    rw [if_pos (by rfl)]
                    have hn := HN.out.new
                    go_wp2_with fail
                    generalize World.alloc V2 Z5o = V3 at hn ⊢
                    generalize Array.size (World.heap V2) = G9 at hn ⊢
                    have HZG9 := Lib.hid hn.2.2
                    have HDG9 : Hid (∀ x ∈ [(G8, 44, (lm q)), (G7, 44, (lm f)), (G6, 44, L6), (G5, 44, (lm m)), (G4, 44, (lm s)), (G3, 44, L3), (G2, 44, L2), (g, 72, ST a b c d u)], x.1 ≠ G9) := Lib.hid (fun x hx => hn.2.1 x (.tail _ (hx)))
                    have HNE : Hid (G10 ≠ G9) := Lib.hid (hn.2.1 _ (.head _))
                    have HN := Lib.hid hn.1
                    refine hK.out _ _ ⟨HN.out.sub (fun x hx => .tail _ (.tail _ (hx))), fun _ => trivial⟩ ?_
                    clear hK K hn
                    try simp only [Act.put, List.setIfInBounds_toArray, List.set_cons_zero, List.set_cons_succ]
                    refine anyC_keep (i := 8) (o := ⟨none, _, _, _, _, _⟩) (by kernel_rfl) rfl (fun K hK => ?_)
                    rw [if_pos (by rfl)]
                    refine wp_store_row 44 _ _ rfl G9 (lsC L9) rfl rfl 44 _ (HN.out.k (G9, 44, [0, 0, 0, 0, 0]) (.head _)) (by rw [size44, lsC_size, HL9.out.1]) (by rw [lsC_size, lsC_size, HL9.out.1]; rfl) (lsC_one _) ?_
                    have HN := Lib.hid (HN.out.row (fun x hx => by rcases List.mem_cons.1 hx with rfl | hx; (first | exact HNE.out | exact HNE.out.symm); exact HDG9.out x hx) HZG9.out L9)
                    refine hK.out _ _ ⟨HN.out.sub (fun x hx => .tail _ (.tail _ (hx))), fun _ => trivial⟩ ?_
                    clear hK K
                    generalize World.setRow V3 G9 (lsC L9) = V4 at HN ⊢
                    try simp only [Act.put]
                    refine anyC_keep (i := 9) (o := ⟨none, _, _, _, _, _⟩) (by kernel_rfl) rfl (fun K hK => ?_)
                    rw [if_pos (by rfl)]
                    have HN := Lib.hid HN.out.swap
                    refine wp_store_row 44 _ _ rfl G10 (lsC L10) rfl rfl 44 _ (HN.out.k (G10, 44, [0, 0, 0, 0, 0]) (.head _)) (by rw [size44, lsC_size, HL10.out.1]) (by rw [lsC_size, lsC_size, HL10.out.1]; rfl) (lsC_one _) ?_
                    have HN := Lib.hid (HN.out.row (fun x hx => by rcases List.mem_cons.1 hx with rfl | hx; (first | exact HNE.out | exact HNE.out.symm); exact HDG10.out x hx) HZG10.out L10)
                    refine hK.out _ _ ⟨HN.out.sub (fun x hx => .tail _ (.tail _ (hx))), fun _ => trivial⟩ ?_
                    clear hK K
                    generalize World.setRow V4 G10 (lsC L10) = V5 at HN ⊢
                    try simp only [Act.put]
                    refine anyC_done (by kernel_rfl) ?_ _
                    go_wp2_with fail
                    go_meet
                    exact ⟨G9, G10, L9, L10, rfl, rfl, HL9, HL10, HN⟩
                  · rw [if_pos (by rfl)]
                    have hn := HN.out.new
                    go_wp2_with fail
                    generalize World.alloc V1 Z5o = V2 at hn ⊢
                    generalize Array.size (World.heap V1) = G9 at hn ⊢
                    have HZG9 := Lib.hid hn.2.2
                    have HDG9 : Hid (∀ x ∈ [(G8, 44, (lm q)), (G7, 44, (lm f)), (G6, 44, L6), (G5, 44, (lm m)), (G4, 44, (lm s)), (G3, 44, L3), (G2, 44, L2), (g, 72, ST a b c d u)], x.1 ≠ G9) := Lib.hid (fun x hx => hn.2.1 x (.tail _ (hx)))
                    have HNE : Hid (G10 ≠ G9) := Lib.hid (hn.2.1 _ (.head _))
                    have HN := Lib.hid hn.1
                    refine hK.out _ _ ⟨HN.out.sub (fun x hx => .tail _ (.tail _ (hx))), fun _ => trivial⟩ ?_
                    clear hK K hn
                    try simp only [Act.put, List.setIfInBounds_toArray, List.set_cons_zero, List.set_cons_succ]
                    refine anyC_keep (i := 5) (o := ⟨some 73, _, _, _, _, _⟩) (by kernel_rfl) rfl (fun K hK => ?_)
                    rw [if_pos (by rfl)]
                    go_wp2_with fail
                    (with_reducible refine (minus_rel f q HF.out.2 HQ.out.2 _).mono ?_)
                    rintro e V3 ⟨L10, rfl, hL, hb⟩
                    have HL10 := Lib.hid hL
                    clear hL
                    have HN := Lib.hid (HN.out.below hb)
                    refine hK.out _ _ ⟨HN.out.sub (fun x hx => .tail _ (.tail _ (hx))), fun _ => trivial⟩ ?_
                    clear hK K hb
                    try simp only [Act.put, List.setIfInBounds_toArray, List.set_cons_zero, List.set_cons_succ]
                    refine anyC_keep (i := 8) (o := ⟨none, _, _, _, _, _⟩) (by kernel_rfl) rfl (fun K hK => ?_)
                    rw [if_pos (by rfl)]
                    refine wp_store_row 44 _ _ rfl G9 (lsC L9) rfl rfl 44 _ (HN.out.k (G9, 44, [0, 0, 0, 0, 0]) (.head _)) (by rw [size44, lsC_size, HL9.out.1]) (by rw [lsC_size, lsC_size, HL9.out.1]; rfl) (lsC_one _) ?_
                    have HN := Lib.hid (HN.out.row (fun x hx => by rcases List.mem_cons.1 hx with rfl | hx; (first | exact HNE.out | exact HNE.out.symm); exact HDG9.out x hx) HZG9.out L9)
                    refine hK.out _ _ ⟨HN.out.sub (fun x hx => .tail _ (.tail _ (hx))), fun _ => trivial⟩ ?_
                    clear hK K
                    generalize World.setRow V3 G9 (lsC L9) = V4 at HN ⊢
                    try simp only [Act.put]
                    refine anyC_keep (i := 9) (o := ⟨none, _, _, _, _, _⟩) (by kernel_rfl) rfl (fun K hK => ?_)
                    rw [if_pos (by rfl)]
                    have HN := Lib.hid HN.out.swap
                    refine wp_store_row 44 _ _ rfl G10 (lsC L10) rfl rfl 44 _ (HN.out.k (G10, 44, [0, 0, 0, 0, 0]) (.head _)) (by rw [size44, lsC_size, HL10.out.1]) (by rw [lsC_size, lsC_size, HL10.out.1]; rfl) (lsC_one _) ?_
                    have HN := Lib.hid (HN.out.row (fun x hx => by rcases List.mem_cons.1 hx with rfl | hx; (first | exact HNE.out | exact HNE.out.symm); exact HDG10.out x hx) HZG10.out L10)
                    refine hK.out _ _ ⟨HN.out.sub (fun x hx => .tail _ (.tail _ (hx))), fun _ => trivial⟩ ?_
                    clear hK K
                    generalize World.setRow V4 G10 (lsC L10) = V5 at HN ⊢
                    try simp only [Act.put]
                    refine anyC_done (by kernel_rfl) ?_ _
                    go_wp2_with fail
                    go_meet
                    exact ⟨G9, G10, L9, L10, rfl, rfl, HL9, HL10, HN⟩
                · rw [if_pos (by rfl)]
                  have hn := HN.out.new
                  go_wp2_with fail
                  generalize World.alloc V0 Z5o = V1 at hn ⊢
                  generalize Array.size (World.heap V0) = G9 at hn ⊢
                  have HZG9 := Lib.hid hn.2.2
                  have HDG9 : Hid (∀ x ∈ [(G8, 44, (lm q)), (G7, 44, (lm f)), (G6, 44, L6), (G5, 44, (lm m)), (G4, 44, (lm s)), (G3, 44, L3), (G2, 44, L2), (g, 72, ST a b c d u)], x.1 ≠ G9) := Lib.hid (fun x hx => hn.2.1 x (.tail _ (hx)))
                  have HNE : Hid (G10 ≠ G9) := Lib.hid (hn.2.1 _ (.head _))
                  have HN := Lib.hid hn.1
                  refine hK.out _ _ ⟨HN.out.sub (fun x hx => .tail _ (.tail _ (hx))), fun _ => trivial⟩ ?_
                  clear hK K hn
                  try simp only [Act.put, List.setIfInBounds_toArray, List.set_cons_zero, List.set_cons_succ]
                  refine anyC_keep (i := 2) (o := ⟨some 70, _, _, _, _, _⟩) (by kernel_rfl) rfl (fun K hK => ?_)
                  rw [if_pos (by rfl)]
                  go_wp2_with fail
                  (with_reducible refine (plus_rel f q HF.out.2 HQ.out.2 _).mono ?_)
                  rintro e V2 ⟨L9, rfl, hL, hb⟩
                  have HL9 := Lib.hid hL
                  clear hL
                  have HN := Lib.hid (HN.out.below hb)
                  refine hK.out _ _ ⟨HN.out.sub (fun x hx => .tail _ (.tail _ (hx))), fun _ => trivial⟩ ?_
                  clear hK K hb
                  try simp only [Act.put, List.setIfInBounds_toArray, List.set_cons_zero, List.set_cons_succ]
                  refine anyC_keep (i := 5) (o := ⟨some 73, _, _, _, _, _⟩) (by kernel_rfl) rfl (fun K hK => ?_)
                  rw [if_pos (by rfl)]
                  go_wp2_with fail
                  (with_reducible refine (minus_rel f q HF.out.2 HQ.out.2 _).mono ?_)
                  rintro e V3 ⟨L10, rfl, hL, hb⟩
                  have HL10 := Lib.hid hL
                  clear hL
                  have HN := Lib.hid (HN.out.below hb)
                  refine hK.out _ _ ⟨HN.out.sub (fun x hx => .tail _ (.tail _ (hx))), fun _ => trivial⟩ ?_
                  clear hK K hb
                  try simp only [Act.put, List.setIfInBounds_toArray, List.set_cons_zero, List.set_cons_succ]
                  refine anyC_keep (i := 8) (o := ⟨none, _, _, _, _, _⟩) (by kernel_rfl) rfl (fun K hK => ?_)
                  rw [if_pos (by rfl)]
                  refine wp_store_row 44 _ _ rfl G9 (lsC L9) rfl rfl 44 _ (HN.out.k (G9, 44, [0, 0, 0, 0, 0]) (.head _)) (by rw [size44, lsC_size, HL9.out.1]) (by rw [lsC_size, lsC_size, HL9.out.1]; rfl) (lsC_one _) ?_
                  have HN := Lib.hid (HN.out.row (fun x hx => by rcases List.mem_cons.1 hx with rfl | hx; (first | exact HNE.out | exact HNE.out.symm); exact HDG9.out x hx) HZG9.out L9)
                  refine hK.out _ _ ⟨HN.out.sub (fun x hx => .tail _ (.tail _ (hx))), fun _ => trivial⟩ ?_
                  clear hK K
                  generalize World.setRow V3 G9 (lsC L9) = V4 at HN ⊢
                  try simp only [Act.put]
                  refine anyC_keep (i := 9) (o := ⟨none, _, _, _, _, _⟩) (by kernel_rfl) rfl (fun K hK => ?_)
                  rw [if_pos (by rfl)]
                  have HN := Lib.hid HN.out.swap
                  refine wp_store_row 44 _ _ rfl G10 (lsC L10) rfl rfl 44 _ (HN.out.k (G10, 44, [0, 0, 0, 0, 0]) (.head _)) (by rw [size44, lsC_size, HL10.out.1]) (by rw [lsC_size, lsC_size, HL10.out.1]; rfl) (lsC_one _) ?_
                  have HN := Lib.hid (HN.out.row (fun x hx => by rcases List.mem_cons.1 hx with rfl | hx; (first | exact HNE.out | exact HNE.out.symm); exact HDG10.out x hx) HZG10.out L10)
                  refine hK.out _ _ ⟨HN.out.sub (fun x hx => .tail _ (.tail _ (hx))), fun _ => trivial⟩ ?_
                  clear hK K
                  generalize World.setRow V4 G10 (lsC L10) = V5 at HN ⊢
                  try simp only [Act.put]
                  refine anyC_done (by kernel_rfl) ?_ _
                  go_wp2_with fail
                  go_meet
                  exact ⟨G9, G10, L9, L10, rfl, rfl, HL9, HL10, HN⟩
            case rest =>
              obtain ⟨G9, G10, L9, L10, rfl, rfl, HL9, HL10, HN⟩ := hcut
              have HDG : Hid (∀ x ∈ [(G10, 44, L10), (G9, 44, L9), (G8, 44, lm q), (G7, 44, lm f), (G6, 44, L6), (G5, 44, lm m), (G4, 44, lm s), (G3, 44, L3), (G2, 44, L2)], x.1 ≠ g) := Lib.hid (fun x hx => by
                have h1 := HN.out.z x (List.mem_append_left [(g, 72, ST a b c d u)] hx)
                have h2 := HG.out
                rcases h1 with h1 | h1
                · simp only [List.mem_cons, List.not_mem_nil, or_false] at hx
                  rcases hx with rfl | rfl | rfl | rfl | rfl | rfl | rfl | rfl | rfl <;> exact absurd h1 (show ¬ (44 : Nat) = 72 by decide)
                · omega)
              have HAB := Lib.hid (show muN s m = muN s m from rfl)
              have HK8 : Hid (∀ W, Calls Tryd.prog 60 #[.agg (lsC L6), .agg #[.int .u64 121665, .int .u64 0, .int .u64 0, .int .u64 0, .int .u64 0]] W fun e w' => e = .returned (.agg (lsC (lm (muN (sbN s m) 121665)))) ∧ Below W.heap.size W w') := Lib.hid (fun W => times_rel HL6.out (M := [121665, 0, 0, 0, 0]) (b := 121665) ⟨rfl, rfl, by decide⟩ W)
              obtain ⟨k, hk⟩ : ∃ k, muN (sbN s m) 121665 = k := ⟨_, rfl⟩
              rw [hk] at HK8
              have HK := Lib.hid (And.intro hk (show k < pC by rw [← hk]; exact muN_lt _ _))
              clear hk
              obtain ⟨A, hA⟩ : ∃ A, muN s m = A := ⟨_, rfl⟩
              have HT3 := Lib.hid (fun W => times_rel (lm_Lb HMS.out.1) (lm_Lb HMS.out.2) W)
              rw [hA] at HT3
              have HA := Lib.hid hA
              clear hA HAB
              have HST : Hid (Lar wc g 72 (ST a b c d u)) := Lib.hid (HN.out.k (g, 72, ST a b c d u) (.tail _ (.tail _ (.tail _ (.tail _ (.tail _ (.tail _ (.tail _ (.tail _ (.tail _ (.head _)))))))))))
              have HN : Hid (Sk g w [(G10, 44, L10), (G9, 44, L9), (G8, 44, (lm q)), (G7, 44, (lm f)), (G6, 44, L6), (G5, 44, (lm m)), (G4, 44, (lm s)), (G3, 44, L3), (G2, 44, L2)] wc) := Lib.hid (HN.out.sub fun x hx => List.mem_append_left [(g, 72, ST a b c d u)] hx)
              go_upto_region 6 with fail
              go_cut [1] (fun a1 wx => ∃ A' B', A' = muN s m ∧ B' = muN (sbN s m) (s + k) ∧ Hid (Lar wx g 72 (ST A' B' c d u)) ∧ Hid (Sk g w [(G10, 44, L10), (G9, 44, L9)] wx))
              case first =>
                go_wp2_with fail
                refine region_anyC (fun w' => Sk g w [(G10, 44, L10), (G9, 44, L9), (G8, 44, (lm q)), (G7, 44, (lm f)), (G6, 44, L6), (G5, 44, (lm m)), (G4, 44, (lm s)), (G3, 44, L3), (G2, 44, L2)] w') (fun _ => True) [] (by kernel_rfl) ?_
                have HN := Lib.hid HN.out.drew
                have HST := Lib.hid HST.out.drew
                generalize World.drew wc = W0 at HN HST ⊢
                refine anyC_takeS (i := 0) (oi := ⟨some 74, _, _, _, _, _⟩) (v := _) rfl (by kernel_rfl) (by kernel_rfl) (by kernel_rfl) (by kernel_rfl) (fun _ _ _ h => h) (Or.inl ⟨by rfl, fun w' hw' => (by clear hw'; go_simp; try with_reducible rfl)⟩) (HN.out) (fun _ => trivial) ?_
                try simp only [Act.put, List.setIfInBounds_toArray, List.set_cons_zero, List.set_cons_succ]
                refine anyC_takeS (i := 1) (oi := ⟨some 75, _, _, _, _, _⟩) (v := .agg (lsC (lm s))) rfl (by kernel_rfl) (by kernel_rfl) (by kernel_rfl) (by kernel_rfl) (fun _ _ _ h => h) (yieldsIf_load_mid (by rfl) 44 _ rfl G4 0 rfl ((lm s).map ld) _ (fun w' hw' => rangeL [] (lm s) [] (by have h := hw'.k (G4, 44, (lm s)) (.tail _ (.tail _ (.tail _ (.tail _ (.tail _ (.tail _ (.head _))))))); rw [List.append_nil]; exact h)) Tryd.underlying44 rfl (by rw [size44, lmap_len])) (HN.out) (fun _ => trivial) ?_
                try simp only [Act.put, List.setIfInBounds_toArray, List.set_cons_zero, List.set_cons_succ]
                refine anyC_takeS (i := 2) (oi := ⟨some 76, _, _, _, _, _⟩) (v := .agg (lsC (lm m))) rfl (by kernel_rfl) (by kernel_rfl) (by kernel_rfl) (by kernel_rfl) (fun _ _ _ h => h) (yieldsIf_load_mid (by rfl) 44 _ rfl G5 0 rfl ((lm m).map ld) _ (fun w' hw' => rangeL [] (lm m) [] (by have h := hw'.k (G5, 44, (lm m)) (.tail _ (.tail _ (.tail _ (.tail _ (.tail _ (.head _)))))); rw [List.append_nil]; exact h)) Tryd.underlying44 rfl (by rw [size44, lmap_len])) (HN.out) (fun _ => trivial) ?_
                try simp only [Act.put, List.setIfInBounds_toArray, List.set_cons_zero, List.set_cons_succ]
                refine anyC_takeS (i := 4) (oi := ⟨some 78, _, _, _, _, _⟩) (v := .agg (lsC L6)) rfl (by kernel_rfl) (by kernel_rfl) (by kernel_rfl) (by kernel_rfl) (fun _ _ _ h => h) (yieldsIf_load_mid (by rfl) 44 _ rfl G6 0 rfl (L6.map ld) _ (fun w' hw' => rangeL [] L6 [] (by have h := hw'.k (G6, 44, L6) (.tail _ (.tail _ (.tail _ (.tail _ (.head _))))); rw [List.append_nil]; exact h)) Tryd.underlying44 rfl (by rw [size44, List.length_map, HL6.out.1])) (HN.out) (fun _ => trivial) ?_
                try simp only [Act.put, List.setIfInBounds_toArray, List.set_cons_zero, List.set_cons_succ]
                refine anyC_takeS (i := 5) (oi := ⟨some 79, _, _, _, _, _⟩) (v := .agg (lsC (lm s))) rfl (by kernel_rfl) (by kernel_rfl) (by kernel_rfl) (by kernel_rfl) (fun _ _ _ h => h) (yieldsIf_load_mid (by rfl) 44 _ rfl G4 0 rfl ((lm s).map ld) _ (fun w' hw' => rangeL [] (lm s) [] (by have h := hw'.k (G4, 44, (lm s)) (.tail _ (.tail _ (.tail _ (.tail _ (.tail _ (.tail _ (.head _))))))); rw [List.append_nil]; exact h)) Tryd.underlying44 rfl (by rw [size44, lmap_len])) (HN.out) (fun _ => trivial) ?_
                try simp only [Act.put, List.setIfInBounds_toArray, List.set_cons_zero, List.set_cons_succ]
                refine anyC_takeS (i := 6) (oi := ⟨some 80, _, _, _, _, _⟩) (v := .agg (lsC L6)) rfl (by kernel_rfl) (by kernel_rfl) (by kernel_rfl) (by kernel_rfl) (fun _ _ _ h => h) (yieldsIf_load_mid (by rfl) 44 _ rfl G6 0 rfl (L6.map ld) _ (fun w' hw' => rangeL [] L6 [] (by have h := hw'.k (G6, 44, L6) (.tail _ (.tail _ (.tail _ (.tail _ (.head _))))); rw [List.append_nil]; exact h)) Tryd.underlying44 rfl (by rw [size44, List.length_map, HL6.out.1])) (HN.out) (fun _ => trivial) ?_
                try simp only [Act.put, List.setIfInBounds_toArray, List.set_cons_zero, List.set_cons_succ]
                refine anyC_takeS (i := 7) (oi := ⟨some 81, _, _, _, _, _⟩) (v := .agg #[.int .u64 121665, .int .u64 0, .int .u64 0, .int .u64 0, .int .u64 0]) rfl (by kernel_rfl) (by kernel_rfl) (by kernel_rfl) (by kernel_rfl) (fun _ _ _ h => h) (yieldsIf_build (by rfl) 44 _ rfl #[.int .u64 121665, .int .u64 0, .int .u64 0, .int .u64 0, .int .u64 0] (by rw [List.map_toArray]; kernel_rfl)) (HN.out) (fun _ => trivial) ?_
                try simp only [Act.put, List.setIfInBounds_toArray, List.set_cons_zero, List.set_cons_succ]
                refine anyC_keep (i := 3) (o := ⟨some 77, _, _, _, _, _⟩) (by kernel_rfl) rfl (fun K hK => ?_)
                rw [if_pos (by rfl)]
                go_wp2_with fail
                (with_reducible refine (HT3.out _).mono ?_)
                rintro e V0 ⟨rfl, hb⟩
                have HST := Lib.hid (HST.out.below hb HST.out.lt)
                have HN := Lib.hid (HN.out.below hb)
                refine hK.out _ _ ⟨HN.out, fun _ => trivial⟩ ?_
                clear hK K hb
                try simp only [Act.put, List.setIfInBounds_toArray, List.set_cons_zero, List.set_cons_succ]
                refine anyC_keep (i := 8) (o := ⟨some 82, _, _, _, _, _⟩) (by kernel_rfl) rfl (fun K hK => ?_)
                rw [if_pos (by rfl)]
                go_wp2_with fail
                (with_reducible refine (HK8.out _).mono ?_)
                rintro e V1 ⟨rfl, hb⟩
                have HST := Lib.hid (HST.out.below hb HST.out.lt)
                have HN := Lib.hid (HN.out.below hb)
                refine hK.out _ _ ⟨HN.out, fun _ => trivial⟩ ?_
                clear hK K hb
                try simp only [Act.put, List.setIfInBounds_toArray, List.set_cons_zero, List.set_cons_succ]
                refine anyC_keep (i := 9) (o := ⟨some 83, _, _, _, _, _⟩) (by kernel_rfl) rfl (fun K hK => ?_)
                rw [if_pos (by rfl)]
                go_wp2_with fail
                (with_reducible refine (plus_rel s k HMS.out.1 HK.out.2 _).mono ?_)
                rintro e V2 ⟨LS, rfl, hL, hb⟩
                have HLS := Lib.hid hL
                clear hL
                have HST := Lib.hid (HST.out.below hb HST.out.lt)
                have HN := Lib.hid (HN.out.below hb)
                refine hK.out _ _ ⟨HN.out, fun _ => trivial⟩ ?_
                clear hK K hb
                try simp only [Act.put, List.setIfInBounds_toArray, List.set_cons_zero, List.set_cons_succ]
                refine anyC_keep (i := 10) (o := ⟨some 84, _, _, _, _, _⟩) (by kernel_rfl) rfl (fun K hK => ?_)
                rw [if_pos (by rfl)]
                go_wp2_with fail
                (with_reducible refine (times_rel HL6.out HLS.out _).mono ?_)
                rintro e V3 ⟨rfl, hb⟩
                have HST := Lib.hid (HST.out.below hb HST.out.lt)
                have HN := Lib.hid (HN.out.below hb)
                refine hK.out _ _ ⟨HN.out, fun _ => trivial⟩ ?_
                clear hK K hb
                try simp only [Act.put, List.setIfInBounds_toArray, List.set_cons_zero, List.set_cons_succ]
                refine anyC_takeS (i := 11) (oi := ⟨some 85, _, _, _, _, _⟩) (v := .agg (lsC (lm A ++ lm (muN (sbN s m) (s + k))))) rfl (by kernel_rfl) (by kernel_rfl) (by kernel_rfl) (by kernel_rfl) (fun _ _ _ h => h) (yieldsIf_build (by rfl) 70 _ rfl (lsC (lm A ++ lm (muN (sbN s m) (s + k)))) (by rw [List.map_toArray]; exact built70 (lm A) (lm (muN (sbN s m) (s + k))) (lm_length _) (lm_length _))) (HN.out) (fun _ => trivial) ?_
                try simp only [Act.put, List.setIfInBounds_toArray, List.set_cons_zero, List.set_cons_succ]
                refine anyC_takeS (i := 12) (oi := ⟨some 86, _, _, _, _, _⟩) (v := _) rfl (by kernel_rfl) (by kernel_rfl) (by kernel_rfl) (by kernel_rfl) (fun _ _ _ h => h) (Or.inl ⟨by rfl, fun w' hw' => (by clear hw'; go_simp; try with_reducible rfl)⟩) (HN.out) (fun _ => trivial) ?_
                try simp only [Act.put, List.setIfInBounds_toArray, List.set_cons_zero, List.set_cons_succ]
                refine anyC_takeS (i := 13) (oi := ⟨some 87, _, _, _, _, _⟩) (v := _) rfl (by kernel_rfl) (by kernel_rfl) (by kernel_rfl) (by kernel_rfl) (fun _ _ _ h => h) (Or.inl ⟨by rfl, fun w' hw' => (by clear hw'; go_simp; try with_reducible rfl)⟩) (HN.out) (fun _ => trivial) ?_
                try simp only [Act.put, List.setIfInBounds_toArray, List.set_cons_zero, List.set_cons_succ]
                refine anyC_keep (i := 14) (o := ⟨none, _, _, _, _, _⟩) (by kernel_rfl) rfl (fun K hK => ?_)
                rw [if_pos (by rfl)]
                refine wp_store_mid 70 _ _ rfl g 0 (lsC (lm A ++ lm (muN (sbN s m) (s + k)))) rfl rfl (by rw [lsC_size, List.length_append, lm_length, lm_length]; exact st_there HST.out 0 (by decide)) (by rw [size70, lsC_size, List.length_append, lm_length, lm_length]) (lsC_one _) ?_
                have HST := Lib.hid (st_set_ab HST.out A (muN (sbN s m) (s + k)))
                have HN1 : Hid (Sk g w [(G10, 44, L10), (G9, 44, L9), (G8, 44, (lm q)), (G7, 44, (lm f)), (G6, 44, L6), (G5, 44, (lm m)), (G4, 44, (lm s)), (G3, 44, L3), (G2, 44, L2)] (V3.setCells g 0 (lsC (lm A ++ lm (muN (sbN s m) (s + k)))).toList)) := Lib.hid (HN.out.sets HDG.out 0 _)
                refine hK.out _ _ ⟨HN1.out, fun _ => trivial⟩ ?_
                clear hK K HN
                try simp only [Act.put]
                refine anyC_done (by kernel_rfl) ?_ _
                go_wp2_with fail
                go_meet
                exact ⟨A, _, HA.out.symm, rfl, HST, Lib.hid (HN1.out.sub fun x hx => List.mem_append_left [(G8, 44, lm q), (G7, 44, lm f), (G6, 44, L6), (G5, 44, lm m), (G4, 44, lm s), (G3, 44, L3), (G2, 44, L2)] hx)⟩
              case rest =>
                obtain ⟨A', B', hA', hB', HST, HN⟩ := hcut
                have HAB := Lib.hid (And.intro hA' hB')
                have HST7 := Lib.hid (st_u HST.out)
                clear hA' hB'
                have HT9 := Lib.hid (fun W => times_rel HL9.out HL9.out W)
                have HT10 := Lib.hid (fun W => times_rel HL10.out HL10.out W)
                obtain ⟨C', hC'⟩ : ∃ C', muN (f + q) (f + q) = C' := ⟨_, rfl⟩
                obtain ⟨r, hr⟩ : ∃ r, muN (sbN f q) (sbN f q) = r := ⟨_, rfl⟩
                rw [hC'] at HT9
                rw [hr] at HT10
                have HT11 := Lib.hid (fun W => times_rel (lm_Lb HP.out.2.2.2.2) (lm_Lb (show r < pC by rw [← hr]; exact muN_lt _ _)) W)
                obtain ⟨D', hD'⟩ : ∃ D', muN u r = D' := ⟨_, rfl⟩
                rw [hD'] at HT11
                have HCD := Lib.hid (And.intro hC' (And.intro hr hD'))
                clear hC' hr hD' HST7
                go_wp2_with fail
                refine region_anyC (fun w' => Sk g w [(G10, 44, L10), (G9, 44, L9)] w' ∧ w'.rangeAt g 20 ((lm u).map ld)) (fun _ => True) [] (by kernel_rfl) ?_
                have HN := Lib.hid HN.out.drew
                have HST := Lib.hid HST.out.drew
                generalize World.drew wc = W0 at HN HST ⊢
                refine anyC_takeS (i := 0) (oi := ⟨some 88, _, _, _, _, _⟩) (v := _) rfl (by kernel_rfl) (by kernel_rfl) (by kernel_rfl) (by kernel_rfl) (fun _ _ _ h => h) (Or.inl ⟨by rfl, fun w' hw' => (by clear hw'; go_simp; try with_reducible rfl)⟩) (⟨HN.out, st_u HST.out⟩) (fun _ => trivial) ?_
                try simp only [Act.put, List.setIfInBounds_toArray, List.set_cons_zero, List.set_cons_succ]
                refine anyC_takeS (i := 1) (oi := ⟨some 89, _, _, _, _, _⟩) (v := .agg (lsC L9)) rfl (by kernel_rfl) (by kernel_rfl) (by kernel_rfl) (by kernel_rfl) (fun _ _ _ h => h) (yieldsIf_load_mid (by rfl) 44 _ rfl G9 0 rfl (L9.map ld) _ (fun w' hw' => rangeL [] L9 [] (by have h := hw'.1.k (G9, 44, L9) (.tail _ (.head _)); rw [List.append_nil]; exact h)) Tryd.underlying44 rfl (by rw [size44, List.length_map, HL9.out.1])) (⟨HN.out, st_u HST.out⟩) (fun _ => trivial) ?_
                try simp only [Act.put, List.setIfInBounds_toArray, List.set_cons_zero, List.set_cons_succ]
                refine anyC_takeS (i := 2) (oi := ⟨some 90, _, _, _, _, _⟩) (v := .agg (lsC L9)) rfl (by kernel_rfl) (by kernel_rfl) (by kernel_rfl) (by kernel_rfl) (fun _ _ _ h => h) (yieldsIf_load_mid (by rfl) 44 _ rfl G9 0 rfl (L9.map ld) _ (fun w' hw' => rangeL [] L9 [] (by have h := hw'.1.k (G9, 44, L9) (.tail _ (.head _)); rw [List.append_nil]; exact h)) Tryd.underlying44 rfl (by rw [size44, List.length_map, HL9.out.1])) (⟨HN.out, st_u HST.out⟩) (fun _ => trivial) ?_
                try simp only [Act.put, List.setIfInBounds_toArray, List.set_cons_zero, List.set_cons_succ]
                refine anyC_takeS (i := 4) (oi := ⟨some 92, _, _, _, _, _⟩) (v := _) rfl (by kernel_rfl) (by kernel_rfl) (by kernel_rfl) (by kernel_rfl) (fun _ _ _ h => h) (Or.inl ⟨by rfl, fun w' hw' => (by clear hw'; go_simp; try with_reducible rfl)⟩) (⟨HN.out, st_u HST.out⟩) (fun _ => trivial) ?_
                try simp only [Act.put, List.setIfInBounds_toArray, List.set_cons_zero, List.set_cons_succ]
                refine anyC_takeS (i := 5) (oi := ⟨some 93, _, _, _, _, _⟩) (v := _) rfl (by kernel_rfl) (by kernel_rfl) (by kernel_rfl) (by kernel_rfl) (fun _ _ _ h => h) (Or.inl ⟨by rfl, fun w' hw' => (by clear hw'; go_simp; try with_reducible rfl)⟩) (⟨HN.out, st_u HST.out⟩) (fun _ => trivial) ?_
                try simp only [Act.put, List.setIfInBounds_toArray, List.set_cons_zero, List.set_cons_succ]
                refine anyC_takeS (i := 6) (oi := ⟨some 94, _, _, _, _, _⟩) (v := _) rfl (by kernel_rfl) (by kernel_rfl) (by kernel_rfl) (by kernel_rfl) (fun _ _ _ h => h) (Or.inl ⟨by rfl, fun w' hw' => (by clear hw'; go_simp; try with_reducible rfl)⟩) (⟨HN.out, st_u HST.out⟩) (fun _ => trivial) ?_
                try simp only [Act.put, List.setIfInBounds_toArray, List.set_cons_zero, List.set_cons_succ]
                refine anyC_takeS (i := 7) (oi := ⟨some 95, _, _, _, _, _⟩) (v := .agg (lsC (lm u))) rfl (by kernel_rfl) (by kernel_rfl) (by kernel_rfl) (by kernel_rfl) (fun _ _ _ h => h) (yieldsIf_load_mid (by rfl) 44 _ rfl g 20 rfl ((lm u).map ld) _ (fun w' hw' => hw'.2) Tryd.underlying44 rfl (by rw [size44, lmap_len])) (⟨HN.out, st_u HST.out⟩) (fun _ => trivial) ?_
                try simp only [Act.put, List.setIfInBounds_toArray, List.set_cons_zero, List.set_cons_succ]
                refine anyC_takeS (i := 8) (oi := ⟨some 96, _, _, _, _, _⟩) (v := .agg (lsC L10)) rfl (by kernel_rfl) (by kernel_rfl) (by kernel_rfl) (by kernel_rfl) (fun _ _ _ h => h) (yieldsIf_load_mid (by rfl) 44 _ rfl G10 0 rfl (L10.map ld) _ (fun w' hw' => rangeL [] L10 [] (by have h := hw'.1.k (G10, 44, L10) (.head _); rw [List.append_nil]; exact h)) Tryd.underlying44 rfl (by rw [size44, List.length_map, HL10.out.1])) (⟨HN.out, st_u HST.out⟩) (fun _ => trivial) ?_
                try simp only [Act.put, List.setIfInBounds_toArray, List.set_cons_zero, List.set_cons_succ]
                refine anyC_takeS (i := 9) (oi := ⟨some 97, _, _, _, _, _⟩) (v := .agg (lsC L10)) rfl (by kernel_rfl) (by kernel_rfl) (by kernel_rfl) (by kernel_rfl) (fun _ _ _ h => h) (yieldsIf_load_mid (by rfl) 44 _ rfl G10 0 rfl (L10.map ld) _ (fun w' hw' => rangeL [] L10 [] (by have h := hw'.1.k (G10, 44, L10) (.head _); rw [List.append_nil]; exact h)) Tryd.underlying44 rfl (by rw [size44, List.length_map, HL10.out.1])) (⟨HN.out, st_u HST.out⟩) (fun _ => trivial) ?_
                try simp only [Act.put, List.setIfInBounds_toArray, List.set_cons_zero, List.set_cons_succ]
                refine anyC_keep (i := 3) (o := ⟨some 91, _, _, _, _, _⟩) (by kernel_rfl) rfl (fun K hK => ?_)
                rw [if_pos (by rfl)]
                go_wp2_with fail
                (with_reducible refine (HT9.out _).mono ?_)
                rintro e V0 ⟨rfl, hb⟩
                have HST := Lib.hid (HST.out.below hb HST.out.lt)
                have HN := Lib.hid (HN.out.below hb)
                refine hK.out _ _ ⟨⟨HN.out, st_u HST.out⟩, fun _ => trivial⟩ ?_
                clear hK K hb
                try simp only [Act.put, List.setIfInBounds_toArray, List.set_cons_zero, List.set_cons_succ]
                refine anyC_keep (i := 10) (o := ⟨some 98, _, _, _, _, _⟩) (by kernel_rfl) rfl (fun K hK => ?_)
                rw [if_pos (by rfl)]
                go_wp2_with fail
                (with_reducible refine (HT10.out _).mono ?_)
                rintro e V1 ⟨rfl, hb⟩
                have HST := Lib.hid (HST.out.below hb HST.out.lt)
                have HN := Lib.hid (HN.out.below hb)
                refine hK.out _ _ ⟨⟨HN.out, st_u HST.out⟩, fun _ => trivial⟩ ?_
                clear hK K hb
                try simp only [Act.put, List.setIfInBounds_toArray, List.set_cons_zero, List.set_cons_succ]
                refine anyC_keep (i := 11) (o := ⟨some 99, _, _, _, _, _⟩) (by kernel_rfl) rfl (fun K hK => ?_)
                rw [if_pos (by rfl)]
                go_wp2_with fail
                (with_reducible refine (HT11.out _).mono ?_)
                rintro e V2 ⟨rfl, hb⟩
                have HST := Lib.hid (HST.out.below hb HST.out.lt)
                have HN := Lib.hid (HN.out.below hb)
                refine hK.out _ _ ⟨⟨HN.out, st_u HST.out⟩, fun _ => trivial⟩ ?_
                clear hK K hb
                try simp only [Act.put, List.setIfInBounds_toArray, List.set_cons_zero, List.set_cons_succ]
                refine anyC_takeS (i := 12) (oi := ⟨some 100, _, _, _, _, _⟩) (v := .agg (lsC (lm C' ++ lm D'))) rfl (by kernel_rfl) (by kernel_rfl) (by kernel_rfl) (by kernel_rfl) (fun _ _ _ h => h) (yieldsIf_build (by rfl) 70 _ rfl (lsC (lm C' ++ lm D')) (by rw [List.map_toArray]; exact built70 (lm C') (lm D') (lm_length _) (lm_length _))) (⟨HN.out, st_u HST.out⟩) (fun _ => trivial) ?_
                try simp only [Act.put, List.setIfInBounds_toArray, List.set_cons_zero, List.set_cons_succ]
                refine anyC_takeS (i := 13) (oi := ⟨some 101, _, _, _, _, _⟩) (v := _) rfl (by kernel_rfl) (by kernel_rfl) (by kernel_rfl) (by kernel_rfl) (fun _ _ _ h => h) (Or.inl ⟨by rfl, fun w' hw' => (by clear hw'; go_simp; try with_reducible rfl)⟩) (⟨HN.out, st_u HST.out⟩) (fun _ => trivial) ?_
                try simp only [Act.put, List.setIfInBounds_toArray, List.set_cons_zero, List.set_cons_succ]
                refine anyC_takeS (i := 14) (oi := ⟨some 102, _, _, _, _, _⟩) (v := _) rfl (by kernel_rfl) (by kernel_rfl) (by kernel_rfl) (by kernel_rfl) (fun _ _ _ h => h) (Or.inl ⟨by rfl, fun w' hw' => (by clear hw'; go_simp; try with_reducible rfl)⟩) (⟨HN.out, st_u HST.out⟩) (fun _ => trivial) ?_
                try simp only [Act.put, List.setIfInBounds_toArray, List.set_cons_zero, List.set_cons_succ]
                refine anyC_keep (i := 15) (o := ⟨none, _, _, _, _, _⟩) (by kernel_rfl) rfl (fun K hK => ?_)
                rw [if_pos (by rfl)]
                refine wp_store_mid 70 _ _ rfl g 10 (lsC (lm C' ++ lm D')) rfl rfl (by rw [lsC_size, List.length_append, lm_length, lm_length]; exact st_there HST.out 10 (by decide)) (by rw [size70, lsC_size, List.length_append, lm_length, lm_length]) (lsC_one _) ?_
                have HST := Lib.hid (st_set_cd HST.out C' D')
                have HN1 : Hid (Sk g w [(G10, 44, L10), (G9, 44, L9)] (V2.setCells g 10 (lsC (lm C' ++ lm D')).toList)) := Lib.hid (HN.out.sets (fun x hx => HDG.out x (List.mem_append_left [(G8, 44, lm q), (G7, 44, lm f), (G6, 44, L6), (G5, 44, lm m), (G4, 44, lm s), (G3, 44, L3), (G2, 44, L2)] hx)) 10 _)
                refine hK.out _ _ ⟨⟨HN1.out, st_u HST.out⟩, fun _ => trivial⟩ ?_
                clear hK K HN
                try simp only [Act.put]
                refine anyC_done (by kernel_rfl) ?_ _
                go_wp2_with fail
                go_end0
                refine ⟨⟨_, rfl⟩, ?_, HN1.out.o⟩
                have e1 := HAB.out
                have e2 := HCD.out
                have e3 := HS.out
                have e4 := HF.out.1
                have e5 := HQ.out.1
                have e6 := HK.out.1
                have hs : ST (stepN u ⟨a, b, c, d⟩).a (stepN u ⟨a, b, c, d⟩).b (stepN u ⟨a, b, c, d⟩).c (stepN u ⟨a, b, c, d⟩).d u = ST A' B' C' D' u := by
                  rw [e1.1, e1.2, ← e2.2.2, ← e2.2.1, ← e2.1, ← e6, ← e5, ← e4, ← e3.1, ← e3.2]; rfl
                rw [hs]
                exact HST.out
end Go.Proofs.YtbadiljligcenaaDoor
