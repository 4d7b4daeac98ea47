/- Contracts of text, hostText and HostText. -/
import Derived.Test.YtjoogiabimiioaaGreatDoorI
import Derived.Test.YtjoogiabimiioaaGreatDoorC
namespace Go.Proofs.YtjoogiabimiioaaGreatDoor
open Go.RowKit Go.ChangeShapes
theorem numT_length (base n : Nat) (hn : n < 65536) : (numT base n).length ≤ 20 := by
  unfold numT
  split
  · rw [Lib.decDigits_length]; exact Lib.nDigits_le20 n (by omega)
  · unfold hx
    split
    · rw [hexL_length]; omega
    · split
      · rw [hexL_length]; omega
      · split <;> rw [hexL_length] <;> omega
theorem joinT_length (base : Nat) (c : UInt8) : ∀ l : List Nat, (∀ x ∈ l, x < 65536) → (Lib.join (l.map (numT base)) [c]).length ≤ 21 * l.length
  | [], _ => by simp [Lib.join_nil]
  | x :: r, h => by
    rw [List.map_cons, Lib.join_cons, List.length_append, Lib.joinTail_length]
    have h1 := numT_length base x (h x (List.mem_cons_self ..))
    have h2 : ∀ r : List Nat, (∀ x ∈ r, x < 65536) → Lib.lens (r.map (numT base)) ≤ 20 * r.length := by
      intro r
      induction r with
      | nil => intro _; simp [Lib.lens]
      | cons y r ih =>
        intro hr
        have h3 := numT_length base y (hr y (List.mem_cons_self ..))
        have h4 := ih (fun x hx => hr x (List.mem_cons_of_mem _ hx))
        simp only [Lib.lens, List.map_cons, List.sum_cons, List.length_cons] at h4 ⊢
        omega
    have h5 := h2 r (fun x hx => h x (List.mem_cons_of_mem _ hx))
    simp only [List.length_map, List.length_cons, List.length_nil] at *
    omega
/-- Groups with colons between them. -/
def colT (l : List Nat) : List UInt8 := Lib.join (l.map (numT 16)) [58]
/-- The text of groups. -/
def grT (l : List Nat) : List UInt8 :=
  if (lrK l 8).1 = (lrK l 8).2.1 then colT l else colT (l.take (lrK l 8).1) ++ ([58, 58] ++ colT (l.drop (lrK l 8).2.1))
theorem colT_length (l : List Nat) (hl : l.length ≤ 8) (h : ∀ x ∈ l, x < 65536) : (colT l).length ≤ 168 := by
  have := joinT_length 16 58 l h
  unfold colT
  omega
theorem sl_all (g : Nat) (W : World) : (Instr.sliceAt 120 (.pointer (some ⟨g, 0, none⟩)) none none none).run Tryz.prog W = .ok (.slice (some ⟨g, 0, none⟩) 8 8) W := by
  have hal : Tryz.prog.arrayLen 120 = 8 := by kernel_rfl
  rw [run_sliceAt_array_all W 120 ⟨g, 0, none⟩ (by kernel_rfl), hal]
  go_simp
theorem sl_to (g k : Nat) (hk : k ≤ 8) (W : World) : (Instr.sliceAt 120 (.pointer (some ⟨g, 0, none⟩)) none (some (.int .i64 (k : Int))) none).run Tryz.prog W = .ok (.slice (some ⟨g, 0, none⟩) k 8) W := by
  have hal : Tryz.prog.arrayLen 120 = 8 := by kernel_rfl
  rw [run_sliceAt_array_h W 120 ⟨g, 0, none⟩ (by kernel_rfl) .i64 (k : Int) (by omega) (by rw [hal]; omega), hal]
  go_simp
theorem sl_from (g k : Nat) (hk : k < 8) (W : World) : (Instr.sliceAt 120 (.pointer (some ⟨g, 0, none⟩)) (some (.int .i64 (k : Int))) none none).run Tryz.prog W = .ok (.slice (some ⟨g, k, none⟩) (8 - k) (8 - k)) W := by
  have hal : Tryz.prog.arrayLen 120 = 8 := by kernel_rfl
  rw [run_sliceAt_array_l W 120 ⟨g, 0, none⟩ (by kernel_rfl) .i64 (k : Int) (by omega) (by rw [hal]; omega), hal]
  go_simp
  omega
theorem sl_rest (g k : Nat) (hk : k ≤ 8) : ∃ o, (∀ W, (Instr.sliceAt 120 (.pointer (some ⟨g, 0, none⟩)) (some (.int .i64 (k : Int))) none none).run Tryz.prog W = .ok (.slice (some ⟨g, o, none⟩) (8 - k) (8 - k)) W) ∧ (k < 8 → o = k) := by
  by_cases h : k < 8
  · exact ⟨k, fun W => sl_from g k h W, fun _ => rfl⟩
  · obtain rfl : k = 8 := by omega
    exact ⟨0, fun W => (by show _ = _; kernel_rfl), fun h => absurd h (by decide)⟩
/-- What stays while a text of groups is made. -/
structure Tx (w : World) (G : Nat) (l : List Nat) (W : World) : Prop where
  e : Env W
  g : Gr W G l
  b : Below w.heap.size w W
theorem Tx.below {w : World} {G : Nat} {l : List Nat} {W V : World} (h : Tx w G l W) (hb : Below W.heap.size W V) : Tx w G l V := ⟨h.e.below hb, h.g.below hb h.g.lt, bstep h.b hb⟩
theorem Tx.drew {w : World} {G : Nat} {l : List Nat} {W : World} (h : Tx w G l W) : Tx w G l W.drew := ⟨h.e.drew, h.g.drew, h.b.drew⟩
theorem wr_part {w : World} {G : Nat} {l : List Nat} (o cap : Nat) (l' : List Nat) (W : World) (h : Tx w G l W) (hl : l.length = 8) (hsub : ∀ j, j < l'.length → o + j < 8 ∧ l'.getD j 0 = l.getD (o + j) 0) (hv : ∀ x ∈ l', x < 65536) (hl' : l'.length ≤ 8) (hcap : l'.length ≤ cap) :
    Calls Tryz.prog 104 #[.slice (some ⟨G, o, none⟩) l'.length cap, .string ⟨#[58]⟩, .int .i64 16] W fun e w' => e = .returned (.string (bs (colT l'))) ∧ Below W.heap.size W w' := by
  refine write104_any G o cap l' [58] 16 (.inr rfl) W h.e hl' hv h.g.lt hcap (fun j hj => ?_) ?_
  · obtain ⟨h1, h2⟩ := hsub j hj
    rw [h.g.cell (by omega), h2]
  · have := joinT_length 16 58 l' hv
    omega
set_option maxRecDepth 100000 in
set_option maxHeartbeats 8000000 in
theorem text_any (l : List Nat) (w : World) (hl : l.length = 8) (hv : ∀ x ∈ l, x < 65536) (hE : Env w) :
    Calls Tryz.prog 82 #[.agg (gsC l)] w fun e w' => e = .returned (.string (bs (grT l))) ∧ Below w.heap.size w w' := by
  have HT : Hid (Tx w w.heap.size l (w.alloc (.cells (gsC l) 120))) := Lib.hid ⟨hE.alloc _, Gr.new w l, (Below.refl w.heap.size w).alloc (Nat.le_refl _) _⟩
  have HLR := Lib.hid (fun W => longestRun_any l W hl hv)
  have hle := lrK_le l 8
  obtain ⟨o, ho1, ho2⟩ := sl_rest w.heap.size (lrK l 8).2.1 hle.2.1
  have hsa := sl_all w.heap.size
  have hst := sl_to w.heap.size (lrK l 8).1 (by omega)
  have hA : Hid (∀ W, Tx w w.heap.size l W → Calls Tryz.prog 104 #[.slice (some ⟨w.heap.size, 0, none⟩) 8 8, .string ⟨#[58]⟩, .int .i64 16] W fun e w' => e = .returned (.string (bs (colT l))) ∧ Below W.heap.size W w') := Lib.hid (fun W h => by
    have := wr_part 0 8 l W h hl (fun j hj => ⟨by omega, by rw [Nat.zero_add]⟩) hv (by omega) (by omega)
    rwa [hl] at this)
  have h1 : Hid (∀ W, Tx w w.heap.size l W → Calls Tryz.prog 104 #[.slice (some ⟨w.heap.size, 0, none⟩) (lrK l 8).1 8, .string ⟨#[58]⟩, .int .i64 16] W fun e w' => e = .returned (.string (bs (colT (l.take (lrK l 8).1)))) ∧ Below W.heap.size W w') := Lib.hid (fun W h => by
    have hlt : (l.take (lrK l 8).1).length = (lrK l 8).1 := by rw [List.length_take]; omega
    have := wr_part 0 8 (l.take (lrK l 8).1) W h hl (fun j hj => ⟨by omega, by rw [Nat.zero_add, List.getD_eq_getElem?_getD, List.getElem?_take_of_lt (by omega), List.getD_eq_getElem?_getD]⟩) (fun x hx => hv x (List.mem_of_mem_take hx)) (by omega) (by omega)
    rwa [hlt] at this)
  have h2 : Hid (∀ W, Tx w w.heap.size l W → Calls Tryz.prog 104 #[.slice (some ⟨w.heap.size, o, none⟩) (8 - (lrK l 8).2.1) (8 - (lrK l 8).2.1), .string ⟨#[58]⟩, .int .i64 16] W fun e w' => e = .returned (.string (bs (colT (l.drop (lrK l 8).2.1)))) ∧ Below W.heap.size W w') := Lib.hid (fun W h => by
    have hlt : (l.drop (lrK l 8).2.1).length = 8 - (lrK l 8).2.1 := by rw [List.length_drop, hl]
    have := wr_part o (8 - (lrK l 8).2.1) (l.drop (lrK l 8).2.1) W h hl (fun j hj => by
      have ho := ho2 (by omega)
      subst ho
      exact ⟨by omega, by rw [List.getD_eq_getElem?_getD, List.getElem?_drop, List.getD_eq_getElem?_getD]⟩) (fun x hx => hv x (List.mem_of_mem_drop hx)) (by omega) (by omega)
    rwa [hlt] at this)
  have hz1 := colT_length (l.take (lrK l 8).1) (by rw [List.length_take]; omega) (fun x hx => hv x (List.mem_of_mem_take hx))
  have hz2 := colT_length (l.drop (lrK l 8).2.1) (by rw [List.length_drop]; omega) (fun x hx => hv x (List.mem_of_mem_drop hx))
  have hgt : grT l = if (lrK l 8).1 = (lrK l 8).2.1 then colT l else colT (l.take (lrK l 8).1) ++ ([58, 58] ++ colT (l.drop (lrK l 8).2.1)) := rfl
  rw [hgt]
  have HLN := Lib.hid hl
  generalize colT l = TA at hA ⊢
  generalize colT (l.take (lrK l 8).1) = T1 at h1 hz1 ⊢
  generalize colT (l.drop (lrK l 8).2.1) = T2 at h2 hz2 ⊢
  generalize (lrK l 8).1 = f at *
  generalize (lrK l 8).2.1 = b at *
  clear hv hE hgt ho2 hl
  by_cases hfb : f = b
  · subst hfb
    rw [if_pos rfl]
    go_enter Tryz.func82, Tryz.ntmps82
    go_upto_region 1 with fail
    generalize hV : World.alloc w _ = V at HT ⊢
    clear hV
    go_wp2_with (refine wpList_load_row rfl 120 _ rfl w.heap.size rfl 120 (gsC l) (0, 0) _ HT.out.g Tryz.underlying120 rfl (by rw [size120, gsC_size, HLN.out]) ?_)
    (with_reducible refine (HLR.out _).mono ?_)
    rintro e V2 ⟨rfl, hb⟩
    have HT2 := Lib.hid (HT.out.below hb)
    clear hb
    go_wp2_with fail
    (with_reducible refine (hA.out _ HT2.out).mono ?_)
    rintro e V3 ⟨rfl, hb⟩
    have HT3 := Lib.hid (HT2.out.below hb)
    clear hb
    go_wp2
    go_ret
    exact ⟨rfl, HT3.out.b⟩
  · have hfi : ¬ (f : Int) = (b : Int) := by omega
    have hfj : ((f : Int) == (b : Int)) = false := beq_false_of_ne hfi
    rw [if_neg hfb]
    have hc2 : ∀ wx : World, (Op.stringOp .add (bs T1) ⟨#[58, 58]⟩).run Tryz.prog wx = .ok (.string (bs (T1 ++ [58, 58]))) wx := fun wx => by
      rw [run_string_add wx (bs T1) ⟨#[58, 58]⟩ (by rw [bs_size]; omega) (by decide), bs_append]; rfl
    have hc3 : ∀ wx : World, (Op.stringOp .add (bs (T1 ++ [58, 58])) (bs T2)).run Tryz.prog wx = .ok (.string (bs (T1 ++ ([58, 58] ++ T2)))) wx := fun wx => by
      rw [run_string_add wx _ _ (by rw [bs_size, List.length_append, List.length_cons, List.length_cons, List.length_nil]; omega) (by rw [bs_size]; omega), ← bs_append, List.append_assoc]
    have HC := Lib.hid (fun wx => And.intro (hc2 wx) (hc3 wx))
    obtain ⟨X1, hX1⟩ : ∃ X, bs T1 = X := ⟨_, rfl⟩
    obtain ⟨X2, hX2⟩ : ∃ X, bs T2 = X := ⟨_, rfl⟩
    obtain ⟨X3, hX3⟩ : ∃ X, bs (T1 ++ [58, 58]) = X := ⟨_, rfl⟩
    obtain ⟨X4, hX4⟩ : ∃ X, bs (T1 ++ ([58, 58] ++ T2)) = X := ⟨_, rfl⟩
    simp only [hX1, hX2, hX3, hX4] at HC h1 h2 ⊢
    clear hc2 hc3 hX1 hX2 hX3 hX4 hz1 hz2 hfb
    go_enter Tryz.func82, Tryz.ntmps82
    go_upto_region 1 with fail
    generalize hV : World.alloc w _ = V at HT ⊢
    clear hV
    go_wp2_with (refine wpList_load_row rfl 120 _ rfl w.heap.size rfl 120 (gsC l) (0, 0) _ HT.out.g Tryz.underlying120 rfl (by rw [size120, gsC_size, HLN.out]) ?_)
    (with_reducible refine (HLR.out _).mono ?_)
    rintro e V2 ⟨rfl, hb⟩
    have HT := Lib.hid (HT.out.below hb)
    clear hb
    go_upto_region 4 with fail
    refine region_anyC (fun _ => True) (fun w' => True) [] (by kernel_rfl) ?_
    have HT := Lib.hid HT.out.drew
    refine anyC_takeS (i := 0) (oi := ⟨some 15, _, _, _, _, _⟩) (v := _) rfl (by kernel_rfl) (by kernel_rfl) (by kernel_rfl) (by kernel_rfl) (fun _ _ _ h => h) (Or.inl ⟨by rfl, fun w' hw' => (by clear hw'; go_simp; try with_reducible rfl)⟩) trivial (fun _ => trivial) ?_
    try simp only [Act.put, List.setIfInBounds_toArray, List.set_cons_zero, List.set_cons_succ]
    refine anyC_takeS (i := 1) (oi := ⟨some 16, _, _, _, _, _⟩) (v := _) rfl (by kernel_rfl) (by kernel_rfl) (by kernel_rfl) (by kernel_rfl) (fun _ _ _ h => h) (Or.inl ⟨by rfl, fun w' hw' => (by clear hw'; go_simp; try with_reducible rfl)⟩) trivial (fun _ => trivial) ?_
    try simp only [Act.put, List.setIfInBounds_toArray, List.set_cons_zero, List.set_cons_succ]
    refine anyC_takeS (i := 4) (oi := ⟨some 19, _, _, _, _, _⟩) (v := _) rfl (by kernel_rfl) (by kernel_rfl) (by kernel_rfl) (by kernel_rfl) (fun _ _ _ h => h) (Or.inl ⟨by rfl, fun w' hw' => (by clear hw'; go_simp; try with_reducible rfl)⟩) trivial (fun _ => trivial) ?_
    try simp only [Act.put, List.setIfInBounds_toArray, List.set_cons_zero, List.set_cons_succ]
    refine anyC_takeS (i := 5) (oi := ⟨some 20, _, _, _, _, _⟩) (v := _) rfl (by kernel_rfl) (by kernel_rfl) (by kernel_rfl) (by kernel_rfl) (fun _ _ _ h => h) (Or.inl ⟨by rfl, fun w' hw' => (by clear hw'; go_simp; try with_reducible rfl)⟩) trivial (fun _ => trivial) ?_
    try simp only [Act.put, List.setIfInBounds_toArray, List.set_cons_zero, List.set_cons_succ]
    refine anyC_keep (i := 2) (o := ⟨some 17, _, _, _, _, _⟩) (by kernel_rfl) rfl (fun K hK => ?_)
    rw [if_pos (by rfl)]
    go_wp2_with fail
    (with_reducible refine (h1.out _ HT.out).mono ?_)
    rintro e V3 ⟨rfl, hb⟩
    have HT := Lib.hid (HT.out.below hb)
    refine hK.out _ _ ⟨trivial, fun _ => trivial⟩ ?_
    clear hK K hb
    try simp only [Act.put, List.setIfInBounds_toArray, List.set_cons_zero, List.set_cons_succ]
    refine anyC_takeS (i := 3) (oi := ⟨some 18, _, _, _, _, _⟩) (v := .string X3) rfl (by kernel_rfl) (by kernel_rfl) (by kernel_rfl) (by kernel_rfl) (fun _ _ _ h => h) (Or.inl ⟨by rfl, fun w' hw' => (by have hc := HC.out w'; clear hw'; go_simp; first | done | (with_reducible rfl) | omega)⟩) trivial (fun _ => trivial) ?_
    try simp only [Act.put, List.setIfInBounds_toArray, List.set_cons_zero, List.set_cons_succ]
    refine anyC_keep (i := 6) (o := ⟨some 21, _, _, _, _, _⟩) (by kernel_rfl) rfl (fun K hK => ?_)
    rw [if_pos (by rfl)]
    go_wp2_with fail
    (with_reducible refine (h2.out _ HT.out).mono ?_)
    rintro e V4 ⟨rfl, hb⟩
    have HT := Lib.hid (HT.out.below hb)
    refine hK.out _ _ ⟨trivial, fun _ => trivial⟩ ?_
    clear hK K hb
    try simp only [Act.put, List.setIfInBounds_toArray, List.set_cons_zero, List.set_cons_succ]
    refine anyC_takeS (i := 7) (oi := ⟨some 22, _, _, _, _, _⟩) (v := .string X4) rfl (by kernel_rfl) (by kernel_rfl) (by kernel_rfl) (by kernel_rfl) (fun _ _ _ h => h) (Or.inl ⟨by rfl, fun w' hw' => (by have hc := HC.out w'; clear hw'; go_simp; first | done | (with_reducible rfl) | omega)⟩) trivial (fun _ => trivial) ?_
    try simp only [Act.put, List.setIfInBounds_toArray, List.set_cons_zero, List.set_cons_succ]
    refine anyC_takeS (i := 8) (oi := ⟨some 2, _, _, _, _, _⟩) (v := _) rfl (by kernel_rfl) (by kernel_rfl) (by kernel_rfl) (by kernel_rfl) (fun _ _ _ h => h) (Or.inl ⟨by rfl, fun w' hw' => (by clear hw'; go_simp; try with_reducible rfl)⟩) trivial (fun _ => trivial) ?_
    try simp only [Act.put, List.setIfInBounds_toArray, List.set_cons_zero, List.set_cons_succ]
    refine anyC_done (by kernel_rfl) ?_ _
    go_wp2_with fail
    go_ret
    exact ⟨rfl, HT.out.b⟩
end Go.Proofs.YtjoogiabimiioaaGreatDoor
