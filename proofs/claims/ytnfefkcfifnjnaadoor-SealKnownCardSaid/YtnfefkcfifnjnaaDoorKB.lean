/- The walk of SealKnown. -/
import Derived.Test.YtnfefkcfifnjnaaDoorKA
import Derived.Test.YtnfefkcfifnjnaaDoorW
namespace Go.Proofs.YtnfefkcfifnjnaaDoor
open Go.RowKit Go.ChangeShapes
theorem y_thr2 : bs FA ++ rp 0 16 ++ rp 0 16 = bs THR := by decide +kernel
set_option maxRecDepth 1000000 in
set_option maxHeartbeats 16000000 in
theorem known_true (w : World) (hD : Digits w) :
    Calls Tryd.prog 9 #[] w fun e w' => e = .returned (.bool true) ∧ Below w.heap.size w w' := by
  have K0 := Wk.start hD
  have HD := Lib.hid hD
  have z1 := BXF_size
  have z2 : (bs EMB).size = 16 := rfl
  have s4 := sl31k
  have r1 : (rp 255 15).size = 15 := rp_size _ _
  have r2 : (rp 0 16).size = 16 := rp_size _ _
  have r3 : (rp 0 31).size = 31 := rp_size _ _
  have r4 : (rp 107 32).size = 32 := rp_size _ _
  have r5 : (rp 110 12).size = 12 := rp_size _ _
  have y1 := y_one
  have y2 := y_thr2
  have y3 := y_zro
  have y4 := y_fa
  clear hD
  go_enter Tryd.func9, Tryd.ntmps9
  go_wp2_with fail
  refine (worksQ_true _ K0.d).mono ?_
  rintro e W1 ⟨rfl, hb⟩
  have K0 := K0.step hb
  clear hb
  go_upto_region 11 with (first
    | (go_at_call 30; (with_reducible refine (kRep 107 32 32 _ rfl (by decide)).mono ?_); rintro r V ⟨rfl, hb⟩; have K0 := Wk.step K0 hb; clear hb)
    | (go_at_call 30; (with_reducible refine (kRep 110 12 12 _ rfl (by decide)).mono ?_); rintro r V ⟨rfl, hb⟩; have K0 := Wk.step K0 hb; clear hb)
    | (go_at_call 30; (with_reducible refine (kRep 120 4096 4096 _ rfl (by decide)).mono ?_); rintro r V ⟨rfl, hb⟩; have K0 := Wk.step K0 hb; clear hb)
    | (go_at_call 30; (with_reducible refine (kRep 120 4097 4097 _ rfl (by decide)).mono ?_); rintro r V ⟨rfl, hb⟩; have K0 := Wk.step K0 hb; clear hb)
    | (go_at_call 30; (with_reducible refine (kRep 255 15 15 _ rfl (by decide)).mono ?_); rintro r V ⟨rfl, hb⟩; have K0 := Wk.step K0 hb; clear hb)
    | (go_at_call 20; (with_reducible refine (ySeal _).mono ?_); rintro r V ⟨rfl, hb⟩; have K0 := Wk.step K0 hb; clear hb)
    | (go_at_call 20; (with_reducible refine (ySealE _).mono ?_); rintro r V ⟨rfl, hb⟩; have K0 := Wk.step K0 hb; clear hb)
    | (go_at_call 28; (with_reducible refine (zerosQ_any 16 16 _ rfl (by decide)).mono ?_); rintro r V ⟨rfl, hb⟩; have K0 := Wk.step K0 hb; clear hb)
    | (go_at_call 28; (with_reducible refine (zerosQ_any 31 31 _ rfl (by decide)).mono ?_); rintro r V ⟨rfl, hb⟩; have K0 := Wk.step K0 hb; clear hb)
    )
  clear y1 y2 y3 r2 r3
  go_upto_region 12 with (first
    | (go_at_call 24; (with_reducible refine (sameQ_any _ _).mono ?_); rintro r X ⟨rfl, rfl⟩)
    | (go_at_call 25; (with_reducible refine (failsQ_any _ _).mono ?_); rintro r X ⟨rfl, rfl⟩)
    | (go_at_call 22; (with_reducible refine (yOpenF _).mono ?_); rintro r V ⟨rfl, hb⟩; obtain ⟨K0, hp, hz⟩ := Wk.cell1 K0 hb; clear hb)
    | (go_at_call 22; (with_reducible refine (yOpenE _).mono ?_); rintro r V ⟨rfl, hb⟩; obtain ⟨K0, hp, hz⟩ := Wk.cell1 K0 hb; clear hb)
    | (go_at_call 22; (with_reducible refine (yOpenX _).mono ?_); rintro r V ⟨rfl, hb⟩; obtain ⟨K0, hp, hz⟩ := Wk.cell1 K0 hb; clear hb)
    | (go_at_call 22; (with_reducible refine (yOpenM _).mono ?_); rintro r V ⟨rfl, hb⟩; obtain ⟨K0, hp, hz⟩ := Wk.keep1 K0 hp hz hb; clear hb)
    | (go_at_call 16; (with_reducible refine (yTag1 _).mono ?_); rintro r V ⟨rfl, hb⟩; obtain ⟨K0, hp, hz⟩ := Wk.cell1 K0 hb; clear hb)
    | (go_at_call 16; (with_reducible refine (yTag0 _).mono ?_); rintro r V ⟨rfl, hb⟩; obtain ⟨K0, hp, hz⟩ := Wk.cell1 K0 hb; clear hb)
    | (go_at_call 28; (with_reducible refine (zerosQ_any 16 16 _ rfl (by decide)).mono ?_); rintro r V ⟨rfl, hb⟩; have K0 := Wk.step K0 hb; clear hb)
    | (go_at_call 30; (with_reducible refine (kRep 109 12 12 _ rfl (by decide)).mono ?_); rintro r V ⟨rfl, hb⟩; obtain ⟨K0, hp, hz⟩ := Wk.cell1 K0 hb; clear hb)
    | (go_at_call 52; (with_reducible refine (sameQ1_yes _ _ _ hp).mono ?_); rintro r V ⟨rfl, rfl⟩)
    | (go_at_call 53; (with_reducible refine (failsQ1_yes _ _ _ hp).mono ?_); rintro r V ⟨rfl, rfl⟩)
    )
  clear z1 z2 y4 r1
  have c1 : ∀ wx : World, (Op.stringOp .add (rp 107 32) ⟨#[107]⟩).run Tryd.prog wx = .ok (.string (rp 107 32 ++ ⟨#[107]⟩)) wx := fun wx => run_string_add wx _ _ (by rw [rp_size]; decide) (by decide)
  have c2 : ∀ wx : World, (Op.stringOp .add (rp 110 12) ⟨#[110]⟩).run Tryd.prog wx = .ok (.string (rp 110 12 ++ ⟨#[110]⟩)) wx := fun wx => run_string_add wx _ _ (by rw [rp_size]; decide) (by decide)
  clear r4 r5
  go_cut [13] (fun a13 wx => a13 = .bool true ∧ Below w.heap.size w wx)
  case first =>
    simp only [List.append_eq, List.cons_append, List.nil_append]
    as_aux_lemma =>
      refine region_anyC (fun _ => True) (fun _ => True) [] (by kernel_rfl) ?_
      refine anyC_takeS (i := 0) (oi := ⟨some 130, _, _, _, _, _⟩) (v := _) rfl (by kernel_rfl) (by kernel_rfl) (by kernel_rfl) (by kernel_rfl) (fun _ _ _ h => h) (Or.inl ⟨by rfl, fun w' hw' => (by clear hw'; go_simp; try with_reducible rfl)⟩) trivial (fun _ => trivial) ?_
      try simp only [Act.put, List.setIfInBounds_toArray, List.set_cons_zero, List.set_cons_succ]
      refine anyC_takeS (i := 1) (oi := ⟨some 131, _, _, _, _, _⟩) (v := _) rfl (by kernel_rfl) (by kernel_rfl) (by kernel_rfl) (by kernel_rfl) (fun _ _ _ h => h) (Or.inl ⟨by rfl, fun w' hw' => (by clear hw'; go_simp; try with_reducible rfl)⟩) trivial (fun _ => trivial) ?_
      try simp only [Act.put, List.setIfInBounds_toArray, List.set_cons_zero, List.set_cons_succ]
      refine anyC_takeS (i := 3) (oi := ⟨some 133, _, _, _, _, _⟩) (v := _) rfl (by kernel_rfl) (by kernel_rfl) (by kernel_rfl) (by kernel_rfl) (fun _ _ _ h => h) (Or.inl ⟨by rfl, fun w' hw' => (by clear hw'; go_simp; try with_reducible rfl)⟩) trivial (fun _ => trivial) ?_
      try simp only [Act.put, List.setIfInBounds_toArray, List.set_cons_zero, List.set_cons_succ]
      refine anyC_takeS (i := 4) (oi := ⟨some 134, _, _, _, _, _⟩) (v := _) rfl (by kernel_rfl) (by kernel_rfl) (by kernel_rfl) (by kernel_rfl) (fun _ _ _ h => h) (Or.inl ⟨by rfl, fun w' hw' => (by clear hw'; go_simp; try with_reducible rfl)⟩) trivial (fun _ => trivial) ?_
      try simp only [Act.put, List.setIfInBounds_toArray, List.set_cons_zero, List.set_cons_succ]
      refine anyC_takeS (i := 5) (oi := ⟨some 135, _, _, _, _, _⟩) (v := _) rfl (by kernel_rfl) (by kernel_rfl) (by kernel_rfl) (by kernel_rfl) (fun _ _ _ h => h) (Or.inl ⟨by rfl, fun w' hw' => (by clear hw'; go_simp; try with_reducible rfl)⟩) trivial (fun _ => trivial) ?_
      try simp only [Act.put, List.setIfInBounds_toArray, List.set_cons_zero, List.set_cons_succ]
      refine anyC_keep (i := 2) (o := ⟨some 132, _, _, _, _, _⟩) (by kernel_rfl) rfl (fun K hK => ?_)
      rw [if_pos (by rfl)]
      go_wp2_with (go_at_call 25; (with_reducible refine (failsQ_any _ _).mono ?_); rintro r X ⟨rfl, rfl⟩)
      refine hK.out _ _ ⟨trivial, fun _ => trivial⟩ ?_
      clear hK K
      try simp only [Act.put, List.setIfInBounds_toArray, List.set_cons_zero, List.set_cons_succ]
      refine anyC_keep (i := 6) (o := ⟨some 136, _, _, _, _, _⟩) (by kernel_rfl) rfl (fun K hK => ?_)
      rw [if_pos (by rfl)]
      go_wp2_with (first | (go_at_call 16; (with_reducible refine (yTagA _).mono ?_); rintro r V ⟨rfl, hb⟩; (repeat (with_reducible replace hb := bel_of_drew hb)); obtain ⟨K0, hp, hz⟩ := Wk.cell1 K0 hb; clear hb) | (go_at_call 16; (with_reducible refine (yTagL _).mono ?_); rintro r V ⟨rfl, hb⟩; (repeat (with_reducible replace hb := bel_of_drew hb)); obtain ⟨K0, hp, hz⟩ := Wk.cell1 K0 hb; clear hb))
      refine hK.out _ _ ⟨trivial, fun _ => trivial⟩ ?_
      clear hK K
      try simp only [Act.put, List.setIfInBounds_toArray, List.set_cons_zero, List.set_cons_succ]
      refine anyC_takeS (i := 7) (oi := ⟨some 137, _, _, _, _, _⟩) (v := _) rfl (by kernel_rfl) (by kernel_rfl) (by kernel_rfl) (by kernel_rfl) (fun _ _ _ h => h) (Or.inl ⟨by rfl, fun w' hw' => (by clear hw'; go_simp; try with_reducible rfl)⟩) trivial (fun _ => trivial) ?_
      try simp only [Act.put, List.setIfInBounds_toArray, List.set_cons_zero, List.set_cons_succ]
      refine anyC_takeS (i := 8) (oi := ⟨some 138, _, _, _, _, _⟩) (v := _) rfl (by kernel_rfl) (by kernel_rfl) (by kernel_rfl) (by kernel_rfl) (fun _ _ _ h => h) (Or.inl ⟨by rfl, fun w' hw' => (by clear hw'; go_simp; try with_reducible rfl)⟩) trivial (fun _ => trivial) ?_
      try simp only [Act.put, List.setIfInBounds_toArray, List.set_cons_zero, List.set_cons_succ]
      refine anyC_keep (i := 9) (o := ⟨some 139, _, _, _, _, _⟩) (by kernel_rfl) rfl (fun K hK => ?_)
      rw [if_pos (by rfl)]
      go_wp2_with (go_at_call 53; (with_reducible refine (failsQ1_yes _ _ _ hp).mono ?_); rintro r V ⟨rfl, rfl⟩)
      refine hK.out _ _ ⟨trivial, fun _ => trivial⟩ ?_
      clear hK K
      try simp only [Act.put, List.setIfInBounds_toArray, List.set_cons_zero, List.set_cons_succ]
      refine anyC_takeS (i := 10) (oi := ⟨some 140, _, _, _, _, _⟩) (v := _) rfl (by kernel_rfl) (by kernel_rfl) (by kernel_rfl) (by kernel_rfl) (fun _ _ _ h => h) (Or.inl ⟨by rfl, fun w' hw' => (by clear hw'; go_simp; try with_reducible rfl)⟩) trivial (fun _ => trivial) ?_
      try simp only [Act.put, List.setIfInBounds_toArray, List.set_cons_zero, List.set_cons_succ]
      refine anyC_takeS (i := 11) (oi := ⟨some 141, _, _, _, _, _⟩) (v := _) rfl (by kernel_rfl) (by kernel_rfl) (by kernel_rfl) (by kernel_rfl) (fun _ _ _ h => h) (Or.inl ⟨by rfl, fun w' hw' => (by clear hw'; go_simp; try with_reducible rfl)⟩) trivial (fun _ => trivial) ?_
      try simp only [Act.put, List.setIfInBounds_toArray, List.set_cons_zero, List.set_cons_succ]
      refine anyC_takeS (i := 13) (oi := ⟨some 143, _, _, _, _, _⟩) (v := _) rfl (by kernel_rfl) (by kernel_rfl) (by kernel_rfl) (by kernel_rfl) (fun _ _ _ h => h) (Or.inl ⟨by rfl, fun w' hw' => (by clear hw'; go_simp; try with_reducible rfl)⟩) trivial (fun _ => trivial) ?_
      try simp only [Act.put, List.setIfInBounds_toArray, List.set_cons_zero, List.set_cons_succ]
      refine anyC_takeS (i := 14) (oi := ⟨some 144, _, _, _, _, _⟩) (v := _) rfl (by kernel_rfl) (by kernel_rfl) (by kernel_rfl) (by kernel_rfl) (fun _ _ _ h => h) (Or.inl ⟨by rfl, fun w' hw' => (by clear hw'; go_simp; try with_reducible rfl)⟩) trivial (fun _ => trivial) ?_
      try simp only [Act.put, List.setIfInBounds_toArray, List.set_cons_zero, List.set_cons_succ]
      refine anyC_keep (i := 12) (o := ⟨some 142, _, _, _, _, _⟩) (by kernel_rfl) rfl (fun K hK => ?_)
      rw [if_pos (by rfl)]
      go_wp2_with (go_at_call 25; (with_reducible refine (failsQ_any _ _).mono ?_); rintro r X ⟨rfl, rfl⟩)
      refine hK.out _ _ ⟨trivial, fun _ => trivial⟩ ?_
      clear hK K
      try simp only [Act.put, List.setIfInBounds_toArray, List.set_cons_zero, List.set_cons_succ]
      refine anyC_keep (i := 15) (o := ⟨some 145, _, _, _, _, _⟩) (by kernel_rfl) rfl (fun K hK => ?_)
      rw [if_pos (by rfl)]
      go_wp2_with (first | (go_at_call 16; (with_reducible refine (yTagA _).mono ?_); rintro r V ⟨rfl, hb⟩; (repeat (with_reducible replace hb := bel_of_drew hb)); obtain ⟨K0, hp, hz⟩ := Wk.cell1 K0 hb; clear hb) | (go_at_call 16; (with_reducible refine (yTagL _).mono ?_); rintro r V ⟨rfl, hb⟩; (repeat (with_reducible replace hb := bel_of_drew hb)); obtain ⟨K0, hp, hz⟩ := Wk.cell1 K0 hb; clear hb))
      refine hK.out _ _ ⟨trivial, fun _ => trivial⟩ ?_
      clear hK K
      try simp only [Act.put, List.setIfInBounds_toArray, List.set_cons_zero, List.set_cons_succ]
      refine anyC_takeS (i := 16) (oi := ⟨some 146, _, _, _, _, _⟩) (v := _) rfl (by kernel_rfl) (by kernel_rfl) (by kernel_rfl) (by kernel_rfl) (fun _ _ _ h => h) (Or.inl ⟨by rfl, fun w' hw' => (by clear hw'; go_simp; try with_reducible rfl)⟩) trivial (fun _ => trivial) ?_
      try simp only [Act.put, List.setIfInBounds_toArray, List.set_cons_zero, List.set_cons_succ]
      refine anyC_takeS (i := 17) (oi := ⟨some 147, _, _, _, _, _⟩) (v := _) rfl (by kernel_rfl) (by kernel_rfl) (by kernel_rfl) (by kernel_rfl) (fun _ _ _ h => h) (Or.inl ⟨by rfl, fun w' hw' => (by clear hw'; go_simp; try with_reducible rfl)⟩) trivial (fun _ => trivial) ?_
      try simp only [Act.put, List.setIfInBounds_toArray, List.set_cons_zero, List.set_cons_succ]
      refine anyC_keep (i := 18) (o := ⟨some 148, _, _, _, _, _⟩) (by kernel_rfl) rfl (fun K hK => ?_)
      rw [if_pos (by rfl)]
      go_wp2_with (go_at_call 53; (with_reducible refine (failsQ1_yes _ _ _ hp).mono ?_); rintro r V ⟨rfl, rfl⟩)
      refine hK.out _ _ ⟨trivial, fun _ => trivial⟩ ?_
      clear hK K
      try simp only [Act.put, List.setIfInBounds_toArray, List.set_cons_zero, List.set_cons_succ]
      as_aux_lemma =>
        refine anyC_takeS (i := 19) (oi := ⟨some 149, _, _, _, _, _⟩) (v := _) rfl (by kernel_rfl) (by kernel_rfl) (by kernel_rfl) (by kernel_rfl) (fun _ _ _ h => h) (Or.inl ⟨by rfl, fun w' hw' => (by clear hw'; go_simp; try with_reducible rfl)⟩) trivial (fun _ => trivial) ?_
        try simp only [Act.put, List.setIfInBounds_toArray, List.set_cons_zero, List.set_cons_succ]
        refine anyC_takeS (i := 20) (oi := ⟨some 150, _, _, _, _, _⟩) (v := _) rfl (by kernel_rfl) (by kernel_rfl) (by kernel_rfl) (by kernel_rfl) (fun _ _ _ h => h) (Or.inl ⟨by rfl, fun w' hw' => (by clear hw'; go_simp; try with_reducible rfl)⟩) trivial (fun _ => trivial) ?_
        try simp only [Act.put, List.setIfInBounds_toArray, List.set_cons_zero, List.set_cons_succ]
        refine anyC_takeS (i := 22) (oi := ⟨some 152, _, _, _, _, _⟩) (v := _) rfl (by kernel_rfl) (by kernel_rfl) (by kernel_rfl) (by kernel_rfl) (fun _ _ _ h => h) (Or.inl ⟨by rfl, fun w' hw' => (by clear hw'; go_simp; try with_reducible rfl)⟩) trivial (fun _ => trivial) ?_
        try simp only [Act.put, List.setIfInBounds_toArray, List.set_cons_zero, List.set_cons_succ]
        refine anyC_takeS (i := 23) (oi := ⟨some 153, _, _, _, _, _⟩) (v := _) rfl (by kernel_rfl) (by kernel_rfl) (by kernel_rfl) (by kernel_rfl) (fun _ _ _ h => h) (Or.inl ⟨by rfl, fun w' hw' => (by clear hw'; go_simp; try with_reducible rfl)⟩) trivial (fun _ => trivial) ?_
        try simp only [Act.put, List.setIfInBounds_toArray, List.set_cons_zero, List.set_cons_succ]
        refine anyC_takeS (i := 24) (oi := ⟨some 154, _, _, _, _, _⟩) (v := _) rfl (by kernel_rfl) (by kernel_rfl) (by kernel_rfl) (by kernel_rfl) (fun _ _ _ h => h) (Or.inl ⟨by rfl, fun w' hw' => (by clear hw'; go_simp; try with_reducible rfl)⟩) trivial (fun _ => trivial) ?_
        try simp only [Act.put, List.setIfInBounds_toArray, List.set_cons_zero, List.set_cons_succ]
        refine anyC_takeS (i := 25) (oi := ⟨some 155, _, _, _, _, _⟩) (v := _) rfl (by kernel_rfl) (by kernel_rfl) (by kernel_rfl) (by kernel_rfl) (fun _ _ _ h => h) (Or.inl ⟨by rfl, fun w' hw' => (by clear hw'; go_simp; try with_reducible rfl)⟩) trivial (fun _ => trivial) ?_
        try simp only [Act.put, List.setIfInBounds_toArray, List.set_cons_zero, List.set_cons_succ]
        refine anyC_takeS (i := 26) (oi := ⟨some 156, _, _, _, _, _⟩) (v := _) rfl (by kernel_rfl) (by kernel_rfl) (by kernel_rfl) (by kernel_rfl) (fun _ _ _ h => h) (Or.inl ⟨by rfl, fun w' hw' => (by clear hw'; go_simp; try with_reducible rfl)⟩) trivial (fun _ => trivial) ?_
        try simp only [Act.put, List.setIfInBounds_toArray, List.set_cons_zero, List.set_cons_succ]
        refine anyC_keep (i := 21) (o := ⟨some 151, _, _, _, _, _⟩) (by kernel_rfl) rfl (fun K hK => ?_)
        rw [if_pos (by rfl)]
        go_wp2_with (go_at_call 25; (with_reducible refine (failsQ_any _ _).mono ?_); rintro r X ⟨rfl, rfl⟩)
        refine hK.out _ _ ⟨trivial, fun _ => trivial⟩ ?_
        clear hK K
        try simp only [Act.put, List.setIfInBounds_toArray, List.set_cons_zero, List.set_cons_succ]
        refine anyC_keep (i := 27) (o := ⟨some 157, _, _, _, _, _⟩) (by kernel_rfl) rfl (fun K hK => ?_)
        rw [if_pos (by rfl)]
        go_wp2_with (first | (go_at_call 20; (with_reducible refine (ySealA _).mono ?_); rintro r V ⟨rfl, hb⟩; (repeat (with_reducible replace hb := bel_of_drew hb)); obtain ⟨K0, hp, hz⟩ := Wk.cell1 K0 hb; clear hb) | (go_at_call 20; (with_reducible refine (ySealAe _).mono ?_); rintro r V ⟨rfl, hb⟩; (repeat (with_reducible replace hb := bel_of_drew hb)); obtain ⟨K0, hp, hz⟩ := Wk.cell1 K0 hb; clear hb) | (go_at_call 20; (with_reducible refine (ySealB _).mono ?_); rintro r V ⟨rfl, hb⟩; (repeat (with_reducible replace hb := bel_of_drew hb)); obtain ⟨K0, hp, hz⟩ := Wk.cell1 K0 hb; clear hb) | (go_at_call 20; (with_reducible refine (ySealC _).mono ?_); rintro r V ⟨rfl, hb⟩; (repeat (with_reducible replace hb := bel_of_drew hb)); obtain ⟨K0, hp, hz⟩ := Wk.cell1 K0 hb; clear hb))
        refine hK.out _ _ ⟨trivial, fun _ => trivial⟩ ?_
        clear hK K
        try simp only [Act.put, List.setIfInBounds_toArray, List.set_cons_zero, List.set_cons_succ]
        refine anyC_takeS (i := 28) (oi := ⟨some 158, _, _, _, _, _⟩) (v := _) rfl (by kernel_rfl) (by kernel_rfl) (by kernel_rfl) (by kernel_rfl) (fun _ _ _ h => h) (Or.inl ⟨by rfl, fun w' hw' => (by clear hw'; go_simp; try with_reducible rfl)⟩) trivial (fun _ => trivial) ?_
        try simp only [Act.put, List.setIfInBounds_toArray, List.set_cons_zero, List.set_cons_succ]
        refine anyC_takeS (i := 29) (oi := ⟨some 159, _, _, _, _, _⟩) (v := _) rfl (by kernel_rfl) (by kernel_rfl) (by kernel_rfl) (by kernel_rfl) (fun _ _ _ h => h) (Or.inl ⟨by rfl, fun w' hw' => (by clear hw'; go_simp; try with_reducible rfl)⟩) trivial (fun _ => trivial) ?_
        try simp only [Act.put, List.setIfInBounds_toArray, List.set_cons_zero, List.set_cons_succ]
        refine anyC_keep (i := 30) (o := ⟨some 160, _, _, _, _, _⟩) (by kernel_rfl) rfl (fun K hK => ?_)
        rw [if_pos (by rfl)]
        go_wp2_with (go_at_call 53; (with_reducible refine (failsQ1_yes _ _ _ hp).mono ?_); rintro r V ⟨rfl, rfl⟩)
        refine hK.out _ _ ⟨trivial, fun _ => trivial⟩ ?_
        clear hK K
        try simp only [Act.put, List.setIfInBounds_toArray, List.set_cons_zero, List.set_cons_succ]
        refine anyC_takeS (i := 31) (oi := ⟨some 161, _, _, _, _, _⟩) (v := _) rfl (by kernel_rfl) (by kernel_rfl) (by kernel_rfl) (by kernel_rfl) (fun _ _ _ h => h) (Or.inl ⟨by rfl, fun w' hw' => (by clear hw'; go_simp; try with_reducible rfl)⟩) trivial (fun _ => trivial) ?_
        try simp only [Act.put, List.setIfInBounds_toArray, List.set_cons_zero, List.set_cons_succ]
        refine anyC_takeS (i := 32) (oi := ⟨some 162, _, _, _, _, _⟩) (v := _) rfl (by kernel_rfl) (by kernel_rfl) (by kernel_rfl) (by kernel_rfl) (fun _ _ _ h => h) (Or.inl ⟨by rfl, fun w' hw' => (by clear hw'; go_simp; try with_reducible rfl)⟩) trivial (fun _ => trivial) ?_
        try simp only [Act.put, List.setIfInBounds_toArray, List.set_cons_zero, List.set_cons_succ]
        refine anyC_takeS (i := 34) (oi := ⟨some 164, _, _, _, _, _⟩) (v := _) rfl (by kernel_rfl) (by kernel_rfl) (by kernel_rfl) (by kernel_rfl) (fun _ _ _ h => h) (Or.inl ⟨by rfl, fun w' hw' => (by clear hw'; go_simp; try with_reducible rfl)⟩) trivial (fun _ => trivial) ?_
        try simp only [Act.put, List.setIfInBounds_toArray, List.set_cons_zero, List.set_cons_succ]
        refine anyC_takeS (i := 35) (oi := ⟨some 165, _, _, _, _, _⟩) (v := _) rfl (by kernel_rfl) (by kernel_rfl) (by kernel_rfl) (by kernel_rfl) (fun _ _ _ h => h) (Or.inl ⟨by rfl, fun w' hw' => (by clear hw'; go_simp; try with_reducible rfl)⟩) trivial (fun _ => trivial) ?_
        try simp only [Act.put, List.setIfInBounds_toArray, List.set_cons_zero, List.set_cons_succ]
        refine anyC_takeS (i := 36) (oi := ⟨some 166, _, _, _, _, _⟩) (v := _) rfl (by kernel_rfl) (by kernel_rfl) (by kernel_rfl) (by kernel_rfl) (fun _ _ _ h => h) (Or.inl ⟨by rfl, fun w' hw' => (by clear hw'; go_simp; try with_reducible rfl)⟩) trivial (fun _ => trivial) ?_
        try simp only [Act.put, List.setIfInBounds_toArray, List.set_cons_zero, List.set_cons_succ]
        refine anyC_keep (i := 33) (o := ⟨some 163, _, _, _, _, _⟩) (by kernel_rfl) rfl (fun K hK => ?_)
        rw [if_pos (by rfl)]
        go_wp2_with (go_at_call 25; (with_reducible refine (failsQ_any _ _).mono ?_); rintro r X ⟨rfl, rfl⟩)
        refine hK.out _ _ ⟨trivial, fun _ => trivial⟩ ?_
        clear hK K
        try simp only [Act.put, List.setIfInBounds_toArray, List.set_cons_zero, List.set_cons_succ]
        refine anyC_keep (i := 37) (o := ⟨some 167, _, _, _, _, _⟩) (by kernel_rfl) rfl (fun K hK => ?_)
        rw [if_pos (by rfl)]
        go_wp2_with (first | (go_at_call 20; (with_reducible refine (ySealA _).mono ?_); rintro r V ⟨rfl, hb⟩; (repeat (with_reducible replace hb := bel_of_drew hb)); obtain ⟨K0, hp, hz⟩ := Wk.cell1 K0 hb; clear hb) | (go_at_call 20; (with_reducible refine (ySealAe _).mono ?_); rintro r V ⟨rfl, hb⟩; (repeat (with_reducible replace hb := bel_of_drew hb)); obtain ⟨K0, hp, hz⟩ := Wk.cell1 K0 hb; clear hb) | (go_at_call 20; (with_reducible refine (ySealB _).mono ?_); rintro r V ⟨rfl, hb⟩; (repeat (with_reducible replace hb := bel_of_drew hb)); obtain ⟨K0, hp, hz⟩ := Wk.cell1 K0 hb; clear hb) | (go_at_call 20; (with_reducible refine (ySealC _).mono ?_); rintro r V ⟨rfl, hb⟩; (repeat (with_reducible replace hb := bel_of_drew hb)); obtain ⟨K0, hp, hz⟩ := Wk.cell1 K0 hb; clear hb))
        refine hK.out _ _ ⟨trivial, fun _ => trivial⟩ ?_
        clear hK K
        try simp only [Act.put, List.setIfInBounds_toArray, List.set_cons_zero, List.set_cons_succ]
        refine anyC_takeS (i := 38) (oi := ⟨some 168, _, _, _, _, _⟩) (v := _) rfl (by kernel_rfl) (by kernel_rfl) (by kernel_rfl) (by kernel_rfl) (fun _ _ _ h => h) (Or.inl ⟨by rfl, fun w' hw' => (by clear hw'; go_simp; try with_reducible rfl)⟩) trivial (fun _ => trivial) ?_
        try simp only [Act.put, List.setIfInBounds_toArray, List.set_cons_zero, List.set_cons_succ]
        refine anyC_takeS (i := 39) (oi := ⟨some 169, _, _, _, _, _⟩) (v := _) rfl (by kernel_rfl) (by kernel_rfl) (by kernel_rfl) (by kernel_rfl) (fun _ _ _ h => h) (Or.inl ⟨by rfl, fun w' hw' => (by clear hw'; go_simp; try with_reducible rfl)⟩) trivial (fun _ => trivial) ?_
        try simp only [Act.put, List.setIfInBounds_toArray, List.set_cons_zero, List.set_cons_succ]
        refine anyC_keep (i := 40) (o := ⟨some 170, _, _, _, _, _⟩) (by kernel_rfl) rfl (fun K hK => ?_)
        rw [if_pos (by rfl)]
        go_wp2_with (go_at_call 53; (with_reducible refine (failsQ1_yes _ _ _ hp).mono ?_); rintro r V ⟨rfl, rfl⟩)
        refine hK.out _ _ ⟨trivial, fun _ => trivial⟩ ?_
        clear hK K
        try simp only [Act.put, List.setIfInBounds_toArray, List.set_cons_zero, List.set_cons_succ]
        as_aux_lemma =>
          refine anyC_takeS (i := 41) (oi := ⟨some 171, _, _, _, _, _⟩) (v := _) rfl (by kernel_rfl) (by kernel_rfl) (by kernel_rfl) (by kernel_rfl) (fun _ _ _ h => h) (Or.inl ⟨by rfl, fun w' hw' => (by clear hw'; go_simp; try with_reducible rfl)⟩) trivial (fun _ => trivial) ?_
          try simp only [Act.put, List.setIfInBounds_toArray, List.set_cons_zero, List.set_cons_succ]
          refine anyC_takeS (i := 42) (oi := ⟨some 172, _, _, _, _, _⟩) (v := _) rfl (by kernel_rfl) (by kernel_rfl) (by kernel_rfl) (by kernel_rfl) (fun _ _ _ h => h) (Or.inl ⟨by rfl, fun w' hw' => (by clear hw'; go_simp; try with_reducible rfl)⟩) trivial (fun _ => trivial) ?_
          try simp only [Act.put, List.setIfInBounds_toArray, List.set_cons_zero, List.set_cons_succ]
          refine anyC_takeS (i := 44) (oi := ⟨some 174, _, _, _, _, _⟩) (v := _) rfl (by kernel_rfl) (by kernel_rfl) (by kernel_rfl) (by kernel_rfl) (fun _ _ _ h => h) (Or.inl ⟨by rfl, fun w' hw' => (by clear hw'; go_simp; try with_reducible rfl)⟩) trivial (fun _ => trivial) ?_
          try simp only [Act.put, List.setIfInBounds_toArray, List.set_cons_zero, List.set_cons_succ]
          refine anyC_takeS (i := 45) (oi := ⟨some 175, _, _, _, _, _⟩) (v := _) rfl (by kernel_rfl) (by kernel_rfl) (by kernel_rfl) (by kernel_rfl) (fun _ _ _ h => h) (Or.inl ⟨by rfl, fun w' hw' => (by clear hw'; go_simp; try with_reducible rfl)⟩) trivial (fun _ => trivial) ?_
          try simp only [Act.put, List.setIfInBounds_toArray, List.set_cons_zero, List.set_cons_succ]
          refine anyC_takeS (i := 46) (oi := ⟨some 176, _, _, _, _, _⟩) (v := _) rfl (by kernel_rfl) (by kernel_rfl) (by kernel_rfl) (by kernel_rfl) (fun _ _ _ h => h) (Or.inl ⟨by rfl, fun w' hw' => (by clear hw'; go_simp; try with_reducible rfl)⟩) trivial (fun _ => trivial) ?_
          try simp only [Act.put, List.setIfInBounds_toArray, List.set_cons_zero, List.set_cons_succ]
          refine anyC_keep (i := 43) (o := ⟨some 173, _, _, _, _, _⟩) (by kernel_rfl) rfl (fun K hK => ?_)
          rw [if_pos (by rfl)]
          go_wp2_with (go_at_call 25; (with_reducible refine (failsQ_any _ _).mono ?_); rintro r X ⟨rfl, rfl⟩)
          refine hK.out _ _ ⟨trivial, fun _ => trivial⟩ ?_
          clear hK K
          try simp only [Act.put, List.setIfInBounds_toArray, List.set_cons_zero, List.set_cons_succ]
          refine anyC_keep (i := 47) (o := ⟨some 177, _, _, _, _, _⟩) (by kernel_rfl) rfl (fun K hK => ?_)
          rw [if_pos (by rfl)]
          go_wp2_with (first | (go_at_call 20; (with_reducible refine (ySealA _).mono ?_); rintro r V ⟨rfl, hb⟩; (repeat (with_reducible replace hb := bel_of_drew hb)); obtain ⟨K0, hp, hz⟩ := Wk.cell1 K0 hb; clear hb) | (go_at_call 20; (with_reducible refine (ySealAe _).mono ?_); rintro r V ⟨rfl, hb⟩; (repeat (with_reducible replace hb := bel_of_drew hb)); obtain ⟨K0, hp, hz⟩ := Wk.cell1 K0 hb; clear hb) | (go_at_call 20; (with_reducible refine (ySealB _).mono ?_); rintro r V ⟨rfl, hb⟩; (repeat (with_reducible replace hb := bel_of_drew hb)); obtain ⟨K0, hp, hz⟩ := Wk.cell1 K0 hb; clear hb) | (go_at_call 20; (with_reducible refine (ySealC _).mono ?_); rintro r V ⟨rfl, hb⟩; (repeat (with_reducible replace hb := bel_of_drew hb)); obtain ⟨K0, hp, hz⟩ := Wk.cell1 K0 hb; clear hb))
          refine hK.out _ _ ⟨trivial, fun _ => trivial⟩ ?_
          clear hK K
          try simp only [Act.put, List.setIfInBounds_toArray, List.set_cons_zero, List.set_cons_succ]
          refine anyC_takeS (i := 48) (oi := ⟨some 178, _, _, _, _, _⟩) (v := _) rfl (by kernel_rfl) (by kernel_rfl) (by kernel_rfl) (by kernel_rfl) (fun _ _ _ h => h) (Or.inl ⟨by rfl, fun w' hw' => (by clear hw'; go_simp; try with_reducible rfl)⟩) trivial (fun _ => trivial) ?_
          try simp only [Act.put, List.setIfInBounds_toArray, List.set_cons_zero, List.set_cons_succ]
          refine anyC_takeS (i := 49) (oi := ⟨some 179, _, _, _, _, _⟩) (v := _) rfl (by kernel_rfl) (by kernel_rfl) (by kernel_rfl) (by kernel_rfl) (fun _ _ _ h => h) (Or.inl ⟨by rfl, fun w' hw' => (by clear hw'; go_simp; try with_reducible rfl)⟩) trivial (fun _ => trivial) ?_
          try simp only [Act.put, List.setIfInBounds_toArray, List.set_cons_zero, List.set_cons_succ]
          refine anyC_keep (i := 50) (o := ⟨some 180, _, _, _, _, _⟩) (by kernel_rfl) rfl (fun K hK => ?_)
          rw [if_pos (by rfl)]
          go_wp2_with (go_at_call 53; (with_reducible refine (failsQ1_yes _ _ _ hp).mono ?_); rintro r V ⟨rfl, rfl⟩)
          refine hK.out _ _ ⟨trivial, fun _ => trivial⟩ ?_
          clear hK K
          try simp only [Act.put, List.setIfInBounds_toArray, List.set_cons_zero, List.set_cons_succ]
          refine anyC_takeS (i := 51) (oi := ⟨some 181, _, _, _, _, _⟩) (v := _) rfl (by kernel_rfl) (by kernel_rfl) (by kernel_rfl) (by kernel_rfl) (fun _ _ _ h => h) (Or.inl ⟨by rfl, fun w' hw' => (by clear hw'; go_simp; try with_reducible rfl)⟩) trivial (fun _ => trivial) ?_
          try simp only [Act.put, List.setIfInBounds_toArray, List.set_cons_zero, List.set_cons_succ]
          refine anyC_takeS (i := 52) (oi := ⟨some 182, _, _, _, _, _⟩) (v := _) rfl (by kernel_rfl) (by kernel_rfl) (by kernel_rfl) (by kernel_rfl) (fun _ _ _ h => h) (Or.inl ⟨by rfl, fun w' hw' => (by clear hw'; go_simp; try with_reducible rfl)⟩) trivial (fun _ => trivial) ?_
          try simp only [Act.put, List.setIfInBounds_toArray, List.set_cons_zero, List.set_cons_succ]
          refine anyC_takeS (i := 54) (oi := ⟨some 184, _, _, _, _, _⟩) (v := _) rfl (by kernel_rfl) (by kernel_rfl) (by kernel_rfl) (by kernel_rfl) (fun _ _ _ h => h) (Or.inl ⟨by rfl, fun w' hw' => (by clear hw'; go_simp; try with_reducible rfl)⟩) trivial (fun _ => trivial) ?_
          try simp only [Act.put, List.setIfInBounds_toArray, List.set_cons_zero, List.set_cons_succ]
          refine anyC_takeS (i := 55) (oi := ⟨some 185, _, _, _, _, _⟩) (v := _) rfl (by kernel_rfl) (by kernel_rfl) (by kernel_rfl) (by kernel_rfl) (fun _ _ _ h => h) (Or.inl ⟨by rfl, fun w' hw' => (by clear hw'; go_simp; try with_reducible rfl)⟩) trivial (fun _ => trivial) ?_
          try simp only [Act.put, List.setIfInBounds_toArray, List.set_cons_zero, List.set_cons_succ]
          refine anyC_keep (i := 53) (o := ⟨some 183, _, _, _, _, _⟩) (by kernel_rfl) rfl (fun K hK => ?_)
          rw [if_pos (by rfl)]
          go_wp2_with (go_at_call 25; (with_reducible refine (failsQ_any _ _).mono ?_); rintro r X ⟨rfl, rfl⟩)
          refine hK.out _ _ ⟨trivial, fun _ => trivial⟩ ?_
          clear hK K
          try simp only [Act.put, List.setIfInBounds_toArray, List.set_cons_zero, List.set_cons_succ]
          refine anyC_keep (i := 56) (o := ⟨some 186, _, _, _, _, _⟩) (by kernel_rfl) rfl (fun K hK => ?_)
          rw [if_pos (by rfl)]
          go_wp2_with (first | (go_at_call 22; (with_reducible refine (yOpenA _).mono ?_); rintro r V ⟨rfl, hb⟩; (repeat (with_reducible replace hb := bel_of_drew hb)); obtain ⟨K0, hp, hz⟩ := Wk.cell1 K0 hb; clear hb) | (go_at_call 22; (with_reducible refine (yOpenL _).mono ?_); rintro r V ⟨rfl, hb⟩; (repeat (with_reducible replace hb := bel_of_drew hb)); obtain ⟨K0, hp, hz⟩ := Wk.cell1 K0 hb; clear hb) | (go_at_call 22; (with_reducible refine (yOpenP _).mono ?_); rintro r V ⟨rfl, hb⟩; (repeat (with_reducible replace hb := bel_of_drew hb)); obtain ⟨K0, hp, hz⟩ := Wk.keep1 K0 hp hz hb; clear hb) | (go_at_call 22; (with_reducible refine (yOpenS _).mono ?_); rintro r V ⟨rfl, hb⟩; (repeat (with_reducible replace hb := bel_of_drew hb)); obtain ⟨K0, hp, hz⟩ := Wk.cell1 K0 hb; clear hb) | (go_at_call 22; (with_reducible refine (yOpenQ _).mono ?_); rintro r V ⟨rfl, hb⟩; (repeat (with_reducible replace hb := bel_of_drew hb)); obtain ⟨K0, hp, hz⟩ := Wk.keep1 K0 hp hz hb; clear hb))
          refine hK.out _ _ ⟨trivial, fun _ => trivial⟩ ?_
          clear hK K
          try simp only [Act.put, List.setIfInBounds_toArray, List.set_cons_zero, List.set_cons_succ]
          refine anyC_takeS (i := 57) (oi := ⟨some 187, _, _, _, _, _⟩) (v := _) rfl (by kernel_rfl) (by kernel_rfl) (by kernel_rfl) (by kernel_rfl) (fun _ _ _ h => h) (Or.inl ⟨by rfl, fun w' hw' => (by clear hw'; go_simp; try with_reducible rfl)⟩) trivial (fun _ => trivial) ?_
          try simp only [Act.put, List.setIfInBounds_toArray, List.set_cons_zero, List.set_cons_succ]
          refine anyC_takeS (i := 58) (oi := ⟨some 188, _, _, _, _, _⟩) (v := _) rfl (by kernel_rfl) (by kernel_rfl) (by kernel_rfl) (by kernel_rfl) (fun _ _ _ h => h) (Or.inl ⟨by rfl, fun w' hw' => (by clear hw'; go_simp; try with_reducible rfl)⟩) trivial (fun _ => trivial) ?_
          try simp only [Act.put, List.setIfInBounds_toArray, List.set_cons_zero, List.set_cons_succ]
          refine anyC_keep (i := 59) (o := ⟨some 189, _, _, _, _, _⟩) (by kernel_rfl) rfl (fun K hK => ?_)
          rw [if_pos (by rfl)]
          go_wp2_with (go_at_call 53; (with_reducible refine (failsQ1_yes _ _ _ hp).mono ?_); rintro r V ⟨rfl, rfl⟩)
          refine hK.out _ _ ⟨trivial, fun _ => trivial⟩ ?_
          clear hK K
          try simp only [Act.put, List.setIfInBounds_toArray, List.set_cons_zero, List.set_cons_succ]
          as_aux_lemma =>
            refine anyC_takeS (i := 60) (oi := ⟨some 190, _, _, _, _, _⟩) (v := _) rfl (by kernel_rfl) (by kernel_rfl) (by kernel_rfl) (by kernel_rfl) (fun _ _ _ h => h) (Or.inl ⟨by rfl, fun w' hw' => (by clear hw'; go_simp; try with_reducible rfl)⟩) trivial (fun _ => trivial) ?_
            try simp only [Act.put, List.setIfInBounds_toArray, List.set_cons_zero, List.set_cons_succ]
            refine anyC_takeS (i := 61) (oi := ⟨some 191, _, _, _, _, _⟩) (v := _) rfl (by kernel_rfl) (by kernel_rfl) (by kernel_rfl) (by kernel_rfl) (fun _ _ _ h => h) (Or.inl ⟨by rfl, fun w' hw' => (by clear hw'; go_simp; try with_reducible rfl)⟩) trivial (fun _ => trivial) ?_
            try simp only [Act.put, List.setIfInBounds_toArray, List.set_cons_zero, List.set_cons_succ]
            refine anyC_takeS (i := 63) (oi := ⟨some 193, _, _, _, _, _⟩) (v := _) rfl (by kernel_rfl) (by kernel_rfl) (by kernel_rfl) (by kernel_rfl) (fun _ _ _ h => h) (Or.inl ⟨by rfl, fun w' hw' => (by clear hw'; go_simp; try with_reducible rfl)⟩) trivial (fun _ => trivial) ?_
            try simp only [Act.put, List.setIfInBounds_toArray, List.set_cons_zero, List.set_cons_succ]
            refine anyC_takeS (i := 64) (oi := ⟨some 194, _, _, _, _, _⟩) (v := _) rfl (by kernel_rfl) (by kernel_rfl) (by kernel_rfl) (by kernel_rfl) (fun _ _ _ h => h) (Or.inl ⟨by rfl, fun w' hw' => (by clear hw'; go_simp; try with_reducible rfl)⟩) trivial (fun _ => trivial) ?_
            try simp only [Act.put, List.setIfInBounds_toArray, List.set_cons_zero, List.set_cons_succ]
            refine anyC_takeS (i := 65) (oi := ⟨some 195, _, _, _, _, _⟩) (v := _) rfl (by kernel_rfl) (by kernel_rfl) (by kernel_rfl) (by kernel_rfl) (fun _ _ _ h => h) (Or.inl ⟨by rfl, fun w' hw' => (by clear hw'; go_simp; try with_reducible rfl)⟩) trivial (fun _ => trivial) ?_
            try simp only [Act.put, List.setIfInBounds_toArray, List.set_cons_zero, List.set_cons_succ]
            refine anyC_keep (i := 62) (o := ⟨some 192, _, _, _, _, _⟩) (by kernel_rfl) rfl (fun K hK => ?_)
            rw [if_pos (by rfl)]
            go_wp2_with (go_at_call 25; (with_reducible refine (failsQ_any _ _).mono ?_); rintro r X ⟨rfl, rfl⟩)
            refine hK.out _ _ ⟨trivial, fun _ => trivial⟩ ?_
            clear hK K
            try simp only [Act.put, List.setIfInBounds_toArray, List.set_cons_zero, List.set_cons_succ]
            refine anyC_keep (i := 66) (o := ⟨some 196, _, _, _, _, _⟩) (by kernel_rfl) rfl (fun K hK => ?_)
            rw [if_pos (by rfl)]
            go_wp2_with (first | (go_at_call 22; (with_reducible refine (yOpenA _).mono ?_); rintro r V ⟨rfl, hb⟩; (repeat (with_reducible replace hb := bel_of_drew hb)); obtain ⟨K0, hp, hz⟩ := Wk.cell1 K0 hb; clear hb) | (go_at_call 22; (with_reducible refine (yOpenL _).mono ?_); rintro r V ⟨rfl, hb⟩; (repeat (with_reducible replace hb := bel_of_drew hb)); obtain ⟨K0, hp, hz⟩ := Wk.cell1 K0 hb; clear hb) | (go_at_call 22; (with_reducible refine (yOpenP _).mono ?_); rintro r V ⟨rfl, hb⟩; (repeat (with_reducible replace hb := bel_of_drew hb)); obtain ⟨K0, hp, hz⟩ := Wk.keep1 K0 hp hz hb; clear hb) | (go_at_call 22; (with_reducible refine (yOpenS _).mono ?_); rintro r V ⟨rfl, hb⟩; (repeat (with_reducible replace hb := bel_of_drew hb)); obtain ⟨K0, hp, hz⟩ := Wk.cell1 K0 hb; clear hb) | (go_at_call 22; (with_reducible refine (yOpenQ _).mono ?_); rintro r V ⟨rfl, hb⟩; (repeat (with_reducible replace hb := bel_of_drew hb)); obtain ⟨K0, hp, hz⟩ := Wk.keep1 K0 hp hz hb; clear hb))
            refine hK.out _ _ ⟨trivial, fun _ => trivial⟩ ?_
            clear hK K
            try simp only [Act.put, List.setIfInBounds_toArray, List.set_cons_zero, List.set_cons_succ]
            refine anyC_takeS (i := 67) (oi := ⟨some 197, _, _, _, _, _⟩) (v := _) rfl (by kernel_rfl) (by kernel_rfl) (by kernel_rfl) (by kernel_rfl) (fun _ _ _ h => h) (Or.inl ⟨by rfl, fun w' hw' => (by clear hw'; go_simp; try with_reducible rfl)⟩) trivial (fun _ => trivial) ?_
            try simp only [Act.put, List.setIfInBounds_toArray, List.set_cons_zero, List.set_cons_succ]
            refine anyC_takeS (i := 68) (oi := ⟨some 198, _, _, _, _, _⟩) (v := _) rfl (by kernel_rfl) (by kernel_rfl) (by kernel_rfl) (by kernel_rfl) (fun _ _ _ h => h) (Or.inl ⟨by rfl, fun w' hw' => (by clear hw'; go_simp; try with_reducible rfl)⟩) trivial (fun _ => trivial) ?_
            try simp only [Act.put, List.setIfInBounds_toArray, List.set_cons_zero, List.set_cons_succ]
            refine anyC_keep (i := 69) (o := ⟨some 199, _, _, _, _, _⟩) (by kernel_rfl) rfl (fun K hK => ?_)
            rw [if_pos (by rfl)]
            go_wp2_with (go_at_call 53; (with_reducible refine (failsQ1_yes _ _ _ hp).mono ?_); rintro r V ⟨rfl, rfl⟩)
            refine hK.out _ _ ⟨trivial, fun _ => trivial⟩ ?_
            clear hK K
            try simp only [Act.put, List.setIfInBounds_toArray, List.set_cons_zero, List.set_cons_succ]
            refine anyC_takeS (i := 70) (oi := ⟨some 200, _, _, _, _, _⟩) (v := _) rfl (by kernel_rfl) (by kernel_rfl) (by kernel_rfl) (by kernel_rfl) (fun _ _ _ h => h) (Or.inl ⟨by rfl, fun w' hw' => (by clear hw'; go_simp; try with_reducible rfl)⟩) trivial (fun _ => trivial) ?_
            try simp only [Act.put, List.setIfInBounds_toArray, List.set_cons_zero, List.set_cons_succ]
            refine anyC_takeS (i := 71) (oi := ⟨some 201, _, _, _, _, _⟩) (v := _) rfl (by kernel_rfl) (by kernel_rfl) (by kernel_rfl) (by kernel_rfl) (fun _ _ _ h => h) (Or.inl ⟨by rfl, fun w' hw' => (by clear hw'; go_simp; try with_reducible rfl)⟩) trivial (fun _ => trivial) ?_
            try simp only [Act.put, List.setIfInBounds_toArray, List.set_cons_zero, List.set_cons_succ]
            refine anyC_takeS (i := 73) (oi := ⟨some 203, _, _, _, _, _⟩) (v := _) rfl (by kernel_rfl) (by kernel_rfl) (by kernel_rfl) (by kernel_rfl) (fun _ _ _ h => h) (Or.inl ⟨by rfl, fun w' hw' => (by clear hw'; go_simp; try with_reducible rfl)⟩) trivial (fun _ => trivial) ?_
            try simp only [Act.put, List.setIfInBounds_toArray, List.set_cons_zero, List.set_cons_succ]
            refine anyC_takeS (i := 74) (oi := ⟨some 204, _, _, _, _, _⟩) (v := _) rfl (by kernel_rfl) (by kernel_rfl) (by kernel_rfl) (by kernel_rfl) (fun _ _ _ h => h) (Or.inl ⟨by rfl, fun w' hw' => (by clear hw'; go_simp; try with_reducible rfl)⟩) trivial (fun _ => trivial) ?_
            try simp only [Act.put, List.setIfInBounds_toArray, List.set_cons_zero, List.set_cons_succ]
            refine anyC_keep (i := 72) (o := ⟨some 202, _, _, _, _, _⟩) (by kernel_rfl) rfl (fun K hK => ?_)
            rw [if_pos (by rfl)]
            go_wp2_with (go_at_call 25; (with_reducible refine (failsQ_any _ _).mono ?_); rintro r X ⟨rfl, rfl⟩)
            refine hK.out _ _ ⟨trivial, fun _ => trivial⟩ ?_
            clear hK K
            try simp only [Act.put, List.setIfInBounds_toArray, List.set_cons_zero, List.set_cons_succ]
            refine anyC_keep (i := 75) (o := ⟨some 205, _, _, _, _, _⟩) (by kernel_rfl) rfl (fun K hK => ?_)
            rw [if_pos (by rfl)]
            go_wp2_with (go_at_call 30; (first | (with_reducible refine (kRep 120 4113 4113 _ rfl (by decide)).mono ?_) | (with_reducible refine (kRep 120 4112 4112 _ rfl (by decide)).mono ?_)); rintro r V ⟨rfl, hb⟩; (repeat (with_reducible replace hb := bel_of_drew hb)); obtain ⟨K0, hp, hz⟩ := Wk.cell1 K0 hb; clear hb)
            refine hK.out _ _ ⟨trivial, fun _ => trivial⟩ ?_
            clear hK K
            try simp only [Act.put, List.setIfInBounds_toArray, List.set_cons_zero, List.set_cons_succ]
            refine anyC_keep (i := 76) (o := ⟨some 206, _, _, _, _, _⟩) (by kernel_rfl) rfl (fun K hK => ?_)
            rw [if_pos (by rfl)]
            go_wp2_with (first | (go_at_call 22; (with_reducible refine (yOpenA _).mono ?_); rintro r V ⟨rfl, hb⟩; (repeat (with_reducible replace hb := bel_of_drew hb)); obtain ⟨K0, hp, hz⟩ := Wk.cell1 K0 hb; clear hb) | (go_at_call 22; (with_reducible refine (yOpenL _).mono ?_); rintro r V ⟨rfl, hb⟩; (repeat (with_reducible replace hb := bel_of_drew hb)); obtain ⟨K0, hp, hz⟩ := Wk.cell1 K0 hb; clear hb) | (go_at_call 22; (with_reducible refine (yOpenP _).mono ?_); rintro r V ⟨rfl, hb⟩; (repeat (with_reducible replace hb := bel_of_drew hb)); obtain ⟨K0, hp, hz⟩ := Wk.keep1 K0 hp hz hb; clear hb) | (go_at_call 22; (with_reducible refine (yOpenS _).mono ?_); rintro r V ⟨rfl, hb⟩; (repeat (with_reducible replace hb := bel_of_drew hb)); obtain ⟨K0, hp, hz⟩ := Wk.cell1 K0 hb; clear hb) | (go_at_call 22; (with_reducible refine (yOpenQ _).mono ?_); rintro r V ⟨rfl, hb⟩; (repeat (with_reducible replace hb := bel_of_drew hb)); obtain ⟨K0, hp, hz⟩ := Wk.keep1 K0 hp hz hb; clear hb))
            refine hK.out _ _ ⟨trivial, fun _ => trivial⟩ ?_
            clear hK K
            try simp only [Act.put, List.setIfInBounds_toArray, List.set_cons_zero, List.set_cons_succ]
            refine anyC_takeS (i := 77) (oi := ⟨some 207, _, _, _, _, _⟩) (v := _) rfl (by kernel_rfl) (by kernel_rfl) (by kernel_rfl) (by kernel_rfl) (fun _ _ _ h => h) (Or.inl ⟨by rfl, fun w' hw' => (by clear hw'; go_simp; try with_reducible rfl)⟩) trivial (fun _ => trivial) ?_
            try simp only [Act.put, List.setIfInBounds_toArray, List.set_cons_zero, List.set_cons_succ]
            refine anyC_takeS (i := 78) (oi := ⟨some 208, _, _, _, _, _⟩) (v := _) rfl (by kernel_rfl) (by kernel_rfl) (by kernel_rfl) (by kernel_rfl) (fun _ _ _ h => h) (Or.inl ⟨by rfl, fun w' hw' => (by clear hw'; go_simp; try with_reducible rfl)⟩) trivial (fun _ => trivial) ?_
            try simp only [Act.put, List.setIfInBounds_toArray, List.set_cons_zero, List.set_cons_succ]
            refine anyC_keep (i := 79) (o := ⟨some 209, _, _, _, _, _⟩) (by kernel_rfl) rfl (fun K hK => ?_)
            rw [if_pos (by rfl)]
            go_wp2_with (go_at_call 53; (with_reducible refine (failsQ1_yes _ _ _ hp).mono ?_); rintro r V ⟨rfl, rfl⟩)
            refine hK.out _ _ ⟨trivial, fun _ => trivial⟩ ?_
            clear hK K
            try simp only [Act.put, List.setIfInBounds_toArray, List.set_cons_zero, List.set_cons_succ]
            as_aux_lemma =>
              refine anyC_takeS (i := 80) (oi := ⟨some 210, _, _, _, _, _⟩) (v := _) rfl (by kernel_rfl) (by kernel_rfl) (by kernel_rfl) (by kernel_rfl) (fun _ _ _ h => h) (Or.inl ⟨by rfl, fun w' hw' => (by clear hw'; go_simp; try with_reducible rfl)⟩) trivial (fun _ => trivial) ?_
              try simp only [Act.put, List.setIfInBounds_toArray, List.set_cons_zero, List.set_cons_succ]
              refine anyC_takeS (i := 81) (oi := ⟨some 211, _, _, _, _, _⟩) (v := _) rfl (by kernel_rfl) (by kernel_rfl) (by kernel_rfl) (by kernel_rfl) (fun _ _ _ h => h) (Or.inl ⟨by rfl, fun w' hw' => (by clear hw'; go_simp; try with_reducible rfl)⟩) trivial (fun _ => trivial) ?_
              try simp only [Act.put, List.setIfInBounds_toArray, List.set_cons_zero, List.set_cons_succ]
              refine anyC_takeS (i := 83) (oi := ⟨some 213, _, _, _, _, _⟩) (v := _) rfl (by kernel_rfl) (by kernel_rfl) (by kernel_rfl) (by kernel_rfl) (fun _ _ _ h => h) (Or.inl ⟨by rfl, fun w' hw' => (by clear hw'; go_simp; try with_reducible rfl)⟩) trivial (fun _ => trivial) ?_
              try simp only [Act.put, List.setIfInBounds_toArray, List.set_cons_zero, List.set_cons_succ]
              refine anyC_takeS (i := 84) (oi := ⟨some 214, _, _, _, _, _⟩) (v := _) rfl (by kernel_rfl) (by kernel_rfl) (by kernel_rfl) (by kernel_rfl) (fun _ _ _ h => h) (Or.inl ⟨by rfl, fun w' hw' => (by clear hw'; go_simp; try with_reducible rfl)⟩) trivial (fun _ => trivial) ?_
              try simp only [Act.put, List.setIfInBounds_toArray, List.set_cons_zero, List.set_cons_succ]
              refine anyC_keep (i := 82) (o := ⟨some 212, _, _, _, _, _⟩) (by kernel_rfl) rfl (fun K hK => ?_)
              rw [if_pos (by rfl)]
              go_wp2_with (go_at_call 25; (with_reducible refine (failsQ_any _ _).mono ?_); rintro r X ⟨rfl, rfl⟩)
              refine hK.out _ _ ⟨trivial, fun _ => trivial⟩ ?_
              clear hK K
              try simp only [Act.put, List.setIfInBounds_toArray, List.set_cons_zero, List.set_cons_succ]
              refine anyC_keep (i := 85) (o := ⟨some 215, _, _, _, _, _⟩) (by kernel_rfl) rfl (fun K hK => ?_)
              rw [if_pos (by rfl)]
              go_wp2_with (first | (go_at_call 22; (with_reducible refine (yOpenA _).mono ?_); rintro r V ⟨rfl, hb⟩; (repeat (with_reducible replace hb := bel_of_drew hb)); obtain ⟨K0, hp, hz⟩ := Wk.cell1 K0 hb; clear hb) | (go_at_call 22; (with_reducible refine (yOpenL _).mono ?_); rintro r V ⟨rfl, hb⟩; (repeat (with_reducible replace hb := bel_of_drew hb)); obtain ⟨K0, hp, hz⟩ := Wk.cell1 K0 hb; clear hb) | (go_at_call 22; (with_reducible refine (yOpenP _).mono ?_); rintro r V ⟨rfl, hb⟩; (repeat (with_reducible replace hb := bel_of_drew hb)); obtain ⟨K0, hp, hz⟩ := Wk.keep1 K0 hp hz hb; clear hb) | (go_at_call 22; (with_reducible refine (yOpenS _).mono ?_); rintro r V ⟨rfl, hb⟩; (repeat (with_reducible replace hb := bel_of_drew hb)); obtain ⟨K0, hp, hz⟩ := Wk.cell1 K0 hb; clear hb) | (go_at_call 22; (with_reducible refine (yOpenQ _).mono ?_); rintro r V ⟨rfl, hb⟩; (repeat (with_reducible replace hb := bel_of_drew hb)); obtain ⟨K0, hp, hz⟩ := Wk.keep1 K0 hp hz hb; clear hb))
              refine hK.out _ _ ⟨trivial, fun _ => trivial⟩ ?_
              clear hK K
              try simp only [Act.put, List.setIfInBounds_toArray, List.set_cons_zero, List.set_cons_succ]
              refine anyC_takeS (i := 86) (oi := ⟨some 216, _, _, _, _, _⟩) (v := _) rfl (by kernel_rfl) (by kernel_rfl) (by kernel_rfl) (by kernel_rfl) (fun _ _ _ h => h) (Or.inl ⟨by rfl, fun w' hw' => (by clear hw'; go_simp; try with_reducible rfl)⟩) trivial (fun _ => trivial) ?_
              try simp only [Act.put, List.setIfInBounds_toArray, List.set_cons_zero, List.set_cons_succ]
              refine anyC_takeS (i := 87) (oi := ⟨some 217, _, _, _, _, _⟩) (v := _) rfl (by kernel_rfl) (by kernel_rfl) (by kernel_rfl) (by kernel_rfl) (fun _ _ _ h => h) (Or.inl ⟨by rfl, fun w' hw' => (by clear hw'; go_simp; try with_reducible rfl)⟩) trivial (fun _ => trivial) ?_
              try simp only [Act.put, List.setIfInBounds_toArray, List.set_cons_zero, List.set_cons_succ]
              refine anyC_keep (i := 88) (o := ⟨some 218, _, _, _, _, _⟩) (by kernel_rfl) rfl (fun K hK => ?_)
              rw [if_pos (by rfl)]
              go_wp2_with (go_at_call 53; (with_reducible refine (failsQ1_yes _ _ _ hp).mono ?_); rintro r V ⟨rfl, rfl⟩)
              refine hK.out _ _ ⟨trivial, fun _ => trivial⟩ ?_
              clear hK K
              try simp only [Act.put, List.setIfInBounds_toArray, List.set_cons_zero, List.set_cons_succ]
              refine anyC_takeS (i := 89) (oi := ⟨some 219, _, _, _, _, _⟩) (v := _) rfl (by kernel_rfl) (by kernel_rfl) (by kernel_rfl) (by kernel_rfl) (fun _ _ _ h => h) (Or.inl ⟨by rfl, fun w' hw' => (by clear hw'; go_simp; try with_reducible rfl)⟩) trivial (fun _ => trivial) ?_
              try simp only [Act.put, List.setIfInBounds_toArray, List.set_cons_zero, List.set_cons_succ]
              refine anyC_takeS (i := 90) (oi := ⟨some 220, _, _, _, _, _⟩) (v := _) rfl (by kernel_rfl) (by kernel_rfl) (by kernel_rfl) (by kernel_rfl) (fun _ _ _ h => h) (Or.inl ⟨by rfl, fun w' hw' => (by clear hw'; go_simp; try with_reducible rfl)⟩) trivial (fun _ => trivial) ?_
              try simp only [Act.put, List.setIfInBounds_toArray, List.set_cons_zero, List.set_cons_succ]
              refine anyC_takeS (i := 92) (oi := ⟨some 222, _, _, _, _, _⟩) (v := _) rfl (by kernel_rfl) (by kernel_rfl) (by kernel_rfl) (by kernel_rfl) (fun _ _ _ h => h) (Or.inl ⟨by rfl, fun w' hw' => (by clear hw'; go_simp; try with_reducible rfl)⟩) trivial (fun _ => trivial) ?_
              try simp only [Act.put, List.setIfInBounds_toArray, List.set_cons_zero, List.set_cons_succ]
              refine anyC_takeS (i := 93) (oi := ⟨some 223, _, _, _, _, _⟩) (v := _) rfl (by kernel_rfl) (by kernel_rfl) (by kernel_rfl) (by kernel_rfl) (fun _ _ _ h => h) (Or.inl ⟨by rfl, fun w' hw' => (by clear hw'; go_simp; try with_reducible rfl)⟩) trivial (fun _ => trivial) ?_
              try simp only [Act.put, List.setIfInBounds_toArray, List.set_cons_zero, List.set_cons_succ]
              refine anyC_keep (i := 91) (o := ⟨some 221, _, _, _, _, _⟩) (by kernel_rfl) rfl (fun K hK => ?_)
              rw [if_pos (by rfl)]
              go_wp2_with (go_at_call 25; (with_reducible refine (failsQ_any _ _).mono ?_); rintro r X ⟨rfl, rfl⟩)
              refine hK.out _ _ ⟨trivial, fun _ => trivial⟩ ?_
              clear hK K
              try simp only [Act.put, List.setIfInBounds_toArray, List.set_cons_zero, List.set_cons_succ]
              refine anyC_keep (i := 94) (o := ⟨some 224, _, _, _, _, _⟩) (by kernel_rfl) rfl (fun K hK => ?_)
              rw [if_pos (by rfl)]
              go_wp2_with (go_at_call 30; (first | (with_reducible refine (kRep 120 4113 4113 _ rfl (by decide)).mono ?_) | (with_reducible refine (kRep 120 4112 4112 _ rfl (by decide)).mono ?_)); rintro r V ⟨rfl, hb⟩; (repeat (with_reducible replace hb := bel_of_drew hb)); obtain ⟨K0, hp, hz⟩ := Wk.cell1 K0 hb; clear hb)
              refine hK.out _ _ ⟨trivial, fun _ => trivial⟩ ?_
              clear hK K
              try simp only [Act.put, List.setIfInBounds_toArray, List.set_cons_zero, List.set_cons_succ]
              refine anyC_keep (i := 95) (o := ⟨some 225, _, _, _, _, _⟩) (by kernel_rfl) rfl (fun K hK => ?_)
              rw [if_pos (by rfl)]
              go_wp2_with (first | (go_at_call 22; (with_reducible refine (yOpenA _).mono ?_); rintro r V ⟨rfl, hb⟩; (repeat (with_reducible replace hb := bel_of_drew hb)); obtain ⟨K0, hp, hz⟩ := Wk.cell1 K0 hb; clear hb) | (go_at_call 22; (with_reducible refine (yOpenL _).mono ?_); rintro r V ⟨rfl, hb⟩; (repeat (with_reducible replace hb := bel_of_drew hb)); obtain ⟨K0, hp, hz⟩ := Wk.cell1 K0 hb; clear hb) | (go_at_call 22; (with_reducible refine (yOpenP _).mono ?_); rintro r V ⟨rfl, hb⟩; (repeat (with_reducible replace hb := bel_of_drew hb)); obtain ⟨K0, hp, hz⟩ := Wk.keep1 K0 hp hz hb; clear hb) | (go_at_call 22; (with_reducible refine (yOpenS _).mono ?_); rintro r V ⟨rfl, hb⟩; (repeat (with_reducible replace hb := bel_of_drew hb)); obtain ⟨K0, hp, hz⟩ := Wk.cell1 K0 hb; clear hb) | (go_at_call 22; (with_reducible refine (yOpenQ _).mono ?_); rintro r V ⟨rfl, hb⟩; (repeat (with_reducible replace hb := bel_of_drew hb)); obtain ⟨K0, hp, hz⟩ := Wk.keep1 K0 hp hz hb; clear hb))
              refine hK.out _ _ ⟨trivial, fun _ => trivial⟩ ?_
              clear hK K
              try simp only [Act.put, List.setIfInBounds_toArray, List.set_cons_zero, List.set_cons_succ]
              refine anyC_takeS (i := 96) (oi := ⟨some 226, _, _, _, _, _⟩) (v := _) rfl (by kernel_rfl) (by kernel_rfl) (by kernel_rfl) (by kernel_rfl) (fun _ _ _ h => h) (Or.inl ⟨by rfl, fun w' hw' => (by clear hw'; go_simp; try with_reducible rfl)⟩) trivial (fun _ => trivial) ?_
              try simp only [Act.put, List.setIfInBounds_toArray, List.set_cons_zero, List.set_cons_succ]
              refine anyC_takeS (i := 97) (oi := ⟨some 227, _, _, _, _, _⟩) (v := _) rfl (by kernel_rfl) (by kernel_rfl) (by kernel_rfl) (by kernel_rfl) (fun _ _ _ h => h) (Or.inl ⟨by rfl, fun w' hw' => (by clear hw'; go_simp; try with_reducible rfl)⟩) trivial (fun _ => trivial) ?_
              try simp only [Act.put, List.setIfInBounds_toArray, List.set_cons_zero, List.set_cons_succ]
              refine anyC_keep (i := 98) (o := ⟨some 228, _, _, _, _, _⟩) (by kernel_rfl) rfl (fun K hK => ?_)
              rw [if_pos (by rfl)]
              go_wp2_with (go_at_call 53; (with_reducible refine (failsQ1_yes _ _ _ hp).mono ?_); rintro r V ⟨rfl, rfl⟩)
              refine hK.out _ _ ⟨trivial, fun _ => trivial⟩ ?_
              clear hK K
              try simp only [Act.put, List.setIfInBounds_toArray, List.set_cons_zero, List.set_cons_succ]
              refine anyC_takeS (i := 99) (oi := ⟨some 229, _, _, _, _, _⟩) (v := _) rfl (by kernel_rfl) (by kernel_rfl) (by kernel_rfl) (by kernel_rfl) (fun _ _ _ h => h) (Or.inl ⟨by rfl, fun w' hw' => (by clear hw'; go_simp; try with_reducible rfl)⟩) trivial (fun _ => trivial) ?_
              try simp only [Act.put, List.setIfInBounds_toArray, List.set_cons_zero, List.set_cons_succ]
              refine anyC_takeS (i := 100) (oi := ⟨some 13, _, _, _, _, _⟩) (v := _) rfl (by kernel_rfl) (by kernel_rfl) (by kernel_rfl) (by kernel_rfl) (fun _ _ _ h => h) (Or.inl ⟨by rfl, fun w' hw' => (by clear hw'; go_simp; try with_reducible rfl)⟩) trivial (fun _ => trivial) ?_
              try simp only [Act.put, List.setIfInBounds_toArray, List.set_cons_zero, List.set_cons_succ]
              refine anyC_done (by kernel_rfl) ?_ _
              go_wp2_with fail
              go_meet
              exact ⟨rfl, K0.b⟩
  case rest =>
    obtain ⟨rfl, hB⟩ := hcut
    have K1 : Wk w wc [] := ⟨hB, HD.out.below hB, fun _ h => absurd h List.not_mem_nil⟩
    go_wp2_with (first
      | (go_at_call 16; (with_reducible refine (yTagF _).mono ?_); rintro r V ⟨rfl, hb⟩; have K2 := Wk.step K1 hb; clear hb)
      | (go_at_call 12; (with_reducible refine (worksQ_true _ K2.d).mono ?_); rintro r V ⟨rfl, hb⟩; have K3 := Wk.step K2 hb; clear hb))
    go_ret
    exact ⟨rfl, K3.b⟩
end Go.Proofs.YtnfefkcfifnjnaaDoor
