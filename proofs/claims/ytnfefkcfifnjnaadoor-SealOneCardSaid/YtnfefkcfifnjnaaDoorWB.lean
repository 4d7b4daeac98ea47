/- works() of layer 4 returns true: the chapter's examples. -/
import Derived.Test.YtnfefkcfifnjnaaDoorWA
import Derived.Deep.RegionHeld3
import Derived.Test.YtnfefkcfifnjnaaDoorW
import Derived.Deep.Cut
namespace Go.Proofs.YtnfefkcfifnjnaaDoor
open Go.RowKit Go.ChangeShapes
theorem sl20 (w : World) : (Instr.slice 9 (.string (bs BOX)) none (some (.int .i64 20)) none).run Tryd.prog w = .ok (.string (bs (BOX.take 20))) w := by kernel_rfl
theorem sl15 (w : World) : (Instr.slice 9 (.string (bs BOX)) none (some (.int .i64 15)) none).run Tryd.prog w = .ok (.string (bs (BOX.take 15))) w := by kernel_rfl
theorem ix20 (w : World) : (Instr.index 9 (.string (bs BOX)) (.int .i64 20)).run Tryd.prog w = .ok (.int .u8 62) w := by kernel_rfl
def K31 : List UInt8 := List.replicate 31 107
theorem sl31k (w : World) : (Instr.slice 9 (.string (rp 107 32)) none (some (.int .i64 31)) none).run Tryd.prog w = .ok (.string (bs K31)) w := by kernel_rfl
theorem xTag31 (w : World) : Calls Tryd.prog 16 #[.string (bs K31), .string ⟨#[]⟩] w fun e w' => e = .returned (.tuple #[.string ⟨#[]⟩, .int .i64 2]) ∧ w = w' := tag_arg _ _ w (by decide)
theorem bent_cat : bs (BOX.take 20) ++ (⟨#[63]⟩ : ByteArray) = bs BENT := by decide +kernel
theorem rp_107 : (rp 107 32).size = 32 := rp_size _ _
theorem xTag3e (w : World) : Calls Tryd.prog 16 #[.string ((rp 107 32).extract 0 31), .string ⟨#[]⟩] w fun e w' => e = .returned (.tuple #[.string ⟨#[]⟩, .int .i64 2]) ∧ w = w' := tag_arg _ _ w (by decide +kernel)
theorem cell_o (W : World) (x : Value) (t : TypeId) : (W.alloc (.cells #[x] t)).cell? ⟨W.heap.size, 0, none⟩ = some x := cell_of_row _ _ 0 _ t (0, 0) (heap_alloc_new W _)
set_option maxRecDepth 1000000 in
set_option maxHeartbeats 8000000 in
theorem worksQ_true (w : World) (hD : Digits w) :
    Calls Tryd.prog 12 #[] w fun e w' => e = .returned (.bool true) ∧ Below w.heap.size w w' := by
  have K0 := Wk.start hD
  have s1 := sl20
  have s2 := sl15
  have s3 := ix20
  have s4 := sl31k
  have z1 : (bs BOX).size = 21 := rfl
  have z2 : (bs (BOX.take 20)).size = 20 := rfl
  have bc := bent_cat
  clear hD
  have hx : bits .xor .u8 62 1 = 63 := by decide +kernel
  have hcv : ∀ W : World, (convert 25 9 (.slice (some ⟨W.heap.size, 0, none⟩) 1 1)).run Tryd.prog (W.alloc (.cells #[.int .u8 63] 5)).drew = .ok (.string ⟨#[63]⟩) (W.alloc (.cells #[.int .u8 63] 5)).drew := fun W =>
    run_convert_bytes_back (P := Tryd.prog) _ 25 9 5 ⟨W.heap.size, 0, none⟩ 1 [63] Tryd.underlying25 Tryd.underlying5 Tryd.underlying9 fun j hj => by
      have hj0 : j = 0 := by simpa using hj
      subst hj0
      exact cell_o W _ 5
  go_enter Tryd.func12, Tryd.ntmps12
  go_upto_region 7 with (first
    | (go_at_call 37; (first | (with_reducible refine (xUnhex1 _ K0.d).mono ?_) | (with_reducible refine (xUnhex2 _ K0.d).mono ?_)); rintro e V ⟨rfl, hb⟩; with_reducible replace K0 := Wk.step K0 hb; clear hb)
    | (go_at_call 30; (first | (with_reducible refine (kRep 107 32 32 _ rfl (by decide)).mono ?_) | (with_reducible refine (kRep 110 12 12 _ rfl (by decide)).mono ?_)); rintro e V ⟨rfl, hb⟩; with_reducible replace K0 := Wk.step K0 hb; clear hb)
    | (go_at_call 20; (with_reducible refine (xSeal _).mono ?_); rintro e V ⟨rfl, hb⟩; with_reducible replace K0 := Wk.step K0 hb; clear hb))
  refine region_anyC (fun _ => True) (fun _ => True) [] (by kernel_rfl) ?_
  refine anyC_takeS (i := 0) (oi := ⟨some 41, _, _, _, _, _⟩) (v := _) rfl (by kernel_rfl) (by kernel_rfl) (by kernel_rfl) (by kernel_rfl) (fun _ _ _ h => h) (Or.inl ⟨by rfl, fun w' hw' => (by clear hw'; go_simp; try with_reducible rfl)⟩) trivial (fun _ => trivial) ?_
  try simp only [Act.put, List.setIfInBounds_toArray, List.set_cons_zero, List.set_cons_succ]
  refine anyC_takeS (i := 1) (oi := ⟨some 42, _, _, _, _, _⟩) (v := _) rfl (by kernel_rfl) (by kernel_rfl) (by kernel_rfl) (by kernel_rfl) (fun _ _ _ h => h) (Or.inl ⟨by rfl, fun w' hw' => (by clear hw'; go_simp; try with_reducible rfl)⟩) trivial (fun _ => trivial) ?_
  try simp only [Act.put, List.setIfInBounds_toArray, List.set_cons_zero, List.set_cons_succ]
  refine anyC_takeS (i := 2) (oi := ⟨some 43, _, _, _, _, _⟩) (v := _) rfl (by kernel_rfl) (by kernel_rfl) (by kernel_rfl) (by kernel_rfl) (fun _ _ _ h => h) (Or.inl ⟨by rfl, fun w' hw' => (by clear hw'; go_simp; try with_reducible rfl)⟩) trivial (fun _ => trivial) ?_
  try simp only [Act.put, List.setIfInBounds_toArray, List.set_cons_zero, List.set_cons_succ]
  refine anyC_takeS (i := 3) (oi := ⟨some 44, _, _, _, _, _⟩) (v := _) rfl (by kernel_rfl) (by kernel_rfl) (by kernel_rfl) (by kernel_rfl) (fun _ _ _ h => h) (Or.inl ⟨by rfl, fun w' hw' => (by clear hw'; go_simp; try with_reducible rfl)⟩) trivial (fun _ => trivial) ?_
  try simp only [Act.put, List.setIfInBounds_toArray, List.set_cons_zero, List.set_cons_succ]
  refine anyC_takeS (i := 4) (oi := ⟨some 45, _, _, _, _, _⟩) (v := _) rfl (by kernel_rfl) (by kernel_rfl) (by kernel_rfl) (by kernel_rfl) (fun _ _ _ h => h) (Or.inl ⟨by rfl, fun w' hw' => (by clear hw'; go_simp; try with_reducible rfl)⟩) trivial (fun _ => trivial) ?_
  try simp only [Act.put, List.setIfInBounds_toArray, List.set_cons_zero, List.set_cons_succ]
  refine anyC_keep (i := 5) (o := ⟨some 46, _, _, _, _, _⟩) (by kernel_rfl) rfl (fun K hK => ?_)
  rw [if_pos (by rfl)]
  go_simp
  refine hK.out _ _ ⟨trivial, fun _ => trivial⟩ ?_
  clear hK K
  try simp only [Act.put, List.setIfInBounds_toArray, List.set_cons_zero, List.set_cons_succ]
  refine anyC_keep (i := 6) (o := ⟨some 47, _, _, _, _, _⟩) (by kernel_rfl) rfl (fun K hK => ?_)
  rw [if_pos (by rfl)]
  go_simp
  refine hK.out _ _ ⟨trivial, fun _ => trivial⟩ ?_
  clear hK K
  try simp only [Act.put, List.setIfInBounds_toArray, List.set_cons_zero, List.set_cons_succ]
  refine anyC_keep (i := 7) (o := ⟨some 48, _, _, _, _, _⟩) (by kernel_rfl) rfl (fun K hK => ?_)
  rw [if_pos (by rfl)]
  go_simp
  refine hK.out _ _ ⟨trivial, fun _ => trivial⟩ ?_
  clear hK K
  try simp only [Act.put, List.setIfInBounds_toArray, List.set_cons_zero, List.set_cons_succ]
  refine anyC_keep (i := 8) (o := ⟨some 9, _, _, _, _, _⟩) (by kernel_rfl) rfl (fun K hK => ?_)
  rw [if_pos (by rfl)]
  go_simp
  refine hK.out _ _ ⟨trivial, fun _ => trivial⟩ ?_
  clear hK K
  try simp only [Act.put, List.setIfInBounds_toArray, List.set_cons_zero, List.set_cons_succ]
  refine anyC_done (by kernel_rfl) ?_ _
  have K1 : Wk w (V.alloc (.cells #[.int .u8 63] 5)).drew [] := (K0.alloc _).drew
  generalize hW : (V.alloc (.cells #[.int .u8 63] 5)).drew = W at K1 ⊢
  clear hW hcv s1 s3 hx bc z2 K0
  go_wp2_with fail
  simp only [List.append_eq, List.cons_append, List.nil_append]
  go_region_held3 (fun _ => True)
    (first | trivial)
    (first
    | (go_at_call 24; (with_reducible refine (sameQ_any _ _).mono ?_); rintro e X ⟨rfl, rfl⟩)
    | (go_at_call 25; (with_reducible refine (failsQ_any _ _).mono ?_); rintro e X ⟨rfl, rfl⟩)
    | (go_at_call 16; (with_reducible refine (xTag1 _).mono ?_); rintro e V ⟨rfl, hb⟩; (repeat (with_reducible replace hb := bel_of_drew hb)); obtain ⟨K2, hp2, hz2⟩ := Wk.cell1 K1 hb; clear hb)
    | (go_at_call 28; (with_reducible refine (zerosQ_any 16 16 _ rfl (by decide)).mono ?_); rintro e V ⟨rfl, hb⟩; (repeat (with_reducible replace hb := bel_of_drew hb)); have K3 := Wk.step K2 hb; clear hb)
    | (go_at_call 28; (with_reducible refine (zerosQ_any 32 32 _ rfl (by decide)).mono ?_); rintro e V ⟨rfl, hb⟩; (repeat (with_reducible replace hb := bel_of_drew hb)); obtain ⟨K4, hp4, hz4⟩ := Wk.cell1 K3 hb; clear hb)
    | (go_at_call 16; (with_reducible refine (xTag2 _).mono ?_); rintro e V ⟨rfl, hb⟩; (repeat (with_reducible replace hb := bel_of_drew hb)); obtain ⟨K5, hp5, hz5⟩ := Wk.keep1 K4 hp4 hz4 hb; clear hb)
    | (go_at_call 22; (with_reducible refine (xOpen _).mono ?_); rintro e V ⟨rfl, hb⟩; (repeat (with_reducible replace hb := bel_of_drew hb)); obtain ⟨K6, hp6, hz6⟩ := Wk.cell1 K5 hb; clear hb)
    | (go_at_call 22; (with_reducible refine (xOpenB _).mono ?_); rintro e V ⟨rfl, hb⟩; (repeat (with_reducible replace hb := bel_of_drew hb)); obtain ⟨K7, hp7, hz7⟩ := Wk.cell1 K6 hb; clear hb)
    | (go_at_call 22; (with_reducible refine (xOpenS _).mono ?_); rintro e V ⟨rfl, hb⟩; (repeat (with_reducible replace hb := bel_of_drew hb)); obtain ⟨K8, hp8, hz8⟩ := Wk.cell1 K7 hb; have K9 := K8.alloc (.cells #[.int .i64 2] 28); clear hb)
    | (go_at_call 16; (first | (with_reducible refine (xTag31 _).mono ?_) | (with_reducible refine (xTag3e _).mono ?_)); rintro e V ⟨rfl, rfl⟩)
    | (go_at_call 30; (with_reducible refine (kRep 112 4097 4097 _ rfl (by decide)).mono ?_); rintro e V ⟨rfl, hb⟩; (repeat (with_reducible replace hb := bel_of_drew hb)); obtain ⟨K10, hp10, hz10⟩ := Wk.cell1 K9 hb; rw [World.size_alloc] at hp10 hz10; clear hb)
    | (go_at_call 20; (with_reducible refine (xSealL _).mono ?_); rintro e V ⟨rfl, hb⟩; (repeat (with_reducible replace hb := bel_of_drew hb)); obtain ⟨K11, hp11, hz11⟩ := Wk.keep1 K10 hp10 hz10 hb; clear hb)
    | (go_at_call 52; (first | (with_reducible refine (sameQ1_yes _ _ _ hp2).mono ?_) | (with_reducible refine (sameQ1_yes _ _ _ hp5).mono ?_) | (with_reducible refine (sameQ1_yes _ _ _ hp6).mono ?_)); rintro e V ⟨rfl, rfl⟩)
    | (go_at_call 53; (first | (with_reducible refine (failsQ1_yes _ _ _ hp7).mono ?_) | (with_reducible refine (failsQ1_yes _ _ _ hp8).mono ?_) | (with_reducible refine (failsQ1_yes _ _ _ hp11).mono ?_) | (with_reducible refine (failsQ1_yes _ _ _ (cell_o _ _ _)).mono ?_)); rintro e V ⟨rfl, rfl⟩))
  all_goals go_wp2_with fail
  all_goals go_ret
  all_goals exact ⟨rfl, K11.b⟩
end Go.Proofs.YtnfefkcfifnjnaaDoor
