/- The walk of CurveShows. -/
import Derived.Test.YtbadiljligcenaaDoorGO
namespace Go.Proofs.YtbadiljligcenaaDoor
open Go.RowKit Go.Shelf
def nineL : List UInt8 := 9 :: List.replicate 31 0
theorem nineL_num : num nineL % two255 % pC = 9 := by decide
theorem nine_cat : bs [9] ++ bs (List.replicate 31 0) = bs nineL := by decide
def B31 : Array Value := (List.replicate 31 (Value.int .u8 0)).toArray
theorem wp_val {o : Oper} {a : Act} {w w' : World} {v : Value} {K : Act → World → Prop} {Q : Exit → Act → World → Prop} (h : (execOp a.eval o).run Tryd.prog w = .ok (.value v) w') (hK : K (a.put o.dst v) w') : o.wp Tryd.prog a w K Q := by
  unfold Oper.wp
  rw [h]
  exact hK
set_option maxRecDepth 100000 in
set_option maxHeartbeats 8000000 in
theorem nine_any (w : World) : Calls Tryd.prog 19 #[] w fun e w' => e = .returned (.string (bs nineL)) ∧ Below w.heap.size w w' := by
  have HC := Lib.hid (fun wx : World => (run_string_add wx (bs [9]) (bs (List.replicate 31 0)) (by decide) (by decide) : (Op.stringOp .add (bs [9]) (bs (List.replicate 31 0))).run Tryd.prog wx = _))
  have HB := Lib.hid (Below.refl w.heap.size w)
  go_enter Tryd.func19, Tryd.ntmps19
  go_upto_region 1 with fail
  refine region_anyC (fun _ => True) (fun w' => True) [] (by kernel_rfl) ?_
  have HB := Lib.hid HB.out.drew
  generalize World.drew w = W0 at HB ⊢
  refine anyC_two (i := 0) (j := 2) (o1 := ⟨some 1, _, _, _, _, _⟩) (o2 := ⟨some 3, _, _, _, _, _⟩) (by kernel_rfl) rfl rfl (fun K hK => ?_) (fun K hK => ?_)
  · rw [if_pos (by rfl)]
    refine wp_val (v := .slice (some ⟨W0.heap.size, 0, none⟩) 1 1) (w' := W0.alloc (.cells #[.int .u8 9] 5)) (by kernel_rfl) ?_
    have hB := HB.out.alloc HB.out.size (.cells #[.int .u8 9] 5)
    have hrow : (W0.alloc (.cells #[.int .u8 9] 5)).heap[W0.heap.size]? = some (.cells (byC [9]).toArray 5 (0, 0)) := heap_alloc_new W0 _
    generalize W0.alloc (.cells #[.int .u8 9] 5) = V0 at *
    generalize W0.heap.size = G9 at *
    have H9 := Lib.hid hrow
    have HB := Lib.hid hB
    clear hrow hB
    refine hK.out _ _ ⟨trivial, fun _ => trivial⟩ ?_
    clear hK K
    try simp only [Act.put, List.setIfInBounds_toArray, List.set_cons_zero, List.set_cons_succ]
    refine anyC_two (i := 1) (j := 2) (o1 := ⟨some 2, _, _, _, _, _⟩) (o2 := ⟨some 3, _, _, _, _, _⟩) (by kernel_rfl) rfl rfl (fun K hK => ?_) (fun K hK => ?_)
    · rw [if_pos (by rfl)]
      have hcv := string_of_oc (cap := 1) (oc_row H9.out)
      rw [show ([9] : List UInt8).length = 1 from by simp] at hcv
      go_wp2_with fail
      clear hcv
      refine hK.out _ _ ⟨trivial, fun _ => trivial⟩ ?_
      clear hK K
      try simp only [Act.put, List.setIfInBounds_toArray, List.set_cons_zero, List.set_cons_succ]
      refine anyC_keep (i := 2) (o := ⟨some 3, _, _, _, _, _⟩) (by kernel_rfl) rfl (fun K hK => ?_)
      rw [if_pos (by rfl)]
      refine wp_val (v := .slice (some ⟨V0.heap.size, 0, none⟩) 31 31) (w' := V0.alloc (.cells B31 5)) (by kernel_rfl) ?_
      have hB := HB.out.alloc HB.out.size (.cells B31 5)
      have hrow : (V0.alloc (.cells B31 5)).heap[V0.heap.size]? = some (.cells (byC (List.replicate 31 0)).toArray 5 (0, 0)) := heap_alloc_new V0 _
      have H9 := Lib.hid ((Below.heap_alloc V0 (.cells B31 5) G9 (Array.getElem?_eq_some_iff.1 H9.out).1).trans H9.out)
      generalize V0.alloc (.cells B31 5) = V1 at *
      generalize V0.heap.size = G31 at *
      have H31 := Lib.hid hrow
      have HB := Lib.hid hB
      clear hrow hB
      refine hK.out _ _ ⟨trivial, fun _ => trivial⟩ ?_
      clear hK K
      try simp only [Act.put, List.setIfInBounds_toArray, List.set_cons_zero, List.set_cons_succ]
      refine anyC_keep (i := 3) (o := ⟨some 4, _, _, _, _, _⟩) (by kernel_rfl) rfl (fun K hK => ?_)
      rw [if_pos (by rfl)]
      have hcv := string_of_oc (cap := 31) (oc_row H31.out)
      rw [show ((List.replicate 31 0) : List UInt8).length = 31 from by simp] at hcv
      go_wp2_with fail
      clear hcv
      refine hK.out _ _ ⟨trivial, fun _ => trivial⟩ ?_
      clear hK K
      try simp only [Act.put, List.setIfInBounds_toArray, List.set_cons_zero, List.set_cons_succ]
      refine anyC_takeS (i := 4) (oi := ⟨some 5, _, _, _, _, _⟩) (v := .string (bs [9] ++ bs (List.replicate 31 0))) rfl (by kernel_rfl) (by kernel_rfl) (by kernel_rfl) (by kernel_rfl) (fun _ _ _ h => h) (Or.inl ⟨by rfl, fun w' hw' => (by clear hw'; go_simp; try (first | with_reducible rfl | decide))⟩) trivial (fun _ => trivial) ?_
      try simp only [Act.put, List.setIfInBounds_toArray, List.set_cons_zero, List.set_cons_succ]
      refine anyC_takeS (i := 5) (oi := ⟨some 0, _, _, _, _, _⟩) (v := _) rfl (by kernel_rfl) (by kernel_rfl) (by kernel_rfl) (by kernel_rfl) (fun _ _ _ h => h) (Or.inl ⟨by rfl, fun w' hw' => (by clear hw'; go_simp; try with_reducible rfl)⟩) trivial (fun _ => trivial) ?_
      try simp only [Act.put, List.setIfInBounds_toArray, List.set_cons_zero, List.set_cons_succ]
      refine anyC_done (by kernel_rfl) ?_ _
      go_wp2_with fail
      go_ret
      exact ⟨by rw [← nine_cat]; rfl, HB.out⟩
    · rw [if_pos (by rfl)]
      refine wp_val (v := .slice (some ⟨V0.heap.size, 0, none⟩) 31 31) (w' := V0.alloc (.cells B31 5)) (by kernel_rfl) ?_
      have hB := HB.out.alloc HB.out.size (.cells B31 5)
      have hrow : (V0.alloc (.cells B31 5)).heap[V0.heap.size]? = some (.cells (byC (List.replicate 31 0)).toArray 5 (0, 0)) := heap_alloc_new V0 _
      have H9 := Lib.hid ((Below.heap_alloc V0 (.cells B31 5) G9 (Array.getElem?_eq_some_iff.1 H9.out).1).trans H9.out)
      generalize V0.alloc (.cells B31 5) = V1 at *
      generalize V0.heap.size = G31 at *
      have H31 := Lib.hid hrow
      have HB := Lib.hid hB
      clear hrow hB
      refine hK.out _ _ ⟨trivial, fun _ => trivial⟩ ?_
      clear hK K
      try simp only [Act.put, List.setIfInBounds_toArray, List.set_cons_zero, List.set_cons_succ]
      refine anyC_two (i := 1) (j := 3) (o1 := ⟨some 2, _, _, _, _, _⟩) (o2 := ⟨some 4, _, _, _, _, _⟩) (by kernel_rfl) rfl rfl (fun K hK => ?_) (fun K hK => ?_)
      · rw [if_pos (by rfl)]
        have hcv := string_of_oc (cap := 1) (oc_row H9.out)
        rw [show ([9] : List UInt8).length = 1 from by simp] at hcv
        go_wp2_with fail
        clear hcv
        refine hK.out _ _ ⟨trivial, fun _ => trivial⟩ ?_
        clear hK K
        try simp only [Act.put, List.setIfInBounds_toArray, List.set_cons_zero, List.set_cons_succ]
        refine anyC_keep (i := 3) (o := ⟨some 4, _, _, _, _, _⟩) (by kernel_rfl) rfl (fun K hK => ?_)
        rw [if_pos (by rfl)]
        have hcv := string_of_oc (cap := 31) (oc_row H31.out)
        rw [show ((List.replicate 31 0) : List UInt8).length = 31 from by simp] at hcv
        go_wp2_with fail
        clear hcv
        refine hK.out _ _ ⟨trivial, fun _ => trivial⟩ ?_
        clear hK K
        try simp only [Act.put, List.setIfInBounds_toArray, List.set_cons_zero, List.set_cons_succ]
        refine anyC_takeS (i := 4) (oi := ⟨some 5, _, _, _, _, _⟩) (v := .string (bs [9] ++ bs (List.replicate 31 0))) rfl (by kernel_rfl) (by kernel_rfl) (by kernel_rfl) (by kernel_rfl) (fun _ _ _ h => h) (Or.inl ⟨by rfl, fun w' hw' => (by clear hw'; go_simp; try (first | with_reducible rfl | decide))⟩) trivial (fun _ => trivial) ?_
        try simp only [Act.put, List.setIfInBounds_toArray, List.set_cons_zero, List.set_cons_succ]
        refine anyC_takeS (i := 5) (oi := ⟨some 0, _, _, _, _, _⟩) (v := _) rfl (by kernel_rfl) (by kernel_rfl) (by kernel_rfl) (by kernel_rfl) (fun _ _ _ h => h) (Or.inl ⟨by rfl, fun w' hw' => (by clear hw'; go_simp; try with_reducible rfl)⟩) trivial (fun _ => trivial) ?_
        try simp only [Act.put, List.setIfInBounds_toArray, List.set_cons_zero, List.set_cons_succ]
        refine anyC_done (by kernel_rfl) ?_ _
        go_wp2_with fail
        go_ret
        exact ⟨by rw [← nine_cat]; rfl, HB.out⟩
      · rw [if_pos (by rfl)]
        have hcv := string_of_oc (cap := 31) (oc_row H31.out)
        rw [show ((List.replicate 31 0) : List UInt8).length = 31 from by simp] at hcv
        go_wp2_with fail
        clear hcv
        refine hK.out _ _ ⟨trivial, fun _ => trivial⟩ ?_
        clear hK K
        try simp only [Act.put, List.setIfInBounds_toArray, List.set_cons_zero, List.set_cons_succ]
        refine anyC_keep (i := 1) (o := ⟨some 2, _, _, _, _, _⟩) (by kernel_rfl) rfl (fun K hK => ?_)
        rw [if_pos (by rfl)]
        have hcv := string_of_oc (cap := 1) (oc_row H9.out)
        rw [show ([9] : List UInt8).length = 1 from by simp] at hcv
        go_wp2_with fail
        clear hcv
        refine hK.out _ _ ⟨trivial, fun _ => trivial⟩ ?_
        clear hK K
        try simp only [Act.put, List.setIfInBounds_toArray, List.set_cons_zero, List.set_cons_succ]
        refine anyC_takeS (i := 4) (oi := ⟨some 5, _, _, _, _, _⟩) (v := .string (bs [9] ++ bs (List.replicate 31 0))) rfl (by kernel_rfl) (by kernel_rfl) (by kernel_rfl) (by kernel_rfl) (fun _ _ _ h => h) (Or.inl ⟨by rfl, fun w' hw' => (by clear hw'; go_simp; try (first | with_reducible rfl | decide))⟩) trivial (fun _ => trivial) ?_
        try simp only [Act.put, List.setIfInBounds_toArray, List.set_cons_zero, List.set_cons_succ]
        refine anyC_takeS (i := 5) (oi := ⟨some 0, _, _, _, _, _⟩) (v := _) rfl (by kernel_rfl) (by kernel_rfl) (by kernel_rfl) (by kernel_rfl) (fun _ _ _ h => h) (Or.inl ⟨by rfl, fun w' hw' => (by clear hw'; go_simp; try with_reducible rfl)⟩) trivial (fun _ => trivial) ?_
        try simp only [Act.put, List.setIfInBounds_toArray, List.set_cons_zero, List.set_cons_succ]
        refine anyC_done (by kernel_rfl) ?_ _
        go_wp2_with fail
        go_ret
        exact ⟨by rw [← nine_cat]; rfl, HB.out⟩
  · rw [if_pos (by rfl)]
    refine wp_val (v := .slice (some ⟨W0.heap.size, 0, none⟩) 31 31) (w' := W0.alloc (.cells B31 5)) (by kernel_rfl) ?_
    have hB := HB.out.alloc HB.out.size (.cells B31 5)
    have hrow : (W0.alloc (.cells B31 5)).heap[W0.heap.size]? = some (.cells (byC (List.replicate 31 0)).toArray 5 (0, 0)) := heap_alloc_new W0 _
    generalize W0.alloc (.cells B31 5) = V0 at *
    generalize W0.heap.size = G31 at *
    have H31 := Lib.hid hrow
    have HB := Lib.hid hB
    clear hrow hB
    refine hK.out _ _ ⟨trivial, fun _ => trivial⟩ ?_
    clear hK K
    try simp only [Act.put, List.setIfInBounds_toArray, List.set_cons_zero, List.set_cons_succ]
    refine anyC_two (i := 0) (j := 3) (o1 := ⟨some 1, _, _, _, _, _⟩) (o2 := ⟨some 4, _, _, _, _, _⟩) (by kernel_rfl) rfl rfl (fun K hK => ?_) (fun K hK => ?_)
    · rw [if_pos (by rfl)]
      refine wp_val (v := .slice (some ⟨V0.heap.size, 0, none⟩) 1 1) (w' := V0.alloc (.cells #[.int .u8 9] 5)) (by kernel_rfl) ?_
      have hB := HB.out.alloc HB.out.size (.cells #[.int .u8 9] 5)
      have hrow : (V0.alloc (.cells #[.int .u8 9] 5)).heap[V0.heap.size]? = some (.cells (byC [9]).toArray 5 (0, 0)) := heap_alloc_new V0 _
      have H31 := Lib.hid ((Below.heap_alloc V0 (.cells #[.int .u8 9] 5) G31 (Array.getElem?_eq_some_iff.1 H31.out).1).trans H31.out)
      generalize V0.alloc (.cells #[.int .u8 9] 5) = V1 at *
      generalize V0.heap.size = G9 at *
      have H9 := Lib.hid hrow
      have HB := Lib.hid hB
      clear hrow hB
      refine hK.out _ _ ⟨trivial, fun _ => trivial⟩ ?_
      clear hK K
      try simp only [Act.put, List.setIfInBounds_toArray, List.set_cons_zero, List.set_cons_succ]
      refine anyC_two (i := 1) (j := 3) (o1 := ⟨some 2, _, _, _, _, _⟩) (o2 := ⟨some 4, _, _, _, _, _⟩) (by kernel_rfl) rfl rfl (fun K hK => ?_) (fun K hK => ?_)
      · rw [if_pos (by rfl)]
        have hcv := string_of_oc (cap := 1) (oc_row H9.out)
        rw [show ([9] : List UInt8).length = 1 from by simp] at hcv
        go_wp2_with fail
        clear hcv
        refine hK.out _ _ ⟨trivial, fun _ => trivial⟩ ?_
        clear hK K
        try simp only [Act.put, List.setIfInBounds_toArray, List.set_cons_zero, List.set_cons_succ]
        refine anyC_keep (i := 3) (o := ⟨some 4, _, _, _, _, _⟩) (by kernel_rfl) rfl (fun K hK => ?_)
        rw [if_pos (by rfl)]
        have hcv := string_of_oc (cap := 31) (oc_row H31.out)
        rw [show ((List.replicate 31 0) : List UInt8).length = 31 from by simp] at hcv
        go_wp2_with fail
        clear hcv
        refine hK.out _ _ ⟨trivial, fun _ => trivial⟩ ?_
        clear hK K
        try simp only [Act.put, List.setIfInBounds_toArray, List.set_cons_zero, List.set_cons_succ]
        refine anyC_takeS (i := 4) (oi := ⟨some 5, _, _, _, _, _⟩) (v := .string (bs [9] ++ bs (List.replicate 31 0))) rfl (by kernel_rfl) (by kernel_rfl) (by kernel_rfl) (by kernel_rfl) (fun _ _ _ h => h) (Or.inl ⟨by rfl, fun w' hw' => (by clear hw'; go_simp; try (first | with_reducible rfl | decide))⟩) trivial (fun _ => trivial) ?_
        try simp only [Act.put, List.setIfInBounds_toArray, List.set_cons_zero, List.set_cons_succ]
        refine anyC_takeS (i := 5) (oi := ⟨some 0, _, _, _, _, _⟩) (v := _) rfl (by kernel_rfl) (by kernel_rfl) (by kernel_rfl) (by kernel_rfl) (fun _ _ _ h => h) (Or.inl ⟨by rfl, fun w' hw' => (by clear hw'; go_simp; try with_reducible rfl)⟩) trivial (fun _ => trivial) ?_
        try simp only [Act.put, List.setIfInBounds_toArray, List.set_cons_zero, List.set_cons_succ]
        refine anyC_done (by kernel_rfl) ?_ _
        go_wp2_with fail
        go_ret
        exact ⟨by rw [← nine_cat]; rfl, HB.out⟩
      · rw [if_pos (by rfl)]
        have hcv := string_of_oc (cap := 31) (oc_row H31.out)
        rw [show ((List.replicate 31 0) : List UInt8).length = 31 from by simp] at hcv
        go_wp2_with fail
        clear hcv
        refine hK.out _ _ ⟨trivial, fun _ => trivial⟩ ?_
        clear hK K
        try simp only [Act.put, List.setIfInBounds_toArray, List.set_cons_zero, List.set_cons_succ]
        refine anyC_keep (i := 1) (o := ⟨some 2, _, _, _, _, _⟩) (by kernel_rfl) rfl (fun K hK => ?_)
        rw [if_pos (by rfl)]
        have hcv := string_of_oc (cap := 1) (oc_row H9.out)
        rw [show ([9] : List UInt8).length = 1 from by simp] at hcv
        go_wp2_with fail
        clear hcv
        refine hK.out _ _ ⟨trivial, fun _ => trivial⟩ ?_
        clear hK K
        try simp only [Act.put, List.setIfInBounds_toArray, List.set_cons_zero, List.set_cons_succ]
        refine anyC_takeS (i := 4) (oi := ⟨some 5, _, _, _, _, _⟩) (v := .string (bs [9] ++ bs (List.replicate 31 0))) rfl (by kernel_rfl) (by kernel_rfl) (by kernel_rfl) (by kernel_rfl) (fun _ _ _ h => h) (Or.inl ⟨by rfl, fun w' hw' => (by clear hw'; go_simp; try (first | with_reducible rfl | decide))⟩) trivial (fun _ => trivial) ?_
        try simp only [Act.put, List.setIfInBounds_toArray, List.set_cons_zero, List.set_cons_succ]
        refine anyC_takeS (i := 5) (oi := ⟨some 0, _, _, _, _, _⟩) (v := _) rfl (by kernel_rfl) (by kernel_rfl) (by kernel_rfl) (by kernel_rfl) (fun _ _ _ h => h) (Or.inl ⟨by rfl, fun w' hw' => (by clear hw'; go_simp; try with_reducible rfl)⟩) trivial (fun _ => trivial) ?_
        try simp only [Act.put, List.setIfInBounds_toArray, List.set_cons_zero, List.set_cons_succ]
        refine anyC_done (by kernel_rfl) ?_ _
        go_wp2_with fail
        go_ret
        exact ⟨by rw [← nine_cat]; rfl, HB.out⟩
    · rw [if_pos (by rfl)]
      have hcv := string_of_oc (cap := 31) (oc_row H31.out)
      rw [show ((List.replicate 31 0) : List UInt8).length = 31 from by simp] at hcv
      go_wp2_with fail
      clear hcv
      refine hK.out _ _ ⟨trivial, fun _ => trivial⟩ ?_
      clear hK K
      try simp only [Act.put, List.setIfInBounds_toArray, List.set_cons_zero, List.set_cons_succ]
      refine anyC_keep (i := 0) (o := ⟨some 1, _, _, _, _, _⟩) (by kernel_rfl) rfl (fun K hK => ?_)
      rw [if_pos (by rfl)]
      refine wp_val (v := .slice (some ⟨V0.heap.size, 0, none⟩) 1 1) (w' := V0.alloc (.cells #[.int .u8 9] 5)) (by kernel_rfl) ?_
      have hB := HB.out.alloc HB.out.size (.cells #[.int .u8 9] 5)
      have hrow : (V0.alloc (.cells #[.int .u8 9] 5)).heap[V0.heap.size]? = some (.cells (byC [9]).toArray 5 (0, 0)) := heap_alloc_new V0 _
      have H31 := Lib.hid ((Below.heap_alloc V0 (.cells #[.int .u8 9] 5) G31 (Array.getElem?_eq_some_iff.1 H31.out).1).trans H31.out)
      generalize V0.alloc (.cells #[.int .u8 9] 5) = V1 at *
      generalize V0.heap.size = G9 at *
      have H9 := Lib.hid hrow
      have HB := Lib.hid hB
      clear hrow hB
      refine hK.out _ _ ⟨trivial, fun _ => trivial⟩ ?_
      clear hK K
      try simp only [Act.put, List.setIfInBounds_toArray, List.set_cons_zero, List.set_cons_succ]
      refine anyC_keep (i := 1) (o := ⟨some 2, _, _, _, _, _⟩) (by kernel_rfl) rfl (fun K hK => ?_)
      rw [if_pos (by rfl)]
      have hcv := string_of_oc (cap := 1) (oc_row H9.out)
      rw [show ([9] : List UInt8).length = 1 from by simp] at hcv
      go_wp2_with fail
      clear hcv
      refine hK.out _ _ ⟨trivial, fun _ => trivial⟩ ?_
      clear hK K
      try simp only [Act.put, List.setIfInBounds_toArray, List.set_cons_zero, List.set_cons_succ]
      refine anyC_takeS (i := 4) (oi := ⟨some 5, _, _, _, _, _⟩) (v := .string (bs [9] ++ bs (List.replicate 31 0))) rfl (by kernel_rfl) (by kernel_rfl) (by kernel_rfl) (by kernel_rfl) (fun _ _ _ h => h) (Or.inl ⟨by rfl, fun w' hw' => (by clear hw'; go_simp; try (first | with_reducible rfl | decide))⟩) trivial (fun _ => trivial) ?_
      try simp only [Act.put, List.setIfInBounds_toArray, List.set_cons_zero, List.set_cons_succ]
      refine anyC_takeS (i := 5) (oi := ⟨some 0, _, _, _, _, _⟩) (v := _) rfl (by kernel_rfl) (by kernel_rfl) (by kernel_rfl) (by kernel_rfl) (fun _ _ _ h => h) (Or.inl ⟨by rfl, fun w' hw' => (by clear hw'; go_simp; try with_reducible rfl)⟩) trivial (fun _ => trivial) ?_
      try simp only [Act.put, List.setIfInBounds_toArray, List.set_cons_zero, List.set_cons_succ]
      refine anyC_done (by kernel_rfl) ?_ _
      go_wp2_with fail
      go_ret
      exact ⟨by rw [← nine_cat]; rfl, HB.out⟩
set_option maxRecDepth 100000 in
set_option maxHeartbeats 8000000 in
theorem shows_true (S : ByteArray) (w : World) (hD : Digits w) (hs : S.size ≤ maxLen) :
    Calls Tryd.prog 5 #[.string S] w fun e w' => e = .returned (.bool true) ∧ Below w.heap.size w w' := by
  unfold maxLen at hs
  have K0 := Wk.start hD
  obtain ⟨m1, z1, hz1, _, hmin1, hms1⟩ := cut_m S 32 32 rfl
  have hsl1 := fun w => cut_run S m1 z1 hz1 hms1 w
  have HZ1 := Lib.hid (fun W => sized_any z1 W)
  have HLa := Lib.hid (szL_length z1)
  generalize szL z1 = a at HZ1 HLa
  have HRES : Hid (∀ W : World, Calls Tryd.prog 18 #[.string (bs a), .string (bs nineL)] W fun e w' => e = .returned (.string (bs (pubN a))) ∧ Below W.heap.size W w') :=
    Lib.hid (fun W => result_any a nineL 9 W HLa.out rfl (by rw [nineL_num]; rfl) (by decide))
  have HP := Lib.hid (fun W => Public_yes a W HLa.out)
  have HN9 := Lib.hid (fun W => nine_any W)
  generalize pubN a = R at HRES HP
  obtain ⟨A, hA⟩ : ∃ A, bs a = A := ⟨_, rfl⟩
  obtain ⟨NN, hNN⟩ : ∃ A, bs nineL = A := ⟨_, rfl⟩
  obtain ⟨RR, hRR⟩ : ∃ A, bs R = A := ⟨_, rfl⟩
  rw [hA] at HZ1 HRES HP
  rw [hNN] at HN9 HRES
  rw [hRR] at HRES HP
  clear hD hs hz1 hA hNN hRR
  go_enter Tryd.func5, Tryd.ntmps5
  go_wp2_with (first
    | (go_at_call 11; (with_reducible refine (works_true _ K0.d).mono ?_); rintro e V ⟨rfl, hb⟩; with_reducible replace K0 := Wk.step K0 hb; clear hb)
    | (go_at_call 12; (with_reducible refine (HZ1.out _).mono ?_); rintro e V ⟨rfl, hb⟩; with_reducible replace K0 := Wk.step K0 hb; clear hb)
    | (go_at_call 16; (with_reducible refine (HP.out _).mono ?_); rintro e V ⟨rfl, hb⟩; with_reducible replace K0 := Wk.step K0 hb; clear hb)
    | (go_at_call 19; (with_reducible refine (HN9.out _).mono ?_); rintro e V ⟨rfl, hb⟩; with_reducible replace K0 := Wk.step K0 hb; clear hb)
    | (go_at_call 18; (with_reducible refine (HRES.out _).mono ?_); rintro e V ⟨rfl, hb⟩; with_reducible replace K0 := Wk.step K0 hb; clear hb)
    | (go_at_call 15; (with_reducible refine (told_yes RR _).mono ?_); rintro e V ⟨rfl, rfl⟩))
  go_ret
  exact ⟨rfl, K0.b⟩
end Go.Proofs.YtbadiljligcenaaDoor
