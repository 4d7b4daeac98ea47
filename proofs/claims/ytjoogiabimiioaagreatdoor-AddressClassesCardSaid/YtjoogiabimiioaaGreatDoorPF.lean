/- The laws' closures, and the chapter's examples. -/
import Derived.Test.YtjoogiabimiioaaGreatDoorPD
import Derived.Test.YtjoogiabimiioaaGreatDoorPE
import Derived.Test.YtjoogiabimiioaaGreatDoorNJ
import Derived.Test.YtjoogiabimiioaaGreatDoorNI
import Derived.Laws.StructEq
namespace Go.Proofs.YtjoogiabimiioaaGreatDoor
open Go.RowKit Go.ChangeShapes
/-- What a walk carries: old memory, and what the library reads. -/
structure Wq (w W : World) : Prop where
  b : Below w.heap.size w W
  e : Env W
theorem Wq.start {w : World} (h : Env w) : Wq w w := ⟨Below.refl _ _, h⟩
theorem Wq.step {w W V : World} (h : Wq w W) (hb : Below W.heap.size W V) : Wq w V := ⟨bstep h.b hb, h.e.below hb⟩
/-- A block that stays. -/
structure Wh (W : World) (g : Nat) (o : Obj) : Prop where
  k : W.heap[g]? = some o
theorem Wh.step {W V : World} {g : Nat} {o : Obj} (h : Wh W g o) (hb : Below W.heap.size W V) : Wh V g o := ⟨(hb.block g (Array.getElem?_eq_some_iff.1 h.k).1).trans h.k⟩
set_option maxRecDepth 100000 in
theorem isA_any (h : ByteArray) (p : Int) (w : World) : Calls Tryz.prog 30 #[.agg #[.string h, .int .i64 p]] w fun e w' => ∃ g, e = .returned (.func (.func 61) #[] #[.pointer (some ⟨g, 0, none⟩)]) ∧ Wh w' g (.cells #[.string h, .int .i64 p] 23 (0, 0)) ∧ Below w.heap.size w w' := by
  have hH := heap_alloc_new w (.cells #[.string h, .int .i64 p] 23)
  have hmf : ∀ (fn : Fn) (first cap : Array Value) (w : World), (Instr.makeFunc fn first cap).run Tryz.prog w = .ok (.func fn first cap) w := fun _ _ _ _ => rfl
  go_enter Tryz.func30, Tryz.ntmps30
  go_wp2
  go_ret
  exact ⟨_, rfl, ⟨hH⟩, by go_grown⟩
set_option maxRecDepth 100000 in
set_option maxHeartbeats 1000000 in
theorem isA_yes (g : Nat) (h : ByteArray) (p : Int) (w : World) (hg : Wh w g (.cells #[.string h, .int .i64 p] 23 (0, 0))) : Calls Tryz.prog 61 #[.agg #[.string h, .int .i64 p], .int .i64 0, .pointer (some ⟨g, 0, none⟩)] w fun e w' => e = .returned (.bool true) ∧ Below w.heap.size w w' := by
  have hlt := (Array.getElem?_eq_some_iff.1 hg.k).1
  have c0 := cell_of_row w g 0 _ 23 (0, 0) hg.k
  have c1 := cell_of_row w g 1 _ 23 (0, 0) hg.k
  have d0 := (Below.cell ((Below.refl w.heap.size w).alloc (Nat.le_refl _) (.cells #[.string h, .int .i64 p] 23)) (p := ⟨g, 0, none⟩) hlt).trans c0
  have d1 := (Below.cell ((Below.refl w.heap.size w).alloc (Nat.le_refl _) (.cells #[.string h, .int .i64 p] 23)) (p := ⟨g, 1, none⟩) hlt).trans c1
  clear hg hlt
  go_enter Tryz.func61, Tryz.ntmps61
  go_wp2
  go_ret
  exact ⟨rfl, by go_grown⟩
set_option maxRecDepth 100000 in
theorem isS_any (h : ByteArray) (w : World) : Calls Tryz.prog 31 #[.string h] w fun e w' => ∃ g, e = .returned (.func (.func 62) #[] #[.pointer (some ⟨g, 0, none⟩)]) ∧ Wh w' g (.cells #[.string h] 9 (0, 0)) ∧ Below w.heap.size w w' := by
  have hH := heap_alloc_new w (.cells #[.string h] 9)
  have hmf : ∀ (fn : Fn) (first cap : Array Value) (w : World), (Instr.makeFunc fn first cap).run Tryz.prog w = .ok (.func fn first cap) w := fun _ _ _ _ => rfl
  go_enter Tryz.func31, Tryz.ntmps31
  go_wp2
  go_ret
  exact ⟨_, rfl, ⟨hH⟩, by go_grown⟩
set_option maxRecDepth 100000 in
set_option maxHeartbeats 1000000 in
theorem isS_yes (g : Nat) (h : ByteArray) (w : World) (hg : Wh w g (.cells #[.string h] 9 (0, 0))) : Calls Tryz.prog 62 #[.string h, .int .i64 0, .pointer (some ⟨g, 0, none⟩)] w fun e w' => e = .returned (.bool true) ∧ Below w.heap.size w w' := by
  have hlt := (Array.getElem?_eq_some_iff.1 hg.k).1
  have c0 := cell_of_row w g 0 _ 9 (0, 0) hg.k
  clear hg hlt
  go_enter Tryz.func62, Tryz.ntmps62
  go_wp2
  go_ret
  exact ⟨rfl, by go_grown⟩
set_option maxRecDepth 100000 in
theorem isB_any (h : Bool) (w : World) : Calls Tryz.prog 37 #[.bool h] w fun e w' => ∃ g, e = .returned (.func (.func 73) #[] #[.pointer (some ⟨g, 0, none⟩)]) ∧ Wh w' g (.cells #[.bool h] 4 (0, 0)) ∧ Below w.heap.size w w' := by
  have hH := heap_alloc_new w (.cells #[.bool h] 4)
  have hmf : ∀ (fn : Fn) (first cap : Array Value) (w : World), (Instr.makeFunc fn first cap).run Tryz.prog w = .ok (.func fn first cap) w := fun _ _ _ _ => rfl
  go_enter Tryz.func37, Tryz.ntmps37
  go_wp2
  go_ret
  exact ⟨_, rfl, ⟨hH⟩, by go_grown⟩
set_option maxRecDepth 100000 in
set_option maxHeartbeats 1000000 in
theorem isB_yes (g : Nat) (h : Bool) (w : World) (hg : Wh w g (.cells #[.bool h] 4 (0, 0))) : Calls Tryz.prog 73 #[.bool h, .int .i64 0, .pointer (some ⟨g, 0, none⟩)] w fun e w' => e = .returned (.bool true) ∧ Below w.heap.size w w' := by
  have hlt := (Array.getElem?_eq_some_iff.1 hg.k).1
  have c0 := cell_of_row w g 0 _ 4 (0, 0) hg.k
  clear hg hlt
  go_enter Tryz.func73, Tryz.ntmps73
  go_wp2
  go_ret
  exact ⟨rfl, by go_grown⟩
set_option maxRecDepth 100000 in
theorem isI_any (h : Int) (w : World) : Calls Tryz.prog 39 #[.int .i64 h] w fun e w' => ∃ g, e = .returned (.func (.func 74) #[] #[.pointer (some ⟨g, 0, none⟩)]) ∧ Wh w' g (.cells #[.int .i64 h] 3 (0, 0)) ∧ Below w.heap.size w w' := by
  have hH := heap_alloc_new w (.cells #[.int .i64 h] 3)
  have hmf : ∀ (fn : Fn) (first cap : Array Value) (w : World), (Instr.makeFunc fn first cap).run Tryz.prog w = .ok (.func fn first cap) w := fun _ _ _ _ => rfl
  go_enter Tryz.func39, Tryz.ntmps39
  go_wp2
  go_ret
  exact ⟨_, rfl, ⟨hH⟩, by go_grown⟩
set_option maxRecDepth 100000 in
set_option maxHeartbeats 1000000 in
theorem isI_yes (g : Nat) (h : Int) (w : World) (hg : Wh w g (.cells #[.int .i64 h] 3 (0, 0))) : Calls Tryz.prog 74 #[.int .i64 h, .int .i64 0, .pointer (some ⟨g, 0, none⟩)] w fun e w' => e = .returned (.bool true) ∧ Below w.heap.size w w' := by
  have hlt := (Array.getElem?_eq_some_iff.1 hg.k).1
  have c0 := cell_of_row w g 0 _ 3 (0, 0) hg.k
  clear hg hlt
  go_enter Tryz.func74, Tryz.ntmps74
  go_wp2
  go_ret
  exact ⟨rfl, by go_grown⟩
set_option maxRecDepth 100000 in
theorem failsA_any (n : Int) (w : World) : Calls Tryz.prog 40 #[.int .i64 n] w fun e w' => ∃ g, e = .returned (.func (.func 75) #[] #[.pointer (some ⟨g, 0, none⟩)]) ∧ Wh w' g (.cells #[.int .i64 n] 34 (0, 0)) ∧ Below w.heap.size w w' := by
  have hH := heap_alloc_new w (.cells #[.int .i64 n] 34)
  have hmf : ∀ (fn : Fn) (first cap : Array Value) (w : World), (Instr.makeFunc fn first cap).run Tryz.prog w = .ok (.func fn first cap) w := fun _ _ _ _ => rfl
  go_enter Tryz.func40, Tryz.ntmps40
  go_wp2
  go_ret
  exact ⟨_, rfl, ⟨hH⟩, by go_grown⟩
set_option maxRecDepth 100000 in
set_option maxHeartbeats 1000000 in
theorem failsA_yes (g : Nat) (n : Int) (w : World) (hg : Wh w g (.cells #[.int .i64 n] 34 (0, 0))) : Calls Tryz.prog 75 #[.agg #[.string ⟨#[]⟩, .int .i64 0], .int .i64 n, .pointer (some ⟨g, 0, none⟩)] w fun e w' => e = .returned (.bool true) ∧ Below w.heap.size w w' := by
  have hlt := (Array.getElem?_eq_some_iff.1 hg.k).1
  have c0 := cell_of_row w g 0 _ 34 (0, 0) hg.k
  have hz : ∀ W, (zeroValue 23).run Tryz.prog W = .ok (.agg #[.string ⟨#[]⟩, .int .i64 0]) W := fun W => by kernel_rfl
  have d0 := (Below.cell (((Below.refl w.heap.size w).alloc (Nat.le_refl _) (.cells #[.string ⟨#[]⟩, .int .i64 0] 23)).alloc (by rw [World.size_alloc]; omega) (.cells #[.string ⟨#[]⟩, .int .i64 0] 23)) (p := ⟨g, 0, none⟩) hlt).trans c0
  clear hg hlt
  go_enter Tryz.func75, Tryz.ntmps75
  go_wp2
  go_ret
  exact ⟨rfl, by go_grown⟩
set_option maxRecDepth 100000 in
theorem failsS_any (n : Int) (w : World) : Calls Tryz.prog 41 #[.int .i64 n] w fun e w' => ∃ g, e = .returned (.func (.func 76) #[] #[.pointer (some ⟨g, 0, none⟩)]) ∧ Wh w' g (.cells #[.int .i64 n] 34 (0, 0)) ∧ Below w.heap.size w w' := by
  have hH := heap_alloc_new w (.cells #[.int .i64 n] 34)
  have hmf : ∀ (fn : Fn) (first cap : Array Value) (w : World), (Instr.makeFunc fn first cap).run Tryz.prog w = .ok (.func fn first cap) w := fun _ _ _ _ => rfl
  go_enter Tryz.func41, Tryz.ntmps41
  go_wp2
  go_ret
  exact ⟨_, rfl, ⟨hH⟩, by go_grown⟩
set_option maxRecDepth 100000 in
set_option maxHeartbeats 1000000 in
theorem failsS_yes (g : Nat) (n : Int) (w : World) (hg : Wh w g (.cells #[.int .i64 n] 34 (0, 0))) : Calls Tryz.prog 76 #[.string ⟨#[]⟩, .int .i64 n, .pointer (some ⟨g, 0, none⟩)] w fun e w' => e = .returned (.bool true) ∧ Below w.heap.size w w' := by
  have hlt := (Array.getElem?_eq_some_iff.1 hg.k).1
  have c0 := cell_of_row w g 0 _ 34 (0, 0) hg.k
  clear hg hlt
  go_enter Tryz.func76, Tryz.ntmps76
  go_wp2
  go_ret
  exact ⟨rfl, by go_grown⟩
set_option maxRecDepth 100000 in
theorem failsI_any (n : Int) (w : World) : Calls Tryz.prog 42 #[.int .i64 n] w fun e w' => ∃ g, e = .returned (.func (.func 77) #[] #[.pointer (some ⟨g, 0, none⟩)]) ∧ Wh w' g (.cells #[.int .i64 n] 34 (0, 0)) ∧ Below w.heap.size w w' := by
  have hH := heap_alloc_new w (.cells #[.int .i64 n] 34)
  have hmf : ∀ (fn : Fn) (first cap : Array Value) (w : World), (Instr.makeFunc fn first cap).run Tryz.prog w = .ok (.func fn first cap) w := fun _ _ _ _ => rfl
  go_enter Tryz.func42, Tryz.ntmps42
  go_wp2
  go_ret
  exact ⟨_, rfl, ⟨hH⟩, by go_grown⟩
set_option maxRecDepth 100000 in
set_option maxHeartbeats 1000000 in
theorem failsI_yes (g : Nat) (n : Int) (w : World) (hg : Wh w g (.cells #[.int .i64 n] 34 (0, 0))) : Calls Tryz.prog 77 #[.int .i64 0, .int .i64 n, .pointer (some ⟨g, 0, none⟩)] w fun e w' => e = .returned (.bool true) ∧ Below w.heap.size w w' := by
  have hlt := (Array.getElem?_eq_some_iff.1 hg.k).1
  have c0 := cell_of_row w g 0 _ 34 (0, 0) hg.k
  clear hg hlt
  go_enter Tryz.func77, Tryz.ntmps77
  go_wp2
  go_ret
  exact ⟨rfl, by go_grown⟩
set_option maxRecDepth 100000 in
theorem failsB_any (n : Int) (w : World) : Calls Tryz.prog 43 #[.int .i64 n] w fun e w' => ∃ g, e = .returned (.func (.func 78) #[] #[.pointer (some ⟨g, 0, none⟩)]) ∧ Wh w' g (.cells #[.int .i64 n] 34 (0, 0)) ∧ Below w.heap.size w w' := by
  have hH := heap_alloc_new w (.cells #[.int .i64 n] 34)
  have hmf : ∀ (fn : Fn) (first cap : Array Value) (w : World), (Instr.makeFunc fn first cap).run Tryz.prog w = .ok (.func fn first cap) w := fun _ _ _ _ => rfl
  go_enter Tryz.func43, Tryz.ntmps43
  go_wp2
  go_ret
  exact ⟨_, rfl, ⟨hH⟩, by go_grown⟩
set_option maxRecDepth 100000 in
set_option maxHeartbeats 1000000 in
theorem failsB_yes (g : Nat) (n : Int) (w : World) (hg : Wh w g (.cells #[.int .i64 n] 34 (0, 0))) : Calls Tryz.prog 78 #[.bool false, .int .i64 n, .pointer (some ⟨g, 0, none⟩)] w fun e w' => e = .returned (.bool true) ∧ Below w.heap.size w w' := by
  have hlt := (Array.getElem?_eq_some_iff.1 hg.k).1
  have c0 := cell_of_row w g 0 _ 34 (0, 0) hg.k
  clear hg hlt
  go_enter Tryz.func78, Tryz.ntmps78
  go_wp2
  go_ret
  exact ⟨rfl, by go_grown⟩
end Go.Proofs.YtjoogiabimiioaaGreatDoor
