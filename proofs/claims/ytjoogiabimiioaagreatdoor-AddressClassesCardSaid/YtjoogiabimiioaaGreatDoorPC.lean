/- Contracts of isNone and isLoop. -/
import Derived.Test.YtjoogiabimiioaaGreatDoorPB
import Derived.Test.YtjoogiabimiioaaGreatDoorH
namespace Go.Proofs.YtjoogiabimiioaaGreatDoor
open Go.RowKit Go.ChangeShapes
/-- Are all octets 0? -/
def zerB (S : ByteArray) : Bool := (Lib.trimB S.data.toList 0).isEmpty
set_option maxRecDepth 100000 in
set_option maxHeartbeats 2000000 in
theorem isNone_any (S : ByteArray) (w : World) (hS : S.size ≤ 1000) : Calls Tryz.prog 88 #[.string S] w fun e w' => e = .returned (.bool (zerB S)) ∧ Below w.heap.size w w' := by
  have HT : Hid (∀ W, Calls Tryz.prog 107 #[.string S, .string ⟨#[0]⟩] W fun e w' => e = .returned (.string (bs (Lib.trimB S.data.toList 0))) ∧ Below W.heap.size W w') := Lib.hid (fun W => (Tryz.strings_Trim_one S 0 (by decide) W (by omega)).mono (by
    rintro e V ⟨rfl, rfl | rfl⟩
    · exact ⟨rfl, Below.refl _ _⟩
    · exact ⟨rfl, (Below.refl _ _).drew⟩))
  unfold zerB
  generalize Lib.trimB S.data.toList 0 = T at *
  have hT : T.isEmpty = (bs T).toList.isEmpty := by rw [Lib.toList_data, bs_data]
  rw [hT]
  generalize bs T = X at *
  clear hT hS
  go_enter Tryz.func88, Tryz.ntmps88
  go_wp2_with (go_at_call 107; (with_reducible refine (HT.out _).mono ?_); rintro e V ⟨rfl, hb⟩)
  go_ret
  exact ⟨rfl, hb⟩
def L8 : List Nat := [0, 0, 0, 0, 0, 0, 0, 1]
theorem built120l : Tryz.prog.built 120 [(7, .int .u16 1)] = some (gsC L8) := by kernel_rfl
theorem eq8_no_ (a b c d e f g i : Nat) (w : World) (h : [a, b, c, d, e, f, g, i] ≠ L8) : (Op.equalIn 10000 120 (.agg (gsC [a, b, c, d, e, f, g, i])) (.agg (gsC L8))).run Tryz.prog w = .ok false w := by
    cases a with
    | succ a => kernel_rfl
    | zero =>
    cases b with
    | succ b => kernel_rfl
    | zero =>
    cases c with
    | succ c => kernel_rfl
    | zero =>
    cases d with
    | succ d => kernel_rfl
    | zero =>
    cases e with
    | succ e => kernel_rfl
    | zero =>
    cases f with
    | succ f => kernel_rfl
    | zero =>
    cases g with
    | succ g => kernel_rfl
    | zero =>
    cases i with
    | zero => kernel_rfl
    | succ i =>
    cases i with
    | zero => exact absurd rfl h
    | succ i => kernel_rfl
theorem eq8_no (l : List Nat) (w : World) (hl : l.length = 8) (h : l ≠ L8) : (Op.equalIn 10000 120 (.agg (gsC l)) (.agg (gsC L8))).run Tryz.prog w = .ok false w := by
  match l, hl with
  | [a, b, c, d, e, f, g, i], _ => exact eq8_no_ a b c d e f g i w h
theorem eq8_yes (w : World) : (Op.equalIn 10000 120 (.agg (gsC L8)) (.agg (gsC L8))).run Tryz.prog w = .ok true w := by kernel_rfl
theorem eq8 (l : List Nat) (w : World) (hl : l.length = 8) : (Op.equalIn 10000 120 (.agg (gsC l)) (.agg (gsC L8))).run Tryz.prog w = .ok (l == L8) w := by
  by_cases h : l = L8
  · subst h; exact eq8_yes w
  · rw [beq_false_of_ne h]; exact eq8_no l w hl h
def loopB (s : List UInt8) : Bool := w4 (bs s) [127] 8 || grpL s == L8
theorem wpList_buildG {ops : Array Oper} {rest : List Oper} {o : Oper} {a : Act} {w : World} {Q : Exit → Act → World → Prop} (hw : Region.wanted o (yielded ops a.tmps) = true) (t : TypeId) (parts : Array (Nat × Operand)) (ho : o.op = .build t parts)
    (cells : Array Value) (hf : Tryz.prog.built t (parts.map fun (i, x) => (i, a.eval x)).toList = some cells)
    (h : wpList Tryz.prog ops Q rest (a.put o.dst (.agg cells)) w) : wpList Tryz.prog ops Q (o :: rest) a w := by
  refine wpList_step fun K hK => ?_
  rw [if_pos hw]
  unfold Oper.wp execOp
  simp only [ho, Sem.run_bind, run_build w t _ cells hf, Result.andThen_ok]
  exact hK _ _ h
set_option maxRecDepth 100000 in
set_option maxHeartbeats 4000000 in
theorem isLoop_any (s : List UInt8) (w : World) (hS : s.length ≤ 16) : Calls Tryz.prog 89 #[.string (bs s)] w fun e w' => e = .returned (.bool (loopB s)) ∧ Below w.heap.size w w' := by
  have F0 := Lib.hid (fun W => four_new [127] 1 #[.int .u8 127] W rfl (by decide) rfl)
  have T0 := Lib.hid (fun W => with4 (bs s) [127] 8 8 W rfl (by decide) (by decide) (by rw [bs_size]; omega))
  have HG := Lib.hid (fun W => groupsOf_any s W hS)
  have HE := Lib.hid (fun W => eq8 (grpL s) W (grpL_length s))
  have HBU := Lib.hid built120l
  have K0 : Wk w w [] := Wk.start
  unfold loopB
  generalize w4 (bs s) [127] 8 = a at *
  generalize (grpL s == L8) = b at *
  generalize grpL s = G at *
  generalize bs (fo [127]) = X0 at *
  generalize bs s = S at *
  clear hS
  rcases a with _ | _
  rotate_left
  · skip
    go_enter Tryz.func89, Tryz.ntmps89
    go_wp2_with (first
    | (go_at_call 108; (with_reducible refine (F0.out _).mono ?_); rintro e V ⟨rfl, hb⟩; with_reducible replace K0 := Wk.step K0 hb; clear hb)
    | (go_at_call 59; (with_reducible refine (T0.out _).mono ?_); rintro e V ⟨rfl, hb⟩; with_reducible replace K0 := Wk.step K0 hb; clear hb))
    go_ret
    exact ⟨rfl, K0.b⟩
  · skip
    go_enter Tryz.func89, Tryz.ntmps89
    go_wp2_with (first
    | (refine wpList_buildG (o := ⟨some 10, _, _, _, _, _⟩) rfl 120 _ rfl (gsC L8) (by simp only [List.map_toArray, List.map_cons, List.map_nil]; exact HBU.out) ?_; have HE := HE.out)
    | (go_at_call 108; (with_reducible refine (F0.out _).mono ?_); rintro e V ⟨rfl, hb⟩; with_reducible replace K0 := Wk.step K0 hb; clear hb)
    | (go_at_call 59; (with_reducible refine (T0.out _).mono ?_); rintro e V ⟨rfl, hb⟩; with_reducible replace K0 := Wk.step K0 hb; clear hb)
    | (go_at_call 81; (with_reducible refine (HG.out _).mono ?_); rintro e V ⟨rfl, hb⟩; with_reducible replace K0 := Wk.step K0 hb; clear hb))
    go_ret
    exact ⟨rfl, K0.b⟩
end Go.Proofs.YtjoogiabimiioaaGreatDoor
