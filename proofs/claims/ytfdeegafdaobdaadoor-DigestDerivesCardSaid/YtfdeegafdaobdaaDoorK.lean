/- Contracts of closing and end: the digest of what is being made. -/
import Derived.Test.YtfdeegafdaobdaaDoorJ
import Derived.Deep.RegionHeld3
namespace Go.Proofs.YtfdeegafdaobdaaDoor
open Go.RowKit Go.ChangeShapes

theorem repeat_zero (c : Nat) : Lib.repeatL [0] c = List.replicate c (0 : UInt8) := by
  induction c with
  | zero => rfl
  | succ c ih => first | rw [Lib.repeatL, ih]; rfl | (simp [Lib.repeatL] at ih ⊢; simp [List.replicate_succ, ih])
set_option maxRecDepth 100000 in
set_option maxHeartbeats 1000000 in
theorem closing_any (n : Nat) (w : World) (hn : n ≤ 1099511627776) :
    Calls Tryd.prog 62 #[.int .i64 (n : Int)] w fun e w' => e = .returned (.string (bs (closeL n))) ∧ Below w.heap.size w w' := by
  obtain ⟨z, hz⟩ : ∃ z, (119 - n % 64) % 64 = z := ⟨_, rfl⟩
  have hz64 : z < 64 := by omega
  have hzi : (119 - (n : Int) % 64) % 64 = (z : Int) := by omega
  have hp : ∀ w, Calls Tryd.prog 63 #[.int .i64 7, .int .i64 (8 * (n : Int))] w fun e w' => e = .returned (.tuple #[.string (bs (beB 7 (8 * n))), .int .i64 0]) ∧ Below w.heap.size w w' := fun w => by
    have h := put_ok 7 (8 * n) w (by decide) (by decide) (by omega) (by omega)
    rw [Int.natCast_mul] at h
    exact h
  have hr : ∀ w, Calls Tryd.prog 20 #[.string ⟨#[0]⟩, .int .i64 ((z : Int) + 1)] w fun e w' => e = .returned (.string (bs (List.replicate (z + 1) 0))) ∧ Below w.heap.size w w' := fun w => by
    have h := Tryd.strings_Repeat ⟨#[0]⟩ (z + 1) w (by omega) (by show 1 * (z + 1) ≤ _; omega)
    rw [show (⟨#[0]⟩ : ByteArray).data.toList = [0] from rfl, repeat_zero] at h
    exact h
  have HF : Hid (bs (closeL n) = ⟨#[128]⟩ ++ bs (List.replicate (z + 1) 0) ++ bs (beB 7 (8 * n))) := by
    have e : closeL n = [128] ++ List.replicate (z + 1) 0 ++ beB 7 (8 * n) := by rw [closeL, hz]; rfl
    show _ = _
    rw [e]
    apply ByteArray.ext
    simp [bs]
  obtain ⟨pb, hpb⟩ : ∃ p, bs (beB 7 (8 * n)) = p := ⟨_, rfl⟩
  obtain ⟨zs, hzs⟩ : ∃ p, bs (List.replicate (z + 1) 0) = p := ⟨_, rfl⟩
  have hl1 : pb.size = 7 := by rw [← hpb, bs_size, beB_length]
  have hl2 : zs.size = z + 1 := by rw [← hzs, bs_size, List.length_replicate]
  rw [hpb] at hp HF
  rw [hzs] at hr HF
  have HL1 := Lib.hid hl1
  have l1 : pb.size ≤ 7 := by omega
  have l2 : zs.size ≤ 64 := by omega
  clear hz hpb hzs hl1 hl2
  go_enter Tryd.func62, Tryd.ntmps62
  go_wp2_with (first | (go_at_call 63; (with_reducible refine (hp _).mono ?_); rintro e w1 ⟨rfl, hb1⟩) | (go_at_call 20; (with_reducible refine (hr _).mono ?_); rintro e w2 ⟨rfl, hb2⟩))
  go_ret
  exact ⟨by rw [HF.out]; rfl, hb1.trans (hb2.mono hb1.size)⟩
/-- The octets of the first k of some words. -/
def octs (l : List Nat) : List UInt8 := (l.map (beB 4)).flatten
theorem octs_snoc (l : List Nat) (x : Nat) : octs (l ++ [x]) = octs l ++ beB 4 x := by simp [octs]
theorem octs_all (s : W8) : octs s.list = octW s := by simp [octs, W8.list, octW]
theorem octs_length (l : List Nat) : (octs l).length = 4 * l.length := by
  induction l with
  | nil => rfl
  | cons x l ih => simp [octs, beB_length] at ih ⊢; omega
theorem bs_append (a b : List UInt8) : bs a ++ bs b = bs (a ++ b) := by
  apply ByteArray.ext
  simp [bs]
/-- A whole block by value, inside a region. -/
theorem step_load_row {P : Program} {ops : Array Oper} {o : Oper} {a : Act} {w : World} {K : Act → World → Prop} {Q : Exit → Act → World → Prop} {E : Prop} (hgd : o.guard = none) (ty : TypeId) (x : Operand) (ho : o.op = .load ty x)
    (g : Nat) (hx : a.eval x = .pointer (some ⟨g, 0, none⟩)) (t : TypeId) (cs : Array Value) (fr : Nat × Nat) (d : TypeDesc) (hg : w.heap[g]? = some (.cells cs t fr))
    (hu : P.underlying ty = some d) (hd : (match d with | .struct _ | .array _ _ => true | _ => false) = true) (hi : (P.info? ty).map (·.size) = some cs.size)
    (h : K (a.put o.dst (.agg cs)) w) : if Region.wanted o (yielded ops a.tmps) = true then Oper.wp P o a w K Q else E := by
  have hw : Region.wanted o (yielded ops a.tmps) = true := by simp [Region.wanted, hgd]
  rw [if_pos hw]
  exact wp_load_row ty x ho g hx t cs fr d hg hu hd hi h
theorem step_store_row {P : Program} {ops : Array Oper} {o : Oper} {a : Act} {w : World} {K : Act → World → Prop} {Q : Exit → Act → World → Prop} {E : Prop} (hgd : o.guard = none) (ty : TypeId) (x y : Operand) (ho : o.op = .store ty x y)
    (g : Nat) (cells : Array Value) (hx : a.eval x = .pointer (some ⟨g, 0, none⟩)) (hy : a.eval y = .agg cells)
    (t : TypeId) (old : Array Value) (hg : w.heap[g]? = some (.cells old t (0, 0))) (hi : (P.info? ty).map (·.size) = some cells.size)
    (hold : old.size = cells.size) (h1 : cells.all (·.oneCell') = true)
    (h : K (a.put o.dst undef) (w.setRow g cells)) : if Region.wanted o (yielded ops a.tmps) = true then Oper.wp P o a w K Q else E := by
  have hw : Region.wanted o (yielded ops a.tmps) = true := by simp [Region.wanted, hgd]
  rw [if_pos hw]
  exact wp_store_row ty x y ho g cells hx hy t old hg hi hold h1 h
end Go.Proofs.YtfdeegafdaobdaaDoor
