/- Contract of the iterator over the full blocks of a string. -/
import Derived.RangeFuncNested
import Derived.RangeFuncBound
import Derived.RangeFuncCalls
import Derived.RangeFuncLeaves
import Derived.Shelf.Abstract
import Derived.Shelf.RegionOpen
import Derived.WalkKit
import Derived.OwnWalkIn
import Derived.TacticsInMore
import Derived.LoopNIn
import Derived.LoopIn
import Derived.Test.YtfdeegafdaobdaaDoorH
namespace Go.Proofs.YtfdeegafdaobdaaDoor
open Go.RowKit Go.Shelf
attribute [local go_sem] Oper.semAt_some

/-- A block of 64 octets. -/
abbrev Blk := { x : ByteArray // x.size = 64 }
/-- The blocks of a string, n of them. -/
def blks (s : ByteArray) (n : Nat) : List ByteArray := (List.range n).map fun k => s.extract (64 * k) (64 * k + 64)
theorem blks_succ (s : ByteArray) (n : Nat) : blks s (n + 1) = blks s n ++ [s.extract (64 * n) (64 * n + 64)] := by simp [blks, List.range_succ]
/-- What a round keeps: the iterator's own variable. -/
def KpB (Bs : Nat) (A B : World) : Prop := B.cell? ⟨Bs, 0, none⟩ = A.cell? ⟨Bs, 0, none⟩
set_option maxRecDepth 100000 in
set_option maxHeartbeats 2000000 in
theorem blocks1_in (F : Fence) (n : Nat) (h6 : F.fn 76) (hro : F.round = none) (hn : 1 ≤ n) (l Bs : Nat) (s : ByteArray) (hsz : s.size ≤ 140737488351232) (J Jx : List Blk → World → Prop)
    (hY : ∀ pre (x : Blk) W, J pre W → pre.length < s.size / 64 → YieldAt F (n - 1) Tryd.prog l #[.string x.1] W fun e W' =>
      (e = .returned (.bool true) ∧ J (pre ++ [x]) W' ∧ KpB Bs W W') ∨ (e = .returned (.bool false) ∧ Jx (pre ++ [x]) W'))
    (W : World) (hBs : W.cell? ⟨Bs, 0, none⟩ = some (.string s)) (h0 : J [] W) :
    CallsIn F n Tryd.prog 76 #[.func (.yield l) #[] #[], .pointer (some ⟨Bs, 0, none⟩)] W fun e W' => (∃ v, e = .returned v) ∧
      ((∃ ys : List Blk, ys.map (·.1) = blks s (s.size / 64) ∧ J ys W') ∨ (∃ pre, True ∧ Jx pre W')) := by
  refine callsIn_of_wp Tryd.func76 rfl h6 ?_ hro
  simp only [Tryd.ntmps76, List.size_toArray, List.length_cons, List.length_nil, Nat.reduceAdd, Nat.reduceSub, Array.replicate_succ, Array.replicate_zero, List.push_toArray, List.append_toArray, List.nil_append, List.cons_append]
  gi_wp2
  gi_loopw [3] (fun i wr => ∃ (e : Nat) (pre : List Blk), 64 ≤ e ∧ e ≤ s.size + 64 ∧ i = .int .i64 e ∧ Hid (e = 64 * pre.length + 64 ∧ pre.map (·.1) = blks s pre.length) ∧ J pre wr ∧ wr.cell? ⟨Bs, 0, none⟩ = some (.string s))
    (fun i _ => s.size + 128 - (intOf i).toNat)
  case atStart => exact ⟨64, [], by omega, by omega, rfl, ⟨rfl, rfl⟩, h0, hBs⟩
  case round =>
    obtain ⟨e, pre, h64, hle, rfl, HE, hJs, hc⟩ := hrel
    by_cases hlt : e ≤ s.size
    · have hpl : pre.length < s.size / 64 := by have := HE.out.1; omega
      obtain ⟨x, hx⟩ : ∃ x : Blk, x.1 = s.extract (e - 64) e := ⟨⟨s.extract (e - 64) e, by simp; omega⟩, rfl⟩
      have HX : Hid ((pre ++ [x]).map (·.1) = blks s (pre ++ [x]).length) := Lib.hid (by
        have h1 := HE.out.1
        rw [List.length_append, List.length_singleton, blks_succ, List.map_append, HE.out.2, List.map_singleton, hx]
        congr 2
        rw [h1]; congr 1)
      have hsl : ∀ wx : World, (Instr.slice 9 (.string s) (some (.int .i64 ((e : Int) - 64))) (some (.int .i64 (e : Int))) none).run Tryd.prog wx = .ok (.string x.1) wx := fun wx => by
        have := run_slice_string (P := Tryd.prog) (w := wx) 9 (s := s) .i64 .i64 ((e : Int) - 64) (e : Int) Tryd.underlying9 (by omega) (by omega) (by omega)
        rw [this, hx]
        rw [show ((e : Int) - 64).toNat = e - 64 from by omega, Int.toNat_natCast]
      obtain ⟨fn, tmps, assign, body, hy, hR⟩ := hY pre x wr hJs hpl
      obtain ⟨xb, hxs⟩ := x
      dsimp only at hy hsl
      clear hx
      gi_wp2
      refine hR.mono ?_
      rintro e' W3 (⟨rfl, hJ3, hk3⟩ | ⟨rfl, hJx3⟩)
      · have hc3 : W3.cell? ⟨Bs, 0, none⟩ = some (.string s) := hk3.trans hc
        gi_wp2
        go_roundw
        case rel => exact ⟨e + 64, pre ++ [⟨xb, hxs⟩], by omega, by omega, by go_num, ⟨by rw [List.length_append, List.length_singleton]; have := HE.out.1; omega, HX.out⟩, hJ3, hc3⟩
        case measure => simp [intOf]; omega
      · gi_wp2
        refine bodyPost_ret (results_none rfl _ _ _) rfl ?_
        exact ⟨⟨_, rfl⟩, .inr ⟨_, trivial, hJx3⟩⟩
    · have hpl : pre.length = s.size / 64 := by have := HE.out.1; omega
      have HPL := Lib.hid hpl
      clear hpl
      gi_wp2
      go_end0
      exact ⟨⟨_, rfl⟩, .inl ⟨pre, by rw [HE.out.2, HPL.out], hJs⟩⟩
theorem blocks_stops (F : Fence) (n : Nat) (h6 : F.fn 76) (hro : F.round = none) (hn : 1 ≤ n) (Bs : Nat) (s : ByteArray) (hsz : s.size ≤ 140737488351232) (w : World) (hBs : Bs < w.heap.size) (hc : w.cell? ⟨Bs, 0, none⟩ = some (.string s)) :
    SeqStopsK F n Tryd.prog 76 #[.pointer (some ⟨Bs, 0, none⟩)] (fun x : Blk => #[Value.string x.1]) (KpB Bs) (fun ys => ys.map (·.1) = blks s (s.size / 64)) (fun _ => True) (s.size / 64) w := fun l J Jx W hW _ _ hY h0 =>
  blocks1_in F n h6 hro hn l Bs s hsz J Jx hY W ((hW.cell (p := ⟨Bs, 0, none⟩) hBs).trans hc) h0
set_option maxHeartbeats 1000000 in
theorem blocks_any (s : ByteArray) (w : World) :
    Calls Tryd.prog 60 #[.string s] w fun e w' => e = .returned (.func (.func 76) #[] #[.pointer (some ⟨w.heap.size, 0, none⟩)]) ∧ w' = w.alloc (.cells #[.string s] 9) := by
  have hmf : ∀ (fn : Fn) (first cap : Array Value) (w : World), (Instr.makeFunc fn first cap).run Tryd.prog w = .ok (.func fn first cap) w := fun _ _ _ _ => rfl
  go_enter Tryd.func60, Tryd.ntmps60
  go_wp2
  go_ret
  exact ⟨rfl, rfl⟩
end Go.Proofs.YtfdeegafdaobdaaDoor
