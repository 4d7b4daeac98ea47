/- Contract of the iterator over the pieces of a string. -/
import Derived.RangeFuncNested
import Derived.RangeFuncBound
import Derived.RangeFuncCalls
import Derived.RangeFuncLeaves
import Derived.Shelf.Abstract
import Derived.Shelf.RegionOpen
import Derived.WalkKit
import Derived.OwnWalkIn
import Derived.TacticsInMore
import Derived.LoopNIn
import Derived.LoopIn
import Derived.Test.YtnfefkcfifnjnaaDoorMH
namespace Go.Proofs.YtnfefkcfifnjnaaDoor
open Go.RowKit Go.Shelf
attribute [local go_sem] Oper.semAt_some

/-- A piece of at most 16 octets. -/
abbrev Pce := { x : ByteArray // x.size ≤ 16 }
/-- The pieces of a string, n of them. -/
def pcs (s : ByteArray) (n : Nat) : List ByteArray := (List.range n).map fun k => s.extract (16 * k) (min (16 * k + 16) s.size)
theorem pcs_succ (s : ByteArray) (n : Nat) : pcs s (n + 1) = pcs s n ++ [s.extract (16 * n) (min (16 * n + 16) s.size)] := by simp [pcs, List.range_succ]
/-- What a round keeps: the iterator's own variable. -/
def KpP (Bs : Nat) (A B : World) : Prop := B.cell? ⟨Bs, 0, none⟩ = A.cell? ⟨Bs, 0, none⟩
set_option maxRecDepth 100000 in
set_option maxHeartbeats 2000000 in
theorem pieces1_in (F : Fence) (n : Nat) (h6 : F.fn 94) (hro : F.round = none) (hn : 1 ≤ n) (l Bs : Nat) (s : ByteArray) (hsz : s.size ≤ 140737488351232) (J Jx : List Pce → World → Prop)
    (hY : ∀ pre (x : Pce) W, J pre W → pre.length < (s.size + 15) / 16 → YieldAt F (n - 1) Tryd.prog l #[.string x.1] W fun e W' =>
      (e = .returned (.bool true) ∧ J (pre ++ [x]) W' ∧ KpP Bs W W') ∨ (e = .returned (.bool false) ∧ Jx (pre ++ [x]) W'))
    (W : World) (hBs : W.cell? ⟨Bs, 0, none⟩ = some (.string s)) (h0 : J [] W) :
    CallsIn F n Tryd.prog 94 #[.func (.yield l) #[] #[], .pointer (some ⟨Bs, 0, none⟩)] W fun e W' => (∃ v, e = .returned v) ∧
      ((∃ ys : List Pce, ys.map (·.1) = pcs s ((s.size + 15) / 16) ∧ J ys W') ∨ (∃ pre, True ∧ Jx pre W')) := by
  refine callsIn_of_wp Tryd.func94 rfl h6 ?_ hro
  simp only [Tryd.ntmps94, List.size_toArray, List.length_cons, List.length_nil, Nat.reduceAdd, Nat.reduceSub, Array.replicate_succ, Array.replicate_zero, List.push_toArray, List.append_toArray, List.nil_append, List.cons_append]
  gi_wp2
  gi_loopw [3] (fun i wr => ∃ (e : Nat) (pre : List Pce), e ≤ s.size + 16 ∧ i = .int .i64 e ∧ Hid (e = 16 * pre.length ∧ pre.map (·.1) = pcs s pre.length ∧ pre.length ≤ (s.size + 15) / 16) ∧ J pre wr ∧ wr.cell? ⟨Bs, 0, none⟩ = some (.string s))
    (fun i _ => s.size + 128 - (intOf i).toNat)
  case atStart => exact ⟨0, [], by omega, rfl, Lib.hid ⟨rfl, rfl, Nat.zero_le _⟩, h0, hBs⟩
  case round =>
    obtain ⟨e, pre, hle, rfl, HE, hJs, hc⟩ := hrel
    by_cases hlt : e < s.size
    · have hpl : pre.length < (s.size + 15) / 16 := by have := HE.out.1; omega
      obtain ⟨m, hm⟩ : ∃ m, min (e + 16) s.size = m := ⟨_, rfl⟩
      have hmin : min ((e : Int) + 16) (s.size : Int) = (m : Int) := by omega
      obtain ⟨x, hx⟩ : ∃ x : Pce, x.1 = s.extract e m := ⟨⟨s.extract e m, by simp; omega⟩, rfl⟩
      have HX : Hid ((pre ++ [x]).map (·.1) = pcs s (pre ++ [x]).length) := Lib.hid (by
        have h1 := HE.out.1
        rw [List.length_append, List.length_singleton, pcs_succ, List.map_append, HE.out.2.1, List.map_singleton, hx]
        congr 2
        rw [← h1, hm])
      by_cases h16 : e + 16 ≤ s.size
      · have h16' : (e : Int) + 16 ≤ (s.size : Int) := by omega
        have hsl : ∀ wx : World, (Instr.slice 9 (.string s) (some (.int .i64 (e : Int))) (some (.int .i64 ((e : Int) + 16))) none).run Tryd.prog wx = .ok (.string x.1) wx := fun wx => by
          have := run_slice_string (P := Tryd.prog) (w := wx) 9 (s := s) .i64 .i64 (e : Int) ((e : Int) + 16) Tryd.underlying9 (by omega) (by omega) (by omega)
          rw [this, hx, Int.toNat_natCast, show (((e : Int) + 16) : Int).toNat = m by omega]
        obtain ⟨fn, tmps, assign, body, hy, hR⟩ := hY pre x wr hJs hpl
        obtain ⟨xb, hxs⟩ := x
        dsimp only at hy hsl
        clear hx hm hmin
        gi_wp2
        refine hR.mono ?_
        rintro e' W3 (⟨rfl, hJ3, hk3⟩ | ⟨rfl, hJx3⟩)
        · have hc3 : W3.cell? ⟨Bs, 0, none⟩ = some (.string s) := hk3.trans hc
          gi_wp2
          go_roundw
          case rel => exact ⟨e + 16, pre ++ [⟨xb, hxs⟩], by omega, by go_num, Lib.hid ⟨by rw [List.length_append, List.length_singleton]; have := HE.out.1; omega, HX.out, by rw [List.length_append, List.length_singleton]; omega⟩, hJ3, hc3⟩
          case measure => simp [intOf]; omega
        · gi_wp2
          refine bodyPost_ret (results_none rfl _ _ _) rfl ?_
          exact ⟨⟨_, rfl⟩, .inr ⟨_, trivial, hJx3⟩⟩
      · have h16' : ¬ (e : Int) + 16 ≤ (s.size : Int) := by omega
        have hsl : ∀ wx : World, (Instr.slice 9 (.string s) (some (.int .i64 (e : Int))) (some (.int .i64 (s.size : Int))) none).run Tryd.prog wx = .ok (.string x.1) wx := fun wx => by
          have := run_slice_string (P := Tryd.prog) (w := wx) 9 (s := s) .i64 .i64 (e : Int) (s.size : Int) Tryd.underlying9 (by omega) (by omega) (by omega)
          rw [this, hx, Int.toNat_natCast, show ((s.size : Int) : Int).toNat = m by omega]
        obtain ⟨fn, tmps, assign, body, hy, hR⟩ := hY pre x wr hJs hpl
        obtain ⟨xb, hxs⟩ := x
        dsimp only at hy hsl
        clear hx hm hmin
        gi_wp2
        refine hR.mono ?_
        rintro e' W3 (⟨rfl, hJ3, hk3⟩ | ⟨rfl, hJx3⟩)
        · have hc3 : W3.cell? ⟨Bs, 0, none⟩ = some (.string s) := hk3.trans hc
          gi_wp2
          go_roundw
          case rel => exact ⟨e + 16, pre ++ [⟨xb, hxs⟩], by omega, by go_num, Lib.hid ⟨by rw [List.length_append, List.length_singleton]; have := HE.out.1; omega, HX.out, by rw [List.length_append, List.length_singleton]; omega⟩, hJ3, hc3⟩
          case measure => simp [intOf]; omega
        · gi_wp2
          refine bodyPost_ret (results_none rfl _ _ _) rfl ?_
          exact ⟨⟨_, rfl⟩, .inr ⟨_, trivial, hJx3⟩⟩
    · have hpl : pre.length = (s.size + 15) / 16 := by have := HE.out; omega
      have HPL := Lib.hid hpl
      clear hpl
      gi_wp2
      go_end0
      exact ⟨⟨_, rfl⟩, .inl ⟨pre, by rw [HE.out.2.1, HPL.out], hJs⟩⟩
theorem pieces_stops (F : Fence) (n : Nat) (h6 : F.fn 94) (hro : F.round = none) (hn : 1 ≤ n) (Bs : Nat) (s : ByteArray) (hsz : s.size ≤ 140737488351232) (w : World) (hBs : Bs < w.heap.size) (hc : w.cell? ⟨Bs, 0, none⟩ = some (.string s)) :
    SeqStopsK F n Tryd.prog 94 #[.pointer (some ⟨Bs, 0, none⟩)] (fun x : Pce => #[Value.string x.1]) (KpP Bs) (fun ys => ys.map (·.1) = pcs s ((s.size + 15) / 16)) (fun _ => True) ((s.size + 15) / 16) w := fun l J Jx W hW _ _ hY h0 =>
  pieces1_in F n h6 hro hn l Bs s hsz J Jx hY W ((hW.cell (p := ⟨Bs, 0, none⟩) hBs).trans hc) h0
set_option maxHeartbeats 1000000 in
theorem pieces_any (s : ByteArray) (w : World) :
    Calls Tryd.prog 73 #[.string s] w fun e w' => e = .returned (.func (.func 94) #[] #[.pointer (some ⟨w.heap.size, 0, none⟩)]) ∧ w' = w.alloc (.cells #[.string s] 9) := by
  have hmf : ∀ (fn : Fn) (first cap : Array Value) (w : World), (Instr.makeFunc fn first cap).run Tryd.prog w = .ok (.func fn first cap) w := fun _ _ _ _ => rfl
  go_enter Tryd.func73, Tryd.ntmps73
  go_wp2
  go_ret
  exact ⟨rfl, rfl⟩
end Go.Proofs.YtnfefkcfifnjnaaDoor
