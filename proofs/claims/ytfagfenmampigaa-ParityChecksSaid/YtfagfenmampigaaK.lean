/- The iterator of powers, afterZeros. -/
import Derived.RangeFuncNested
import Derived.RangeFuncBound
import Derived.RangeFuncCalls
import Derived.RangeFuncLeaves
import Derived.Shelf.Abstract
import Derived.Shelf.RegionOpen
import Derived.WalkKit
import Derived.OwnWalkIn
import Derived.TacticsInMore
import Derived.LoopNIn
import Derived.LoopIn
import Derived.Sort.LoopGhostIn
import Derived.Test.YtfagfenmampigaaJ
import Derived.Test.YtfagfenmampigaaZS
namespace Go.Proofs.Ytfagfenmampigaa
open Go.RowKit Go.Shelf
attribute [local go_sem] Oper.semAt_some
/-- What a round keeps: all cells but those of two blocks. -/
def KpX (b1 b2 : Nat) (A B : World) : Prop := ∀ (k : Nat) (cs : Array Value) (t : TypeId) (fr : Nat × Nat), A.heap[k]? = some (.cells cs t fr) → k ≠ b1 → k ≠ b2 → B.heap[k]? = some (.cells cs t fr)
theorem KpX.trans {b1 b2 : Nat} {A B C : World} (h : KpX b1 b2 A B) (k : KpX b1 b2 B C) : KpX b1 b2 A C := fun i cs t fr hi h1 h2 => k i cs t fr (h i cs t fr hi h1 h2) h1 h2
theorem KpX.refl (b1 b2 : Nat) (A : World) : KpX b1 b2 A A := fun _ _ _ _ h _ _ => h
theorem grown_of_below {W V : World} (h : Below W.heap.size W V) (row : Option Nat) : W.grownBy V row := ⟨h.os, h.tape, h.output, h.size, fun k hk _ => h.block k hk⟩
theorem wpListIn_load_row {F : Fence} {n : Nat} {P : Program} {ops : Array Oper} {rest : List Oper} {o : Oper} {a : Act} {w : World} {Q : Exit → Act → World → Prop} (hgd : o.guard = none) (ty : TypeId) (x : Operand) (ho : o.op = .load ty x)
    (g : Nat) (hx : a.eval x = .pointer (some ⟨g, 0, none⟩)) (t : TypeId) (cs : Array Value) (fr : Nat × Nat) (d : TypeDesc) (hg : w.heap[g]? = some (.cells cs t fr))
    (hu : P.underlying ty = some d) (hd : (match d with | .struct _ | .array _ _ => true | _ => false) = true) (hi : (P.info? ty).map (·.size) = some cs.size)
    (h : wpListIn F n P ops Q rest (a.put o.dst (.agg cs)) w) : wpListIn F n P ops Q (o :: rest) a w := by
  refine wpListIn_plain hgd fun K hK => ?_
  unfold Oper.wpIn
  refine ⟨?_, ?_⟩
  · simp [Oper.about, ho]
  · rw [Oper.semAt_plain F _ _ (by rw [ho]; intro c hc; cases hc)]
    simp only [execOp, ho, hx, Instr.loadAt, Instr.sureAddr, Sem.run_bind, Sem.run_pure, Result.andThen_ok, run_loadVar_row w g t ty cs fr d hg hu hd hi]
    exact hK _ _ h
theorem wpListIn_store_row {F : Fence} {n : Nat} {P : Program} {ops : Array Oper} {rest : List Oper} {o : Oper} {a : Act} {w : World} {Q : Exit → Act → World → Prop} (hgd : o.guard = none) (ty : TypeId) (x y : Operand) (ho : o.op = .store ty x y)
    (g : Nat) (cells : Array Value) (hx : a.eval x = .pointer (some ⟨g, 0, none⟩)) (hy : a.eval y = .agg cells)
    (t : TypeId) (old : Array Value) (hg : w.heap[g]? = some (.cells old t (0, 0))) (hi : (P.info? ty).map (·.size) = some cells.size)
    (hold : old.size = cells.size) (h1 : cells.all (·.oneCell') = true)
    (h : wpListIn F n P ops Q rest (a.put o.dst undef) (w.setRow g cells)) : wpListIn F n P ops Q (o :: rest) a w := by
  refine wpListIn_plain hgd fun K hK => ?_
  unfold Oper.wpIn
  refine ⟨?_, ?_⟩
  · simp [Oper.about, ho]
  · rw [Oper.semAt_plain F _ _ (by rw [ho]; intro c hc; cases hc)]
    simp only [execOp, ho, hx, hy, Instr.storeAt, Instr.sureAddr, Sem.run_bind, Sem.run_pure, Result.andThen_ok, run_storeVar_row w g t ty old cells hg hi hold h1]
    exact hK _ _ h
theorem keeps_below {W V : World} (h : Below W.heap.size W V) : KeepsOthers W V := ⟨h.size, fun k _ hk _ => (h.block k (Array.getElem?_eq_some_iff.1 hk).1).trans hk⟩
theorem keeps_row {W : World} {g : Nat} {cs : Array Value} {t : TypeId} {fr : Nat × Nat} (h : W.heap[g]? = some (.cells cs t fr)) (ds : Array Value) : KeepsOthers W (W.setRow g ds) :=
  ⟨by simp [World.setRow], fun k o hk ho => (setRow_other W g k ds (by rintro rfl; rw [h] at hk; cases hk; cases ho)).trans hk⟩
theorem KpX.below {b1 b2 : Nat} {A W V : World} (h : KpX b1 b2 A W) (hb : Below W.heap.size W V) : KpX b1 b2 A V := fun k cs t fr hk h1 h2 =>
  (hb.block k (Array.getElem?_eq_some_iff.1 (h k cs t fr hk h1 h2)).1).trans (h k cs t fr hk h1 h2)
theorem KpX.row {b1 b2 : Nat} {A W : World} (h : KpX b1 b2 A W) {g : Nat} (hg : g = b1 ∨ g = b2) (ds : Array Value) : KpX b1 b2 A (W.setRow g ds) := fun k cs t fr hk h1 h2 =>
  (setRow_other W g k ds (by rcases hg with rfl | rfl <;> assumption)).trans (h k cs t fr hk h1 h2)
theorem grown_setRow (W : World) (g : Nat) (cs : Array Value) : W.grownBy (W.setRow g cs) (some g) := ⟨rfl, rfl, rfl, by simp [World.setRow], fun k _ hn => setRow_other W g k cs (fun e => hn (by rw [e]))⟩
/-- The effect of 2^k octets 0. -/
def Fp (c k : Nat) : Nat → Nat := nst c (8 * 2 ^ k)
theorem Fp_lin (c k : Nat) : Lin (Fp c k) := nst_xor c _
theorem Fp_W {c : Nat} (hc : isW c) (k x : Nat) (hx : isW x) : isW (Fp c k x) := nst_W hc hx _
theorem Fp_zero (c : Nat) : Fp c 0 = e8 c := rfl
theorem Fp_succ (c k : Nat) : (fun x => Fp c k (Fp c k x)) = Fp c (k + 1) := by
  funext x; exact (pow_twice c k x).symm
set_option maxRecDepth 100000 in
set_option maxHeartbeats 4000000 in
theorem pow_seq (m b1 b2 B c : Nat) (w : World) (hm : 1 ≤ m) (hB1 : B ≠ b1) (hB2 : B ≠ b2) (hc : isW c) (hC : Lar w B 101 (mat (Fp c 0))) :
    SeqS Fence.wide m Try.prog 59 #[.pointer (some ⟨B, 0, none⟩)] B (fun k => #[.func (.func 60) #[.agg (lsC (mat (Fp c k)))] #[]]) (KpX b1 b2) w := by
  intro l J Jx N W hBW hJ hJx hY h0
  have hmf : ∀ (fn : Fn) (first cap : Array Value) (w : World), (Instr.makeFunc fn first cap).run Try.prog w = .ok (.func fn first cap) w := fun _ _ _ _ => rfl
  have HC : Hid (Lar W B 101 (mat (Fp c 0))) := Lib.hid (hC.below hBW hC.lt)
  have HJ := Lib.hid hJ
  have HY := Lib.hid hY
  have HJ0 := Lib.hid h0
  have HT := Lib.hid (fun k W => twice_any (Fp c k) W (Fp_lin c k) (Fp_W hc k))
  have HSZ := Lib.hid (fun k => show (lsC (mat (Fp c k))).size = 32 by rw [lsC_size, mat_length])
  have HWB := Lib.hid (show W.heap.size ≤ W.heap.size from Nat.le_refl _)
  clear hJ hJx hY h0 hC hBW hc
  refine callsIn_of_wp Try.func59 rfl trivial ?_ rfl
  simp only [Try.ntmps59, List.size_toArray, List.length_cons, List.length_nil, Nat.reduceAdd, Nat.reduceSub, Array.replicate_succ, Array.replicate_zero, List.push_toArray, List.append_toArray, List.nil_append, List.cons_append]
  gi_wp2
  gi_loopg [6] N (fun gk _ wr => ∃ k : Nat, N ≤ k + gk ∧ Hid (J k wr) ∧ Hid (Lar wr B 101 (mat (Fp c k))))
  case atStart => exact ⟨0, by omega, HJ0, HC⟩
  case round =>
    clear HJ0 HC HWB
    obtain ⟨k, hk, HJr, HC⟩ := hrel
    obtain ⟨hN, fn, tmps, assign, body, hyy, hR⟩ := HY.out k wr HJr.out
    have HR := Lib.hid hR
    clear hR
    have hsz := HSZ.out k
    have hsz2 := HSZ.out (k + 1)
    have HT2 := Lib.hid (fun W => HT.out k W)
    have hfs := Fp_succ c k
    rw [hfs] at HT2
    have HCK : Hid (∀ V, Lar V B 101 (mat (Fp c k)) → V.heap[B]? = some (.cells (lsC (mat (Fp c k))) 101 (0, 0))) := Lib.hid (fun V h => h)
    have hone := lsC_one (mat (Fp c (k + 1)))
    have HL2 : Hid (∀ V, Lar V B 101 (mat (Fp c k)) → Lar (V.setRow B (lsC (mat (Fp c (k + 1))))) B 101 (mat (Fp c (k + 1)))) := Lib.hid (fun V h => h.row _)
    generalize lsC (mat (Fp c k)) = M at hyy HR hsz HT2 HCK ⊢
    generalize lsC (mat (Fp c (k + 1))) = M2 at hsz2 HT2 hone HL2
    have HSS := Lib.hid (And.intro hsz (And.intro hsz2 hone))
    clear hfs hsz hsz2 hone
    gi_wp2_with (refine wpListIn_load_row rfl 101 _ rfl B rfl 101 M (0, 0) _ (HCK.out _ HC.out) Try.underlying101 rfl (by rw [size101, HSS.out.1]) ?_)
    refine HR.out.mono ?_
    rintro e' W3 ⟨hkp, hcase⟩
    have HC3 : Hid (Lar W3 B 101 (mat (Fp c k))) := Lib.hid (hkp B _ 101 (0, 0) HC.out hB1 hB2)
    rcases hcase with ⟨rfl, hj⟩ | ⟨rfl, hj⟩
    · have HJ3 := Lib.hid hj
      clear hkp hj HR hyy HC
      gi_wp2_with (refine wpListIn_load_row rfl 101 _ rfl B rfl 101 M (0, 0) _ (HCK.out _ HC3.out) Try.underlying101 rfl (by rw [size101, HSS.out.1]) ?_)
      refine ⟨trivial, (callsIn_wide.2 (HT2.out W3)).mono ?_⟩
      rintro e w4 ⟨rfl, hb⟩
      have HC4 := Lib.hid (HC3.out.below hb HC3.out.lt)
      have HJ4 : Hid (J (k + 1) (w4.setRow B M2)) := Lib.hid (HJ.out (k + 1) _ _ (some B) (HJ.out (k + 1) _ _ none HJ3.out (grown_of_below hb none) (fun r e => by cases e)) (grown_setRow w4 B M2) (fun r e => .inr (by injection e with e; exact e.symm)))
      have HC5 := Lib.hid (HL2.out _ HC4.out)
      clear hb HC3 HJ3
      gi_wp2_with (refine wpListIn_store_row rfl 101 _ _ rfl B M2 rfl rfl 101 M (HCK.out _ HC4.out) (by rw [size101, HSS.out.2.1]) (by rw [HSS.out.1, HSS.out.2.1]) HSS.out.2.2 ?_)
      gi_roundg (N - (k + 1))
      case rel => exact ⟨k + 1, by omega, HJ4, HC5⟩
      case measure => omega
    · have HJ3 := Lib.hid hj
      clear hkp hj HR hyy HC
      gi_wp2
      go_end0
      exact ⟨⟨_, rfl⟩, HJ3.out⟩
end Go.Proofs.Ytfagfenmampigaa
