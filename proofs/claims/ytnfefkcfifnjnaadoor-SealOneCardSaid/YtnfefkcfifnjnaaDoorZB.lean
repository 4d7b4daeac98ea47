/- Contract of the iterator over blocks. -/
import Derived.RangeFuncNested
import Derived.RangeFuncBound
import Derived.RangeFuncCalls
import Derived.RangeFuncLeaves
import Derived.Shelf.Abstract
import Derived.Shelf.RegionOpen
import Derived.WalkKit
import Derived.OwnWalkIn
import Derived.TacticsInMore
import Derived.LoopNIn
import Derived.LoopIn
import Derived.Test.YtnfefkcfifnjnaaDoorY
import Derived.Test.YtnfefkcfifnjnaaDoorZA
namespace Go.Proofs.YtnfefkcfifnjnaaDoor
open Go.RowKit Go.Shelf
attribute [local go_sem] Oper.semAt_some

/-- An array is loaded, within a fence. -/
theorem wpListIn_load_row {F : Fence} {n : Nat} {P : Program} {ops : Array Oper} {rest : List Oper} {o : Oper} {a : Act} {w : World} {Q : Exit → Act → World → Prop} (hgd : o.guard = none) (ty : TypeId) (x : Operand) (ho : o.op = .load ty x)
    (g : Nat) (hx : a.eval x = .pointer (some ⟨g, 0, none⟩)) (t : TypeId) (cs : Array Value) (fr : Nat × Nat) (d : TypeDesc) (hg : w.heap[g]? = some (.cells cs t fr))
    (hu : P.underlying ty = some d) (hd : (match d with | .struct _ | .array _ _ => true | _ => false) = true) (hi : (P.info? ty).map (·.size) = some cs.size)
    (h : wpListIn F n P ops Q rest (a.put o.dst (.agg cs)) w) : wpListIn F n P ops Q (o :: rest) a w := by
  refine wpListIn_plain hgd fun K hK => ?_
  unfold Oper.wpIn
  refine ⟨?_, ?_⟩
  · simp [Oper.about, ho]
  · rw [Oper.semAt_plain F _ _ (by rw [ho]; intro c hc; cases hc)]
    simp only [execOp, ho, hx, Instr.loadAt, Instr.sureAddr, Sem.run_bind, Sem.run_pure, Result.andThen_ok, run_loadVar_row w g t ty cs fr d hg hu hd hi]
    exact hK _ _ h
/-- An array is stored, within a fence. -/
theorem wpListIn_store_row {F : Fence} {n : Nat} {P : Program} {ops : Array Oper} {rest : List Oper} {o : Oper} {a : Act} {w : World} {Q : Exit → Act → World → Prop} (hgd : o.guard = none) (ty : TypeId) (x y : Operand) (ho : o.op = .store ty x y)
    (g : Nat) (cells : Array Value) (hx : a.eval x = .pointer (some ⟨g, 0, none⟩)) (hy : a.eval y = .agg cells)
    (t : TypeId) (old : Array Value) (hg : w.heap[g]? = some (.cells old t (0, 0))) (hi : (P.info? ty).map (·.size) = some cells.size)
    (hold : old.size = cells.size) (h1 : cells.all (·.oneCell') = true)
    (h : wpListIn F n P ops Q rest (a.put o.dst undef) (w.setRow g cells)) : wpListIn F n P ops Q (o :: rest) a w := by
  refine wpListIn_plain hgd fun K hK => ?_
  unfold Oper.wpIn
  refine ⟨?_, ?_⟩
  · simp [Oper.about, ho]
  · rw [Oper.semAt_plain F _ _ (by rw [ho]; intro c hc; cases hc)]
    simp only [execOp, ho, hx, hy, Instr.storeAt, Instr.sureAddr, Sem.run_bind, Sem.run_pure, Result.andThen_ok, run_storeVar_row w g t ty old cells hg hi hold h1]
    exact hK _ _ h
/-- A block of 64 octets. -/
abbrev Blk := { x : ByteArray // x.size = 64 }
/-- The first words of the block k further on. -/
def stF (f : List Nat) (k : Nat) : List Nat := f.set 12 (ad (f.getD 12 0) k)
theorem stF_zero (f : List Nat) (h : f.length = 16) (hW : AllW f) : stF f 0 = f := by
  have h1 := hW.get 12
  unfold isW at h1
  unfold stF ad
  rw [Nat.add_zero, Nat.mod_eq_of_lt (by omega), List.getD_eq_getElem?_getD, List.getElem?_eq_getElem (by omega)]
  exact List.set_getElem_self _
theorem stF_succ (f : List Nat) (k : Nat) (h : f.length = 16) : (stF f k).set 12 (ad ((stF f k).getD 12 0) 1) = stF f (k + 1) := by
  unfold stF
  rw [List.set_set]
  congr 1
  rw [List.getD_eq_getElem?_getD, List.getElem?_set_self (by omega)]
  unfold ad
  simp only [Option.getD_some]
  omega
theorem stF_length (f : List Nat) (k : Nat) (h : f.length = 16) : (stF f k).length = 16 := by unfold stF; rw [List.length_set, h]
theorem stF_all {f : List Nat} (hW : AllW f) (k : Nat) : AllW (stF f k) := hW.set 12 (isW_ad _ _)
def blksF (f : List Nat) (n : Nat) : List ByteArray := (List.range n).map fun k => bs (blockW (stF f k))
theorem blksF_succ (f : List Nat) (n : Nat) : blksF f (n + 1) = blksF f n ++ [bs (blockW (stF f n))] := by simp [blksF, List.range_succ]
theorem zeroI_eq : (#[.int .u32 0, .int .u32 0, .int .u32 0, .int .u32 0, .int .u32 0, .int .u32 0, .int .u32 0, .int .u32 0, .int .u32 0, .int .u32 0, .int .u32 0, .int .u32 0, .int .u32 0, .int .u32 0, .int .u32 0, .int .u32 0] : Array Value) = wsC zeroL := rfl
/-- What a round keeps: all cells but those of two blocks. -/
def KpX (b1 b2 : Nat) (A B : World) : Prop := ∀ (k : Nat) (cs : Array Value) (t : TypeId) (fr : Nat × Nat), A.heap[k]? = some (.cells cs t fr) → k ≠ b1 → k ≠ b2 → B.heap[k]? = some (.cells cs t fr)
theorem KpX.trans {b1 b2 : Nat} {A B C : World} (h : KpX b1 b2 A B) (k : KpX b1 b2 B C) : KpX b1 b2 A C := fun i cs t fr hi h1 h2 => k i cs t fr (h i cs t fr hi h1 h2) h1 h2
theorem grown_of_below {W V : World} (h : Below W.heap.size W V) (row : Option Nat) : W.grownBy V row := ⟨h.os, h.tape, h.output, h.size, fun k hk _ => h.block k hk⟩
set_option maxRecDepth 100000 in
set_option maxHeartbeats 4000000 in
theorem blocks1_seq (m b1 b2 B1 B2 c : Nat) (f : List Nat) (w : World) (hm : 1 ≤ m) (hl : f.length = 16) (hW : AllW f) (hq1 : b1 < w.heap.size) (hq2 : b2 < w.heap.size) (h1 : B1 < w.heap.size) (h2 : B2 < w.heap.size) (hc : c ≤ 1000000)
    (hA : Arr w B1 84 f) (hC : w.cell? ⟨B2, 0, none⟩ = some (.int .i64 (c : Int))) :
    SeqC Fence.wide m Tryd.prog 79 #[.pointer (some ⟨B1, 0, none⟩), .pointer (some ⟨B2, 0, none⟩)] (fun x : Blk => #[Value.string x.1]) (KpX b1 b2) (fun xs => xs.map (·.1) = blksF f c) c w := by
  intro l J W hBW hJ hY h0
  have hA1 := Arr.below hA hBW h1
  have hC1 : W.cell? ⟨B2, 0, none⟩ = some (.int .i64 (c : Int)) := (hBW.cell (p := ⟨B2, 0, none⟩) h2).trans hC
  have hz := hBW.size
  have hN := heap_alloc_new W (.cells (wsC zeroL) 84)
  have hJ0 : J [] ((W.alloc (.cells (wsC zeroL) 84)).setRow W.heap.size (wsC f)) := hJ [] (W.alloc (.cells (wsC zeroL) 84)) _ (some W.heap.size) (hJ [] W _ none h0 (World.grownBy_alloc _ _ _) (fun r e => by cases e))
    ⟨rfl, rfl, rfl, by simp [World.setRow], fun k hk hn => setRow_other _ _ _ _ (fun e => hn (by rw [e]))⟩ (fun r e => by injection e with e; omega)
  have hN0 : Arr ((W.alloc (.cells (wsC zeroL) 84)).setRow W.heap.size (wsC f)) W.heap.size 84 f := setRow_heap _ _ _ _ 84 _ hN
  have hs0 : W.heap.size < ((W.alloc (.cells (wsC zeroL) 84)).setRow W.heap.size (wsC f)).heap.size := hN0.lt
  have hC0 : (W.alloc (.cells (wsC zeroL) 84)).cell? ⟨B2, 0, none⟩ = some (.int .i64 (c : Int)) := (World.cell?_alloc_lt _ _ _ (by show B2 < W.heap.size; omega)).trans hC1
  have hC2 : ((W.alloc (.cells (wsC zeroL) 84)).setRow W.heap.size (wsC f)).cell? ⟨B2, 0, none⟩ = some (.int .i64 (c : Int)) := (World.cell?_of_block (setRow_other _ _ _ _ (by show B2 ≠ W.heap.size; omega))).trans hC0
  rw [← zeroI_eq] at hJ0 hN0 hs0 hC2
  have HA := Lib.hid hA1
  have HN := Lib.hid hN
  have HL := Lib.hid hl
  have HW := Lib.hid hW
  have HJ := Lib.hid hJ
  have HY := Lib.hid hY
  have HJ0 := Lib.hid hJ0
  have HN0 := Lib.hid hN0
  clear hA hA1 hN hl hW hJ hY hJ0 hN0 hC hC1 hC0 h0
  refine callsIn_of_wp Tryd.func79 rfl trivial ?_ rfl
  simp only [Tryd.ntmps79, List.size_toArray, List.length_cons, List.length_nil, Nat.reduceAdd, Nat.reduceSub, Array.replicate_succ, Array.replicate_zero, List.push_toArray, List.append_toArray, List.nil_append, List.cons_append]
  gi_wp2_with (first | (refine wpListIn_load_row rfl 84 _ rfl B1 rfl 84 (wsC f) (0, 0) _ HA.out Tryd.underlying84 rfl (by rw [size53, wsC_size, HL.out]) ?_) | (refine wpListIn_store_row rfl 84 _ _ rfl W.heap.size (wsC f) rfl rfl 84 (wsC zeroL) HN.out (by rw [size53, wsC_size, HL.out]) (by rw [wsC_size, wsC_size, HL.out]; rfl) (wsC_one _) ?_))
  have hB0 : W.heap.size < ((W.alloc (.cells #[.int .u32 0, .int .u32 0, .int .u32 0, .int .u32 0, .int .u32 0, .int .u32 0, .int .u32 0, .int .u32 0, .int .u32 0, .int .u32 0, .int .u32 0, .int .u32 0, .int .u32 0, .int .u32 0, .int .u32 0, .int .u32 0] 84)).setRow W.heap.size (wsC f)).heap.size := hs0
  clear hC2 hs0 HN HA
  generalize (W.alloc (.cells #[.int .u32 0, .int .u32 0, .int .u32 0, .int .u32 0, .int .u32 0, .int .u32 0, .int .u32 0, .int .u32 0, .int .u32 0, .int .u32 0, .int .u32 0, .int .u32 0, .int .u32 0, .int .u32 0, .int .u32 0, .int .u32 0] 84)).setRow W.heap.size (wsC f) = V at HJ0 HN0 hB0 ⊢
  gi_loopw [7] (fun i wr => ∃ (k : Nat) (pre : List Blk), k ≤ c ∧ i = .int .i64 k ∧ Hid (pre.length = k ∧ pre.map (·.1) = blksF f k) ∧ Hid (J pre wr) ∧ Hid (Arr wr W.heap.size 84 (stF f k)))
    (fun i _ => c - (intOf i).toNat)
  case atStart => exact ⟨0, [], by omega, rfl, Lib.hid ⟨rfl, rfl⟩, HJ0, Lib.hid (by rw [stF_zero f HL.out HW.out]; exact HN0.out)⟩
  case round =>
    clear HJ0 HN0 hB0
    obtain ⟨k, pre, hk, rfl, HP, HJr, HNr⟩ := hrel
    by_cases hlt : k < c
    · have hBk := block_any (stF f k)
      obtain ⟨x, hx⟩ : ∃ x : Blk, x.1 = bs (blockW (stF f k)) := ⟨⟨bs (blockW (stF f k)), by rw [bs_size, blockW_length]⟩, rfl⟩
      have hK2 := fun w' => hBk w' (stF_length f k HL.out) (stF_all HW.out k)
      rw [← hx] at hK2
      have HK := Lib.hid hK2
      have HX := Lib.hid hx
      obtain ⟨xb, hxs⟩ := x
      dsimp only at HK
      clear hBk hK2 hx
      gi_wp2_with (first | (refine wpListIn_load_row rfl 84 _ rfl W.heap.size rfl 84 (wsC (stF f k)) (0, 0) _ HNr.out Tryd.underlying84 rfl (by rw [size53, wsC_size, stF_length f k HL.out]) ?_) | (refine ⟨trivial, ?_⟩; gi_at_call 54; refine (callsIn_wide.2 (HK.out _)).mono ?_; rintro e w1 ⟨rfl, hb1⟩; have hJ1 := HJ.out pre wr w1 none HJr.out (grown_of_below hb1 none) (fun r e => by cases e); have hN1 : Arr w1 W.heap.size 84 (stF f k) := HNr.out.below hb1 HNr.out.lt; obtain ⟨fn, tmps, assign, body, hy, hR⟩ := HY.out pre ⟨xb, hxs⟩ w1 hJ1 (by rw [HP.out.1]; exact hlt); dsimp only at hy; have HN1 := Lib.hid hN1; clear hJ1 hN1 hb1 HK))
      refine hR.mono ?_
      rintro e' W3 ⟨rfl, hJ3, hk3⟩
      have hN3 : Arr W3 W.heap.size 84 (stF f k) := hk3 _ _ _ _ HN1.out (by omega) (by omega)
      have hlen := stF_length f k HL.out
      have cx := hN3.getD (i := 12) (by omega)
      have cf := hN3.free 12
      have a1 := u32_add ((stF f k).getD 12 0) 1
      have hS := hN3.set 12 (ad ((stF f k).getD 12 0) 1)
      rw [stF_succ f k HL.out] at hS
      obtain ⟨y, hy2⟩ : ∃ y, (stF f k).getD 12 0 = y := ⟨_, rfl⟩
      rw [hy2] at cx a1 hS
      have a2 : IntKind.u32.wrap ((y : Int) + 1) = ((ad y 1 : Nat) : Int) := a1
      have hJ4 : J (pre ++ [⟨xb, hxs⟩]) (W3.setCell ⟨W.heap.size, 12, none⟩ (wd (ad y 1))) := HJ.out _ W3 _ (some W.heap.size) hJ3 ⟨rfl, rfl, rfl, by simp, fun j _ hj => heap_setCell_other W3 ⟨W.heap.size, 12, none⟩ j _ (fun e => hj (by rw [e]))⟩ (fun r e => by injection e with e; omega)
      have HS := Lib.hid hS
      have HJ4 := Lib.hid hJ4
      clear a1 hS hJ4 hJ3 hk3 hN3 hlen hy2 HN1 hy hR
      gi_wp2
      go_roundw
      case rel =>
        refine ⟨k + 1, pre ++ [⟨xb, hxs⟩], by omega, by go_num, Lib.hid ⟨by rw [List.length_append, HP.out.1]; rfl, ?_⟩, HJ4, HS⟩
        rw [List.map_append, HP.out.2, blksF_succ]
        simp [HX.out]
      case measure => simp [intOf]; omega
    · obtain rfl : k = c := by omega
      gi_wp2
      go_end0
      exact ⟨⟨_, rfl⟩, pre, HP.out.2, HJr.out⟩
set_option maxHeartbeats 1000000 in
theorem blocks_any (f : List Nat) (c : Int) (w : World) :
    Calls Tryd.prog 50 #[.agg (wsC f), .int .i64 c] w fun e w' => e = .returned (.func (.func 79) #[] #[.pointer (some ⟨w.heap.size, 0, none⟩), .pointer (some ⟨w.heap.size + 1, 0, none⟩)]) ∧ w' = (w.alloc (.cells (wsC f) 84)).alloc (.cells #[.int .i64 c] 3) := by
  have hmf : ∀ (fn : Fn) (first cap : Array Value) (w : World), (Instr.makeFunc fn first cap).run Tryd.prog w = .ok (.func fn first cap) w := fun _ _ _ _ => rfl
  go_enter Tryd.func50, Tryd.ntmps50
  go_wp2
  go_ret
  exact ⟨rfl, rfl⟩
end Go.Proofs.YtnfefkcfifnjnaaDoor
