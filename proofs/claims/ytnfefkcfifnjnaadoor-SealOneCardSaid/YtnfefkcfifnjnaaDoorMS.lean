/- Rows of limbs in memory. -/
import Derived.Test.YtnfefkcfifnjnaaDoorR
import Derived.Test.YtnfefkcfifnjnaaDoorC
import Derived.Test.YtnfefkcfifnjnaaDoorMQ
namespace Go.Proofs.YtnfefkcfifnjnaaDoor
open Go.RowKit Go.ChangeShapes
abbrev ld (n : Nat) : Value := .int .u64 (n : Int)
def lsC (l : List Nat) : Array Value := (l.map ld).toArray
theorem lsC_size (l : List Nat) : (lsC l).size = l.length := by simp [lsC]
theorem lsC_get {l : List Nat} {i : Nat} (h : i < l.length) : (lsC l)[i]? = some (ld l[i]) := by simp [lsC, h]
theorem lsC_one (l : List Nat) : (lsC l).all (·.oneCell') = true := by simp [lsC, Value.oneCell']
/-- Block g holds a row of words, and may be written. -/
def Lar (w : World) (g : Nat) (t : TypeId) (l : List Nat) : Prop := w.heap[g]? = some (.cells (lsC l) t (0, 0))
theorem Lar.get {w : World} {g : Nat} {t : TypeId} {l : List Nat} (h : Lar w g t l) {i : Nat} (hi : i < l.length) : w.cell? ⟨g, i, none⟩ = some (ld l[i]) :=
  (cell_of_row w g i _ t (0, 0) h).trans (lsC_get hi)
theorem Lar.getD {w : World} {g : Nat} {t : TypeId} {l : List Nat} (h : Lar w g t l) {i : Nat} (hi : i < l.length) : w.cell? ⟨g, i, none⟩ = some (ld (l.getD i 0)) := by
  rw [h.get hi, List.getD_eq_getElem?_getD, List.getElem?_eq_getElem hi]; rfl
theorem Lar.free {w : World} {g : Nat} {t : TypeId} {l : List Nat} (h : Lar w g t l) (i : Nat) : w.frozen? ⟨g, i, none⟩ = false := frozen_of_row w g i _ t h
theorem Lar.lt {w : World} {g : Nat} {t : TypeId} {l : List Nat} (h : Lar w g t l) : g < w.heap.size := (Array.getElem?_eq_some_iff.1 h).1
theorem Lar.below {w w' : World} {B g : Nat} {t : TypeId} {l : List Nat} (h : Lar w g t l) (hb : Below B w w') (hg : g < B) : Lar w' g t l := (hb.block g hg).trans h
theorem Lar.heap {w w' : World} {g : Nat} {t : TypeId} {l : List Nat} (h : Lar w g t l) (hb : w'.heap = w.heap) : Lar w' g t l := by unfold Lar; rw [hb]; exact h
theorem Lar.drewN {w : World} {g : Nat} {t : TypeId} {l : List Nat} (h : Lar w g t l) (n : Nat) : Lar (w.drewN n) g t l := h
theorem Lar.drew {w : World} {g : Nat} {t : TypeId} {l : List Nat} (h : Lar w g t l) : Lar w.drew g t l := h
theorem Lar.alloc {w : World} {g : Nat} {t : TypeId} {l : List Nat} (h : Lar w g t l) (o : Obj) : Lar (w.alloc o) g t l := (Below.heap_alloc w o g h.lt).trans h
theorem Lar.new (w : World) (t : TypeId) (l : List Nat) : Lar (w.alloc (.cells (lsC l) t)) w.heap.size t l := heap_alloc_new w _
theorem Lar.set {w : World} {g : Nat} {t : TypeId} {l : List Nat} (h : Lar w g t l) (i x : Nat) : Lar (w.setCell ⟨g, i, none⟩ (ld x)) g t (l.set i x) := by
  have := heap_setCell_same w g i (lsC l) t (ld x) h
  unfold Lar
  rw [this]
  congr 2
  simp [lsC, List.map_set]
theorem Lar.other {w : World} {g : Nat} {t : TypeId} {l : List Nat} (h : Lar w g t l) {a : Addr} (ha : g ≠ a.block) (v : Value) : Lar (w.setCell a v) g t l := (heap_setCell_other w a g v ha).trans h
theorem Lar.row {w : World} {g : Nat} {t : TypeId} {l : List Nat} (h : Lar w g t l) (l' : List Nat) : Lar (w.setRow g (lsC l')) g t l' := setRow_heap w g _ _ t _ h
/-- 'a[i]' of a row by value. -/
theorem run_index_ls {P : Program} (w : World) (t e : TypeId) (n : Nat) (l : List Nat) (k : IntKind) (i : Nat) (h : P.underlying t = some (.array n e)) (hn : l.length = n) (hi : i < n) (hsz : (sizeOf e).run P w = .ok 1 w) (hag : (isAgg e).run P w = .ok false w) :
    (Instr.index t (.agg (lsC l)) (.int k (i : Int))).run P w = .ok (ld (l.getD i 0)) w := by
  have e1 : (0 : Int) ≤ (i : Int) ∧ (i : Int) < (n : Int) := by omega
  have hl : i < l.length := by omega
  have hg : l.getD i 0 = l[i] := by rw [List.getD_eq_getElem?_getD, List.getElem?_eq_getElem hl]; rfl
  rw [hg]
  simp [Instr.index, run_underlying h, asIntOf, e1, go_sem, lsC, hsz, hag, hi, hl]
theorem Lar.of_only {g k : Nat} {a b : World} (h : Only g a b) {t : TypeId} {l : List Nat} (hA : Lar a k t l) (hk : k ≠ g) : Lar b k t l := (h.block k hA.lt (fun e => hk (by injection e))).trans hA
theorem u64_back {n : Nat} (h : n < 18446744073709551616) : IntKind.u64.wrap (n : Int) = n := IntWalk.u64_in _ (by omega)
theorem u64_or {a b : Nat} (ha : a < 2 ^ 64) (hb : b < 2 ^ 64) : bits .or .u64 (a : Int) (b : Int) = ((a ||| b : Nat) : Int) := by
  show IntKind.u64.wrap ((BitVec.ofInt 64 (a : Int) ||| BitVec.ofInt 64 (b : Int)).toNat : Int) = _
  rw [BitVec.toNat_or, BitVec.ofInt_natCast, BitVec.ofInt_natCast, BitVec.toNat_ofNat, BitVec.toNat_ofNat, Nat.mod_eq_of_lt ha, Nat.mod_eq_of_lt hb, u64_back (Nat.or_lt_two_pow ha hb)]
theorem u64_mask {a : Nat} (ha : a < 2 ^ 64) : bits .and .u64 (a : Int) 67108863 = ((a % 67108864 : Nat) : Int) := by
  show IntKind.u64.wrap ((BitVec.ofInt 64 (a : Int) &&& BitVec.ofInt 64 (67108863 : Int)).toNat : Int) = _
  rw [BitVec.toNat_and, BitVec.ofInt_natCast, BitVec.toNat_ofNat, Nat.mod_eq_of_lt ha, show (BitVec.ofInt 64 (67108863 : Int)).toNat = 2 ^ 26 - 1 by decide, Nat.and_two_pow_sub_one_eq_mod, u64_back (by omega)]
end Go.Proofs.YtnfefkcfifnjnaaDoor
