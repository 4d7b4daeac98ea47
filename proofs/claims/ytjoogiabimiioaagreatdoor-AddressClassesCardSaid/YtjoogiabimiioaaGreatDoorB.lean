/- Base: blocks that stay, rows of words, octets in memory (parts of the texts of layers 1 to 5, moved to this seat). -/
import Derived.Test.YtjoogiabimiioaaGreatDoorProg
import Derived.Test.YtjoogiabimiioaaGreatDoorRows
import Derived.Handy
import Derived.IntWalk
import Derived.KernelRfl
import Derived.Deep.QuietTactic
import Derived.BigQuiet
import Derived.Lib.Hide
import Derived.Laws.IdiomStrings
import Derived.Deep.Draws
import Derived.StillTailTactics
import Derived.Deep.RegionHeld3
import Derived.Deep.AppendLies
import Derived.Laws.Rows
import Derived.Laws.Tables
import Derived.Deep.MidRow
import Derived.WalkSmall
import Derived.Lib.ConvBytes
import Derived.Laws.CopyOwn
import Derived.Lib.SmallJoins
import Derived.Laws.OwnMore
import Derived.Deep.Cut
namespace Go.Proofs.YtjoogiabimiioaaGreatDoor
open Go.RowKit Go.ChangeShapes
theorem take_snoc (s : ByteArray) (k : Nat) (h : k < s.size) : s.data.toList.take (k + 1) = s.data.toList.take k ++ [s[k]] := by
  rw [List.take_succ_eq_append_getElem (by simpa using h)]; rfl
/-- Octets as cells. -/
def byC (l : List UInt8) : List Value := l.map fun b => .int .u8 (b.toNat : Int)
theorem byC_append (l m : List UInt8) : byC l ++ byC m = byC (l ++ m) := by simp [byC]
theorem byC_length (l : List UInt8) : (byC l).length = l.length := by simp [byC]
theorem byC_get {l : List UInt8} {j : Nat} (hj : j < l.length) : (byC l)[j]? = some (.int .u8 (l[j].toNat : Int)) := by simp [byC, hj]
theorem string_of_own {w : World} {base : Nat} {v : Value} {l : List UInt8} (h : w.ownsRow base 5 1 v l.length (byC l)) : (convert 54 9 v).run Tryz.prog w = .ok (.string ⟨l.toArray⟩) w := by
  rcases h.2 with ⟨rfl, hn⟩ | ⟨g, cap, cur, rfl, _, hg, _, _, _, htake⟩
  · have hl : l = [] := List.eq_nil_of_length_eq_zero hn
    subst hl
    rw [run_convert_bytes_string w 54 9 5 none 0 0 Tryz.underlying54 Tryz.underlying5 Tryz.underlying9]
    simp [Conv.bytesToString]
    rfl
  · exact run_convert_bytes_back w 54 9 5 ⟨g, 0, none⟩ cap l Tryz.underlying54 Tryz.underlying5 Tryz.underlying9 fun j hj => h.cells (g := g) rfl j _ (byC_get hj)
theorem info5 : (Tryz.prog.info? 5).map (fun i => (i.zero, i.size, i.bytes)) = some (some (.int .u8 0), 1, 1) := by kernel_rfl
/-- Words of 32 bits. -/
def isW (x : Nat) : Prop := x ≤ 4294967295
theorem lt_of_isW {x : Nat} (h : isW x) : x < 2 ^ 32 := by unfold isW at h; omega
theorem isW_of_lt {x : Nat} (h : x < 2 ^ 32) : isW x := by unfold isW; omega
theorem isW_xor {a b : Nat} (ha : isW a) (hb : isW b) : isW (a ^^^ b) := isW_of_lt (Nat.xor_lt_two_pow (lt_of_isW ha) (lt_of_isW hb))
theorem u32_back {n : Nat} (h : isW n) : IntKind.u32.wrap (n : Int) = n := IntWalk.u32_in _ (by unfold isW at h; omega)
theorem ofInt_w {n : Nat} (h : isW n) : (BitVec.ofInt 32 (n : Int)).toNat = n := by
  rw [BitVec.ofInt_natCast, BitVec.toNat_ofNat, Nat.mod_eq_of_lt (lt_of_isW h)]
theorem u32_xor {a b : Nat} (ha : isW a) (hb : isW b) : bits .xor .u32 (a : Int) (b : Int) = ((a ^^^ b : Nat) : Int) := by
  show IntKind.u32.wrap ((BitVec.ofInt 32 (a : Int) ^^^ BitVec.ofInt 32 (b : Int)).toNat : Int) = _
  rw [BitVec.toNat_xor, ofInt_w ha, ofInt_w hb, u32_back (isW_xor ha hb)]
def bs (l : List UInt8) : ByteArray := ⟨l.toArray⟩
theorem ret_i {a b : Int} {k : IntKind} (h : a = b) : Ending.returned (.int k a) = .returned (.int k b) := by rw [h]
theorem bs_data (l : List UInt8) : (bs l).data.toList = l := rfl
theorem bs_of (s : ByteArray) : bs s.data.toList = s := rfl
theorem bs_size (l : List UInt8) : (bs l).size = l.length := rfl
theorem ext_list (s : ByteArray) (a b : Nat) : (s.extract a b).data.toList = (s.data.toList.drop a).take (b - a) := by
  simp [ByteArray.data_extract, Array.toList_extract, List.extract]
theorem ext_bs (s : ByteArray) (a b : Nat) : s.extract a b = bs ((s.data.toList.drop a).take (b - a)) := by rw [← ext_list]; rfl

/-- Of old memory only block g has changed. -/
def Only (g : Nat) (w w' : World) : Prop := w.grownBy w' (some g)
theorem Only.refl (g : Nat) (w : World) : Only g w w := ⟨rfl, rfl, rfl, Nat.le_refl _, fun _ _ _ => rfl⟩
theorem Only.trans {g : Nat} {a b c : World} (h : Only g a b) (k : Only g b c) : Only g a c :=
  ⟨k.os.trans h.os, k.tape.trans h.tape, k.output.trans h.output, Nat.le_trans h.size k.size, fun j hj hn => (k.block j (Nat.lt_of_lt_of_le hj h.size) hn).trans (h.block j hj hn)⟩
theorem Only.drew {g : Nat} {a b : World} (h : Only g a b) : Only g a b.drew := h.trans ⟨rfl, rfl, rfl, Nat.le_refl _, fun _ _ _ => rfl⟩
theorem Only.set {g : Nat} {a b : World} (h : Only g a b) (i : Nat) (v : Value) : Only g a (b.setCell ⟨g, i, none⟩ v) :=
  h.trans ⟨rfl, rfl, rfl, by simp, fun k _ hk => heap_setCell_other b ⟨g, i, none⟩ k v (fun e => hk (by rw [e]))⟩
theorem Only.alloc {g : Nat} {a b : World} (h : Only g a b) (o : Obj) : Only g a (b.alloc o) := h.trans (World.grownBy_alloc _ _ _)
theorem Only.of_below {g : Nat} {a b : World} (h : Below a.heap.size a b) : Only g a b := ⟨h.os, h.tape, h.output, h.size, fun k hk _ => h.block k hk⟩
theorem Only.below {B : Nat} {w a b : World} {g : Nat} (h : Only g a b) (hB : Below B w a) (hBa : B ≤ a.heap.size) (hg : B ≤ g) : Below B w b :=
  hB.grown h hBa (fun k e => by injection e with e; omega)
theorem getD_app_l {l f : List Nat} {i : Nat} (h : i < l.length) : (l ++ f).getD i 0 = l.getD i 0 := by
  rw [List.getD_eq_getElem?_getD, List.getElem?_append_left h, List.getD_eq_getElem?_getD]
theorem set_app_l {l f : List Nat} {i : Nat} (h : i < l.length) (x : Nat) : (l ++ f).set i x = l.set i x ++ f := List.set_append_left _ _ h
theorem getD_setM (l : List Nat) (i j x : Nat) : (l.set i x).getD j 0 = if i = j ∧ j < l.length then x else l.getD j 0 := by
  simp only [List.getD_eq_getElem?_getD, List.getElem?_set]
  by_cases h : i = j
  · subst h
    by_cases h2 : i < l.length
    · simp [h2]
    · simp [h2]
  · simp [h]
abbrev ld (n : Nat) : Value := .int .u32 (n : Int)
def lsC (l : List Nat) : Array Value := (l.map ld).toArray
theorem lsC_size (l : List Nat) : (lsC l).size = l.length := by simp [lsC]
theorem lsC_get {l : List Nat} {i : Nat} (h : i < l.length) : (lsC l)[i]? = some (ld l[i]) := by simp [lsC, h]
theorem lsC_one (l : List Nat) : (lsC l).all (·.oneCell') = true := by simp [lsC, Value.oneCell']
/-- Block g holds a row of words, and may be written. -/
def Lar (w : World) (g : Nat) (t : TypeId) (l : List Nat) : Prop := w.heap[g]? = some (.cells (lsC l) t (0, 0))
theorem Lar.get {w : World} {g : Nat} {t : TypeId} {l : List Nat} (h : Lar w g t l) {i : Nat} (hi : i < l.length) : w.cell? ⟨g, i, none⟩ = some (ld l[i]) :=
  (cell_of_row w g i _ t (0, 0) h).trans (lsC_get hi)
theorem Lar.getD {w : World} {g : Nat} {t : TypeId} {l : List Nat} (h : Lar w g t l) {i : Nat} (hi : i < l.length) : w.cell? ⟨g, i, none⟩ = some (ld (l.getD i 0)) := by
  rw [h.get hi, List.getD_eq_getElem?_getD, List.getElem?_eq_getElem hi]; rfl
theorem Lar.free {w : World} {g : Nat} {t : TypeId} {l : List Nat} (h : Lar w g t l) (i : Nat) : w.frozen? ⟨g, i, none⟩ = false := frozen_of_row w g i _ t h
theorem Lar.lt {w : World} {g : Nat} {t : TypeId} {l : List Nat} (h : Lar w g t l) : g < w.heap.size := (Array.getElem?_eq_some_iff.1 h).1
theorem Lar.below {w w' : World} {B g : Nat} {t : TypeId} {l : List Nat} (h : Lar w g t l) (hb : Below B w w') (hg : g < B) : Lar w' g t l := (hb.block g hg).trans h
theorem Lar.heap {w w' : World} {g : Nat} {t : TypeId} {l : List Nat} (h : Lar w g t l) (hb : w'.heap = w.heap) : Lar w' g t l := by unfold Lar; rw [hb]; exact h
theorem Lar.drewN {w : World} {g : Nat} {t : TypeId} {l : List Nat} (h : Lar w g t l) (n : Nat) : Lar (w.drewN n) g t l := h
theorem Lar.drew {w : World} {g : Nat} {t : TypeId} {l : List Nat} (h : Lar w g t l) : Lar w.drew g t l := h
theorem Lar.alloc {w : World} {g : Nat} {t : TypeId} {l : List Nat} (h : Lar w g t l) (o : Obj) : Lar (w.alloc o) g t l := (Below.heap_alloc w o g h.lt).trans h
theorem Lar.new (w : World) (t : TypeId) (l : List Nat) : Lar (w.alloc (.cells (lsC l) t)) w.heap.size t l := heap_alloc_new w _
theorem Lar.set {w : World} {g : Nat} {t : TypeId} {l : List Nat} (h : Lar w g t l) (i x : Nat) : Lar (w.setCell ⟨g, i, none⟩ (ld x)) g t (l.set i x) := by
  have := heap_setCell_same w g i (lsC l) t (ld x) h
  unfold Lar
  rw [this]
  congr 2
  simp [lsC, List.map_set]
theorem Lar.other {w : World} {g : Nat} {t : TypeId} {l : List Nat} (h : Lar w g t l) {a : Addr} (ha : g ≠ a.block) (v : Value) : Lar (w.setCell a v) g t l := (heap_setCell_other w a g v ha).trans h
theorem Lar.row {w : World} {g : Nat} {t : TypeId} {l : List Nat} (h : Lar w g t l) (l' : List Nat) : Lar (w.setRow g (lsC l')) g t l' := setRow_heap w g _ _ t _ h
/-- 'a[i]' of a row by value. -/
theorem run_index_ls {P : Program} (w : World) (t e : TypeId) (n : Nat) (l : List Nat) (k : IntKind) (i : Nat) (h : P.underlying t = some (.array n e)) (hn : l.length = n) (hi : i < n) (hsz : (sizeOf e).run P w = .ok 1 w) (hag : (isAgg e).run P w = .ok false w) :
    (Instr.index t (.agg (lsC l)) (.int k (i : Int))).run P w = .ok (ld (l.getD i 0)) w := by
  have e1 : (0 : Int) ≤ (i : Int) ∧ (i : Int) < (n : Int) := by omega
  have hl : i < l.length := by omega
  have hg : l.getD i 0 = l[i] := by rw [List.getD_eq_getElem?_getD, List.getElem?_eq_getElem hl]; rfl
  rw [hg]
  simp [Instr.index, run_underlying h, asIntOf, e1, go_sem, lsC, hsz, hag, hi, hl]
theorem Lar.of_only {g k : Nat} {a b : World} (h : Only g a b) {t : TypeId} {l : List Nat} (hA : Lar a k t l) (hk : k ≠ g) : Lar b k t l := (h.block k hA.lt (fun e => hk (by injection e))).trans hA
theorem bstep {w W W' : World} (hB : Below w.heap.size w W) (h : Below W.heap.size W W') : Below w.heap.size w W' := hB.trans (h.mono hB.size)
theorem bstep1 {w W : World} {o : Obj} (hB : Below w.heap.size w W) : Below w.heap.size w (W.alloc o) := hB.alloc hB.size o
/-- A call in a world that has one more block, of one cell. -/
theorem pstep {W W' : World} {x : Value} {t : TypeId} (h : Below (W.alloc (.cells #[x] t)).heap.size (W.alloc (.cells #[x] t)) W') :
    W'.cell? ⟨W.heap.size, 0, none⟩ = some x ∧ Below W.heap.size W W' := by
  refine ⟨(h.cell (p := ⟨W.heap.size, 0, none⟩) (by simp)).trans ?_, ?_⟩
  · simp
  · exact (bstep1 (Below.refl _ _)).trans (h.mono (by simp))
theorem bel_of_drew {W W' : World} (h : Below W.drew.heap.size W.drew W') : Below W.heap.size W W' := (Below.refl _ W).drew.trans h
theorem ret_b {a b : Bool} (h : a = b) : Ending.returned (.bool a) = .returned (.bool b) := by rw [h]
/-- What a walk carries from world to world: old memory, and blocks that stay. -/
structure Wk (w W : World) (ps : List (Nat × Obj)) : Prop where
  b : Below w.heap.size w W
  k : ∀ x ∈ ps, W.heap[x.1]? = some x.2
theorem Wk.start {w : World} : Wk w w [] := ⟨Below.refl _ _, fun _ h => absurd h List.not_mem_nil⟩
theorem Wk.step {w W V : World} {ps : List (Nat × Obj)} (h : Wk w W ps) (hb : Below W.heap.size W V) : Wk w V ps :=
  ⟨bstep h.b hb, fun x hx => (hb.block x.1 (Array.getElem?_eq_some_iff.1 (h.k x hx)).1).trans (h.k x hx)⟩
theorem Wk.alloc {w W : World} {ps : List (Nat × Obj)} (h : Wk w W ps) (o : Obj) : Wk w (W.alloc o) ps := h.step ((Below.refl _ W).alloc (Nat.le_refl _) o)
theorem Wk.drew {w W : World} {ps : List (Nat × Obj)} (h : Wk w W ps) : Wk w W.drew ps := h.step ((Below.refl _ W).drew)
/-- A block of one cell beside what stays: its cell, behind a call. -/
theorem Wk.cell1 {w W V : World} {ps : List (Nat × Obj)} {x : Value} {t : TypeId} (h : Wk w W ps) (hb : Below (W.alloc (.cells #[x] t)).heap.size (W.alloc (.cells #[x] t)) V) : Wk w V ps ∧ V.cell? ⟨W.heap.size, 0, none⟩ = some x ∧ W.heap.size < V.heap.size :=
  ⟨h.step (pstep hb).2, (pstep hb).1, Nat.lt_of_lt_of_le (by simp) hb.size⟩
theorem Wk.keep1 {w W V : World} {ps : List (Nat × Obj)} {x : Value} {g : Nat} (h : Wk w W ps) (hp : W.cell? ⟨g, 0, none⟩ = some x) (hz : g < W.heap.size) (hb : Below W.heap.size W V) : Wk w V ps ∧ V.cell? ⟨g, 0, none⟩ = some x ∧ g < V.heap.size :=
  ⟨h.step hb, (hb.cell (p := ⟨g, 0, none⟩) hz).trans hp, Nat.lt_of_lt_of_le hz hb.size⟩
theorem Wk.cell2 {w W V : World} {ps : List (Nat × Obj)} {x : Value} {t : TypeId} (h : Wk w W ps) (hb : Below ((W.alloc (.cells #[x] t)).drew).heap.size ((W.alloc (.cells #[x] t)).drew) V) : Wk w V ps ∧ V.cell? ⟨W.heap.size, 0, none⟩ = some x ∧ W.heap.size < V.heap.size := h.cell1 (bel_of_drew hb)
abbrev by8 (b : UInt8) : Value := .int .u8 (b.toNat : Int)
/-- Octets lie in block g, and may be written. -/
def Oc (w : World) (g : Nat) (l : List UInt8) : Prop := ∀ j, j < l.length → w.cell? ⟨g, j, none⟩ = some (by8 (l.getD j 0)) ∧ w.frozen? ⟨g, j, none⟩ = false
theorem Oc.set {w : World} {g : Nat} {l : List UInt8} (h : Oc w g l) (k : Nat) (b : UInt8) : Oc (w.setCell ⟨g, k, none⟩ (by8 b)) g (l.set k b) := by
  intro j hj
  rw [List.length_set] at hj
  obtain ⟨h1, h2⟩ := h j hj
  by_cases e : k = j
  · subst e
    refine ⟨?_, by rw [World.frozen?_setCell]; exact h2⟩
    rw [World.cell?_setCell_same' _ _ _ (by rw [h1]; rfl), List.getD_eq_getElem?_getD, List.getElem?_set_self hj]; rfl
  · refine ⟨?_, by rw [World.frozen?_setCell]; exact h2⟩
    rw [List.getD_eq_getElem?_getD, List.getElem?_set_ne e, ← List.getD_eq_getElem?_getD, ← h1]
    exact World.cell?_setCell_other _ _ _ _ (by intro h; cases h; exact e rfl)
theorem Oc.other {w : World} {g : Nat} {l : List UInt8} (h : Oc w g l) {a : Addr} (ha : g ≠ a.block) (v : Value) : Oc (w.setCell a v) g l := by
  have hb : (w.setCell a v).heap[g]? = w.heap[g]? := heap_setCell_other w a g v ha
  intro j hj
  obtain ⟨h1, h2⟩ := h j hj
  exact ⟨(World.cell?_of_block (a := ⟨g, j, none⟩) hb).trans h1, (by rw [← h2]; unfold World.frozen?; rw [hb])⟩
theorem Oc.below {w V : World} {g : Nat} {l : List UInt8} (h : Oc w g l) (hb : Below w.heap.size w V) (hg : g < w.heap.size) : Oc V g l := fun j hj =>
  ⟨(hb.cell (p := ⟨g, j, none⟩) hg).trans (h j hj).1, (hb.frozen (p := ⟨g, j, none⟩) hg).trans (h j hj).2⟩
/-- A string's octets in a new row. -/
theorem bytes_made (s : ByteArray) (w : World) : ∃ cap W1, s.size ≤ cap ∧ (convert 9 54 (.string s)).run Tryz.prog w = .ok (.slice (some ⟨w.heap.size, 0, none⟩) s.size cap) W1 ∧ Oc W1 w.heap.size s.data.toList ∧ Below w.heap.size w W1 ∧ W1.heap.size = w.heap.size + 1 := by
  refine ⟨_, _, grownCap_ge _ _ _ _, Lib.run_convert_string_bytes w 9 54 5 s Tryz.underlying9 Tryz.underlying54 Tryz.underlying5, fun j hj => ⟨Lib.bytesWorld_cell w 5 s j hj, ?_⟩, ?_, Lib.bytesWorld_size w 5 s⟩
  · have hlt : j < (Lib.bytesCells w 5 s).size := by
      have hj' : j < s.data.size := hj
      unfold Lib.bytesCells; rw [Array.size_append, Array.size_map]; omega
    unfold World.frozen?
    dsimp only
    rw [Lib.bytesWorld_at_new]
    dsimp only
    rw [Bool.and_eq_false_iff]
    exact .inl (decide_eq_false (by omega))
  · exact ⟨rfl, rfl, rfl, by rw [Lib.bytesWorld_size]; omega, fun k hk => Lib.bytesWorld_at_old w 5 s k hk⟩
theorem Oc.only {w V : World} {g r : Nat} {l : List UInt8} (h : Oc w g l) (hg : w.grownBy V (some r)) (hr : g ≠ r) (hz : g < w.heap.size) : Oc V g l := fun j hj => by
  have hb := hg.block g hz (fun e => hr (by injection e))
  obtain ⟨h1, h2⟩ := h j hj
  exact ⟨(World.cell?_of_block (a := ⟨g, j, none⟩) hb).trans h1, (World.frozen?_of_block (a := ⟨g, j, none⟩) hb).trans h2⟩
theorem list_ext_getD {l m : List UInt8} (h : l.length = m.length) (hg : ∀ i, i < l.length → l.getD i 0 = m.getD i 0) : l = m := by
  apply List.ext_getElem h
  intro i h1 h2
  have := hg i h1
  rw [List.getD_eq_getElem?_getD, List.getD_eq_getElem?_getD, List.getElem?_eq_getElem h1, List.getElem?_eq_getElem h2] at this
  exact this
/-- The first n octets, at most. -/
theorem cut_m (s : ByteArray) (n : Nat) (y : Int) (hy : y = (n : Int)) : ∃ (m : Nat) (z : List UInt8), s.extract 0 m = bs z ∧ z.length ≤ n ∧ min (s.size : Int) y = (m : Int) ∧ (m : Int) ≤ (s.size : Int) := by
  subst hy
  refine ⟨min s.size n, (s.extract 0 (min s.size n)).data.toList, rfl, ?_, ?_, by omega⟩
  · have : (s.extract 0 (min s.size n)).size ≤ n := by rw [ByteArray.size_extract]; omega
    exact this
  · omega
theorem bs_idx (l : List UInt8) (i : Nat) (h : i < (bs l).size) : (bs l)[i] = l.getD i 0 := by
  rw [List.getD_eq_getElem?_getD, List.getElem?_eq_getElem (by rw [bs_size] at h; exact h)]; rfl
theorem Wk.drewN {w W : World} {ps : List (Nat × Obj)} (h : Wk w W ps) : ∀ n, Wk w (W.drewN n) ps
  | 0 => h
  | n + 1 => (h.drewN n).drew
theorem bs_append (a b : List UInt8) : bs (a ++ b) = bs a ++ bs b := by apply ByteArray.ext; simp [bs]
end Go.Proofs.YtjoogiabimiioaaGreatDoor
