/- Octets in memory; what the blocks change; the errors of Apply. -/
import Derived.Test.YtnfefkcfifnjnaaDoorZB
import Derived.Lib.ConvBytes
namespace Go.Proofs.YtnfefkcfifnjnaaDoor
open Go.RowKit Go.ChangeShapes
abbrev by8 (b : UInt8) : Value := .int .u8 (b.toNat : Int)
/-- Octets lie in block g, and may be written. -/
def Oc (w : World) (g : Nat) (l : List UInt8) : Prop := ∀ j, j < l.length → w.cell? ⟨g, j, none⟩ = some (by8 (l.getD j 0)) ∧ w.frozen? ⟨g, j, none⟩ = false
theorem Oc.set {w : World} {g : Nat} {l : List UInt8} (h : Oc w g l) (k : Nat) (b : UInt8) : Oc (w.setCell ⟨g, k, none⟩ (by8 b)) g (l.set k b) := by
  intro j hj
  rw [List.length_set] at hj
  obtain ⟨h1, h2⟩ := h j hj
  by_cases e : k = j
  · subst e
    refine ⟨?_, by rw [World.frozen?_setCell]; exact h2⟩
    rw [World.cell?_setCell_same' _ _ _ (by rw [h1]; rfl), List.getD_eq_getElem?_getD, List.getElem?_set_self hj]; rfl
  · refine ⟨?_, by rw [World.frozen?_setCell]; exact h2⟩
    rw [List.getD_eq_getElem?_getD, List.getElem?_set_ne e, ← List.getD_eq_getElem?_getD, ← h1]
    exact World.cell?_setCell_other _ _ _ _ (by intro h; cases h; exact e rfl)
theorem u8_xor (a b : UInt8) : bits .xor .u8 (a.toNat : Int) (b.toNat : Int) = ((a ^^^ b).toNat : Int) := by
  show IntKind.u8.wrap ((BitVec.ofInt 8 (a.toNat : Int) ^^^ BitVec.ofInt 8 (b.toNat : Int)).toNat : Int) = _
  have ha := a.toNat_lt
  have hb := b.toNat_lt
  rw [BitVec.toNat_xor, BitVec.ofInt_natCast, BitVec.ofInt_natCast, BitVec.toNat_ofNat, BitVec.toNat_ofNat, Nat.mod_eq_of_lt (by omega), Nat.mod_eq_of_lt (by omega), UInt8.toNat_xor]
  have : a.toNat ^^^ b.toNat < 2 ^ 8 := Nat.xor_lt_two_pow ha hb
  rw [IntKind.wrap_u8']
  omega
theorem Oc.other {w : World} {g : Nat} {l : List UInt8} (h : Oc w g l) {a : Addr} (ha : g ≠ a.block) (v : Value) : Oc (w.setCell a v) g l := by
  have hb : (w.setCell a v).heap[g]? = w.heap[g]? := heap_setCell_other w a g v ha
  intro j hj
  obtain ⟨h1, h2⟩ := h j hj
  exact ⟨(World.cell?_of_block (a := ⟨g, j, none⟩) hb).trans h1, (by rw [← h2]; unfold World.frozen?; rw [hb])⟩
theorem Oc.below {w V : World} {g : Nat} {l : List UInt8} (h : Oc w g l) (hb : Below w.heap.size w V) (hg : g < w.heap.size) : Oc V g l := fun j hj =>
  ⟨(hb.cell (p := ⟨g, j, none⟩) hg).trans (h j hj).1, (hb.frozen (p := ⟨g, j, none⟩) hg).trans (h j hj).2⟩
/-- A string's octets in a new row. -/
theorem bytes_made (s : ByteArray) (w : World) : ∃ cap W1, s.size ≤ cap ∧ (convert 9 25 (.string s)).run Tryd.prog w = .ok (.slice (some ⟨w.heap.size, 0, none⟩) s.size cap) W1 ∧ Oc W1 w.heap.size s.data.toList ∧ Below w.heap.size w W1 ∧ W1.heap.size = w.heap.size + 1 := by
  refine ⟨_, _, grownCap_ge _ _ _ _, Lib.run_convert_string_bytes w 9 25 5 s Tryd.underlying9 Tryd.underlying25 Tryd.underlying5, fun j hj => ⟨Lib.bytesWorld_cell w 5 s j hj, ?_⟩, ?_, Lib.bytesWorld_size w 5 s⟩
  · have hlt : j < (Lib.bytesCells w 5 s).size := by
      have hj' : j < s.data.size := hj
      unfold Lib.bytesCells; rw [Array.size_append, Array.size_map]; omega
    unfold World.frozen?
    dsimp only
    rw [Lib.bytesWorld_at_new]
    dsimp only
    rw [Bool.and_eq_false_iff]
    exact .inl (decide_eq_false (by omega))
  · exact ⟨rfl, rfl, rfl, by rw [Lib.bytesWorld_size]; omega, fun k hk => Lib.bytesWorld_at_old w 5 s k hk⟩
theorem Oc.only {w V : World} {g r : Nat} {l : List UInt8} (h : Oc w g l) (hg : w.grownBy V (some r)) (hr : g ≠ r) (hz : g < w.heap.size) : Oc V g l := fun j hj => by
  have hb := hg.block g hz (fun e => hr (by injection e))
  obtain ⟨h1, h2⟩ := h j hj
  exact ⟨(World.cell?_of_block (a := ⟨g, j, none⟩) hb).trans h1, (World.frozen?_of_block (a := ⟨g, j, none⟩) hb).trans h2⟩
/-- The first m octets of s are changed by those of t. -/
def xorC (s t : List UInt8) (m : Nat) : List UInt8 := (List.range s.length).map fun i => if i < m then s.getD i 0 ^^^ t.getD i 0 else s.getD i 0
theorem xorC_length (s t : List UInt8) (m : Nat) : (xorC s t m).length = s.length := by simp [xorC]
theorem xorC_get (s t : List UInt8) (m i : Nat) (h : i < s.length) : (xorC s t m).getD i 0 = if i < m then s.getD i 0 ^^^ t.getD i 0 else s.getD i 0 := by
  simp [xorC, List.getD_eq_getElem?_getD, h]
theorem list_ext_getD {l m : List UInt8} (h : l.length = m.length) (hg : ∀ i, i < l.length → l.getD i 0 = m.getD i 0) : l = m := by
  apply List.ext_getElem h
  intro i h1 h2
  have := hg i h1
  rw [List.getD_eq_getElem?_getD, List.getD_eq_getElem?_getD, List.getElem?_eq_getElem h1, List.getElem?_eq_getElem h2] at this
  exact this
theorem xorC_zero (s t : List UInt8) : xorC s t 0 = s := list_ext_getD (xorC_length _ _ _) fun i hi => by
  rw [xorC_length] at hi
  rw [xorC_get _ _ _ _ hi, if_neg (by omega)]
theorem xorC_step (s t : List UInt8) (m : Nat) (h : m < s.length) : (xorC s t m).set m ((xorC s t m).getD m 0 ^^^ t.getD m 0) = xorC s t (m + 1) := by
  apply list_ext_getD
  · rw [List.length_set, xorC_length, xorC_length]
  · intro i hi
    rw [List.length_set, xorC_length] at hi
    rw [xorC_get _ _ _ _ hi, xorC_get _ _ _ _ h, if_neg (by omega)]
    by_cases e : m = i
    · subst e
      rw [List.getD_eq_getElem?_getD, List.getElem?_set_self (by rw [xorC_length]; exact h), if_pos (by omega)]
      rfl
    · rw [List.getD_eq_getElem?_getD, List.getElem?_set_ne e, ← List.getD_eq_getElem?_getD, xorC_get _ _ _ _ hi]
      by_cases c : i < m
      · rw [if_pos c, if_pos (by omega)]
      · rw [if_neg c, if_neg (by omega)]
theorem xorC_app (s t u : List UInt8) (m : Nat) (h : m ≤ t.length) : xorC s (t ++ u) m = xorC s t m := by
  apply list_ext_getD
  · rw [xorC_length, xorC_length]
  · intro i hi
    rw [xorC_length] at hi
    rw [xorC_get _ _ _ _ hi, xorC_get _ _ _ _ hi]
    by_cases c : i < m
    · rw [if_pos c, if_pos c, List.getD_eq_getElem?_getD (l := t ++ u), List.getElem?_append_left (by omega), ← List.getD_eq_getElem?_getD]
    · rw [if_neg c, if_neg c]
theorem xorC_full (s t : List UInt8) (m : Nat) (h : s.length ≤ m) : xorC s t m = xorC s t s.length := by
  apply list_ext_getD
  · rw [xorC_length, xorC_length]
  · intro i hi
    rw [xorC_length] at hi
    rw [xorC_get _ _ _ _ hi, xorC_get _ _ _ _ hi, if_pos (by omega), if_pos hi]
/-- The blocks that have come, one behind the other. -/
def cat (pre : List Blk) : List UInt8 := pre.flatMap fun x => x.1.data.toList
theorem cat_snoc (pre : List Blk) (x : Blk) : cat (pre ++ [x]) = cat pre ++ x.1.data.toList := by simp [cat]
theorem cat_length (pre : List Blk) : (cat pre).length = 64 * pre.length := by
  induction pre with
  | nil => rfl
  | cons x pre ih =>
    have hx : x.1.data.toList.length = 64 := x.2
    show (x.1.data.toList ++ cat pre).length = _
    rw [List.length_append, hx, ih, List.length_cons]
    omega
theorem cat_get (pre : List Blk) (x : Blk) (j : Nat) (h : j < 64) : (cat (pre ++ [x])).getD (64 * pre.length + j) 0 = x.1.data.toList.getD j 0 := by
  rw [cat_snoc, List.getD_eq_getElem?_getD, List.getElem?_append_right (by rw [cat_length]; omega), cat_length, Nat.add_sub_cancel_left, ← List.getD_eq_getElem?_getD]
theorem cat_blks (f : List Nat) : ∀ (n : Nat) (xs : List Blk), xs.map (·.1) = blksF f n → ∀ i, i < 64 * n → (cat xs).getD i 0 = (blockW (stF f (i / 64))).getD (i % 64) 0 := by
  intro n xs h i hi
  have hl : xs.length = n := by have := congrArg List.length h; simpa [blksF] using this
  have hk : i / 64 < xs.length := by omega
  have e : (xs[i / 64]'hk).1 = bs (blockW (stF f (i / 64))) := by
    have h1 : (xs.map (·.1))[i / 64]? = some (xs[i / 64]'hk).1 := by simp [hk]
    rw [h] at h1
    have h2 : (blksF f n)[i / 64]? = some (bs (blockW (stF f (i / 64)))) := by rw [blksF, List.getElem?_map, List.getElem?_range (by omega)]; rfl
    exact Option.some.inj (h1.symm.trans h2)
  have e2 : xs = (xs.take (i / 64) ++ [xs[i / 64]'hk]) ++ xs.drop (i / 64 + 1) := by
    rw [← List.take_succ_eq_append_getElem hk, List.take_append_drop]
  have e3 : (xs.take (i / 64)).length = i / 64 := by rw [List.length_take]; omega
  have g := cat_get (xs.take (i / 64)) (xs[i / 64]'hk) (i % 64) (Nat.mod_lt _ (by decide))
  rw [e3, show 64 * (i / 64) + i % 64 = i by omega, e] at g
  have e4 : cat xs = cat (xs.take (i / 64) ++ [xs[i / 64]'hk]) ++ cat (xs.drop (i / 64 + 1)) := by
    conv => lhs; rw [e2]
    exact List.flatMap_append
  rw [e4, List.getD_eq_getElem?_getD, List.getElem?_append_left (by rw [cat_length, List.length_append, e3]; simp; omega), ← List.getD_eq_getElem?_getD, g]
  rfl
/-- What has been applied at last. -/
theorem xorC_app0 (k n : List UInt8) (c : Nat) (s : List UInt8) (N : Nat) (xs : List Blk) (h : xs.map (·.1) = blksF (beginW k n c) N) (hN : s.length ≤ 64 * N) (hc : c + N ≤ 4294967296 ∨ N = 0) : xorC s (cat xs) (64 * N) = appO k n c s := by
  rw [xorC_full _ _ _ hN]
  apply list_ext_getD
  · rw [xorC_length, appO_length]
  · intro i hi
    rw [xorC_length] at hi
    rw [xorC_get _ _ _ _ hi, if_pos hi, cat_blks _ N xs h i (by omega)]
    have e : stF (beginW k n c) (i / 64) = beginW k n (c + i / 64) := by
      unfold stF
      rw [beginW_12, beginW_next]
      unfold ad
      rw [Nat.mod_eq_of_lt (by omega)]
    rw [e]
    simp [appO, appN, strB, blockO, List.getD_eq_getElem?_getD, hi]
set_option maxRecDepth 100000 in
set_option maxHeartbeats 1000000 in
theorem apply_arg (s t : ByteArray) (c : Int) (u : ByteArray) (w : World) (hg : good s t c = false) :
    Calls Tryd.prog 23 #[.string s, .string t, .int .i64 c, .string u] w fun e w' => e = .returned (.tuple #[.string ⟨#[]⟩, .int .i64 2]) ∧ w = w' := by
  have HV := Lib.hid fun w => verify_no s t c w hg
  clear hg
  go_enter Tryd.func23, Tryd.ntmps23
  go_wp2_with (go_at_call 49; (with_reducible refine (HV.out _).mono ?_); rintro e V ⟨rfl, rfl⟩)
  go_ret2
  exact ⟨rfl, rfl⟩
set_option maxRecDepth 100000 in
set_option maxHeartbeats 1000000 in
theorem apply_long (s t : ByteArray) (c : Int) (u : ByteArray) (w : World) (hu : u.size ≤ 140737488355328) (hg : good s t c = true) (hl : 4096 < u.size) :
    Calls Tryd.prog 23 #[.string s, .string t, .int .i64 c, .string u] w fun e w' => e = .returned (.tuple #[.string ⟨#[]⟩, .int .i64 3]) ∧ w = w' := by
  have HV := Lib.hid fun w => verify_yes s t c w hg
  clear hg
  go_enter Tryd.func23, Tryd.ntmps23
  go_wp2_with (go_at_call 49; (with_reducible refine (HV.out _).mono ?_); rintro e V ⟨rfl, rfl⟩)
  go_ret2
  exact ⟨rfl, rfl⟩
set_option maxRecDepth 100000 in
set_option maxHeartbeats 1000000 in
theorem apply_big (s t : ByteArray) (c : Nat) (u : ByteArray) (w : World) (hg : good s t c = true) (hl : u.size ≤ 4096) (hb : 4294967296 < c + (u.size + 63) / 64) (hc : c ≤ 4294967295) :
    Calls Tryd.prog 23 #[.string s, .string t, .int .i64 (c : Int), .string u] w fun e w' => e = .returned (.tuple #[.string ⟨#[]⟩, .int .i64 6]) ∧ w = w' := by
  have HV := Lib.hid fun w => verify_yes s t c w hg
  clear hg
  obtain ⟨q, hq⟩ : ∃ q, (u.size + 63) / 64 = q := ⟨_, rfl⟩
  have q1 : ((u.size : Int) + 63) / 64 = (q : Int) := by omega
  have hb1 : 4294967295 < (c : Int) + (q : Int) - 1 := by omega
  have hq2 : (q : Int) ≤ 64 := by omega
  have hc2 : (c : Int) ≤ 4294967295 := by omega
  have hl2 : (u.size : Int) ≤ 4096 := by omega
  clear hq hb hc hl
  go_enter Tryd.func23, Tryd.ntmps23
  go_wp2_with (go_at_call 49; (with_reducible refine (HV.out _).mono ?_); rintro e V ⟨rfl, rfl⟩)
  go_ret2
  exact ⟨rfl, rfl⟩
end Go.Proofs.YtnfefkcfifnjnaaDoor
