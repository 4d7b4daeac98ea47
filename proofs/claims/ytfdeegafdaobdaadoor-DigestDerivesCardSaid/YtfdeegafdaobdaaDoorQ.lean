/- Rows of octets, hexadecimal digits (layer 1, moved to this seat). -/
import Derived.Test.YtfdeegafdaobdaaDoorA
import Derived.Lib.Hide
import Derived.Laws.IdiomStrings
import Derived.Deep.Draws
namespace Go.Proofs.YtfdeegafdaobdaaDoor
open Go.RowKit Go.ChangeShapes
theorem take_snoc (s : ByteArray) (k : Nat) (h : k < s.size) : s.data.toList.take (k + 1) = s.data.toList.take k ++ [s[k]] := by
  rw [List.take_succ_eq_append_getElem (by simpa using h)]; rfl
theorem i64_or_byte (v c : Nat) (hv : v ≤ 36028797018963967) (hc : c < 256) : bits .or .i64 (((v * 256 : Nat)) : Int) (c : Int) = ((v * 256 + c : Nat) : Int) := by
  show IntKind.i64.wrap ((BitVec.ofInt 64 (((v * 256 : Nat)) : Int) ||| BitVec.ofInt 64 (c : Int)).toNat : Int) = _
  rw [BitVec.toNat_or, BitVec.ofInt_natCast, BitVec.ofInt_natCast, BitVec.toNat_ofNat, BitVec.toNat_ofNat, Nat.mod_eq_of_lt (by omega), Nat.mod_eq_of_lt (by omega)]
  rw [show v * 256 ||| c = v * 256 + c from nat_join 8 (v * 256) c (by omega) (by omega)]
  exact IntWalk.i64_in _ ⟨by omega, by omega⟩
/-- The digit of a value below 16. -/
def dg (i : Nat) : Int := if i < 10 then 48 + i else 87 + i
theorem dg_range {i : Nat} (h : i < 16) : 48 ≤ dg i ∧ dg i ≤ 102 := by unfold dg; split <;> omega
/-- The table of digits lies where the program's text lays it. -/
def Digits (w : World) : Prop := 0 < w.heap.size ∧ ∀ i, i < 16 → w.cell? ⟨0, i, none⟩ = some (.int .u8 (dg i))
theorem Digits.below {w w' : World} (h : Digits w) (hb : Below w.heap.size w w') : Digits w' :=
  ⟨Nat.lt_of_lt_of_le h.1 hb.size, fun i hi => (hb.cell (p := ⟨0, i, none⟩) h.1).trans (h.2 i hi)⟩
theorem Digits.drew {w : World} (h : Digits w) : Digits w.drew := h
theorem Digits.drewN {w : World} (h : Digits w) (n : Nat) : Digits (w.drewN n) := h
theorem Digits.alloc {w : World} (h : Digits w) (o : Obj) : Digits (w.alloc o) := h.below ((Below.refl _ _).alloc (Nat.le_refl _) o)
/-- Octets as cells. -/
def byC (l : List UInt8) : List Value := l.map fun b => .int .u8 (b.toNat : Int)
theorem byC_append (l m : List UInt8) : byC l ++ byC m = byC (l ++ m) := by simp [byC]
theorem byC_length (l : List UInt8) : (byC l).length = l.length := by simp [byC]
theorem byC_get {l : List UInt8} {j : Nat} (hj : j < l.length) : (byC l)[j]? = some (.int .u8 (l[j].toNat : Int)) := by simp [byC, hj]
/-- The digit of a value below 16, as an octet. -/
def dgB (i : Nat) : UInt8 := UInt8.ofNat (dg i).toNat
theorem dgB_toNat {i : Nat} (h : i < 16) : ((dgB i).toNat : Int) = dg i := by
  have := dg_range h
  unfold dgB
  rw [UInt8.toNat_ofNat_of_lt' (by simp [UInt8.size]; omega)]
  omega
/-- The digits of octets. -/
def hexL (l : List UInt8) : List UInt8 := l.flatMap fun b => [dgB (b.toNat / 16), dgB (b.toNat % 16)]
theorem hexL_snoc (l : List UInt8) (b : UInt8) : hexL (l ++ [b]) = hexL l ++ [dgB (b.toNat / 16), dgB (b.toNat % 16)] := by simp [hexL]
theorem hexL_append (l m : List UInt8) : hexL (l ++ m) = hexL l ++ hexL m := by simp [hexL]
theorem hexL_length (l : List UInt8) : (hexL l).length = 2 * l.length := by
  induction l with
  | nil => rfl
  | cons b l ih => simp [hexL] at ih ⊢; omega
/-- The row behind i rounds of Put. -/
def cellB (n v i j : Nat) : UInt8 := if n ≤ j + i then UInt8.ofNat (v / 256 ^ (n - 1 - j) % 256) else 0
def rowB (n v i : Nat) : List UInt8 := (List.range n).map (cellB n v i)
theorem rowB_length (n v i : Nat) : (rowB n v i).length = n := by simp [rowB]
theorem rowB_at {n v i j : Nat} (h : j < (byC (rowB n v i)).length) : (byC (rowB n v i))[j] = .int .u8 ((cellB n v i j).toNat : Int) := by simp [byC, rowB]
theorem rowB_all (n v : Nat) : rowB n v n = beB n v := by
  unfold rowB beB
  apply List.map_congr_left
  intro j _
  unfold cellB
  rw [if_pos (by omega)]
theorem rowB_zero (n v : Nat) : byC (rowB n v 0) = List.replicate n (.int .u8 0) := by
  apply List.ext_getElem
  · simp [byC, rowB]
  · intro j h1 h2
    have hj : j < n := by simpa using h2
    rw [rowB_at h1, List.getElem_replicate]
    unfold cellB
    rw [if_neg (by omega)]
    rfl
theorem rowB_step (n v i : Nat) (h : i < n) : (byC (rowB n v i)).set (n - 1 - i) (.int .u8 ((v / 256 ^ i % 256 : Nat) : Int)) = byC (rowB n v (i + 1)) := by
  apply List.ext_getElem
  · simp [byC, rowB]
  · intro j h1 h2
    have hj : j < n := by simpa [byC, rowB] using h2
    rw [List.getElem_set, rowB_at h2]
    by_cases e : n - 1 - i = j
    · subst e
      have h4 : n - 1 - (n - 1 - i) = i := by omega
      have h5 : v / 256 ^ i % 256 < 256 := Nat.mod_lt _ (by decide)
      unfold cellB
      rw [if_pos rfl, if_pos (by omega), h4, UInt8.toNat_ofNat_of_lt' (by simp [UInt8.size]; omega)]
    · rw [if_neg e, rowB_at]
      unfold cellB
      by_cases c : n ≤ j + i
      · rw [if_pos c, if_pos (by omega)]
      · rw [if_neg c, if_neg (by omega)]
theorem pow_8 (n : Nat) : (2 : Int) ^ (8 * n) = ((256 ^ n : Nat) : Int) := by
  rw [Int.pow_mul]; simp [Int.natCast_pow]
theorem div_8 (v n : Nat) : (v : Int) / 2 ^ (8 * n) = ((v / 256 ^ n : Nat) : Int) := by rw [pow_8]; rfl
theorem big_yes {v n : Nat} (h : 256 ^ n ≤ v) : ((v : Int) / 2 ^ (8 * n) != 0) = true := by
  rw [div_8]
  have h0 : 0 < v / 256 ^ n := Nat.div_pos h (Nat.pow_pos (by decide))
  generalize v / 256 ^ n = q at h0 ⊢
  simp; omega
theorem big_no {v n : Nat} (h : v < 256 ^ n) : ((v : Int) / 2 ^ (8 * n) != 0) = false := by
  rw [div_8, Nat.div_eq_of_lt h]; rfl
theorem byte_8 (v i : Nat) : IntKind.u8.wrap ((v : Int) / 2 ^ (8 * i)) = ((v / 256 ^ i % 256 : Nat) : Int) := by
  rw [div_8, IntKind.wrap_u8']; rfl
theorem string_of_own {w : World} {base : Nat} {v : Value} {l : List UInt8} (h : w.ownsRow base 5 1 v l.length (byC l)) : (convert 65 9 v).run Tryd.prog w = .ok (.string ⟨l.toArray⟩) w := by
  rcases h.2 with ⟨rfl, hn⟩ | ⟨g, cap, cur, rfl, _, hg, _, _, _, htake⟩
  · have hl : l = [] := List.eq_nil_of_length_eq_zero hn
    subst hl
    rw [run_convert_bytes_string w 65 9 5 none 0 0 Tryd.underlying65 Tryd.underlying5 Tryd.underlying9]
    simp [Conv.bytesToString]
    rfl
  · exact run_convert_bytes_back w 65 9 5 ⟨g, 0, none⟩ cap l Tryd.underlying65 Tryd.underlying5 Tryd.underlying9 fun j hj => h.cells (g := g) rfl j _ (byC_get hj)
end Go.Proofs.YtfdeegafdaobdaaDoor
