/- Rows of octets, hexadecimal digits (layer 1, moved to this seat). -/
import Derived.Test.YtbadiljligcenaaDoorRows
import Derived.Handy
import Derived.IntWalk
import Derived.KernelRfl
import Derived.Deep.QuietTactic
import Derived.BigQuiet
import Derived.Lib.Hide
import Derived.Laws.IdiomStrings
import Derived.Deep.Draws
namespace Go.Proofs.YtbadiljligcenaaDoor
open Go.RowKit Go.ChangeShapes
theorem take_snoc (s : ByteArray) (k : Nat) (h : k < s.size) : s.data.toList.take (k + 1) = s.data.toList.take k ++ [s[k]] := by
  rw [List.take_succ_eq_append_getElem (by simpa using h)]; rfl
/-- The digit of a value below 16. -/
def dg (i : Nat) : Int := if i < 10 then 48 + i else 87 + i
theorem dg_range {i : Nat} (h : i < 16) : 48 ≤ dg i ∧ dg i ≤ 102 := by unfold dg; split <;> omega
/-- The table of digits lies where the program's text lays it. -/
def Digits (w : World) : Prop := 0 < w.heap.size ∧ ∀ i, i < 16 → w.cell? ⟨0, i, none⟩ = some (.int .u8 (dg i))
theorem Digits.below {w w' : World} (h : Digits w) (hb : Below w.heap.size w w') : Digits w' :=
  ⟨Nat.lt_of_lt_of_le h.1 hb.size, fun i hi => (hb.cell (p := ⟨0, i, none⟩) h.1).trans (h.2 i hi)⟩
theorem Digits.drew {w : World} (h : Digits w) : Digits w.drew := h
theorem Digits.drewN {w : World} (h : Digits w) (n : Nat) : Digits (w.drewN n) := h
theorem Digits.alloc {w : World} (h : Digits w) (o : Obj) : Digits (w.alloc o) := h.below ((Below.refl _ _).alloc (Nat.le_refl _) o)
/-- Octets as cells. -/
def byC (l : List UInt8) : List Value := l.map fun b => .int .u8 (b.toNat : Int)
theorem byC_append (l m : List UInt8) : byC l ++ byC m = byC (l ++ m) := by simp [byC]
theorem byC_length (l : List UInt8) : (byC l).length = l.length := by simp [byC]
theorem byC_get {l : List UInt8} {j : Nat} (hj : j < l.length) : (byC l)[j]? = some (.int .u8 (l[j].toNat : Int)) := by simp [byC, hj]
/-- The digit of a value below 16, as an octet. -/
def dgB (i : Nat) : UInt8 := UInt8.ofNat (dg i).toNat
theorem dgB_toNat {i : Nat} (h : i < 16) : ((dgB i).toNat : Int) = dg i := by
  have := dg_range h
  unfold dgB
  rw [UInt8.toNat_ofNat_of_lt' (by simp [UInt8.size]; omega)]
  omega
/-- The digits of octets. -/
def hexL (l : List UInt8) : List UInt8 := l.flatMap fun b => [dgB (b.toNat / 16), dgB (b.toNat % 16)]
theorem hexL_snoc (l : List UInt8) (b : UInt8) : hexL (l ++ [b]) = hexL l ++ [dgB (b.toNat / 16), dgB (b.toNat % 16)] := by simp [hexL]
theorem hexL_append (l m : List UInt8) : hexL (l ++ m) = hexL l ++ hexL m := by simp [hexL]
theorem hexL_length (l : List UInt8) : (hexL l).length = 2 * l.length := by
  induction l with
  | nil => rfl
  | cons b l ih => simp [hexL] at ih ⊢; omega
theorem string_of_own {w : World} {base : Nat} {v : Value} {l : List UInt8} (h : w.ownsRow base 5 1 v l.length (byC l)) : (convert 32 9 v).run Tryd.prog w = .ok (.string ⟨l.toArray⟩) w := by
  rcases h.2 with ⟨rfl, hn⟩ | ⟨g, cap, cur, rfl, _, hg, _, _, _, htake⟩
  · have hl : l = [] := List.eq_nil_of_length_eq_zero hn
    subst hl
    rw [run_convert_bytes_string w 32 9 5 none 0 0 Tryd.underlying32 Tryd.underlying5 Tryd.underlying9]
    simp [Conv.bytesToString]
    rfl
  · exact run_convert_bytes_back w 32 9 5 ⟨g, 0, none⟩ cap l Tryd.underlying32 Tryd.underlying5 Tryd.underlying9 fun j hj => h.cells (g := g) rfl j _ (byC_get hj)
end Go.Proofs.YtbadiljligcenaaDoor
