/- Plain facts on hexadecimal digits, and on rows of octets. -/
import Derived.Test.YtebaagmbnbbflaaDoorRows
import Derived.Test.YtebaagmbnbbflaaDoorP
import Derived.Handy
import Derived.Lib.Hide
import Derived.Laws.IdiomStrings
import Derived.Deep.Draws
namespace Go.Proofs.YtebaagmbnbbflaaDoor
open Go.RowKit

/-- The digit of a value below 16. -/
def dg (i : Nat) : Int := if i < 10 then 48 + i else 87 + i
theorem dg_range {i : Nat} (h : i < 16) : 48 ≤ dg i ∧ dg i ≤ 102 := by unfold dg; split <;> omega
/-- The table of digits lies where the program's text lays it. -/
def Digits (w : World) : Prop := 0 < w.heap.size ∧ ∀ i, i < 16 → w.cell? ⟨0, i, none⟩ = some (.int .u8 (dg i))
theorem Digits.below {w w' : World} (h : Digits w) (hb : Below w.heap.size w w') : Digits w' :=
  ⟨Nat.lt_of_lt_of_le h.1 hb.size, fun i hi => (hb.cell (p := ⟨0, i, none⟩) h.1).trans (h.2 i hi)⟩
theorem Digits.drew {w : World} (h : Digits w) : Digits w.drew := h
theorem Digits.drewN {w : World} (h : Digits w) (n : Nat) : Digits (w.drewN n) := h
theorem Digits.alloc {w : World} (h : Digits w) (o : Obj) : Digits (w.alloc o) := h.below ((Below.refl _ _).alloc (Nat.le_refl _) o)
def isDg (c : Int) : Bool := decide ((48 ≤ c ∧ c ≤ 57) ∨ (97 ≤ c ∧ c ≤ 102))
def vlDg (c : Int) : Int := if c ≤ 57 then c - 48 else c - 87
theorem isDg_iff (c : Int) : isDg c = true ↔ (48 ≤ c ∧ c ≤ 57) ∨ (97 ≤ c ∧ c ≤ 102) := by simp [isDg]
def dvV (c : Int) : Int := if isDg c = true then vlDg c else 0
theorem dvV_yes {c : Int} (h : isDg c = true) : dvV c = vlDg c := by simp [dvV, h]
theorem dvV_no {c : Int} (h : isDg c = false) : dvV c = 0 := by simp [dvV, h]
theorem dg_eq {i : Nat} (h : i < 16) (c : Int) (e : dg i = c) : isDg c = true ∧ vlDg c = i := by
  subst e
  rw [isDg_iff]
  unfold dg vlDg
  split <;> (split <;> omega)
theorem dg_all {c : Int} (h : ∀ j, j < 16 → dg j ≠ c) : isDg c = false := by
  rw [Bool.eq_false_iff]
  intro hc
  rcases (isDg_iff c).1 hc with ⟨h1, h2⟩ | ⟨h1, h2⟩
  · exact h (c - 48).toNat (by omega) (by unfold dg; rw [if_pos (by omega)]; omega)
  · exact h (c - 87).toNat (by omega) (by unfold dg; rw [if_neg (by omega)]; omega)

/-- Octets as cells. -/
def byC (l : List UInt8) : List Value := l.map fun b => .int .u8 (b.toNat : Int)
theorem byC_append (l m : List UInt8) : byC l ++ byC m = byC (l ++ m) := by simp [byC]
theorem byC_length (l : List UInt8) : (byC l).length = l.length := by simp [byC]
theorem byC_get {l : List UInt8} {j : Nat} (hj : j < l.length) : (byC l)[j]? = some (.int .u8 (l[j].toNat : Int)) := by simp [byC, hj]

/-- The digit of a value below 16, as an octet. -/
def dgB (i : Nat) : UInt8 := UInt8.ofNat (dg i).toNat
theorem dgB_toNat {i : Nat} (h : i < 16) : ((dgB i).toNat : Int) = dg i := by
  have := dg_range h
  unfold dgB
  rw [UInt8.toNat_ofNat_of_lt' (by simp [UInt8.size]; omega)]
  omega
/-- The digits of octets. -/
def hexL (l : List UInt8) : List UInt8 := l.flatMap fun b => [dgB (b.toNat / 16), dgB (b.toNat % 16)]
theorem hexL_snoc (l : List UInt8) (b : UInt8) : hexL (l ++ [b]) = hexL l ++ [dgB (b.toNat / 16), dgB (b.toNat % 16)] := by simp [hexL]
theorem hexL_append (l m : List UInt8) : hexL (l ++ m) = hexL l ++ hexL m := by simp [hexL]
theorem hexL_length (l : List UInt8) : (hexL l).length = 2 * l.length := by
  induction l with
  | nil => rfl
  | cons b l ih => simp [hexL] at ih ⊢; omega

/-- The n octets of which v is the number. -/
def beB (n v : Nat) : List UInt8 := (List.range n).map fun j => UInt8.ofNat (v / 256 ^ (n - 1 - j) % 256)
theorem beB_length (n v : Nat) : (beB n v).length = n := by simp [beB]
/-- The row behind i rounds of Put. -/
def cellB (n v i j : Nat) : UInt8 := if n ≤ j + i then UInt8.ofNat (v / 256 ^ (n - 1 - j) % 256) else 0
def rowB (n v i : Nat) : List UInt8 := (List.range n).map (cellB n v i)
theorem rowB_length (n v i : Nat) : (rowB n v i).length = n := by simp [rowB]
theorem rowB_at {n v i j : Nat} (h : j < (byC (rowB n v i)).length) : (byC (rowB n v i))[j] = .int .u8 ((cellB n v i j).toNat : Int) := by simp [byC, rowB]
theorem rowB_all (n v : Nat) : rowB n v n = beB n v := by
  unfold rowB beB
  apply List.map_congr_left
  intro j _
  unfold cellB
  rw [if_pos (by omega)]
theorem rowB_zero (n v : Nat) : byC (rowB n v 0) = List.replicate n (.int .u8 0) := by
  apply List.ext_getElem
  · simp [byC, rowB]
  · intro j h1 h2
    have hj : j < n := by simpa using h2
    rw [rowB_at h1, List.getElem_replicate]
    unfold cellB
    rw [if_neg (by omega)]
    rfl
theorem rowB_step (n v i : Nat) (h : i < n) : (byC (rowB n v i)).set (n - 1 - i) (.int .u8 ((v / 256 ^ i % 256 : Nat) : Int)) = byC (rowB n v (i + 1)) := by
  apply List.ext_getElem
  · simp [byC, rowB]
  · intro j h1 h2
    have hj : j < n := by simpa [byC, rowB] using h2
    rw [List.getElem_set, rowB_at h2]
    by_cases e : n - 1 - i = j
    · subst e
      have h4 : n - 1 - (n - 1 - i) = i := by omega
      have h5 : v / 256 ^ i % 256 < 256 := Nat.mod_lt _ (by decide)
      unfold cellB
      rw [if_pos rfl, if_pos (by omega), h4, UInt8.toNat_ofNat_of_lt' (by simp [UInt8.size]; omega)]
    · rw [if_neg e, rowB_at]
      unfold cellB
      by_cases c : n ≤ j + i
      · rw [if_pos c, if_pos (by omega)]
      · rw [if_neg c, if_neg (by omega)]

theorem pow_8 (n : Nat) : (2 : Int) ^ (8 * n) = ((256 ^ n : Nat) : Int) := by
  rw [Int.pow_mul]; simp [Int.natCast_pow]
theorem div_8 (v n : Nat) : (v : Int) / 2 ^ (8 * n) = ((v / 256 ^ n : Nat) : Int) := by rw [pow_8]; rfl
theorem big_yes {v n : Nat} (h : 256 ^ n ≤ v) : ((v : Int) / 2 ^ (8 * n) != 0) = true := by
  rw [div_8]
  have h0 : 0 < v / 256 ^ n := Nat.div_pos h (Nat.pow_pos (by decide))
  generalize v / 256 ^ n = q at h0 ⊢
  simp; omega
theorem big_no {v n : Nat} (h : v < 256 ^ n) : ((v : Int) / 2 ^ (8 * n) != 0) = false := by
  rw [div_8, Nat.div_eq_of_lt h]; rfl
theorem byte_8 (v i : Nat) : IntKind.u8.wrap ((v : Int) / 2 ^ (8 * i)) = ((v / 256 ^ i % 256 : Nat) : Int) := by
  rw [div_8, IntKind.wrap_u8']; rfl

/-- What Unhex makes of a text. -/
def tAt (s : ByteArray) (k : Nat) : Nat := (s.data.toList.getD k 0).toNat
theorem tAt_eq (s : ByteArray) (k : Nat) (h : k < s.size) : s[k].toNat = tAt s k := by
  unfold tAt
  rw [List.getD_eq_getElem?_getD, List.getElem?_eq_getElem (by simpa using h)]
  rfl
theorem tAt_lt (s : ByteArray) (k : Nat) : tAt s k < 256 := UInt8.toNat_lt _
theorem idx_run (s : ByteArray) (k : Nat) (i : Int) (hi : i = (k : Int)) (h : k < s.size) (w : World) : (Instr.index 9 (.string s) (.int .i64 i)).run Tryd.prog w = .ok (.int .u8 (tAt s k : Int)) w := by
  subst hi
  rw [run_index_string w 9 s .i64 _ Tryd.underlying9, dif_pos ⟨by omega, by omega⟩]
  simp only [Int.toNat_natCast]
  rw [tAt_eq s k h]
def pairOk (s : ByteArray) (k : Nat) : Prop := isDg (tAt s (2 * k)) = true ∧ isDg (tAt s (2 * k + 1)) = true
def okUn (s : ByteArray) : Prop := s.size % 2 = 0 ∧ ∀ k, k < s.size / 2 → pairOk s k
def unB (s : ByteArray) (k : Nat) : UInt8 := UInt8.ofNat ((vlDg (tAt s (2 * k))).toNat * 16 + (vlDg (tAt s (2 * k + 1))).toNat)
def unL (s : ByteArray) (n : Nat) : List UInt8 := (List.range n).map (unB s)
theorem unL_length (s : ByteArray) (n : Nat) : (unL s n).length = n := by simp [unL]
theorem unL_succ (s : ByteArray) (n : Nat) : unL s (n + 1) = unL s n ++ [unB s n] := by simp [unL, List.range_succ]
open Classical in
noncomputable def unRes (s : ByteArray) : Value := if okUn s then .tuple #[.string ⟨(unL s (s.size / 2)).toArray⟩, .int .i64 0] else .tuple #[.string ByteArray.empty, .int .i64 5]
theorem unRes_yes {s : ByteArray} (h : okUn s) : unRes s = .tuple #[.string ⟨(unL s (s.size / 2)).toArray⟩, .int .i64 0] := by simp [unRes, h]
theorem unRes_no {s : ByteArray} (h : ¬ okUn s) : unRes s = .tuple #[.string ByteArray.empty, .int .i64 5] := by simp [unRes, h]
theorem vlDg_range {c : Int} (h : isDg c = true) : 0 ≤ vlDg c ∧ vlDg c < 16 := by
  have := (isDg_iff c).1 h
  unfold vlDg
  split <;> omega
theorem i64_or0 (x : Nat) (hx : x < 16) : bits .or .i64 0 (x : Int) = (x : Int) := by
  show IntKind.i64.wrap ((BitVec.ofInt 64 0 ||| BitVec.ofInt 64 (x : Int)).toNat : Int) = _
  rw [BitVec.toNat_or, BitVec.ofInt_natCast, show BitVec.ofInt 64 0 = 0#64 from rfl, BitVec.toNat_ofNat, BitVec.toNat_ofNat, Nat.mod_eq_of_lt (by omega : x < 2 ^ 64)]
  simp
  exact IntWalk.i64_in _ ⟨by omega, by omega⟩
theorem i64_or16 (x y : Nat) (hx : x < 16) (hy : y < 16) : bits .or .i64 ((x : Int) * 16) (y : Int) = (x : Int) * 16 + y := by
  have e : (x : Int) * 16 = ((x * 16 : Nat) : Int) := by rw [Int.natCast_mul]; rfl
  rw [e]
  show IntKind.i64.wrap ((BitVec.ofInt 64 ((x * 16 : Nat) : Int) ||| BitVec.ofInt 64 (y : Int)).toNat : Int) = _
  rw [BitVec.toNat_or, BitVec.ofInt_natCast, BitVec.ofInt_natCast, BitVec.toNat_ofNat, BitVec.toNat_ofNat, Nat.mod_eq_of_lt (by omega), Nat.mod_eq_of_lt (by omega)]
  rw [show x * 16 ||| y = x * 16 + y from nat_join 4 (x * 16) y (by omega) (by omega)]
  exact IntWalk.i64_in _ ⟨by omega, by omega⟩
theorem unB_toNat {s : ByteArray} {k x y : Nat} (hx : vlDg (tAt s (2 * k)) = x) (hy : vlDg (tAt s (2 * k + 1)) = y) (h1 : x < 16) (h2 : y < 16) : ((unB s k).toNat : Int) = (x : Int) * 16 + y := by
  unfold unB
  rw [hx, hy, Int.toNat_natCast, Int.toNat_natCast, UInt8.toNat_ofNat_of_lt' (by simp [UInt8.size]; omega)]
  omega

theorem string_of_own {w : World} {base : Nat} {v : Value} {l : List UInt8} (h : w.ownsRow base 5 1 v l.length (byC l)) : (convert 56 9 v).run Tryd.prog w = .ok (.string ⟨l.toArray⟩) w := by
  rcases h.2 with ⟨rfl, hn⟩ | ⟨g, cap, cur, rfl, _, hg, _, _, _, htake⟩
  · have hl : l = [] := List.eq_nil_of_length_eq_zero hn
    subst hl
    rw [run_convert_bytes_string w 56 9 5 none 0 0 Tryd.underlying56 Tryd.underlying5 Tryd.underlying9]
    simp [Conv.bytesToString]
    rfl
  · exact run_convert_bytes_back w 56 9 5 ⟨g, 0, none⟩ cap l Tryd.underlying56 Tryd.underlying5 Tryd.underlying9 fun j hj => h.cells (g := g) rfl j _ (byC_get hj)
end Go.Proofs.YtebaagmbnbbflaaDoor
