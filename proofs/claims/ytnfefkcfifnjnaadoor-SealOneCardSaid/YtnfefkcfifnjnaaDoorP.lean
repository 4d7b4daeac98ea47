/- Plain facts: words of 32 bits, quarter rounds, blocks, the stream. -/
import Derived.Handy
import Derived.IntWalk
import Derived.KernelRfl
namespace Go.Proofs.YtnfefkcfifnjnaaDoor
open Go.RowKit

/-- A word turned up by k. -/
def rotl (x k : Nat) : Nat := (x * 2 ^ k % 4294967296) ||| (x / 2 ^ (32 - k))
def ad (x y : Nat) : Nat := (x + y) % 4294967296
def isW (x : Nat) : Prop := x ≤ 4294967295
theorem lt_of_isW {x : Nat} (h : isW x) : x < 2 ^ 32 := by unfold isW at h; omega
theorem isW_of_lt {x : Nat} (h : x < 2 ^ 32) : isW x := by unfold isW; omega
theorem isW_or {a b : Nat} (ha : isW a) (hb : isW b) : isW (a ||| b) := isW_of_lt (Nat.or_lt_two_pow (lt_of_isW ha) (lt_of_isW hb))
theorem isW_xor {a b : Nat} (ha : isW a) (hb : isW b) : isW (a ^^^ b) := isW_of_lt (Nat.xor_lt_two_pow (lt_of_isW ha) (lt_of_isW hb))
theorem isW_ad (a b : Nat) : isW (ad a b) := isW_of_lt (Nat.mod_lt _ (by decide))
theorem isW_div {a : Nat} (ha : isW a) (k : Nat) : isW (a / 2 ^ k) := Nat.le_trans (Nat.div_le_self _ _) ha
theorem isW_rotl {a : Nat} (ha : isW a) (k : Nat) : isW (rotl a k) := isW_or (isW_of_lt (Nat.mod_lt _ (by decide))) (isW_div ha _)
theorem isW_zero : isW 0 := Nat.zero_le _
theorem u32_back {n : Nat} (h : isW n) : IntKind.u32.wrap (n : Int) = n := IntWalk.u32_in _ (by unfold isW at h; omega)
theorem ofInt_w {n : Nat} (h : isW n) : (BitVec.ofInt 32 (n : Int)).toNat = n := by
  rw [BitVec.ofInt_natCast, BitVec.toNat_ofNat, Nat.mod_eq_of_lt (lt_of_isW h)]
theorem u32_or {a b : Nat} (ha : isW a) (hb : isW b) : bits .or .u32 (a : Int) (b : Int) = ((a ||| b : Nat) : Int) := by
  show IntKind.u32.wrap ((BitVec.ofInt 32 (a : Int) ||| BitVec.ofInt 32 (b : Int)).toNat : Int) = _
  rw [BitVec.toNat_or, ofInt_w ha, ofInt_w hb, u32_back (isW_or ha hb)]
theorem u32_xor {a b : Nat} (ha : isW a) (hb : isW b) : bits .xor .u32 (a : Int) (b : Int) = ((a ^^^ b : Nat) : Int) := by
  show IntKind.u32.wrap ((BitVec.ofInt 32 (a : Int) ^^^ BitVec.ofInt 32 (b : Int)).toNat : Int) = _
  rw [BitVec.toNat_xor, ofInt_w ha, ofInt_w hb, u32_back (isW_xor ha hb)]
theorem u32_add (a b : Nat) : IntKind.u32.wrap ((a : Int) + (b : Int)) = ((ad a b : Nat) : Int) := by
  rw [IntKind.wrap_u32]; unfold ad; omega

/-- Four words. -/
structure Q4 where
  (a b c d : Nat)
def Q4.ok (s : Q4) : Prop := isW s.a ∧ isW s.b ∧ isW s.c ∧ isW s.d
def qrA (s : Q4) (k m : Nat) : Q4 :=
  ⟨ad s.a s.b, rotl (s.b ^^^ ad s.c (rotl (s.d ^^^ ad s.a s.b) k)) m, ad s.c (rotl (s.d ^^^ ad s.a s.b) k), rotl (s.d ^^^ ad s.a s.b) k⟩
def qr (s : Q4) : Q4 := qrA (qrA s 16 12) 8 7
theorem qrA_ok {s : Q4} (h : s.ok) (k m : Nat) : (qrA s k m).ok :=
  ⟨isW_ad _ _, isW_rotl (isW_xor h.2.1 (isW_ad _ _)) _, isW_ad _ _, isW_rotl (isW_xor h.2.2.2 (isW_ad _ _)) _⟩
theorem qr_ok {s : Q4} (h : s.ok) : (qr s).ok := qrA_ok (qrA_ok h _ _) _ _
/-- A quarter round of the words at four places. -/
def at4 (l : List Nat) (a b c d : Nat) : Q4 := ⟨l.getD a 0, l.getD b 0, l.getD c 0, l.getD d 0⟩
def put4 (l : List Nat) (a b c d : Nat) (q : Q4) : List Nat := (((l.set a q.a).set b q.b).set c q.c).set d q.d
def qrL (l : List Nat) (a b c d : Nat) : List Nat := put4 l a b c d (qr (at4 l a b c d))
theorem put4_length (l : List Nat) (a b c d : Nat) (q : Q4) : (put4 l a b c d q).length = l.length := by simp [put4]
theorem qrL_length (l : List Nat) (a b c d : Nat) : (qrL l a b c d).length = l.length := put4_length _ _ _ _ _ _
def AllW (l : List Nat) : Prop := ∀ x ∈ l, isW x
theorem AllW.set {l : List Nat} (h : AllW l) (i : Nat) {x : Nat} (hx : isW x) : AllW (l.set i x) := fun y hy => by
  rcases List.mem_or_eq_of_mem_set hy with h1 | rfl
  · exact h y h1
  · exact hx
theorem AllW.get {l : List Nat} (h : AllW l) (i : Nat) : isW (l.getD i 0) := by
  rw [List.getD_eq_getElem?_getD]
  by_cases hi : i < l.length
  · rw [List.getElem?_eq_getElem hi]; exact h _ (List.getElem_mem hi)
  · rw [List.getElem?_eq_none (by omega)]; exact Nat.zero_le _
theorem AllW.append {l m : List Nat} (h : AllW l) (h2 : AllW m) : AllW (l ++ m) := fun x hx => (List.mem_append.1 hx).elim (h x) (h2 x)
theorem at4_ok {l : List Nat} (h : AllW l) (a b c d : Nat) : (at4 l a b c d).ok := ⟨h.get _, h.get _, h.get _, h.get _⟩
theorem put4_all {l : List Nat} (h : AllW l) (a b c d : Nat) {q : Q4} (hq : q.ok) : AllW (put4 l a b c d q) := (((h.set _ hq.1).set _ hq.2.1).set _ hq.2.2.1).set _ hq.2.2.2
theorem qrL_all {l : List Nat} (h : AllW l) (a b c d : Nat) : AllW (qrL l a b c d) := put4_all h _ _ _ _ (qr_ok (at4_ok h _ _ _ _))
/-- Quarter rounds at a list of places. -/
structure P4 where
  (a b c d : Nat)
def P4.lt (p : P4) (n : Nat) : Prop := p.a < n ∧ p.b < n ∧ p.c < n ∧ p.d < n
def qrs (l : List Nat) (ps : List P4) : List Nat := ps.foldl (fun l p => qrL l p.a p.b p.c p.d) l
theorem qrs_snoc (l : List Nat) (ps : List P4) (p : P4) : qrs l (ps ++ [p]) = qrL (qrs l ps) p.a p.b p.c p.d := by simp [qrs]
theorem qrs_length (ps : List P4) : ∀ l : List Nat, (qrs l ps).length = l.length := by
  induction ps with
  | nil => intro l; rfl
  | cons p ps ih => intro l; exact (ih _).trans (qrL_length _ _ _ _ _)
theorem qrs_all (ps : List P4) : ∀ l : List Nat, AllW l → AllW (qrs l ps) := by
  induction ps with
  | nil => intro l h; exact h
  | cons p ps ih => intro l h; exact ih _ (qrL_all h _ _ _ _)
def colP : List P4 := [⟨0, 4, 8, 12⟩, ⟨1, 5, 9, 13⟩, ⟨2, 6, 10, 14⟩, ⟨3, 7, 11, 15⟩]
def diaP : List P4 := [⟨0, 5, 10, 15⟩, ⟨1, 6, 11, 12⟩, ⟨2, 7, 8, 13⟩, ⟨3, 4, 9, 14⟩]
def roundL (l : List Nat) : List Nat := qrs (qrs l colP) diaP
theorem roundL_length (l : List Nat) : (roundL l).length = l.length := (qrs_length _ _).trans (qrs_length _ _)
theorem roundL_all {l : List Nat} (h : AllW l) : AllW (roundL l) := qrs_all _ _ (qrs_all _ _ h)
def rounds : Nat → List Nat → List Nat
  | 0, l => l
  | n + 1, l => roundL (rounds n l)
theorem rounds_length (n : Nat) (l : List Nat) : (rounds n l).length = l.length := by
  induction n with
  | zero => rfl
  | succ n ih => exact (roundL_length _).trans ih
theorem rounds_all {l : List Nat} (h : AllW l) (n : Nat) : AllW (rounds n l) := by
  induction n with
  | zero => exact h
  | succ n ih => exact roundL_all ih
/-- The first k of the words that were there at first are added. -/
def addN (f : List Nat) : Nat → List Nat → List Nat
  | 0, l => l
  | k + 1, l => (addN f k l).set k (ad ((addN f k l).getD k 0) (f.getD k 0))
theorem addN_length (f : List Nat) (k : Nat) (l : List Nat) : (addN f k l).length = l.length := by
  induction k with
  | zero => rfl
  | succ k ih => simp [addN, ih]
theorem addN_all (f : List Nat) (k : Nat) {l : List Nat} (h : AllW l) : AllW (addN f k l) := by
  induction k with
  | zero => exact h
  | succ k ih => exact ih.set _ (isW_ad _ _)
/-- Octet i of words, the least one of each first. -/
def octB (l : List Nat) (i : Nat) : UInt8 := UInt8.ofNat (l.getD (i / 4) 0 / 2 ^ (8 * (i % 4)) % 256)
def octN (l : List Nat) (n : Nat) : List UInt8 := (List.range n).map (octB l)
theorem octN_length (l : List Nat) (n : Nat) : (octN l n).length = n := by simp [octN]
theorem octN_succ (l : List Nat) (n : Nat) : octN l (n + 1) = octN l n ++ [octB l n] := by simp [octN, List.range_succ]
/-- Octets go into words that are 0: k of them. -/
def fillK (l : List Nat) (p : Nat) (s : List UInt8) : Nat → List Nat
  | 0 => l
  | k + 1 => (fillK l p s k).set (p + k / 4) ((fillK l p s k).getD (p + k / 4) 0 ||| (s.getD k 0).toNat * 2 ^ (8 * (k % 4)))
theorem fillK_length (l : List Nat) (p : Nat) (s : List UInt8) (k : Nat) : (fillK l p s k).length = l.length := by
  induction k with
  | zero => rfl
  | succ k ih => simp [fillK, ih]
theorem oct_w (c : UInt8) (k : Nat) : isW (c.toNat * 2 ^ (8 * (k % 4))) := by
  have h := c.toNat_lt
  have h2 : 2 ^ (8 * (k % 4)) ≤ 2 ^ 24 := Nat.pow_le_pow_right (by decide) (by omega)
  unfold isW
  have := Nat.mul_le_mul (show c.toNat ≤ 255 by omega) h2
  omega
theorem fillK_all {l : List Nat} (h : AllW l) (p : Nat) (s : List UInt8) (k : Nat) : AllW (fillK l p s k) := by
  induction k with
  | zero => exact h
  | succ k ih => exact ih.set _ (isW_or (ih.get _) (oct_w _ _))
def expL : List UInt8 := [101, 120, 112, 97, 110, 100, 32, 51, 50, 45, 98, 121, 116, 101, 32, 107]
def zeroL : List Nat := List.replicate 16 0
theorem zeroL_all : AllW zeroL := fun x hx => by rw [(List.mem_replicate.1 hx).2]; exact isW_zero
def beginW (k n : List UInt8) (c : Nat) : List Nat := fillK ((fillK (fillK zeroL 0 expL 16) 4 k 32).set 12 c) 13 n 12
theorem beginW_length (k n : List UInt8) (c : Nat) : (beginW k n c).length = 16 := by simp [beginW, fillK_length, zeroL]
theorem beginW_all (k n : List UInt8) {c : Nat} (hc : isW c) : AllW (beginW k n c) := fillK_all ((fillK_all (fillK_all zeroL_all _ _ _) _ _ _).set _ hc) _ _ _
theorem fillK_set12 (l : List Nat) (x : Nat) (s : List UInt8) (k : Nat) : fillK (l.set 12 x) 13 s k = (fillK l 13 s k).set 12 x := by
  induction k with
  | zero => rfl
  | succ k ih =>
    have e : ((fillK l 13 s k).set 12 x).getD (13 + k / 4) 0 = (fillK l 13 s k).getD (13 + k / 4) 0 := by
      rw [List.getD_eq_getElem?_getD, List.getD_eq_getElem?_getD, List.getElem?_set_ne (by omega)]
    rw [fillK, fillK, ih, e, List.set_comm _ _ (by omega)]
theorem beginW_next (k n : List UInt8) (c d : Nat) : (beginW k n c).set 12 d = beginW k n d := by
  unfold beginW
  rw [fillK_set12, fillK_set12, List.set_set]
theorem beginW_12 (k n : List UInt8) (c : Nat) : (beginW k n c).getD 12 0 = c := by
  have h : ((fillK (fillK (fillK zeroL 0 expL 16) 4 k 32) 13 n 12).set 12 c).getD 12 0 = c := by
    rw [List.getD_eq_getElem?_getD, List.getElem?_set_self (by simp [fillK_length, zeroL])]; rfl
  unfold beginW
  rw [fillK_set12]
  exact h
/-- The block of the words that are there at first. -/
def blockW (f : List Nat) : List UInt8 := octN (addN f 16 (rounds 10 f)) 64
theorem blockW_length (f : List Nat) : (blockW f).length = 64 := octN_length _ _
def blockO (k n : List UInt8) (c : Nat) : List UInt8 := blockW (beginW k n c)
theorem blockO_length (k n : List UInt8) (c : Nat) : (blockO k n c).length = 64 := blockW_length _
/-- The octets that are changed by the stream. -/
def strB (k n : List UInt8) (c i : Nat) : UInt8 := (blockO k n (c + i / 64)).getD (i % 64) 0
def appN (k n : List UInt8) (c : Nat) (s : List UInt8) (m : Nat) : List UInt8 := (List.range m).map fun i => s.getD i 0 ^^^ strB k n c i
def appO (k n : List UInt8) (c : Nat) (s : List UInt8) : List UInt8 := appN k n c s s.length
theorem appN_length (k n : List UInt8) (c : Nat) (s : List UInt8) (m : Nat) : (appN k n c s m).length = m := by simp [appN]
theorem appO_length (k n : List UInt8) (c : Nat) (s : List UInt8) : (appO k n c s).length = s.length := appN_length _ _ _ _ _
theorem appN_succ (k n : List UInt8) (c : Nat) (s : List UInt8) (m : Nat) : appN k n c s (m + 1) = appN k n c s m ++ [s.getD m 0 ^^^ strB k n c m] := by simp [appN, List.range_succ]
end Go.Proofs.YtnfefkcfifnjnaaDoor
