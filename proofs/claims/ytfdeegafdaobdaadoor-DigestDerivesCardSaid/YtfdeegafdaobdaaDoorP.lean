/- Plain facts: words of 32 bits, mixing, digests, codes, derived octets. -/
import Derived.Handy
import Derived.IntWalk
import Derived.KernelRfl
namespace Go.Proofs.YtfdeegafdaobdaaDoor
open Go.RowKit

/-- A word turned by k. -/
def rotr (x k : Nat) : Nat := (x * 2 ^ (32 - k) % 4294967296) ||| (x / 2 ^ k)
def ad (x y : Nat) : Nat := (x + y) % 4294967296
def isW (x : Nat) : Prop := x ≤ 4294967295

theorem lt_of_isW {x : Nat} (h : isW x) : x < 2 ^ 32 := by unfold isW at h; omega
theorem isW_of_lt {x : Nat} (h : x < 2 ^ 32) : isW x := by unfold isW; omega
theorem isW_or {a b : Nat} (ha : isW a) (hb : isW b) : isW (a ||| b) := isW_of_lt (Nat.or_lt_two_pow (lt_of_isW ha) (lt_of_isW hb))
theorem isW_and {a b : Nat} (_ha : isW a) (hb : isW b) : isW (a &&& b) := isW_of_lt (Nat.and_lt_two_pow a (lt_of_isW hb))
theorem isW_xor {a b : Nat} (ha : isW a) (hb : isW b) : isW (a ^^^ b) := isW_of_lt (Nat.xor_lt_two_pow (lt_of_isW ha) (lt_of_isW hb))
theorem isW_ad (a b : Nat) : isW (ad a b) := isW_of_lt (Nat.mod_lt _ (by decide))
theorem isW_div {a : Nat} (ha : isW a) (k : Nat) : isW (a / 2 ^ k) := Nat.le_trans (Nat.div_le_self _ _) ha
theorem isW_rotr {a : Nat} (ha : isW a) (k : Nat) : isW (rotr a k) := isW_or (isW_of_lt (Nat.mod_lt _ (by decide))) (isW_div ha k)
theorem isW_not (a : Nat) : isW (4294967295 - a) := by unfold isW; omega

theorem u32_back {n : Nat} (h : isW n) : IntKind.u32.wrap (n : Int) = n := IntWalk.u32_in _ (by unfold isW at h; omega)
theorem ofInt_w {n : Nat} (h : isW n) : (BitVec.ofInt 32 (n : Int)).toNat = n := by
  rw [BitVec.ofInt_natCast, BitVec.toNat_ofNat, Nat.mod_eq_of_lt (lt_of_isW h)]
theorem u32_or {a b : Nat} (ha : isW a) (hb : isW b) : bits .or .u32 (a : Int) (b : Int) = ((a ||| b : Nat) : Int) := by
  show IntKind.u32.wrap ((BitVec.ofInt 32 (a : Int) ||| BitVec.ofInt 32 (b : Int)).toNat : Int) = _
  rw [BitVec.toNat_or, ofInt_w ha, ofInt_w hb, u32_back (isW_or ha hb)]
theorem u32_and {a b : Nat} (ha : isW a) (hb : isW b) : bits .and .u32 (a : Int) (b : Int) = ((a &&& b : Nat) : Int) := by
  show IntKind.u32.wrap ((BitVec.ofInt 32 (a : Int) &&& BitVec.ofInt 32 (b : Int)).toNat : Int) = _
  rw [BitVec.toNat_and, ofInt_w ha, ofInt_w hb, u32_back (isW_and ha hb)]
theorem u32_xor {a b : Nat} (ha : isW a) (hb : isW b) : bits .xor .u32 (a : Int) (b : Int) = ((a ^^^ b : Nat) : Int) := by
  show IntKind.u32.wrap ((BitVec.ofInt 32 (a : Int) ^^^ BitVec.ofInt 32 (b : Int)).toNat : Int) = _
  rw [BitVec.toNat_xor, ofInt_w ha, ofInt_w hb, u32_back (isW_xor ha hb)]
theorem u32_add (a b : Nat) : IntKind.u32.wrap ((a : Int) + (b : Int)) = ((ad a b : Nat) : Int) := by
  rw [IntKind.wrap_u32]; unfold ad; omega

/-- Eight words. -/
structure W8 where
  (a b c d e f g h : Nat)
deriving DecidableEq
def W8.ok (s : W8) : Prop := (isW s.a ∧ isW s.b ∧ isW s.c ∧ isW s.d) ∧ (isW s.e ∧ isW s.f ∧ isW s.g ∧ isW s.h)
def bigE (e : Nat) : Nat := rotr e 6 ^^^ rotr e 11 ^^^ rotr e 25
def bigA (a : Nat) : Nat := rotr a 2 ^^^ rotr a 13 ^^^ rotr a 22
def chW (e f g : Nat) : Nat := (e &&& f) ^^^ ((4294967295 - e) &&& g)
def maj (a b c : Nat) : Nat := (a &&& b) ^^^ (a &&& c) ^^^ (b &&& c)
def stU (s : W8) (k : Nat) : Nat := s.h + bigE s.e + chW s.e s.f s.g + k
def stV (s : W8) : Nat := bigA s.a + maj s.a s.b s.c
def stepW (s : W8) (k : Nat) : W8 := ⟨ad (stU s k) (stV s), s.a, s.b, s.c, ad s.d (stU s k), s.e, s.f, s.g⟩
theorem bigE_w {e : Nat} (h : isW e) : bits .xor .u32 (bits .xor .u32 ((rotr e 6 : Nat) : Int) ((rotr e 11 : Nat) : Int)) ((rotr e 25 : Nat) : Int) = ((bigE e : Nat) : Int) := by
  rw [u32_xor (isW_rotr h _) (isW_rotr h _), u32_xor (isW_xor (isW_rotr h _) (isW_rotr h _)) (isW_rotr h _)]; rfl
theorem bigA_w {e : Nat} (h : isW e) : bits .xor .u32 (bits .xor .u32 ((rotr e 2 : Nat) : Int) ((rotr e 13 : Nat) : Int)) ((rotr e 22 : Nat) : Int) = ((bigA e : Nat) : Int) := by
  rw [u32_xor (isW_rotr h _) (isW_rotr h _), u32_xor (isW_xor (isW_rotr h _) (isW_rotr h _)) (isW_rotr h _)]; rfl
theorem not_w {e : Nat} (h : isW e) : bits .xor .u32 IntKind.u32.max (e : Int) = ((4294967295 - e : Nat) : Int) := by
  have h1 := u32_xor (a := 4294967295) (b := e) (by unfold isW; decide) h
  have h2 : 4294967295 ^^^ e = 4294967295 - e := by
    have h3 : (BitVec.allOnes 32 ^^^ BitVec.ofNat 32 e).toNat = 2 ^ 32 - 1 - (BitVec.ofNat 32 e).toNat := by
      rw [← BitVec.not_def, BitVec.toNat_not]
    rw [BitVec.toNat_xor, BitVec.toNat_allOnes, BitVec.toNat_ofNat, Nat.mod_eq_of_lt (lt_of_isW h)] at h3
    exact h3
  rw [h2] at h1
  exact h1
theorem chW_w {e f g : Nat} (he : isW e) (hf : isW f) (hg : isW g) : bits .xor .u32 (bits .and .u32 (e : Int) (f : Int)) (bits .and .u32 (bits .xor .u32 IntKind.u32.max (e : Int)) (g : Int)) = ((chW e f g : Nat) : Int) := by
  rw [not_w he, u32_and he hf, u32_and (isW_not e) hg, u32_xor (isW_and he hf) (isW_and (isW_not e) hg)]; rfl
theorem maj_w {a b c : Nat} (ha : isW a) (hb : isW b) (hc : isW c) : bits .xor .u32 (bits .xor .u32 (bits .and .u32 (a : Int) (b : Int)) (bits .and .u32 (a : Int) (c : Int))) (bits .and .u32 (b : Int) (c : Int)) = ((maj a b c : Nat) : Int) := by
  rw [u32_and ha hb, u32_and ha hc, u32_and hb hc, u32_xor (isW_and ha hb) (isW_and ha hc), u32_xor (isW_xor (isW_and ha hb) (isW_and ha hc)) (isW_and hb hc)]; rfl
theorem stepW_ok {s : W8} (h : s.ok) (k : Nat) : (stepW s k).ok := ⟨⟨isW_ad _ _, h.1.1, h.1.2.1, h.1.2.2.1⟩, ⟨isW_ad _ _, h.2.1, h.2.2.1, h.2.2.2.1⟩⟩
def smX (w : Nat) : Nat := rotr w 7 ^^^ rotr w 18 ^^^ (w / 2 ^ 3)
def smY (w : Nat) : Nat := rotr w 17 ^^^ rotr w 19 ^^^ (w / 2 ^ 10)

/-- The number that octets are, the greatest ones first. -/
def beN (l : List UInt8) : Nat := l.foldl (fun v c => v * 256 + c.toNat) 0
theorem beN_snoc (l : List UInt8) (c : UInt8) : beN (l ++ [c]) = beN l * 256 + c.toNat := by simp [beN]
theorem beN_from (l : List UInt8) : ∀ a : Nat, l.foldl (fun v (c : UInt8) => v * 256 + c.toNat) a < (a + 1) * 256 ^ l.length := by
  induction l with
  | nil => intro a; simp
  | cons c l ih =>
    intro a
    have h := ih (a * 256 + c.toNat)
    have hc := c.toNat_lt
    have hm : (a * 256 + c.toNat + 1) * 256 ^ l.length ≤ ((a + 1) * 256) * 256 ^ l.length := Nat.mul_le_mul_right _ (by omega)
    rw [List.foldl_cons, List.length_cons, Nat.pow_succ]
    rw [Nat.mul_assoc, Nat.mul_comm 256] at hm
    omega
theorem beN_lt (l : List UInt8) : beN l < 256 ^ l.length := by
  have := beN_from l 0
  simpa [beN] using this
/-- The n octets of which v is the number. -/
def beB (n v : Nat) : List UInt8 := (List.range n).map fun j => UInt8.ofNat (v / 256 ^ (n - 1 - j) % 256)
theorem beB_length (n v : Nat) : (beB n v).length = n := by simp [beB]

/-- The words that are mixed in for a block: the first n of them. -/
def nextW (l : List Nat) : Nat := ad (ad (ad (l.getD (l.length - 16) 0) (l.getD (l.length - 7) 0)) (smX (l.getD (l.length - 15) 0))) (smY (l.getD (l.length - 2) 0))
def firstW (b : List UInt8) (n : Nat) : List Nat := (List.range n).map fun t => beN ((b.drop (4 * t)).take 4)
def moreW : Nat → List Nat → List Nat
  | 0, l => l
  | n + 1, l => moreW n (l ++ [nextW l])
def spreadW (b : List UInt8) : List Nat := moreW 48 (firstW b 16)
theorem firstW_length (b : List UInt8) (n : Nat) : (firstW b n).length = n := by simp [firstW]
theorem firstW_succ (b : List UInt8) (n : Nat) : firstW b (n + 1) = firstW b n ++ [beN ((b.drop (4 * n)).take 4)] := by simp [firstW, List.range_succ]
theorem moreW_length (n : Nat) : ∀ l : List Nat, (moreW n l).length = l.length + n := by
  induction n with
  | zero => intro l; rfl
  | succ n ih => intro l; rw [moreW, ih]; simp; omega
theorem spreadW_length (b : List UInt8) : (spreadW b).length = 64 := by rw [spreadW, moreW_length, firstW_length]
theorem moreW_snoc (n : Nat) : ∀ l : List Nat, moreW (n + 1) l = moreW n l ++ [nextW (moreW n l)] := by
  induction n with
  | zero => intro l; rfl
  | succ n ih => intro l; rw [moreW, ih, ← moreW]
def AllW (l : List Nat) : Prop := ∀ x ∈ l, isW x
theorem AllW.snoc {l : List Nat} (h : AllW l) {x : Nat} (hx : isW x) : AllW (l ++ [x]) := by
  intro y hy
  rcases List.mem_append.1 hy with h1 | h1
  · exact h y h1
  · obtain rfl := List.mem_singleton.1 h1; exact hx
theorem AllW.get {l : List Nat} (h : AllW l) (i : Nat) : isW (l.getD i 0) := by
  rw [List.getD_eq_getElem?_getD]
  by_cases hi : i < l.length
  · rw [List.getElem?_eq_getElem hi]; exact h _ (List.getElem_mem hi)
  · rw [List.getElem?_eq_none (by omega)]; exact Nat.zero_le _
theorem isW_be4 {l : List UInt8} (h : l.length ≤ 4) : isW (beN l) := by
  have := beN_lt l
  have h2 : 256 ^ l.length ≤ 256 ^ 4 := Nat.pow_le_pow_right (by decide) h
  unfold isW; omega
theorem firstW_all (b : List UInt8) (n : Nat) : AllW (firstW b n) := by
  intro x hx
  obtain ⟨t, _, rfl⟩ := List.mem_map.1 hx
  exact isW_be4 (by simp; omega)
theorem moreW_all (n : Nat) : ∀ l : List Nat, AllW l → AllW (moreW n l) := by
  induction n with
  | zero => intro l h; exact h
  | succ n ih => intro l h; rw [moreW]; exact ih _ (h.snoc (isW_ad _ _))
theorem spreadW_all (b : List UInt8) : AllW (spreadW b) := moreW_all _ _ (firstW_all _ _)

/-- Mixing: t of the steps, and the whole. -/
def mixT (K sp : List Nat) (h : W8) : Nat → W8
  | 0 => h
  | t + 1 => stepW (mixT K sp h t) (ad (K.getD t 0) (sp.getD t 0))
def addW (h s : W8) : W8 := ⟨ad h.a s.a, ad h.b s.b, ad h.c s.c, ad h.d s.d, ad h.e s.e, ad h.f s.f, ad h.g s.g, ad h.h s.h⟩
def mixW (K : List Nat) (h : W8) (b : List UInt8) : W8 := addW h (mixT K (spreadW b) h 64)
theorem mixT_ok (K sp : List Nat) {h : W8} (hh : h.ok) : ∀ t, (mixT K sp h t).ok
  | 0 => hh
  | t + 1 => stepW_ok (mixT_ok K sp hh t) _
theorem addW_ok (h s : W8) : (addW h s).ok := ⟨⟨isW_ad _ _, isW_ad _ _, isW_ad _ _, isW_ad _ _⟩, ⟨isW_ad _ _, isW_ad _ _, isW_ad _ _, isW_ad _ _⟩⟩
/-- Block k of octets. -/
def blk (s : List UInt8) (k : Nat) : List UInt8 := (s.drop (64 * k)).take 64
def mixB (K : List Nat) (h : W8) (s : List UInt8) : Nat → W8
  | 0 => h
  | k + 1 => mixW K (mixB K h s k) (blk s k)
theorem mixB_ok (K : List Nat) {h : W8} (hh : h.ok) (s : List UInt8) : ∀ k, (mixB K h s k).ok
  | 0 => hh
  | _ + 1 => addW_ok _ _
/-- A digest that is being made. -/
structure HH where
  w : W8
  tail : List UInt8
  count : Nat
deriving DecidableEq
def moreH (K : List Nat) (h : HH) (s : List UInt8) : HH := ⟨mixB K h.w (h.tail ++ s) ((h.tail ++ s).length / 64), (h.tail ++ s).drop ((h.tail ++ s).length / 64 * 64), h.count + s.length⟩
def closeL (n : Nat) : List UInt8 := 128 :: (List.replicate ((119 - n % 64) % 64 + 1) 0 ++ beB 7 (8 * n))
def octW (s : W8) : List UInt8 := beB 4 s.a ++ beB 4 s.b ++ beB 4 s.c ++ beB 4 s.d ++ beB 4 s.e ++ beB 4 s.f ++ beB 4 s.g ++ beB 4 s.h
def endH (K : List Nat) (h : HH) : List UInt8 := octW (moreH K h (closeL h.count)).w
theorem octW_length (s : W8) : (octW s).length = 32 := by simp [octW, beB_length]
theorem endH_length (K : List Nat) (h : HH) : (endH K h).length = 32 := octW_length _

/-- The constants. -/
def KL : List Nat := [1116352408, 1899447441, 3049323471, 3921009573, 961987163, 1508970993, 2453635748, 2870763221, 3624381080, 310598401, 607225278, 1426881987, 1925078388, 2162078206, 2614888103, 3248222580, 3835390401, 4022224774, 264347078, 604807628, 770255983, 1249150122, 1555081692, 1996064986, 2554220882, 2821834349, 2952996808, 3210313671, 3336571891, 3584528711, 113926993, 338241895, 666307205, 773529912, 1294757372, 1396182291, 1695183700, 1986661051, 2177026350, 2456956037, 2730485921, 2820302411, 3259730800, 3345764771, 3516065817, 3600352804, 4094571909, 275423344, 430227734, 506948616, 659060556, 883997877, 958139571, 1322822218, 1537002063, 1747873779, 1955562222, 2024104815, 2227730452, 2361852424, 2428436474, 2756734187, 3204031479, 3329325298]
def IW : W8 := ⟨1779033703, 3144134277, 1013904242, 2773480762, 1359893119, 2600822924, 528734635, 1541459225⟩
theorem KL_length : KL.length = 64 := rfl
theorem KL_all : AllW KL := by unfold AllW isW; decide
theorem IW_ok : IW.ok := by unfold W8.ok isW; decide
def startH : HH := ⟨IW, [], 0⟩
def sumB (s : List UInt8) : List UInt8 := endH KL (moreH KL startH s)
def padK (k : List UInt8) (c : UInt8) : List UInt8 := (k ++ List.replicate (64 - k.length) 0).map (· ^^^ c)
def macB (k s : List UInt8) : List UInt8 :=
  let k' := if 64 < k.length then sumB k else k
  endH KL (moreH KL (moreH KL startH (padK k' 92)) (endH KL (moreH KL (moreH KL startH (padK k' 54)) s)))
theorem sumB_length (s : List UInt8) : (sumB s).length = 32 := endH_length _ _
theorem macB_length (k s : List UInt8) : (macB k s).length = 32 := endH_length _ _
end Go.Proofs.YtfdeegafdaobdaaDoor
