/- Plain facts: numbers in limbs of 51 bits, rests modulo 2^255 - 19. -/
import Derived.Handy
import Derived.IntWalk
import Derived.KernelRfl
namespace Go.Proofs.YtbadiljligcenaaDoor
open Go.RowKit

/-- The number of limbs. -/
def val : List Nat → Nat
  | [] => 0
  | x :: l => x + 2251799813685248 * val l
/-- The limbs of a number. -/
def dig : Nat → Nat → List Nat
  | 0, _ => []
  | n + 1, v => v % 2251799813685248 :: dig n (v / 2251799813685248)
theorem dig_length (n v : Nat) : (dig n v).length = n := by
  induction n generalizing v with
  | zero => rfl
  | succ n ih => simp [dig, ih]
theorem val_dig (n v : Nat) : val (dig n v) = v % 2251799813685248 ^ n := by
  induction n generalizing v with
  | zero => simp [dig, val, Nat.mod_one]
  | succ n ih =>
    rw [dig, val, ih, Nat.pow_succ', Nat.mod_mul]
theorem val_append (l m : List Nat) : val (l ++ m) = val l + 2251799813685248 ^ l.length * val m := by
  induction l with
  | nil => simp [val]
  | cons x l ih => rw [List.cons_append, val, val, ih, List.length_cons, Nat.pow_succ', Nat.mul_add, Nat.mul_assoc, Nat.add_assoc]
theorem val_set (l : List Nat) (i x y : Nat) (h : i < l.length) (hx : l.getD i 0 = x) : val (l.set i (x + y)) = val l + 2251799813685248 ^ i * y := by
  induction l generalizing i with
  | nil => exact absurd h (by simp)
  | cons a l ih =>
    cases i with
    | zero =>
      have e : a = x := hx
      subst e
      rw [List.set_cons_zero, val, val, Nat.pow_zero, Nat.one_mul]; omega
    | succ i =>
      rw [List.set_cons_succ, val, val, ih i (by simpa using h) (by simpa using hx), Nat.mul_add, ← Nat.mul_assoc, ← Nat.pow_succ', Nat.add_assoc]
theorem dig_snoc (n v : Nat) : dig (n + 1) v = dig n v ++ [v / 2251799813685248 ^ n % 2251799813685248] := by
  induction n generalizing v with
  | zero => simp [dig]
  | succ n ih => rw [dig, ih, dig, List.cons_append, Nat.div_div_eq_div_mul, ← Nat.pow_succ']
theorem dig_lo (n v : Nat) : dig n (v % 2251799813685248 ^ n) = dig n v := by
  induction n generalizing v with
  | zero => rfl
  | succ n ih =>
    rw [dig, dig, Nat.pow_succ', Nat.mod_mul_right_mod, Nat.mod_mul_right_div_self, ih]
theorem dig_get (n v i : Nat) (h : i < n) : (dig n v).getD i 0 = v / 2251799813685248 ^ i % 2251799813685248 := by
  induction n generalizing v i with
  | zero => exact absurd h (by omega)
  | succ n ih =>
    cases i with
    | zero => simp [dig]
    | succ i => rw [dig, List.getD_cons_succ, ih _ _ (by omega), Nat.div_div_eq_div_mul, ← Nat.pow_succ']
theorem val_lt (l : List Nat) (h : ∀ x ∈ l, x < 2251799813685248) : val l < 2251799813685248 ^ l.length := by
  induction l with
  | nil => simp [val]
  | cons a l ih =>
    have h1 := ih (fun x hx => h x (List.mem_cons_of_mem _ hx))
    have h2 := h a List.mem_cons_self
    rw [val, List.length_cons, Nat.pow_succ']
    omega
theorem val_le (l : List Nat) (b : Nat) (h : ∀ x ∈ l, x ≤ b) : val l ≤ b * val (List.replicate l.length 1) := by
  induction l with
  | nil => simp [val]
  | cons a l ih =>
    have h1 := ih (fun x hx => h x (List.mem_cons_of_mem _ hx))
    have h2 := h a List.mem_cons_self
    rw [val, List.length_cons, List.replicate_succ, val, Nat.mul_add, Nat.mul_one]
    have : 2251799813685248 * val l ≤ 2251799813685248 * (b * val (List.replicate l.length 1)) := Nat.mul_le_mul_left _ h1
    have e : b * (2251799813685248 * val (List.replicate l.length 1)) = 2251799813685248 * (b * val (List.replicate l.length 1)) := by rw [Nat.mul_left_comm]
    omega
theorem take_snocN (l : List Nat) (k : Nat) (h : k < l.length) : l.take (k + 1) = l.take k ++ [l.getD k 0] := by
  rw [List.take_succ_eq_append_getElem h, List.getD_eq_getElem?_getD, List.getElem?_eq_getElem h]; rfl
/-- What settling k limbs leaves, and what is carried. -/
def stl (l : List Nat) (k : Nat) : List Nat := dig k (val (l.take k)) ++ l.drop k
def ovr (l : List Nat) (k : Nat) : Nat := val (l.take k) / 2251799813685248 ^ k
theorem stl_zero (l : List Nat) : stl l 0 = l := by simp [stl, dig]
theorem ovr_zero (l : List Nat) : ovr l 0 = 0 := by simp [ovr, val]
theorem stl_length (l : List Nat) (k : Nat) (h : k ≤ l.length) : (stl l k).length = l.length := by simp [stl, dig_length]; omega
theorem stl_get (l : List Nat) (k : Nat) : (stl l k).getD k 0 = l.getD k 0 := by
  unfold stl
  rw [List.getD_eq_getElem?_getD, List.getElem?_append_right (by rw [dig_length]; exact Nat.le_refl _), dig_length, Nat.sub_self, List.getElem?_drop, List.getD_eq_getElem?_getD]; rfl
theorem stl_step (l : List Nat) (k : Nat) (h : k < l.length) : (stl l k).set k ((l.getD k 0 + ovr l k) % 2251799813685248) = stl l (k + 1) ∧ (l.getD k 0 + ovr l k) / 2251799813685248 = ovr l (k + 1) := by
  have hv : val (l.take (k + 1)) = val (l.take k) + 2251799813685248 ^ k * l.getD k 0 := by
    rw [take_snocN l k h, val_append, List.length_take, Nat.min_eq_left (by omega)]; simp [val]
  have hd : val (l.take (k + 1)) / 2251799813685248 ^ k = l.getD k 0 + ovr l k := by
    rw [hv, Nat.add_mul_div_left _ _ (Nat.pow_pos (by decide)), Nat.add_comm]; rfl
  constructor
  · unfold stl
    have hdr : l.drop k = l.getD k 0 :: l.drop (k + 1) := by
      rw [List.drop_eq_getElem_cons h, List.getD_eq_getElem?_getD, List.getElem?_eq_getElem h]; rfl
    rw [List.set_append_right _ _ (by rw [dig_length]; exact Nat.le_refl _), dig_length, Nat.sub_self, hdr, List.set_cons_zero, dig_snoc, hd, List.append_assoc, List.singleton_append]
    congr 1
    rw [← dig_lo k (val (l.take (k + 1))), hv, Nat.add_mul_mod_self_left, dig_lo]
  · unfold ovr
    rw [Nat.pow_succ, ← Nat.div_div_eq_div_mul, hd]; rfl
theorem ovr_lt (l : List Nat) (k B : Nat) (hB : ∀ x ∈ l, x ≤ B) : ovr l k ≤ B := by
  induction k with
  | zero => rw [ovr_zero]; exact Nat.zero_le _
  | succ k ih =>
    by_cases h : k < l.length
    · rw [← (stl_step l k h).2]
      have : l.getD k 0 ≤ B := by
        rw [List.getD_eq_getElem?_getD, List.getElem?_eq_getElem h]; exact hB _ (List.getElem_mem h)
      omega
    · have e : l.take (k + 1) = l.take k := by rw [List.take_of_length_le (by omega), List.take_of_length_le (by omega)]
      unfold ovr at ih ⊢
      rw [e, Nat.pow_succ, ← Nat.div_div_eq_div_mul]
      exact Nat.le_trans (Nat.div_le_self _ _) ih
/-- 2^130 and the limbs of a number below it. -/
def two255 : Nat := 57896044618658097711785492504343953926634992332820282019728792003956564819968
def pC : Nat := 57896044618658097711785492504343953926634992332820282019728792003956564819949
theorem pow5 : 2251799813685248 ^ 5 = two255 := by decide
def lm (v : Nat) : List Nat := dig 5 v
theorem lm_length (v : Nat) : (lm v).length = 5 := dig_length _ _
theorem val_lm (v : Nat) (h : v < two255) : val (lm v) = v := by rw [lm, val_dig, pow5, Nat.mod_eq_of_lt h]
theorem lm_lt (v : Nat) : ∀ x ∈ lm v, x < 2251799813685248 := by
  unfold lm
  simp only [dig, List.mem_cons, List.not_mem_nil, or_false]
  rintro x (h | h | h | h | h) <;> (subst h; exact Nat.mod_lt _ (by decide))
theorem settled (l : List Nat) (h : l.length = 5) : stl l 5 = lm (val l % two255) ∧ ovr l 5 = val l / two255 := by
  unfold stl ovr lm
  rw [List.take_of_length_le (by omega), List.drop_of_length_le (by omega), List.append_nil, ← pow5, dig_lo]
  exact ⟨rfl, rfl⟩
/-- A round of the rest: five times what is over. -/
theorem rest_round (v o : Nat) (ho : 0 < o) : (v + 19 * o) % pC = (v + o * two255) % pC ∧ v + 19 * o < v + o * two255 := by
  unfold two255 pC
  constructor <;> omega
theorem rest_end (v : Nat) (h : v < two255) : (if 0 < (v + 19) / two255 then (v + 19) % two255 else v) = v % pC := by
  unfold two255 pC at *
  split <;> omega
/-- The product by limbs: place k of 25, i = k / 5, j = k % 5. -/
def prodN (n f : List Nat) : Nat → List Nat
  | 0 => [0, 0, 0, 0, 0]
  | k + 1 => (prodN n f k).set ((k / 5 + k % 5) % 5) ((prodN n f k).getD ((k / 5 + k % 5) % 5) 0 + (if 5 ≤ k / 5 + k % 5 then 19 else 1) * (n.getD (k / 5) 0 * f.getD (k % 5) 0))
theorem prodN_length (n f : List Nat) (k : Nat) : (prodN n f k).length = 5 := by
  induction k with
  | zero => rfl
  | succ k ih => simp [prodN, ih]
/-- The sum of products of limbs, k of 25. -/
def sumN (n f : List Nat) : Nat → Nat
  | 0 => 0
  | k + 1 => sumN n f k + 2251799813685248 ^ (k / 5 + k % 5) * (n.getD (k / 5) 0 * f.getD (k % 5) 0)
theorem pow_fold (k : Nat) (h5 : 5 ≤ k) (h : k < 10) (x : Nat) : (2251799813685248 ^ (k % 5) * (19 * x)) % pC = (2251799813685248 ^ k * x) % pC := by
  have hk : k % 5 = k - 5 := by omega
  have e : 2251799813685248 ^ k = 2251799813685248 ^ (k - 5) * two255 := by rw [← pow5, ← Nat.pow_add]; congr 1; omega
  rw [hk, e, Nat.mul_assoc]
  generalize 2251799813685248 ^ (k - 5) = c
  have : two255 * x = 19 * x + pC * x := by unfold two255 pC; omega
  rw [this, Nat.mul_add, Nat.mul_left_comm c pC x, Nat.add_mul_mod_self_left]
theorem prodN_val (n f : List Nat) (k : Nat) (hk : k ≤ 25) : val (prodN n f k) % pC = sumN n f k % pC := by
  induction k with
  | zero => rfl
  | succ k ih =>
    have ih := ih (by omega)
    rw [prodN, val_set _ _ _ _ (by rw [prodN_length]; omega) rfl, sumN, Nat.add_mod, ih, Nat.add_mod (sumN n f k)]
    congr 2
    by_cases h : 5 ≤ k / 5 + k % 5
    · rw [if_pos h]; exact pow_fold _ h (by omega) _
    · rw [if_neg h, Nat.one_mul, Nat.mod_eq_of_lt (show k / 5 + k % 5 < 5 by omega)]
theorem sumN_full (n f : List Nat) (hn : n.length = 5) (hf : f.length = 5) : sumN n f 25 = val n * val f := by
  match n, hn, f, hf with
  | [a, b, c, d, e], _, [p, q, r, s, t], _ =>
    simp only [sumN, Nat.reduceDiv, Nat.reduceMod, Nat.reduceAdd, List.getD_cons_succ, List.getD_cons_zero, val, Nat.mul_zero, Nat.add_zero, Nat.zero_add, Nat.pow_zero, Nat.one_mul, Nat.reducePow]
    simp only [Nat.add_mul, Nat.mul_add, Nat.mul_assoc, Nat.mul_left_comm _ 2251799813685248 _]
    simp only [← Nat.mul_assoc 2251799813685248 2251799813685248, Nat.reduceMul, ← Nat.mul_assoc]
    omega
theorem prodN_le (n f : List Nat) (k N F : Nat) (hn : ∀ x ∈ n, x ≤ N) (hf : ∀ x ∈ f, x ≤ F) : ∀ x ∈ prodN n f k, x ≤ k * (19 * (N * F)) := by
  have g : ∀ (l : List Nat) (B i : Nat), (∀ x ∈ l, x ≤ B) → l.getD i 0 ≤ B := fun l B i h => by
    rw [List.getD_eq_getElem?_getD]
    by_cases hi : i < l.length
    · rw [List.getElem?_eq_getElem hi]; exact h _ (List.getElem_mem hi)
    · rw [List.getElem?_eq_none (by omega)]; exact Nat.zero_le _
  induction k with
  | zero => intro x hx; simp [prodN] at hx; omega
  | succ k ih =>
    intro x hx
    rw [prodN] at hx
    have h0 : k * (19 * (N * F)) ≤ (k + 1) * (19 * (N * F)) := Nat.mul_le_mul_right _ (by omega)
    rcases List.mem_or_eq_of_mem_set hx with h | rfl
    · exact Nat.le_trans (ih x h) h0
    · have h1 := g _ _ ((k / 5 + k % 5) % 5) ih
      have h2 : n.getD (k / 5) 0 * f.getD (k % 5) 0 ≤ N * F := Nat.mul_le_mul (g n N _ hn) (g f F _ hf)
      rw [Nat.add_mul, Nat.one_mul]
      generalize n.getD (k / 5) 0 * f.getD (k % 5) 0 = z at *
      split <;> omega
theorem prodN_top (n f : List Nat) (hn : n.length = 5) (hf : f.length = 5) (N F : Nat) (bn : ∀ x ∈ n, x ≤ N) (bf : ∀ x ∈ f, x ≤ F) : (prodN n f 25).getD 4 0 ≤ 5 * (N * F) := by
  match n, hn, f, hf with
  | [a, b, c, d, e], _, [p, q, r, s, t], _ =>
    have ba := bn a (by simp)
    have bb := bn b (by simp)
    have bc := bn c (by simp)
    have bd := bn d (by simp)
    have be := bn e (by simp)
    have bp := bf p (by simp)
    have bq := bf q (by simp)
    have br := bf r (by simp)
    have bs := bf s (by simp)
    have bt := bf t (by simp)
    have h1 := Nat.mul_le_mul ba bt
    have h2 := Nat.mul_le_mul bb bs
    have h3 := Nat.mul_le_mul bc br
    have h4 := Nat.mul_le_mul bd bq
    have h5 := Nat.mul_le_mul be bp
    have e1 : (prodN [a, b, c, d, e] [p, q, r, s, t] 25).getD 4 0 = a * t + b * s + c * r + d * q + e * p := by
      simp [prodN]
    rw [e1]
    omega
/-- The field's sums and differences, as the program makes them. -/
def sbN (a b : Nat) : Nat := a + 2 * pC - b
def muN (a b : Nat) : Nat := a * b % pC
theorem muN_lt (a b : Nat) : muN a b < pC := Nat.mod_lt _ (by decide)
/-- What a step makes of its numbers. -/
structure St where
  a : Nat
  b : Nat
  c : Nat
  d : Nat
def stepN (u : Nat) (x : St) : St :=
  let sum := x.a + x.b
  let dif := sbN x.a x.b
  let s := muN sum sum
  let m := muN dif dif
  let e := sbN s m
  let f := muN (sbN x.c x.d) sum
  let g := muN (x.c + x.d) dif
  ⟨muN s m, muN e (s + muN e 121665), muN (f + g) (f + g), muN u (muN (sbN f g) (sbN f g))⟩
def swapN (x : St) : St := ⟨x.c, x.d, x.a, x.b⟩
def roundN (u : Nat) (b : Bool) (x : St) : St := if b then swapN (stepN u (swapN x)) else stepN u x
/-- The bits of octets from the greatest one on, which itself is left out: k of them. -/
def bitN (s : List UInt8) (t : Nat) : Bool := (s.getD (t / 8) 0).toNat / 2 ^ (t % 8) % 2 == 1
def ladN (u : Nat) (s : List UInt8) : Nat → St
  | 0 => ⟨1, 0, u, 1⟩
  | k + 1 => roundN u (bitN s (254 - k)) (ladN u s k)
def powN (n : Nat) (s : List UInt8) : Nat → Nat
  | 0 => 1
  | k + 1 => if bitN s (254 - k) then muN (muN (powN n s k) (powN n s k)) n else muN (powN n s k) (powN n s k)
/-- The octets of p - 2. -/
def P2 : List UInt8 := 235 :: (List.replicate 30 255 ++ [127])
def quoN (x : St) : Nat := muN x.a (powN x.b P2 255)
/-- The clamped secret. -/
def clN (s : List UInt8) : List UInt8 := (s.set 0 (s.getD 0 0 &&& 248)).set 31 ((s.getD 31 0 &&& 127) ||| 64)
def resN (s : List UInt8) (u : Nat) : Nat := quoN (ladN u (clN s) 255)
end Go.Proofs.YtbadiljligcenaaDoor
