/- Plain facts: numbers in 16 digits to the base 65536; rows of integers in memory. -/
import Derived.Test.YtbadiljligcenaaDoorFC
namespace Go.Proofs.YtbadiljligcenaaDoor
open Go.RowKit Go.ChangeShapes
/-- The number of limbs. -/
def vah : List Nat → Nat
  | [] => 0
  | x :: l => x + 65536 * vah l
/-- The limbs of a number. -/
def dih : Nat → Nat → List Nat
  | 0, _ => []
  | n + 1, v => v % 65536 :: dih n (v / 65536)
theorem dih_length (n v : Nat) : (dih n v).length = n := by
  induction n generalizing v with
  | zero => rfl
  | succ n ih => simp [dih, ih]
theorem vah_dig (n v : Nat) : vah (dih n v) = v % 65536 ^ n := by
  induction n generalizing v with
  | zero => simp [dih, vah, Nat.mod_one]
  | succ n ih =>
    rw [dih, vah, ih, Nat.pow_succ', Nat.mod_mul]
theorem vah_append (l m : List Nat) : vah (l ++ m) = vah l + 65536 ^ l.length * vah m := by
  induction l with
  | nil => simp [vah]
  | cons x l ih => rw [List.cons_append, vah, vah, ih, List.length_cons, Nat.pow_succ', Nat.mul_add, Nat.mul_assoc, Nat.add_assoc]
theorem vah_set (l : List Nat) (i x y : Nat) (h : i < l.length) (hx : l.getD i 0 = x) : vah (l.set i (x + y)) = vah l + 65536 ^ i * y := by
  induction l generalizing i with
  | nil => exact absurd h (by simp)
  | cons a l ih =>
    cases i with
    | zero =>
      have e : a = x := hx
      subst e
      rw [List.set_cons_zero, vah, vah, Nat.pow_zero, Nat.one_mul]; omega
    | succ i =>
      rw [List.set_cons_succ, vah, vah, ih i (by simpa using h) (by simpa using hx), Nat.mul_add, ← Nat.mul_assoc, ← Nat.pow_succ', Nat.add_assoc]
theorem dih_snoc (n v : Nat) : dih (n + 1) v = dih n v ++ [v / 65536 ^ n % 65536] := by
  induction n generalizing v with
  | zero => simp [dih]
  | succ n ih => rw [dih, ih, dih, List.cons_append, Nat.div_div_eq_div_mul, ← Nat.pow_succ']
theorem dih_lo (n v : Nat) : dih n (v % 65536 ^ n) = dih n v := by
  induction n generalizing v with
  | zero => rfl
  | succ n ih =>
    rw [dih, dih, Nat.pow_succ', Nat.mod_mul_right_mod, Nat.mod_mul_right_div_self, ih]
theorem dih_get (n v i : Nat) (h : i < n) : (dih n v).getD i 0 = v / 65536 ^ i % 65536 := by
  induction n generalizing v i with
  | zero => exact absurd h (by omega)
  | succ n ih =>
    cases i with
    | zero => simp [dih]
    | succ i => rw [dih, List.getD_cons_succ, ih _ _ (by omega), Nat.div_div_eq_div_mul, ← Nat.pow_succ']
theorem vah_lt (l : List Nat) (h : ∀ x ∈ l, x < 65536) : vah l < 65536 ^ l.length := by
  induction l with
  | nil => simp [vah]
  | cons a l ih =>
    have h1 := ih (fun x hx => h x (List.mem_cons_of_mem _ hx))
    have h2 := h a List.mem_cons_self
    rw [vah, List.length_cons, Nat.pow_succ']
    omega
theorem vah_le (l : List Nat) (b : Nat) (h : ∀ x ∈ l, x ≤ b) : vah l ≤ b * vah (List.replicate l.length 1) := by
  induction l with
  | nil => simp [vah]
  | cons a l ih =>
    have h1 := ih (fun x hx => h x (List.mem_cons_of_mem _ hx))
    have h2 := h a List.mem_cons_self
    rw [vah, List.length_cons, List.replicate_succ, vah, Nat.mul_add, Nat.mul_one]
    have : 65536 * vah l ≤ 65536 * (b * vah (List.replicate l.length 1)) := Nat.mul_le_mul_left _ h1
    have e : b * (65536 * vah (List.replicate l.length 1)) = 65536 * (b * vah (List.replicate l.length 1)) := by rw [Nat.mul_left_comm]
    omega
theorem take_snocH (l : List Nat) (k : Nat) (h : k < l.length) : l.take (k + 1) = l.take k ++ [l.getD k 0] := by
  rw [List.take_succ_eq_append_getElem h, List.getD_eq_getElem?_getD, List.getElem?_eq_getElem h]; rfl
/-- What settling k limbs leaves, and what is carried. -/
def sth (l : List Nat) (k : Nat) : List Nat := dih k (vah (l.take k)) ++ l.drop k
def ovh (l : List Nat) (k : Nat) : Nat := vah (l.take k) / 65536 ^ k
theorem sth_zero (l : List Nat) : sth l 0 = l := by simp [sth, dih]
theorem ovh_zero (l : List Nat) : ovh l 0 = 0 := by simp [ovh, vah]
theorem sth_length (l : List Nat) (k : Nat) (h : k ≤ l.length) : (sth l k).length = l.length := by simp [sth, dih_length]; omega
theorem sth_get (l : List Nat) (k : Nat) : (sth l k).getD k 0 = l.getD k 0 := by
  unfold sth
  rw [List.getD_eq_getElem?_getD, List.getElem?_append_right (by rw [dih_length]; exact Nat.le_refl _), dih_length, Nat.sub_self, List.getElem?_drop, List.getD_eq_getElem?_getD]; rfl
theorem sth_step (l : List Nat) (k : Nat) (h : k < l.length) : (sth l k).set k ((l.getD k 0 + ovh l k) % 65536) = sth l (k + 1) ∧ (l.getD k 0 + ovh l k) / 65536 = ovh l (k + 1) := by
  have hv : vah (l.take (k + 1)) = vah (l.take k) + 65536 ^ k * l.getD k 0 := by
    rw [take_snocH l k h, vah_append, List.length_take, Nat.min_eq_left (by omega)]; simp [vah]
  have hd : vah (l.take (k + 1)) / 65536 ^ k = l.getD k 0 + ovh l k := by
    rw [hv, Nat.add_mul_div_left _ _ (Nat.pow_pos (by decide)), Nat.add_comm]; rfl
  constructor
  · unfold sth
    have hdr : l.drop k = l.getD k 0 :: l.drop (k + 1) := by
      rw [List.drop_eq_getElem_cons h, List.getD_eq_getElem?_getD, List.getElem?_eq_getElem h]; rfl
    rw [List.set_append_right _ _ (by rw [dih_length]; exact Nat.le_refl _), dih_length, Nat.sub_self, hdr, List.set_cons_zero, dih_snoc, hd, List.append_assoc, List.singleton_append]
    congr 1
    rw [← dih_lo k (vah (l.take (k + 1))), hv, Nat.add_mul_mod_self_left, dih_lo]
  · unfold ovh
    rw [Nat.pow_succ, ← Nat.div_div_eq_div_mul, hd]; rfl
theorem ovh_lt (l : List Nat) (k B : Nat) (hB : ∀ x ∈ l, x ≤ B) : ovh l k ≤ B := by
  induction k with
  | zero => rw [ovh_zero]; exact Nat.zero_le _
  | succ k ih =>
    by_cases h : k < l.length
    · rw [← (sth_step l k h).2]
      have : l.getD k 0 ≤ B := by
        rw [List.getD_eq_getElem?_getD, List.getElem?_eq_getElem h]; exact hB _ (List.getElem_mem h)
      omega
    · have e : l.take (k + 1) = l.take k := by rw [List.take_of_length_le (by omega), List.take_of_length_le (by omega)]
      unfold ovh at ih ⊢
      rw [e, Nat.pow_succ, ← Nat.div_div_eq_div_mul]
      exact Nat.le_trans (Nat.div_le_self _ _) ih
abbrev li (n : Nat) : Value := .int .i64 (n : Int)
def niC (l : List Nat) : Array Value := (l.map li).toArray
theorem niC_size (l : List Nat) : (niC l).size = l.length := by simp [niC]
theorem niC_get {l : List Nat} {i : Nat} (h : i < l.length) : (niC l)[i]? = some (li l[i]) := by simp [niC, h]
theorem niC_one (l : List Nat) : (niC l).all (·.oneCell') = true := by simp [niC, Value.oneCell']
/-- Block g holds a row of words, and may be written. -/
def Iar (w : World) (g : Nat) (t : TypeId) (l : List Nat) : Prop := w.heap[g]? = some (.cells (niC l) t (0, 0))
theorem Iar.get {w : World} {g : Nat} {t : TypeId} {l : List Nat} (h : Iar w g t l) {i : Nat} (hi : i < l.length) : w.cell? ⟨g, i, none⟩ = some (li l[i]) :=
  (cell_of_row w g i _ t (0, 0) h).trans (niC_get hi)
theorem Iar.getD {w : World} {g : Nat} {t : TypeId} {l : List Nat} (h : Iar w g t l) {i : Nat} (hi : i < l.length) : w.cell? ⟨g, i, none⟩ = some (li (l.getD i 0)) := by
  rw [h.get hi, List.getD_eq_getElem?_getD, List.getElem?_eq_getElem hi]; rfl
theorem Iar.free {w : World} {g : Nat} {t : TypeId} {l : List Nat} (h : Iar w g t l) (i : Nat) : w.frozen? ⟨g, i, none⟩ = false := frozen_of_row w g i _ t h
theorem Iar.lt {w : World} {g : Nat} {t : TypeId} {l : List Nat} (h : Iar w g t l) : g < w.heap.size := (Array.getElem?_eq_some_iff.1 h).1
theorem Iar.below {w w' : World} {B g : Nat} {t : TypeId} {l : List Nat} (h : Iar w g t l) (hb : Below B w w') (hg : g < B) : Iar w' g t l := (hb.block g hg).trans h
theorem Iar.heap {w w' : World} {g : Nat} {t : TypeId} {l : List Nat} (h : Iar w g t l) (hb : w'.heap = w.heap) : Iar w' g t l := by unfold Iar; rw [hb]; exact h
theorem Iar.drewN {w : World} {g : Nat} {t : TypeId} {l : List Nat} (h : Iar w g t l) (n : Nat) : Iar (w.drewN n) g t l := h
theorem Iar.drew {w : World} {g : Nat} {t : TypeId} {l : List Nat} (h : Iar w g t l) : Iar w.drew g t l := h
theorem Iar.alloc {w : World} {g : Nat} {t : TypeId} {l : List Nat} (h : Iar w g t l) (o : Obj) : Iar (w.alloc o) g t l := (Below.heap_alloc w o g h.lt).trans h
theorem Iar.new (w : World) (t : TypeId) (l : List Nat) : Iar (w.alloc (.cells (niC l) t)) w.heap.size t l := heap_alloc_new w _
theorem Iar.set {w : World} {g : Nat} {t : TypeId} {l : List Nat} (h : Iar w g t l) (i x : Nat) : Iar (w.setCell ⟨g, i, none⟩ (li x)) g t (l.set i x) := by
  have := heap_setCell_same w g i (niC l) t (li x) h
  unfold Iar
  rw [this]
  congr 2
  simp [niC, List.map_set]
theorem Iar.other {w : World} {g : Nat} {t : TypeId} {l : List Nat} (h : Iar w g t l) {a : Addr} (ha : g ≠ a.block) (v : Value) : Iar (w.setCell a v) g t l := (heap_setCell_other w a g v ha).trans h
theorem Iar.row {w : World} {g : Nat} {t : TypeId} {l : List Nat} (h : Iar w g t l) (l' : List Nat) : Iar (w.setRow g (niC l')) g t l' := setRow_heap w g _ _ t _ h
/-- 'a[i]' of a row by value. -/
theorem run_index_ni {P : Program} (w : World) (t e : TypeId) (n : Nat) (l : List Nat) (k : IntKind) (i : Nat) (h : P.underlying t = some (.array n e)) (hn : l.length = n) (hi : i < n) (hsz : (sizeOf e).run P w = .ok 1 w) (hag : (isAgg e).run P w = .ok false w) :
    (Instr.index t (.agg (niC l)) (.int k (i : Int))).run P w = .ok (li (l.getD i 0)) w := by
  have e1 : (0 : Int) ≤ (i : Int) ∧ (i : Int) < (n : Int) := by omega
  have hl : i < l.length := by omega
  have hg : l.getD i 0 = l[i] := by rw [List.getD_eq_getElem?_getD, List.getElem?_eq_getElem hl]; rfl
  rw [hg]
  simp [Instr.index, run_underlying h, asIntOf, e1, go_sem, niC, hsz, hag, hi, hl]
theorem Iar.of_only {g k : Nat} {a b : World} (h : Only g a b) {t : TypeId} {l : List Nat} (hA : Iar a k t l) (hk : k ≠ g) : Iar b k t l := (h.block k hA.lt (fun e => hk (by injection e))).trans hA
def two256 : Nat := 115792089237316195423570985008687907853269984665640564039457584007913129639936
theorem pow16 : 65536 ^ 16 = two256 := by decide
theorem two256_p : two256 = 2 * pC + 38 := by decide
/-- The digits of a number. -/
def dN (v : Nat) : List Nat := dih 16 v
theorem dN_length (v : Nat) : (dN v).length = 16 := dih_length _ _
theorem vah_dN (v : Nat) (h : v < two256) : vah (dN v) = v := by rw [dN, vah_dig, pow16, Nat.mod_eq_of_lt h]
theorem dN_lt (v : Nat) : ∀ x ∈ dN v, x < 65536 := by
  unfold dN
  have : ∀ n v, ∀ x ∈ dih n v, x < 65536 := by
    intro n
    induction n with
    | zero => intro v x hx; cases hx
    | succ n ih =>
      intro v x hx
      rcases List.mem_cons.1 hx with rfl | hx
      · exact Nat.mod_lt _ (by decide)
      · exact ih _ x hx
  exact this 16 v
/-- A round: what is beyond 2^256 counts 38 times. -/
def rn (v : Nat) : Nat := v % two256 + 38 * (v / two256)
theorem rn_mod (v : Nat) : rn v % pC = v % pC := by
  have h := Nat.div_add_mod v two256
  have e : v = rn v + pC * (2 * (v / two256)) := by
    unfold rn
    rw [two256_p] at h ⊢
    have e2 : pC * (2 * (v / (2 * pC + 38))) = 2 * pC * (v / (2 * pC + 38)) := by rw [← Nat.mul_assoc, Nat.mul_comm pC 2]
    rw [e2]
    rw [Nat.add_mul] at h
    omega
  rw [e, Nat.add_mul_mod_self_left, ← e]
theorem rn_two (v : Nat) (h : v < two256 * 17592186044416) : rn (rn v) < two256 := by
  have h1 : v / two256 < 17592186044416 := Nat.div_lt_of_lt_mul h
  unfold rn two256 at *
  omega
/-- The digits after j rounds. -/
def olL (l : List Nat) : Nat → List Nat
  | 0 => l
  | j + 1 => (dN (vah (olL l j))).set 0 ((dN (vah (olL l j))).getD 0 0 + 38 * (vah (olL l j) / two256))
theorem olL_length (l : List Nat) (h : l.length = 16) (j : Nat) : (olL l j).length = 16 := by
  cases j with
  | zero => exact h
  | succ j => rw [olL, List.length_set, dN_length]
theorem olL_val (l : List Nat) (j : Nat) : vah (olL l (j + 1)) = rn (vah (olL l j)) := by
  rw [olL, vah_set _ 0 _ _ (by rw [dN_length]; decide) rfl, dN, vah_dig, pow16, Nat.pow_zero, Nat.one_mul]
  rfl
theorem olL_end (l : List Nat) (h : vah l < two256 * 17592186044416) : olL l 3 = dN (rn (rn (vah l))) := by
  have e1 := olL_val l 0
  have e2 := olL_val l 1
  have h2 := rn_two (vah l) h
  have hv : vah (olL l 2) = rn (rn (vah l)) := by rw [e2, e1]; rfl
  rw [olL, hv, Nat.div_eq_of_lt h2, Nat.mul_zero, Nat.add_zero]
  have : ∀ m : List Nat, m.set 0 (m.getD 0 0) = m := fun m => by cases m <;> rfl
  exact this _
theorem rep16 : vah (List.replicate 16 1) < 3533694129556768659166595001485837031654967793751237916243212402585239552 * 2 := by decide
theorem vah_bnd (l : List Nat) (h : l.length = 16) (hb : ∀ x ∈ l, x ≤ 4503599627370496) : vah l < two256 * 17592186044416 := by
  have h1 := vah_le l 4503599627370496 hb
  rw [h] at h1
  have h2 := rep16
  unfold two256
  omega
theorem rn_lo (v : Nat) (h : v < two256 * 17592186044416) : rn v < two256 * 17592186044416 ∧ v / two256 < 17592186044416 := by
  have h1 : v / two256 < 17592186044416 := Nat.div_lt_of_lt_mul h
  unfold rn two256 at *
  omega
theorem olL_lt (l : List Nat) (h : vah l < two256 * 17592186044416) (j : Nat) : vah (olL l j) < two256 * 17592186044416 := by
  induction j with
  | zero => exact h
  | succ j ih => rw [olL_val]; exact (rn_lo _ ih).1
theorem olL_le (l : List Nat) (hb : ∀ x ∈ l, x ≤ 4503599627370496) (h : vah l < two256 * 17592186044416) (j : Nat) : ∀ x ∈ olL l j, x ≤ 4503599627370496 := by
  cases j with
  | zero => exact hb
  | succ j =>
    intro x hx
    rw [olL] at hx
    have h1 := (rn_lo _ (olL_lt l h j)).2
    rcases List.mem_or_eq_of_mem_set hx with hx | rfl
    · have := dN_lt _ x hx; omega
    · have h2 := getD_le (B := 65535) (fun y hy => by have := dN_lt _ y hy; omega) 0 (l := dN (vah (olL l j)))
      omega
theorem settledH (l : List Nat) (h : l.length = 16) : sth l 16 = dN (vah l) ∧ ovh l 16 = vah l / two256 := by
  unfold sth ovh dN
  rw [List.take_of_length_le (by omega), List.drop_of_length_le (by omega), List.append_nil, ← pow16]
  exact ⟨rfl, rfl⟩
end Go.Proofs.YtbadiljligcenaaDoor
