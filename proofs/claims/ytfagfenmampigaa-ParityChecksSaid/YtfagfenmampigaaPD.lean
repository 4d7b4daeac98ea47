/- Plain facts: parities of rows. -/
import Derived.Test.YtfagfenmampigaaPC
namespace Go.Proofs.Ytfagfenmampigaa
/-- The exclusive or at a place. -/
def axs (rows : List (List UInt8)) (i : Nat) : UInt8 := rows.foldl (fun x r => x ^^^ r.getD i 0) 0
def mxl (rows : List (List UInt8)) : Nat := rows.foldl (fun m r => max m r.length) 0
/-- The parity. -/
def paL (rows : List (List UInt8)) : List UInt8 := (List.range (mxl rows)).map (axs rows)
theorem paL_length (rows : List (List UInt8)) : (paL rows).length = mxl rows := by simp [paL]
theorem axs_fold (rows : List (List UInt8)) (i : Nat) : ∀ x, rows.foldl (fun x r => x ^^^ r.getD i 0) x = x ^^^ axs rows i := by
  unfold axs
  induction rows with
  | nil => intro x; simp
  | cons r rows ih => intro x; rw [List.foldl_cons, ih, List.foldl_cons, ih (0 ^^^ _), UInt8.zero_xor, UInt8.xor_assoc]
theorem axs_append (a b : List (List UInt8)) (i : Nat) : axs (a ++ b) i = axs a i ^^^ axs b i := by
  have : axs (a ++ b) i = b.foldl (fun x r => x ^^^ r.getD i 0) (axs a i) := by unfold axs; rw [List.foldl_append]
  rw [this, axs_fold]
theorem axs_one (r : List UInt8) (i : Nat) : axs [r] i = r.getD i 0 := by simp [axs]
theorem mxl_fold (rows : List (List UInt8)) : ∀ m, rows.foldl (fun m r => max m r.length) m = max m (mxl rows) := by
  unfold mxl
  induction rows with
  | nil => intro m; simp
  | cons r rows ih => intro m; rw [List.foldl_cons, ih, List.foldl_cons, ih (max 0 _)]; omega
theorem mxl_append (a b : List (List UInt8)) : mxl (a ++ b) = max (mxl a) (mxl b) := by
  have : mxl (a ++ b) = b.foldl (fun m r => max m r.length) (mxl a) := by unfold mxl; rw [List.foldl_append]
  rw [this, mxl_fold]
theorem mxl_one (r : List UInt8) : mxl [r] = r.length := by simp [mxl]
theorem mxl_mem {rows : List (List UInt8)} {r : List UInt8} (h : r ∈ rows) : r.length ≤ mxl rows := by
  obtain ⟨a, b, rfl⟩ := List.append_of_mem h
  rw [mxl_append, show r :: b = [r] ++ b from rfl, mxl_append, mxl_one]; omega
theorem mxl_le {rows : List (List UInt8)} {n : Nat} (h : ∀ r ∈ rows, r.length ≤ n) : mxl rows ≤ n := by
  induction rows with
  | nil => exact Nat.zero_le _
  | cons r rows ih =>
    rw [show r :: rows = [r] ++ rows from rfl, mxl_append, mxl_one]
    have := h r (List.mem_cons_self ..)
    have := ih fun x hx => h x (List.mem_cons_of_mem _ hx)
    omega
theorem getD_ge {l : List UInt8} {i : Nat} (h : l.length ≤ i) : l.getD i 0 = 0 := by
  rw [List.getD_eq_getElem?_getD, List.getElem?_eq_none h]; rfl
theorem axs_ge {rows : List (List UInt8)} {i : Nat} (h : mxl rows ≤ i) : axs rows i = 0 := by
  induction rows with
  | nil => rfl
  | cons r rows ih =>
    rw [show r :: rows = [r] ++ rows from rfl, mxl_append, mxl_one] at h
    rw [show r :: rows = [r] ++ rows from rfl, axs_append, axs_one, getD_ge (by omega), ih (by omega)]; rfl
theorem paL_getD (rows : List (List UInt8)) (i : Nat) : (paL rows).getD i 0 = axs rows i := by
  by_cases h : i < mxl rows
  · simp [paL, List.getD_eq_getElem?_getD, h]
  · rw [getD_ge (by rw [paL_length]; omega), axs_ge (by omega)]
theorem paL_snoc_getD (rows : List (List UInt8)) (r : List UInt8) (i : Nat) : (paL (rows ++ [r])).getD i 0 = (paL rows).getD i 0 ^^^ r.getD i 0 := by
  rw [paL_getD, paL_getD, axs_append, axs_one]
theorem ext_getD {l m : List UInt8} (h : l.length = m.length) (hg : ∀ i, i < l.length → l.getD i 0 = m.getD i 0) : l = m := by
  apply List.ext_getElem h
  intro i h1 h2
  have := hg i h1
  rw [List.getD_eq_getElem?_getD, List.getD_eq_getElem?_getD, List.getElem?_eq_getElem h1, List.getElem?_eq_getElem h2] at this
  exact this
/-- The parity of rows and their parity. -/
theorem paL_self (rows : List (List UInt8)) : paL (rows ++ [paL rows]) = List.replicate (mxl rows) 0 := by
  have hl : mxl (rows ++ [paL rows]) = mxl rows := by rw [mxl_append, mxl_one, paL_length]; omega
  refine ext_getD (by rw [paL_length, hl, List.length_replicate]) fun i hi => ?_
  rw [paL_snoc_getD, UInt8.xor_self]
  rw [paL_length, hl] at hi
  simp [List.getD_eq_getElem?_getD, hi]
/-- A lost row. -/
theorem paL_lost (a b : List (List UInt8)) (r : List UInt8) : paL ([paL (a ++ r :: b)] ++ b ++ a) = r ++ List.replicate (mxl (a ++ r :: b) - r.length) 0 := by
  have hr : r.length ≤ mxl (a ++ r :: b) := mxl_mem (by simp)
  have hm : mxl (a ++ r :: b) = max (mxl a) (max r.length (mxl b)) := by rw [mxl_append, show r :: b = [r] ++ b from rfl, mxl_append, mxl_one]
  have hl : mxl ([paL (a ++ r :: b)] ++ b ++ a) = mxl (a ++ r :: b) := by rw [mxl_append, mxl_append, mxl_one, paL_length]; omega
  refine ext_getD (by rw [paL_length, hl, List.length_append, List.length_replicate]; omega) fun i hi => ?_
  rw [paL_getD, axs_append, axs_append, axs_one, paL_getD, axs_append, show r :: b = [r] ++ b from rfl, axs_append, axs_one]
  have e : (r ++ List.replicate (mxl (a ++ ([r] ++ b)) - r.length) 0).getD i 0 = r.getD i 0 := by
    by_cases h : i < r.length
    · rw [List.getD_eq_getElem?_getD, List.getElem?_append_left h, List.getD_eq_getElem?_getD]
    · rw [getD_ge (l := r) (by omega), List.getD_eq_getElem?_getD, List.getElem?_append_right (by omega), List.getElem?_replicate]
      split <;> rfl
  rw [e]
  generalize axs a i = x
  generalize axs b i = y
  generalize r.getD i 0 = z
  have : x ^^^ (z ^^^ y) ^^^ y ^^^ x = (x ^^^ x) ^^^ (y ^^^ y) ^^^ z := by ac_rfl
  rw [this]; simp
theorem paL_three (s t u : List UInt8) (h1 : s.length = t.length) (h2 : t.length = u.length) : paL [s, t, u] = xr (xr s t) u := by
  have hm : mxl [s, t, u] = s.length := by simp [mxl]; omega
  have hl : (xr (xr s t) u).length = s.length := by simp [xr]; omega
  refine ext_getD (by rw [paL_length, hm, hl]) fun i hi => ?_
  rw [paL_getD]
  rw [paL_length, hm] at hi
  have e1 : (xr (xr s t) u).getD i 0 = s.getD i 0 ^^^ t.getD i 0 ^^^ u.getD i 0 := by
    simp only [xr, List.getD_eq_getElem?_getD, List.getElem?_zipWith]
    rw [List.getElem?_eq_getElem (l := s) hi, List.getElem?_eq_getElem (l := t) (by omega), List.getElem?_eq_getElem (l := u) (by omega)]
    rfl
  rw [e1]; simp [axs]
end Go.Proofs.Ytfagfenmampigaa
