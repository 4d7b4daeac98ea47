/- Rows of ints: the reference's numbers, its list and its sum. The reference's sum. The reference's less. The reference's minus. The reference's prime. The reference's rest. -/
import Derived.Test.YtnfefkcfifnjnaaDoorMR
import Derived.Test.YtnfefkcfifnjnaaDoorO
import Derived.Test.YtnfefkcfifnjnaaDoorR
import Derived.Lib.SmallJoins
import Derived.Laws.OwnMore
namespace Go.Proofs.YtnfefkcfifnjnaaDoor
section
open Go.RowKit Go.ChangeShapes
def inC (l : List Nat) : List Value := l.map fun n : Nat => .int .i64 (n : Int)
theorem inC_length (l : List Nat) : (inC l).length = l.length := by simp [inC]
theorem inC_snoc (l : List Nat) (n : Nat) : inC (l ++ [n]) = inC l ++ [.int .i64 (n : Int)] := by simp [inC]
theorem inC_get (l : List Nat) (j : Nat) (h : j < l.length) : (inC l)[j]? = some (.int .i64 ((l.getD j 0 : Nat) : Int)) := by
  simp [inC, List.getD_eq_getElem?_getD, h]
theorem info3 : (Tryd.prog.info? 3).map (fun i => (i.zero, i.size, i.bytes)) = some (some (.int .i64 0), 1, 8) := by kernel_rfl
theorem own_under {w V : World} {base : Nat} {e : TypeId} {size : Nat} {v : Value} {n : Nat} {xs : List Value} (h : w.ownsRow base e size v n xs) (hb : Below w.heap.size w V) : V.ownsRow base e size v n xs := by
  refine ⟨h.1, ?_⟩
  rcases h.2 with h0 | ⟨g, cap, cur, hv, hbase, hg, hr⟩
  · exact Or.inl h0
  · exact Or.inr ⟨g, cap, cur, hv, hbase, (hb.block g (Array.getElem?_eq_some_iff.1 hg).1).trans hg, hr⟩
/-- A number of the reference in memory. -/
def Nu (w : World) (v : Value) (l : List Nat) : Prop := w.ownsRow 0 3 1 v l.length (inC l)
theorem Nu.below {w V : World} {v : Value} {l : List Nat} (h : Nu w v l) (hb : Below w.heap.size w V) : Nu V v l := own_under h hb
theorem Nu.load {w : World} {v : Value} {l : List Nat} (h : Nu w v l) (hn : 0 < l.length) :
    ∃ g cap, v = .slice (some ⟨g, 0, none⟩) l.length cap ∧ g < w.heap.size ∧ ∀ j, j < l.length → w.cell? ⟨g, j, none⟩ = some (.int .i64 ((l.getD j 0 : Nat) : Int)) := by
  have h0 := h
  obtain ⟨g, cap, rfl⟩ := Joins.ownsRow_form h0 hn
  refine ⟨g, cap, rfl, (h0.lt g rfl).2, fun j hj => ?_⟩
  have hc := World.ownsRow.cells h0 (g := g) rfl j _ (inC_get l j hj)
  have hadd : (⟨g, 0, none⟩ : Addr).add j = ⟨g, j, none⟩ := by unfold Addr.add; split <;> simp_all
  rw [hadd] at hc
  exact hc
set_option maxRecDepth 100000 in
set_option maxHeartbeats 1000000 in
/-- The octets of a string as numbers, in a row of its own. -/
theorem rlist (s : List UInt8) (w : World) (hs : s.length ≤ 70000) :
    Calls Tryd.prog 38 #[.string (bs s)] w fun e w' => ∃ v, e = .returned v ∧ w'.ownsRow w.heap.size 3 1 v s.length (inC (s.map (·.toNat))) ∧ Below w.heap.size w w' := by
  obtain ⟨i0, hi, hz0, hz1, hz2⟩ := info_parts info3
  have HAP : Hid (∀ m, m < s.length → (s.map (·.toNat)).take (m + 1) = (s.map (·.toNat)).take m ++ [(s.getD m 0).toNat]) := Lib.hid fun m hm => by
    rw [List.take_succ_eq_append_getElem (by simpa using hm)]; simp [List.getD_eq_getElem?_getD, hm]
  have HIX : Hid (∀ (j : Nat) (w : World), j < s.length → (Instr.index 9 (.string (bs s)) (.int .i64 (j : Int))).run Tryd.prog w = .ok (.int .u8 ((s.getD j 0).toNat : Int)) w) := Lib.hid fun j w hj => by
    rw [run_index_string w 9 (bs s) .i64 _ Tryd.underlying9, dif_pos ⟨by omega, by rw [bs_size]; omega⟩]
    simp only [Int.toNat_natCast]
    rw [List.getD_eq_getElem?_getD, List.getElem?_eq_getElem hj]; rfl
  have hal : (s.map (·.toNat)).length = s.length := by simp
  obtain ⟨S, hS⟩ : ∃ S, bs s = S := ⟨_, rfl⟩
  have hsz : S.size = s.length := by rw [← hS, bs_size]
  rw [hS] at HIX ⊢
  generalize s.map (·.toNat) = AP at HAP hal ⊢
  obtain ⟨L, hL⟩ : ∃ L, s.length = L := ⟨_, rfl⟩
  rw [hL] at hsz HIX hs HAP hal ⊢
  clear hS hL
  go_enter Tryd.func38, Tryd.ntmps38
  go_wp2_with fail
  go_loopw [3, 4] (fun v i wr => ∃ m : Nat, m ≤ L ∧ i = .int .i64 m ∧ Hid (wr.ownsRow w.heap.size 3 1 v m (inC (AP.take m))) ∧ Hid (Below w.heap.size w wr)) (fun _ i _ => L - (intOf i).toNat)
  case atStart => exact ⟨0, by omega, rfl, Lib.hid (World.ownsRow_nil _ _ _ _), Lib.hid (Below.refl _ _)⟩
  case round =>
    obtain ⟨m, hm, rfl, HO, HB⟩ := hrel
    by_cases hlt : m < L
    · have hz := HB.out.size
      have ml : (m : Int) < (S.size : Int) := by omega
      have hsi := (HIX.out m · hlt)
      have hap := HAP.out m hlt
      have hy := (s.getD m 0).toNat_lt
      obtain ⟨y, hyy⟩ : ∃ y, (s.getD m 0).toNat = y := ⟨_, rfl⟩
      rw [hyy] at hap hy
      simp only [hyy] at hsi
      have e1 : IntKind.i64.wrap (y : Int) = (y : Int) := IntWalk.i64_in _ (by omega)
      clear hyy
      go_wp2_with (first | (at_builtin; refine wpList_append_own _ rfl _ _ 70 rfl w.heap.size 3 i0 (.int .i64 0) 1 8 Tryd.underlying70 hi hz0 hz1 hz2 rfl (by decide) _ m _ rfl (HO.out.alloc _) ⟨wr.heap.size, 0, none⟩ 1 1 [.int .i64 (y : Int)] rfl rfl ?_ ?_ ?_ ?_ ?_ ?_; exact World.news_of_block (cs := #[.int .i64 (y : Int)]) (t := 3) (fr := (0, 0)) (heap_alloc_new wr _); (simp [Value.oneCell']); (unfold maxLen; omega); omega; (simp; omega); intro v2 w3 hown3 hg3 _))
      rw [← inC_snoc, ← hap] at hown3
      have hB3 : Below w.heap.size w w3 := (HB.out.alloc hz _).grown hg3 (by simp; omega) (fun g hg => (HO.out.lt g hg).1)
      have HO3 := Lib.hid hown3
      have HB3 := Lib.hid hB3
      clear hown3 hg3 hB3 hap
      go_wp2
      go_roundw
      case rel => exact ⟨m + 1, by omega, by go_num, HO3, HB3⟩
      case measure => simp [intOf]; omega
    · obtain rfl : m = L := by omega
      have ho := HO.out
      rw [List.take_of_length_le (by omega)] at ho
      have ml : ¬ (m : Int) < (S.size : Int) := by omega
      go_wp2
      go_ret
      exact ⟨_, rfl, ho, HB.out⟩
end
section
open Go.RowKit Go.ChangeShapes
theorem Nu.form {w : World} {v : Value} {l : List Nat} (h : Nu w v l) :
    ∃ ao cap, v = .slice ao l.length cap ∧ ∀ j, j < l.length → ∃ g, ao = some ⟨g, 0, none⟩ ∧ g < w.heap.size ∧ w.cell? ⟨g, j, none⟩ = some (.int .i64 ((l.getD j 0 : Nat) : Int)) := by
  rcases Nat.eq_zero_or_pos l.length with h0 | hp
  · rcases Joins.ownsRow_forms h with ⟨rfl, _⟩ | ⟨g, cap, rfl⟩
    · exact ⟨none, 0, by rw [h0], fun j hj => by omega⟩
    · exact ⟨_, cap, rfl, fun j hj => by omega⟩
  · obtain ⟨g, cap, rfl, hg, hc⟩ := h.load hp
    exact ⟨_, cap, rfl, fun j hj => ⟨g, rfl, hg, hc j hj⟩⟩
theorem sum_next (a b o : List Nat) (k c x y : Nat) (hx : a.getD k 0 = x) (hy : b.getD k 0 = y) (hl : o.length = k) (h : vo o + 256 ^ k * c = vo (a.take k) + vo (b.take k)) :
    vo (o ++ [(c + x + y) % 256]) + 256 ^ (k + 1) * ((c + x + y) / 256) = vo (a.take (k + 1)) + vo (b.take (k + 1)) := by
  have := sum_step (256 ^ k) (vo (a.take k) + vo (b.take k)) x y c (vo o) h
  rw [vo_snoc, hl, vo_take, vo_take, hx, hy, Nat.pow_succ, this]
  omega
set_option maxRecDepth 100000 in
set_option maxHeartbeats 4000000 in
/-- The reference's sum. -/
theorem rsum (va vb : Value) (a b : List Nat) (w : World) (ha : Nu w va a) (hb : Nu w vb b) (da : Dg a) (db : Dg b) (la : a.length ≤ 1000) (lb : b.length ≤ 1000) :
    Calls Tryd.prog 41 #[va, vb] w fun e w' => ∃ v o, e = .returned v ∧ Nu w' v o ∧ Dg o ∧ vo o = vo a + vo b ∧ (o.length ≤ max a.length b.length + 1 ∧ (o.length = max a.length b.length + 1 → 256 ^ max a.length b.length ≤ vo o)) ∧ Below w.heap.size w w' := by
  obtain ⟨i0, hi, hz0, hz1, hz2⟩ := info_parts info3
  obtain ⟨aa, ca, rfl, fa⟩ := ha.form
  obtain ⟨ab, cb, rfl, fb⟩ := hb.form
  obtain ⟨M, hM⟩ : ∃ M, max a.length b.length = M := ⟨_, rfl⟩
  rw [hM]
  have FA := Lib.hid fa
  have FB := Lib.hid fb
  have GA := Lib.hid (fun k => da.get k)
  have GB := Lib.hid (fun k => db.get k)
  have ZA : Hid (∀ k, a.length ≤ k → a.getD k 0 = 0) := Lib.hid fun k hk => by rw [List.getD_eq_getElem?_getD, List.getElem?_eq_none hk]; rfl
  have ZB : Hid (∀ k, b.length ≤ k → b.getD k 0 = 0) := Lib.hid fun k hk => by rw [List.getD_eq_getElem?_getD, List.getElem?_eq_none hk]; rfl
  have NX : Hid (∀ (o : List Nat) (k c : Nat), o.length = k → vo o + 256 ^ k * c = vo (a.take k) + vo (b.take k) → vo (o ++ [(c + a.getD k 0 + b.getD k 0) % 256]) + 256 ^ (k + 1) * ((c + a.getD k 0 + b.getD k 0) / 256) = vo (a.take (k + 1)) + vo (b.take (k + 1))) := Lib.hid fun o k c h1 h2 => sum_next a b o k c _ _ rfl rfl h1 h2
  have TA := Lib.hid (vo_take_all a)
  have TB := Lib.hid (vo_take_all b)
  have hM1 : a.length ≤ M := by omega
  have hM2 : b.length ≤ M := by omega
  have hM3 : M ≤ 1000 := by omega
  have V0 : Hid (vo ([] : List Nat) + 256 ^ 0 * 0 = vo (a.take 0) + vo (b.take 0)) := Lib.hid (by simp [vo])
  clear hM fa fb da db ha hb
  obtain ⟨LA, hLA⟩ : ∃ LA, a.length = LA := ⟨_, rfl⟩
  obtain ⟨LB, hLB⟩ : ∃ LB, b.length = LB := ⟨_, rfl⟩
  rw [hLA] at FA ZA TA hM1 la ⊢
  rw [hLB] at FB ZB TB hM2 lb ⊢
  clear hLA hLB
  go_enter Tryd.func41, Tryd.ntmps41
  go_wp2_with fail
  go_loopw [5, 6, 7] (fun v c i wr => ∃ (k cc : Nat) (o : List Nat), c = .int .i64 cc ∧ i = .int .i64 k ∧ k ≤ M + 1 ∧ cc ≤ 1 ∧ (k = M + 1 → cc = 0) ∧ o.length = k ∧ Hid (k = M + 1 → 256 ^ M ≤ vo o) ∧ Hid (Dg o) ∧ Hid (vo o + 256 ^ k * cc = vo (a.take k) + vo (b.take k)) ∧ Hid (wr.ownsRow w.heap.size 3 1 v k (inC o)) ∧ Hid (Below w.heap.size w wr)) (fun _ _ i _ => M + 1 - (intOf i).toNat)
  case atStart => exact ⟨0, 0, [], rfl, rfl, by omega, by omega, fun _ => rfl, rfl, Lib.hid (fun h => absurd h (by omega)), Lib.hid Dg.nil, V0, Lib.hid (World.ownsRow_nil _ _ _ _), Lib.hid (Below.refl _ _)⟩
  case round =>
    clear V0
    obtain ⟨k, cc, o, rfl, rfl, hk, hc1, hck, hol, HW, HD, HV, HO, HB⟩ := hrel
    have hz := HB.out.size
    have gx := GA.out k
    have gy := GB.out k
    have hnx := NX.out o k cc hol HV.out
    by_cases c1 : k < LA
    · by_cases c2 : k < LB
      · obtain ⟨ga, rfl, hga, hca⟩ := FA.out k c1
        have la1 : (k : Int) < (LA : Int) := by omega
        have hxa := (HB.out.cell (p := ⟨ga, k, none⟩) hga).trans hca
        clear hca
        obtain ⟨gb, hgb0, hgb, hcb⟩ := FB.out k c2
        subst hgb0
        have lb1 : (k : Int) < (LB : Int) := by omega
        have hxb := (HB.out.cell (p := ⟨gb, k, none⟩) hgb).trans hcb
        clear hcb
        obtain ⟨x, hx⟩ : ∃ x, a.getD k 0 = x := ⟨_, rfl⟩
        obtain ⟨y, hy⟩ : ∃ y, b.getD k 0 = y := ⟨_, rfl⟩
        rw [hx] at gx hnx hxa
        rw [hy] at gy hnx hxb
        obtain ⟨q, hq⟩ : ∃ q, (cc + x + y) % 256 = q := ⟨_, rfl⟩
        obtain ⟨d, hd⟩ : ∃ d, (cc + x + y) / 256 = d := ⟨_, rfl⟩
        rw [hq, hd] at hnx
        have HN := Lib.hid hnx
        have r1 : ((cc : Int) + (x : Int) + (y : Int)).tmod 256 = (q : Int) := by rw [Int.tmod_eq_emod_of_nonneg (by omega)]; omega
        have r2 : ((cc : Int) + (x : Int) + (y : Int)) % 256 = (q : Int) := by omega
        have r3 : ((cc : Int) + (x : Int) + (y : Int)).tdiv 256 = (d : Int) := by rw [Int.tdiv_eq_ediv_of_nonneg (by omega)]; omega
        have r4 : ((cc : Int) + (x : Int) + (y : Int)) / 256 = (d : Int) := by omega
        have q256 : q < 256 := by omega
        have d1 : d ≤ 1 := by omega
        have dk : k + 1 = M + 1 → d = 0 := fun _ => by omega
        have kM : k ≤ M := by omega
        clear hnx hx hy hq hd hck
        go_wp2_with (first | (at_builtin; refine wpList_append_own _ rfl _ _ 70 rfl w.heap.size 3 i0 (.int .i64 0) 1 8 Tryd.underlying70 hi hz0 hz1 hz2 rfl (by decide) _ k _ rfl (HO.out.alloc _) ⟨wr.heap.size, 0, none⟩ 1 1 [.int .i64 (q : Int)] rfl rfl ?_ ?_ ?_ ?_ ?_ ?_; exact World.news_of_block (cs := #[.int .i64 (q : Int)]) (t := 3) (fr := (0, 0)) (heap_alloc_new wr _); (simp [Value.oneCell']); (unfold maxLen; omega); omega; (simp; omega); intro v2 w3 hown3 hg3 _))
        rw [← inC_snoc] at hown3
        have hB3 : Below w.heap.size w w3 := (HB.out.alloc hz _).grown hg3 (by simp; omega) (fun g hg => (HO.out.lt g hg).1)
        have HO3 := Lib.hid hown3
        have HB3 := Lib.hid hB3
        clear hown3 hg3 hB3
        go_wp2
        go_roundw
        case rel => exact ⟨k + 1, d, o ++ [q], rfl, by go_num, by omega, d1, dk, by rw [List.length_append, hol]; rfl, Lib.hid (fun h => absurd h (by omega)), Lib.hid (HD.out.snoc q256), HN, HO3, HB3⟩
        case measure => simp [intOf]; omega
      · obtain ⟨ga, rfl, hga, hca⟩ := FA.out k c1
        have la1 : (k : Int) < (LA : Int) := by omega
        have hxa := (HB.out.cell (p := ⟨ga, k, none⟩) hga).trans hca
        clear hca
        have lb1 : ¬ (k : Int) < (LB : Int) := by omega
        have zy := ZB.out k (by omega)
        obtain ⟨x, hx⟩ : ∃ x, a.getD k 0 = x := ⟨_, rfl⟩
        obtain ⟨y, hy⟩ : ∃ y, b.getD k 0 = y := ⟨_, rfl⟩
        rw [hx] at gx hnx hxa
        rw [hy] at gy hnx zy
        subst zy
        obtain ⟨q, hq⟩ : ∃ q, (cc + x + 0) % 256 = q := ⟨_, rfl⟩
        obtain ⟨d, hd⟩ : ∃ d, (cc + x + 0) / 256 = d := ⟨_, rfl⟩
        rw [hq, hd] at hnx
        have HN := Lib.hid hnx
        have r1 : ((cc : Int) + (x : Int)).tmod 256 = (q : Int) := by rw [Int.tmod_eq_emod_of_nonneg (by omega)]; omega
        have r2 : ((cc : Int) + (x : Int)) % 256 = (q : Int) := by omega
        have r3 : ((cc : Int) + (x : Int)).tdiv 256 = (d : Int) := by rw [Int.tdiv_eq_ediv_of_nonneg (by omega)]; omega
        have r4 : ((cc : Int) + (x : Int)) / 256 = (d : Int) := by omega
        have q256 : q < 256 := by omega
        have d1 : d ≤ 1 := by omega
        have dk : k + 1 = M + 1 → d = 0 := fun _ => by omega
        have kM : k ≤ M := by omega
        clear hnx hx hy hq hd hck
        go_wp2_with (first | (at_builtin; refine wpList_append_own _ rfl _ _ 70 rfl w.heap.size 3 i0 (.int .i64 0) 1 8 Tryd.underlying70 hi hz0 hz1 hz2 rfl (by decide) _ k _ rfl (HO.out.alloc _) ⟨wr.heap.size, 0, none⟩ 1 1 [.int .i64 (q : Int)] rfl rfl ?_ ?_ ?_ ?_ ?_ ?_; exact World.news_of_block (cs := #[.int .i64 (q : Int)]) (t := 3) (fr := (0, 0)) (heap_alloc_new wr _); (simp [Value.oneCell']); (unfold maxLen; omega); omega; (simp; omega); intro v2 w3 hown3 hg3 _))
        rw [← inC_snoc] at hown3
        have hB3 : Below w.heap.size w w3 := (HB.out.alloc hz _).grown hg3 (by simp; omega) (fun g hg => (HO.out.lt g hg).1)
        have HO3 := Lib.hid hown3
        have HB3 := Lib.hid hB3
        clear hown3 hg3 hB3
        go_wp2
        go_roundw
        case rel => exact ⟨k + 1, d, o ++ [q], rfl, by go_num, by omega, d1, dk, by rw [List.length_append, hol]; rfl, Lib.hid (fun h => absurd h (by omega)), Lib.hid (HD.out.snoc q256), HN, HO3, HB3⟩
        case measure => simp [intOf]; omega
    · by_cases c2 : k < LB
      · have la1 : ¬ (k : Int) < (LA : Int) := by omega
        have zx := ZA.out k (by omega)
        obtain ⟨gb, hgb0, hgb, hcb⟩ := FB.out k c2
        subst hgb0
        have lb1 : (k : Int) < (LB : Int) := by omega
        have hxb := (HB.out.cell (p := ⟨gb, k, none⟩) hgb).trans hcb
        clear hcb
        obtain ⟨x, hx⟩ : ∃ x, a.getD k 0 = x := ⟨_, rfl⟩
        obtain ⟨y, hy⟩ : ∃ y, b.getD k 0 = y := ⟨_, rfl⟩
        rw [hx] at gx hnx zx
        rw [hy] at gy hnx hxb
        subst zx
        obtain ⟨q, hq⟩ : ∃ q, (cc + 0 + y) % 256 = q := ⟨_, rfl⟩
        obtain ⟨d, hd⟩ : ∃ d, (cc + 0 + y) / 256 = d := ⟨_, rfl⟩
        rw [hq, hd] at hnx
        have HN := Lib.hid hnx
        have r1 : ((cc : Int) + (y : Int)).tmod 256 = (q : Int) := by rw [Int.tmod_eq_emod_of_nonneg (by omega)]; omega
        have r2 : ((cc : Int) + (y : Int)) % 256 = (q : Int) := by omega
        have r3 : ((cc : Int) + (y : Int)).tdiv 256 = (d : Int) := by rw [Int.tdiv_eq_ediv_of_nonneg (by omega)]; omega
        have r4 : ((cc : Int) + (y : Int)) / 256 = (d : Int) := by omega
        have q256 : q < 256 := by omega
        have d1 : d ≤ 1 := by omega
        have dk : k + 1 = M + 1 → d = 0 := fun _ => by omega
        have kM : k ≤ M := by omega
        clear hnx hx hy hq hd hck
        go_wp2_with (first | (at_builtin; refine wpList_append_own _ rfl _ _ 70 rfl w.heap.size 3 i0 (.int .i64 0) 1 8 Tryd.underlying70 hi hz0 hz1 hz2 rfl (by decide) _ k _ rfl (HO.out.alloc _) ⟨wr.heap.size, 0, none⟩ 1 1 [.int .i64 (q : Int)] rfl rfl ?_ ?_ ?_ ?_ ?_ ?_; exact World.news_of_block (cs := #[.int .i64 (q : Int)]) (t := 3) (fr := (0, 0)) (heap_alloc_new wr _); (simp [Value.oneCell']); (unfold maxLen; omega); omega; (simp; omega); intro v2 w3 hown3 hg3 _))
        rw [← inC_snoc] at hown3
        have hB3 : Below w.heap.size w w3 := (HB.out.alloc hz _).grown hg3 (by simp; omega) (fun g hg => (HO.out.lt g hg).1)
        have HO3 := Lib.hid hown3
        have HB3 := Lib.hid hB3
        clear hown3 hg3 hB3
        go_wp2
        go_roundw
        case rel => exact ⟨k + 1, d, o ++ [q], rfl, by go_num, by omega, d1, dk, by rw [List.length_append, hol]; rfl, Lib.hid (fun h => absurd h (by omega)), Lib.hid (HD.out.snoc q256), HN, HO3, HB3⟩
        case measure => simp [intOf]; omega
      · by_cases c3 : 0 < cc
        · have la1 : ¬ (k : Int) < (LA : Int) := by omega
          have zx := ZA.out k (by omega)
          have lb1 : ¬ (k : Int) < (LB : Int) := by omega
          have zy := ZB.out k (by omega)
          obtain ⟨x, hx⟩ : ∃ x, a.getD k 0 = x := ⟨_, rfl⟩
          obtain ⟨y, hy⟩ : ∃ y, b.getD k 0 = y := ⟨_, rfl⟩
          rw [hx] at gx hnx zx
          rw [hy] at gy hnx zy
          subst zx
          subst zy
          obtain ⟨q, hq⟩ : ∃ q, (cc + 0 + 0) % 256 = q := ⟨_, rfl⟩
          obtain ⟨d, hd⟩ : ∃ d, (cc + 0 + 0) / 256 = d := ⟨_, rfl⟩
          rw [hq, hd] at hnx
          have HN := Lib.hid hnx
          have r1 : ((cc : Int)).tmod 256 = (q : Int) := by rw [Int.tmod_eq_emod_of_nonneg (by omega)]; omega
          have r2 : ((cc : Int)) % 256 = (q : Int) := by omega
          have r3 : ((cc : Int)).tdiv 256 = (d : Int) := by rw [Int.tdiv_eq_ediv_of_nonneg (by omega)]; omega
          have r4 : ((cc : Int)) / 256 = (d : Int) := by omega
          have q256 : q < 256 := by omega
          have d1 : d ≤ 1 := by omega
          have dk : k + 1 = M + 1 → d = 0 := fun _ => by omega
          have kM : k ≤ M := by omega
          have HQ : Hid (k + 1 = M + 1 → 256 ^ M ≤ vo (o ++ [q])) := Lib.hid (fun h => by rw [vo_snoc, hol, show k = M by omega]; exact Nat.le_trans (Nat.le_mul_of_pos_right _ (by omega)) (Nat.le_add_left _ _))
          clear hnx hx hy hq hd hck
          go_wp2_with (first | (at_builtin; refine wpList_append_own _ rfl _ _ 70 rfl w.heap.size 3 i0 (.int .i64 0) 1 8 Tryd.underlying70 hi hz0 hz1 hz2 rfl (by decide) _ k _ rfl (HO.out.alloc _) ⟨wr.heap.size, 0, none⟩ 1 1 [.int .i64 (q : Int)] rfl rfl ?_ ?_ ?_ ?_ ?_ ?_; exact World.news_of_block (cs := #[.int .i64 (q : Int)]) (t := 3) (fr := (0, 0)) (heap_alloc_new wr _); (simp [Value.oneCell']); (unfold maxLen; omega); omega; (simp; omega); intro v2 w3 hown3 hg3 _))
          rw [← inC_snoc] at hown3
          have hB3 : Below w.heap.size w w3 := (HB.out.alloc hz _).grown hg3 (by simp; omega) (fun g hg => (HO.out.lt g hg).1)
          have HO3 := Lib.hid hown3
          have HB3 := Lib.hid hB3
          clear hown3 hg3 hB3
          go_wp2
          go_roundw
          case rel => exact ⟨k + 1, d, o ++ [q], rfl, by go_num, by omega, d1, dk, by rw [List.length_append, hol]; rfl, HQ, Lib.hid (HD.out.snoc q256), HN, HO3, HB3⟩
          case measure => simp [intOf]; omega
        · have hc0 : cc = 0 := by omega
          subst hc0
          have la1 : ¬ (k : Int) < (LA : Int) := by omega
          have lb1 : ¬ (k : Int) < (LB : Int) := by omega
          have hv := HV.out
          rw [TA.out k (by omega), TB.out k (by omega), Nat.mul_zero, Nat.add_zero] at hv
          have ho := Joins.ownsRow_le (base' := 0) HO.out (Nat.zero_le _)
          clear gx gy hnx
          go_wp2
          go_ret
          exact ⟨_, rfl, o, by unfold Nu; rw [hol]; exact ho, HD.out, hv, ⟨by omega, fun h => HW.out (by omega)⟩, HB.out⟩
end
section
open Go.RowKit Go.ChangeShapes
set_option maxRecDepth 100000 in
set_option maxHeartbeats 4000000 in
/-- The reference's less. -/
theorem rless (va vb : Value) (a b : List Nat) (w : World) (ha : Nu w va a) (hb : Nu w vb b) (da : Dg a) (db : Dg b) (la : a.length ≤ 1000) (lb : b.length ≤ 1000) :
    Calls Tryd.prog 70 #[va, vb] w fun e w' => e = .returned (.bool (decide (vo a < vo b))) ∧ w = w' := by
  obtain ⟨aa, ca, rfl, fa⟩ := ha.form
  obtain ⟨ab, cb, rfl, fb⟩ := hb.form
  obtain ⟨M, hM⟩ : ∃ M, max a.length b.length = M := ⟨_, rfl⟩
  obtain ⟨R, hR⟩ : ∃ R, decide (vo a < vo b) = R := ⟨_, rfl⟩
  have FA := Lib.hid fa
  have FB := Lib.hid fb
  have ZA : Hid (∀ k, a.length ≤ k → a.getD k 0 = 0) := Lib.hid fun k hk => by rw [List.getD_eq_getElem?_getD, List.getElem?_eq_none hk]; rfl
  have ZB : Hid (∀ k, b.length ≤ k → b.getD k 0 = 0) := Lib.hid fun k hk => by rw [List.getD_eq_getElem?_getD, List.getElem?_eq_none hk]; rfl
  have RL : Hid (∀ k, vo (a.drop (k + 1)) = vo (b.drop (k + 1)) → a.getD k 0 < b.getD k 0 → R = true) := Lib.hid fun k h1 h2 => by
    rw [← hR]; exact decide_eq_true ((less_at a b da db k h1 (by omega)).2 h2)
  have RG : Hid (∀ k, vo (a.drop (k + 1)) = vo (b.drop (k + 1)) → b.getD k 0 < a.getD k 0 → R = false) := Lib.hid fun k h1 h2 => by
    rw [← hR]; exact decide_eq_false fun h => by have := (less_at a b da db k h1 (by omega)).1 h; omega
  have RE : Hid (vo (a.drop 0) = vo (b.drop 0) → R = false) := Lib.hid fun h => by
    rw [List.drop_zero, List.drop_zero] at h
    rw [← hR]; exact decide_eq_false (by omega)
  have NX : Hid (∀ k, vo (a.drop (k + 1)) = vo (b.drop (k + 1)) → a.getD k 0 = b.getD k 0 → vo (a.drop k) = vo (b.drop k)) := Lib.hid fun k h1 h2 => by
    rw [vo_drop, vo_drop b, h1, h2]
  have V0 : Hid (vo (a.drop M) = vo (b.drop M)) := Lib.hid (by rw [List.drop_eq_nil_of_le (by omega), List.drop_eq_nil_of_le (by omega)])
  have hM3 : M ≤ 1000 := by omega
  have hM4 : M ≤ a.length ∨ M ≤ b.length := by omega
  have hmx : max (a.length : Int) (b.length : Int) = (M : Int) := by omega
  rw [hR]
  clear hM fa fb da db ha hb hR
  obtain ⟨LA, hLA⟩ : ∃ LA, a.length = LA := ⟨_, rfl⟩
  obtain ⟨LB, hLB⟩ : ∃ LB, b.length = LB := ⟨_, rfl⟩
  rw [hLA] at FA ZA hmx hM4 la ⊢
  rw [hLB] at FB ZB hmx hM4 lb ⊢
  clear hLA hLB
  have HM4 := Lib.hid hM4
  clear hM4
  by_cases hLL : LA < LB
  · have hML : M = LB := by omega
    go_enter Tryd.func70, Tryd.ntmps70
    go_wp2_with fail
    clear hmx
    go_loopw [5] (fun i wr => ∃ (j : Nat) (iw : Int), i = .int .i64 iw ∧ iw = (j : Int) - 1 ∧ j ≤ M ∧ Hid (vo (a.drop j) = vo (b.drop j)) ∧ w = wr) (fun i _ => ((intOf i) + 1).toNat)
    case atStart => exact ⟨M, _, rfl, by omega, Nat.le_refl _, V0, rfl⟩
    case round =>
      clear V0
      obtain ⟨j, iw, rfl, hiw, hj, HV, rfl⟩ := hrel
      by_cases hj0 : j = 0
      · subst hj0
        have hi1 : iw = -1 := by omega
        subst hi1
        have hr := RE.out HV.out
        subst hr
        clear hiw
        go_wp2
        go_ret
        exact ⟨rfl, rfl⟩
      · obtain ⟨k, rfl⟩ : ∃ k, j = k + 1 := ⟨j - 1, by omega⟩
        have hi1 : iw = (k : Int) := by omega
        subst hi1
        clear hiw hj0
        have k0 : (0 : Int) ≤ (k : Int) := by omega
        by_cases c1 : k < LA
        · by_cases c2 : k < LB
          · obtain ⟨ga, rfl, hga, hxa⟩ := FA.out k c1
            have la1 : (k : Int) < (LA : Int) := by omega
            obtain ⟨gb, hgb0, hgb, hxb⟩ := FB.out k c2
            subst hgb0
            have lb1 : (k : Int) < (LB : Int) := by omega
            have hl := RL.out k HV.out
            have hg := RG.out k HV.out
            have he := NX.out k HV.out
            obtain ⟨x, hx⟩ : ∃ x, a.getD k 0 = x := ⟨_, rfl⟩
            obtain ⟨y, hy⟩ : ∃ y, b.getD k 0 = y := ⟨_, rfl⟩
            rw [hx] at hl hg he hxa
            rw [hy] at hl hg he hxb
            clear hx hy
            rcases Nat.lt_trichotomy x y with h | h | h
            · have hr := hl h
              subst hr
              have n1 : (x : Int) < (y : Int) := by omega
              have n2 : ¬ (x : Int) = (y : Int) := by omega
              clear hl hg he
              go_wp2
              all_goals go_ret
              all_goals exact ⟨rfl, rfl⟩
            · have HE := Lib.hid (he h)
              have n2 : (x : Int) = (y : Int) := by omega
              clear hl hg he h
              go_wp2
              all_goals go_roundw
              all_goals try exact ⟨k, (k : Int) - 1, rfl, rfl, by omega, HE, by first | rfl | trivial⟩
              all_goals (simp [intOf] <;> omega)
            · have hr := hg h
              subst hr
              have n1 : ¬ (x : Int) < (y : Int) := by omega
              have n2 : ¬ (x : Int) = (y : Int) := by omega
              clear hl hg he
              go_wp2
              all_goals go_ret
              all_goals exact ⟨rfl, rfl⟩
          · obtain ⟨ga, rfl, hga, hxa⟩ := FA.out k c1
            have la1 : (k : Int) < (LA : Int) := by omega
            have lb1 : ¬ (k : Int) < (LB : Int) := by omega
            have zy := ZB.out k (by omega)
            have hl := RL.out k HV.out
            have hg := RG.out k HV.out
            have he := NX.out k HV.out
            obtain ⟨x, hx⟩ : ∃ x, a.getD k 0 = x := ⟨_, rfl⟩
            obtain ⟨y, hy⟩ : ∃ y, b.getD k 0 = y := ⟨_, rfl⟩
            rw [hx] at hl hg he hxa
            rw [hy] at hl hg he zy
            clear hx hy
            subst zy
            rcases Nat.lt_trichotomy x 0 with h | h | h
            · omega
            · have HE := Lib.hid (he h)
              have n2 : (x : Int) = (0 : Int) := by omega
              clear hl hg he h
              go_wp2
              all_goals go_roundw
              all_goals try exact ⟨k, (k : Int) - 1, rfl, rfl, by omega, HE, by first | rfl | trivial⟩
              all_goals (simp [intOf] <;> omega)
            · have hr := hg h
              subst hr
              have n1 : ¬ (x : Int) < (0 : Int) := by omega
              have n2 : ¬ (x : Int) = (0 : Int) := by omega
              clear hl hg he
              go_wp2
              all_goals go_ret
              all_goals exact ⟨rfl, rfl⟩
        · by_cases c2 : k < LB
          · have la1 : ¬ (k : Int) < (LA : Int) := by omega
            have zx := ZA.out k (by omega)
            obtain ⟨gb, hgb0, hgb, hxb⟩ := FB.out k c2
            subst hgb0
            have lb1 : (k : Int) < (LB : Int) := by omega
            have hl := RL.out k HV.out
            have hg := RG.out k HV.out
            have he := NX.out k HV.out
            obtain ⟨x, hx⟩ : ∃ x, a.getD k 0 = x := ⟨_, rfl⟩
            obtain ⟨y, hy⟩ : ∃ y, b.getD k 0 = y := ⟨_, rfl⟩
            rw [hx] at hl hg he zx
            rw [hy] at hl hg he hxb
            clear hx hy
            subst zx
            rcases Nat.lt_trichotomy 0 y with h | h | h
            · have hr := hl h
              subst hr
              have n1 : (0 : Int) < (y : Int) := by omega
              have n2 : ¬ (0 : Int) = (y : Int) := by omega
              clear hl hg he
              go_wp2
              all_goals go_ret
              all_goals exact ⟨rfl, rfl⟩
            · have HE := Lib.hid (he h)
              have n2 : (0 : Int) = (y : Int) := by omega
              clear hl hg he h
              go_wp2
              all_goals go_roundw
              all_goals try exact ⟨k, (k : Int) - 1, rfl, rfl, by omega, HE, by first | rfl | trivial⟩
              all_goals (simp [intOf] <;> omega)
            · omega
          · have la1 : ¬ (k : Int) < (LA : Int) := by omega
            have zx := ZA.out k (by omega)
            have lb1 : ¬ (k : Int) < (LB : Int) := by omega
            have zy := ZB.out k (by omega)
            have hm := HM4.out
            exfalso
            omega
  · have hML : M = LA := by omega
    go_enter Tryd.func70, Tryd.ntmps70
    go_wp2_with fail
    clear hmx
    go_loopw [5] (fun i wr => ∃ (j : Nat) (iw : Int), i = .int .i64 iw ∧ iw = (j : Int) - 1 ∧ j ≤ M ∧ Hid (vo (a.drop j) = vo (b.drop j)) ∧ w = wr) (fun i _ => ((intOf i) + 1).toNat)
    case atStart => exact ⟨M, _, rfl, by omega, Nat.le_refl _, V0, rfl⟩
    case round =>
      clear V0
      obtain ⟨j, iw, rfl, hiw, hj, HV, rfl⟩ := hrel
      by_cases hj0 : j = 0
      · subst hj0
        have hi1 : iw = -1 := by omega
        subst hi1
        have hr := RE.out HV.out
        subst hr
        clear hiw
        go_wp2
        go_ret
        exact ⟨rfl, rfl⟩
      · obtain ⟨k, rfl⟩ : ∃ k, j = k + 1 := ⟨j - 1, by omega⟩
        have hi1 : iw = (k : Int) := by omega
        subst hi1
        clear hiw hj0
        have k0 : (0 : Int) ≤ (k : Int) := by omega
        by_cases c1 : k < LA
        · by_cases c2 : k < LB
          · obtain ⟨ga, rfl, hga, hxa⟩ := FA.out k c1
            have la1 : (k : Int) < (LA : Int) := by omega
            obtain ⟨gb, hgb0, hgb, hxb⟩ := FB.out k c2
            subst hgb0
            have lb1 : (k : Int) < (LB : Int) := by omega
            have hl := RL.out k HV.out
            have hg := RG.out k HV.out
            have he := NX.out k HV.out
            obtain ⟨x, hx⟩ : ∃ x, a.getD k 0 = x := ⟨_, rfl⟩
            obtain ⟨y, hy⟩ : ∃ y, b.getD k 0 = y := ⟨_, rfl⟩
            rw [hx] at hl hg he hxa
            rw [hy] at hl hg he hxb
            clear hx hy
            rcases Nat.lt_trichotomy x y with h | h | h
            · have hr := hl h
              subst hr
              have n1 : (x : Int) < (y : Int) := by omega
              have n2 : ¬ (x : Int) = (y : Int) := by omega
              clear hl hg he
              go_wp2
              all_goals go_ret
              all_goals exact ⟨rfl, rfl⟩
            · have HE := Lib.hid (he h)
              have n2 : (x : Int) = (y : Int) := by omega
              clear hl hg he h
              go_wp2
              all_goals go_roundw
              all_goals try exact ⟨k, (k : Int) - 1, rfl, rfl, by omega, HE, by first | rfl | trivial⟩
              all_goals (simp [intOf] <;> omega)
            · have hr := hg h
              subst hr
              have n1 : ¬ (x : Int) < (y : Int) := by omega
              have n2 : ¬ (x : Int) = (y : Int) := by omega
              clear hl hg he
              go_wp2
              all_goals go_ret
              all_goals exact ⟨rfl, rfl⟩
          · obtain ⟨ga, rfl, hga, hxa⟩ := FA.out k c1
            have la1 : (k : Int) < (LA : Int) := by omega
            have lb1 : ¬ (k : Int) < (LB : Int) := by omega
            have zy := ZB.out k (by omega)
            have hl := RL.out k HV.out
            have hg := RG.out k HV.out
            have he := NX.out k HV.out
            obtain ⟨x, hx⟩ : ∃ x, a.getD k 0 = x := ⟨_, rfl⟩
            obtain ⟨y, hy⟩ : ∃ y, b.getD k 0 = y := ⟨_, rfl⟩
            rw [hx] at hl hg he hxa
            rw [hy] at hl hg he zy
            clear hx hy
            subst zy
            rcases Nat.lt_trichotomy x 0 with h | h | h
            · omega
            · have HE := Lib.hid (he h)
              have n2 : (x : Int) = (0 : Int) := by omega
              clear hl hg he h
              go_wp2
              all_goals go_roundw
              all_goals try exact ⟨k, (k : Int) - 1, rfl, rfl, by omega, HE, by first | rfl | trivial⟩
              all_goals (simp [intOf] <;> omega)
            · have hr := hg h
              subst hr
              have n1 : ¬ (x : Int) < (0 : Int) := by omega
              have n2 : ¬ (x : Int) = (0 : Int) := by omega
              clear hl hg he
              go_wp2
              all_goals go_ret
              all_goals exact ⟨rfl, rfl⟩
        · by_cases c2 : k < LB
          · have la1 : ¬ (k : Int) < (LA : Int) := by omega
            have zx := ZA.out k (by omega)
            obtain ⟨gb, hgb0, hgb, hxb⟩ := FB.out k c2
            subst hgb0
            have lb1 : (k : Int) < (LB : Int) := by omega
            have hl := RL.out k HV.out
            have hg := RG.out k HV.out
            have he := NX.out k HV.out
            obtain ⟨x, hx⟩ : ∃ x, a.getD k 0 = x := ⟨_, rfl⟩
            obtain ⟨y, hy⟩ : ∃ y, b.getD k 0 = y := ⟨_, rfl⟩
            rw [hx] at hl hg he zx
            rw [hy] at hl hg he hxb
            clear hx hy
            subst zx
            rcases Nat.lt_trichotomy 0 y with h | h | h
            · have hr := hl h
              subst hr
              have n1 : (0 : Int) < (y : Int) := by omega
              have n2 : ¬ (0 : Int) = (y : Int) := by omega
              clear hl hg he
              go_wp2
              all_goals go_ret
              all_goals exact ⟨rfl, rfl⟩
            · have HE := Lib.hid (he h)
              have n2 : (0 : Int) = (y : Int) := by omega
              clear hl hg he h
              go_wp2
              all_goals go_roundw
              all_goals try exact ⟨k, (k : Int) - 1, rfl, rfl, by omega, HE, by first | rfl | trivial⟩
              all_goals (simp [intOf] <;> omega)
            · omega
          · have la1 : ¬ (k : Int) < (LA : Int) := by omega
            have zx := ZA.out k (by omega)
            have lb1 : ¬ (k : Int) < (LB : Int) := by omega
            have zy := ZB.out k (by omega)
            have hm := HM4.out
            exfalso
            omega
end
section
open Go.RowKit Go.ChangeShapes
theorem min_next (a b o : List Nat) (k r s x y q : Nat) (hx : a.getD k 0 = x) (hy : b.getD k 0 = y) (hl : o.length = k) (h : vo (a.take k) + 256 ^ k * r = vo (b.take k) + vo o) (_hs : s ≤ 1) (hd : x + 256 * s = q + r + y) :
    vo (a.take (k + 1)) + 256 ^ (k + 1) * s = vo (b.take (k + 1)) + vo (o ++ [q]) := by
  rw [vo_take, vo_take b, vo_snoc, hl, hx, hy, Nat.pow_succ]
  generalize 256 ^ k = P at *
  have h2 : P * (x + 256 * s) = P * (q + r + y) := by rw [hd]
  rw [Nat.mul_add, Nat.mul_add, Nat.mul_add, ← Nat.mul_assoc] at h2
  omega
theorem min_end (a b o : List Nat) (r : Nat) (da : Dg a) (dn : Dg o) (hl : o.length = a.length) (h : vo (a.take a.length) + 256 ^ a.length * r = vo (b.take a.length) + vo o) (hle : vo b ≤ vo a) : vo o = vo a - vo b := by
  rw [vo_take_all a _ (Nat.le_refl _)] at h
  have h1 := vo_top b a.length
  have h2 := vo_lt a da
  have h3 := vo_lt o dn
  rw [hl] at h3
  generalize 256 ^ a.length = P at *
  have h4 : vo (b.drop a.length) = 0 := by
    rcases Nat.eq_zero_or_pos (vo (b.drop a.length)) with h | h
    · exact h
    · have := Nat.mul_le_mul_left P h; omega
  rw [h4, Nat.mul_zero] at h1
  rcases Nat.eq_zero_or_pos r with h5 | h5
  · subst h5; omega
  · have := Nat.mul_le_mul_left P h5; omega
set_option maxRecDepth 100000 in
set_option maxHeartbeats 4000000 in
/-- The reference's minus. -/
theorem rminus (va vb : Value) (a b : List Nat) (w : World) (ha : Nu w va a) (hb : Nu w vb b) (da : Dg a) (db : Dg b) (la : a.length ≤ 1000) (_lb : b.length ≤ 1000) (hle : vo b ≤ vo a) :
    Calls Tryd.prog 71 #[va, vb] w fun e w' => ∃ v o, e = .returned v ∧ Nu w' v o ∧ Dg o ∧ vo o = vo a - vo b ∧ o.length = a.length ∧ Below w.heap.size w w' := by
  obtain ⟨i0, hi, hz0, hz1, hz2⟩ := info_parts info3
  obtain ⟨aa, ca, rfl, fa⟩ := ha.form
  obtain ⟨ab, cb, rfl, fb⟩ := hb.form
  have FA := Lib.hid fa
  have FB := Lib.hid fb
  have GA := Lib.hid (fun k => da.get k)
  have GB := Lib.hid (fun k => db.get k)
  have ZB : Hid (∀ k, b.length ≤ k → b.getD k 0 = 0) := Lib.hid fun k hk => by rw [List.getD_eq_getElem?_getD, List.getElem?_eq_none hk]; rfl
  have NX : Hid (∀ (o : List Nat) (k r s q : Nat), o.length = k → vo (a.take k) + 256 ^ k * r = vo (b.take k) + vo o → s ≤ 1 → a.getD k 0 + 256 * s = q + r + b.getD k 0 → vo (a.take (k + 1)) + 256 ^ (k + 1) * s = vo (b.take (k + 1)) + vo (o ++ [q])) := Lib.hid fun o k r s q h1 h2 h3 h4 => min_next a b o k r s _ _ q rfl rfl h1 h2 h3 h4
  have EN : Hid (∀ (o : List Nat) (r : Nat), Dg o → o.length = a.length → vo (a.take a.length) + 256 ^ a.length * r = vo (b.take a.length) + vo o → vo o = vo a - vo b) := Lib.hid fun o r h1 h2 h3 => min_end a b o r da h1 h2 h3 hle
  have V0 : Hid (vo (a.take 0) + 256 ^ 0 * 0 = vo (b.take 0) + vo ([] : List Nat)) := Lib.hid (by simp [vo])
  clear fa fb da db ha hb hle
  obtain ⟨LA, hLA⟩ : ∃ LA, a.length = LA := ⟨_, rfl⟩
  obtain ⟨LB, hLB⟩ : ∃ LB, b.length = LB := ⟨_, rfl⟩
  rw [hLA] at FA EN la ⊢
  rw [hLB] at FB ZB ⊢
  clear hLA hLB
  go_enter Tryd.func71, Tryd.ntmps71
  go_wp2_with fail
  go_loopw [5, 6, 7] (fun v c i wr => ∃ (k r : Nat) (o : List Nat), c = .int .i64 r ∧ i = .int .i64 k ∧ k ≤ LA ∧ r ≤ 1 ∧ o.length = k ∧ Hid (Dg o) ∧ Hid (vo (a.take k) + 256 ^ k * r = vo (b.take k) + vo o) ∧ Hid (wr.ownsRow w.heap.size 3 1 v k (inC o)) ∧ Hid (Below w.heap.size w wr)) (fun _ _ i _ => LA - (intOf i).toNat)
  case atStart => exact ⟨0, 0, [], rfl, rfl, by omega, by omega, rfl, Lib.hid Dg.nil, V0, Lib.hid (World.ownsRow_nil _ _ _ _), Lib.hid (Below.refl _ _)⟩
  case round =>
    clear V0
    obtain ⟨k, r, o, rfl, rfl, hk, hr1, hol, HD, HV, HO, HB⟩ := hrel
    have hz := HB.out.size
    have gx := GA.out k
    have gy := GB.out k
    by_cases c1 : k < LA
    · have la1 : (k : Int) < (LA : Int) := by omega
      obtain ⟨ga, rfl, hga, hca⟩ := FA.out k c1
      have hxa := (HB.out.cell (p := ⟨ga, k, none⟩) hga).trans hca
      have hnx := NX.out o k r
      obtain ⟨x, hx⟩ : ∃ x, a.getD k 0 = x := ⟨_, rfl⟩
      rw [hx] at gx hxa hnx
      clear hx hca
      by_cases c2 : k < LB
      · obtain ⟨gb, hgb0, hgb, hcb⟩ := FB.out k c2
        subst hgb0
        have lb1 : (k : Int) < (LB : Int) := by omega
        have hxb := (HB.out.cell (p := ⟨gb, k, none⟩) hgb).trans hcb
        clear hcb
        obtain ⟨y, hy⟩ : ∃ y, b.getD k 0 = y := ⟨_, rfl⟩
        rw [hy] at gy hxb hnx
        clear hy
        by_cases c3 : r + y ≤ x
        · obtain ⟨q, hq⟩ : ∃ q, x - r - y = q := ⟨_, rfl⟩
          have n1 : ¬ (x : Int) - (r : Int) - (y : Int) < 0 := by omega
          have n2 : (x : Int) - (r : Int) - (y : Int) = (q : Int) := by omega
          have n3 : ¬ (q : Int) < 0 := by omega
          have HN := Lib.hid (hnx 0 q hol HV.out (by omega) (by omega))
          have q256 : q < 256 := by omega
          clear hnx hq
          go_wp2_with (first | (at_builtin; refine wpList_append_own _ rfl _ _ 70 rfl w.heap.size 3 i0 (.int .i64 0) 1 8 Tryd.underlying70 hi hz0 hz1 hz2 rfl (by decide) _ k _ rfl (HO.out.alloc _) ⟨wr.heap.size, 0, none⟩ 1 1 [.int .i64 (q : Int)] rfl rfl ?_ ?_ ?_ ?_ ?_ ?_; exact World.news_of_block (cs := #[.int .i64 (q : Int)]) (t := 3) (fr := (0, 0)) (heap_alloc_new wr _); (simp [Value.oneCell']); (unfold maxLen; omega); omega; (simp; omega); intro v2 w3 hown3 hg3 _))
          rw [← inC_snoc] at hown3
          have hB3 : Below w.heap.size w w3 := (HB.out.alloc hz _).grown hg3 (by simp; omega) (fun g hg => (HO.out.lt g hg).1)
          have HO3 := Lib.hid hown3
          have HB3 := Lib.hid hB3
          clear hown3 hg3 hB3
          go_wp2
          go_roundw
          case rel => exact ⟨k + 1, 0, o ++ [q], rfl, by go_num, by omega, by omega, by rw [List.length_append, hol]; rfl, Lib.hid (HD.out.snoc q256), HN, HO3, HB3⟩
          case measure => simp [intOf]; omega
        · obtain ⟨q, hq⟩ : ∃ q, x + 256 - r - y = q := ⟨_, rfl⟩
          have n1 : (x : Int) - (r : Int) - (y : Int) < 0 := by omega
          have n2 : (x : Int) - (r : Int) - (y : Int) + 256 = (q : Int) := by omega
          have HN := Lib.hid (hnx 1 q hol HV.out (by omega) (by omega))
          have q256 : q < 256 := by omega
          clear hnx hq
          go_wp2_with (first | (at_builtin; refine wpList_append_own _ rfl _ _ 70 rfl w.heap.size 3 i0 (.int .i64 0) 1 8 Tryd.underlying70 hi hz0 hz1 hz2 rfl (by decide) _ k _ rfl (HO.out.alloc _) ⟨wr.heap.size, 0, none⟩ 1 1 [.int .i64 (q : Int)] rfl rfl ?_ ?_ ?_ ?_ ?_ ?_; exact World.news_of_block (cs := #[.int .i64 (q : Int)]) (t := 3) (fr := (0, 0)) (heap_alloc_new wr _); (simp [Value.oneCell']); (unfold maxLen; omega); omega; (simp; omega); intro v2 w3 hown3 hg3 _))
          rw [← inC_snoc] at hown3
          have hB3 : Below w.heap.size w w3 := (HB.out.alloc hz _).grown hg3 (by simp; omega) (fun g hg => (HO.out.lt g hg).1)
          have HO3 := Lib.hid hown3
          have HB3 := Lib.hid hB3
          clear hown3 hg3 hB3
          go_wp2
          go_roundw
          case rel => exact ⟨k + 1, 1, o ++ [q], rfl, by go_num, by omega, by omega, by rw [List.length_append, hol]; rfl, Lib.hid (HD.out.snoc q256), HN, HO3, HB3⟩
          case measure => simp [intOf]; omega
      · have lb1 : ¬ (k : Int) < (LB : Int) := by omega
        have zy := ZB.out k (by omega)
        rw [zy] at hnx
        clear zy gy
        by_cases c3 : r ≤ x
        · obtain ⟨q, hq⟩ : ∃ q, x - r - 0 = q := ⟨_, rfl⟩
          have n1 : ¬ (x : Int) - (r : Int) < 0 := by omega
          have n2 : (x : Int) - (r : Int) = (q : Int) := by omega
          have n3 : ¬ (q : Int) < 0 := by omega
          have HN := Lib.hid (hnx 0 q hol HV.out (by omega) (by omega))
          have q256 : q < 256 := by omega
          clear hnx hq
          go_wp2_with (first | (at_builtin; refine wpList_append_own _ rfl _ _ 70 rfl w.heap.size 3 i0 (.int .i64 0) 1 8 Tryd.underlying70 hi hz0 hz1 hz2 rfl (by decide) _ k _ rfl (HO.out.alloc _) ⟨wr.heap.size, 0, none⟩ 1 1 [.int .i64 (q : Int)] rfl rfl ?_ ?_ ?_ ?_ ?_ ?_; exact World.news_of_block (cs := #[.int .i64 (q : Int)]) (t := 3) (fr := (0, 0)) (heap_alloc_new wr _); (simp [Value.oneCell']); (unfold maxLen; omega); omega; (simp; omega); intro v2 w3 hown3 hg3 _))
          rw [← inC_snoc] at hown3
          have hB3 : Below w.heap.size w w3 := (HB.out.alloc hz _).grown hg3 (by simp; omega) (fun g hg => (HO.out.lt g hg).1)
          have HO3 := Lib.hid hown3
          have HB3 := Lib.hid hB3
          clear hown3 hg3 hB3
          go_wp2
          go_roundw
          case rel => exact ⟨k + 1, 0, o ++ [q], rfl, by go_num, by omega, by omega, by rw [List.length_append, hol]; rfl, Lib.hid (HD.out.snoc q256), HN, HO3, HB3⟩
          case measure => simp [intOf]; omega
        · obtain ⟨q, hq⟩ : ∃ q, x + 256 - r - 0 = q := ⟨_, rfl⟩
          have n1 : (x : Int) - (r : Int) < 0 := by omega
          have n2 : (x : Int) - (r : Int) + 256 = (q : Int) := by omega
          have HN := Lib.hid (hnx 1 q hol HV.out (by omega) (by omega))
          have q256 : q < 256 := by omega
          clear hnx hq
          go_wp2_with (first | (at_builtin; refine wpList_append_own _ rfl _ _ 70 rfl w.heap.size 3 i0 (.int .i64 0) 1 8 Tryd.underlying70 hi hz0 hz1 hz2 rfl (by decide) _ k _ rfl (HO.out.alloc _) ⟨wr.heap.size, 0, none⟩ 1 1 [.int .i64 (q : Int)] rfl rfl ?_ ?_ ?_ ?_ ?_ ?_; exact World.news_of_block (cs := #[.int .i64 (q : Int)]) (t := 3) (fr := (0, 0)) (heap_alloc_new wr _); (simp [Value.oneCell']); (unfold maxLen; omega); omega; (simp; omega); intro v2 w3 hown3 hg3 _))
          rw [← inC_snoc] at hown3
          have hB3 : Below w.heap.size w w3 := (HB.out.alloc hz _).grown hg3 (by simp; omega) (fun g hg => (HO.out.lt g hg).1)
          have HO3 := Lib.hid hown3
          have HB3 := Lib.hid hB3
          clear hown3 hg3 hB3
          go_wp2
          go_roundw
          case rel => exact ⟨k + 1, 1, o ++ [q], rfl, by go_num, by omega, by omega, by rw [List.length_append, hol]; rfl, Lib.hid (HD.out.snoc q256), HN, HO3, HB3⟩
          case measure => simp [intOf]; omega
    · obtain rfl : k = LA := by omega
      have hv := EN.out o r HD.out hol HV.out
      have la1 : ¬ (k : Int) < (k : Int) := by omega
      have ho := Joins.ownsRow_le (base' := 0) HO.out (Nat.zero_le _)
      clear gx gy
      go_wp2
      go_ret
      exact ⟨_, rfl, o, by unfold Nu; rw [hol]; exact ho, HD.out, hv, hol, HB.out⟩
end
section
open Go.RowKit Go.ChangeShapes
/-- A row of one number, just made. -/
theorem own_one (w : World) (base x : Nat) (hb : base ≤ w.heap.size) : (w.alloc (.cells #[.int .i64 (x : Int)] 3)).ownsRow base 3 1 (.slice (some ⟨w.heap.size, 0, none⟩) 1 1) 1 (inC [x]) :=
  ⟨rfl, Or.inr ⟨_, 1, #[.int .i64 (x : Int)], rfl, hb, heap_alloc_new w _, by omega, by unfold maxLen; omega, rfl, rfl⟩⟩
def prA : List Nat := [251, 255, 255, 255, 255, 255, 255, 255, 255, 255, 255, 255, 255, 255, 255, 255]
def prB : List Nat := prA ++ [3]
theorem prB_vo : vo prB = pP := by decide +kernel
theorem prB_dg : Dg prB := by unfold Dg; decide +kernel
theorem prA_take (k : Nat) (h1 : 1 ≤ k) (h : k < 16) : prA.take (k + 1) = prA.take k ++ [255] := by
  match k, h1, h with
  | 1, _, _ | 2, _, _ | 3, _, _ | 4, _, _ | 5, _, _ | 6, _, _ | 7, _, _ | 8, _, _ | 9, _, _ | 10, _, _ | 11, _, _ | 12, _, _ | 13, _, _ | 14, _, _ | 15, _, _ => rfl
  | n + 16, _, h => exact absurd h (by omega)
set_option maxRecDepth 100000 in
set_option maxHeartbeats 1000000 in
/-- The reference's prime. -/
theorem rprime (w : World) : Calls Tryd.prog 69 #[] w fun e w' => ∃ v, e = .returned v ∧ Nu w' v prB ∧ Below w.heap.size w w' := by
  obtain ⟨i0, hi, hz0, hz1, hz2⟩ := info_parts info3
  have h0 := own_one w w.heap.size 251 (Nat.le_refl _)
  have HT := Lib.hid prA_take
  have HE : Hid (prA.take 16 ++ [3] = prB) := Lib.hid rfl
  have HL : Hid (prB.length = 17) := Lib.hid rfl
  have h1 : inC [251] = inC (prA.take 1) := rfl
  rw [h1] at h0
  have H0 := Lib.hid h0
  have B0 := Lib.hid ((Below.refl w.heap.size w).alloc (Nat.le_refl _) (.cells #[.int .i64 ((251 : Nat) : Int)] 3))
  clear h0 h1
  generalize prA = A at HT HE H0
  generalize prB = B at HE HL ⊢
  go_enter Tryd.func69, Tryd.ntmps69
  go_wp2_with fail
  go_loopw [1, 2] (fun v i wr => ∃ k : Nat, 1 ≤ k ∧ k ≤ 16 ∧ i = .int .i64 k ∧ Hid (wr.ownsRow w.heap.size 3 1 v k (inC (A.take k))) ∧ Hid (Below w.heap.size w wr)) (fun _ i _ => 16 - (intOf i).toNat)
  case atStart => exact ⟨1, by omega, by omega, rfl, H0, B0⟩
  case round =>
    clear H0 B0
    obtain ⟨k, hk1, hk, rfl, HO, HB⟩ := hrel
    have hz := HB.out.size
    by_cases hlt : k < 16
    · have hl : (k : Int) < 16 := by omega
      have hap := HT.out k hk1 hlt
      go_wp2_with (first | (at_builtin; refine wpList_append_own _ rfl _ _ 70 rfl w.heap.size 3 i0 (.int .i64 0) 1 8 Tryd.underlying70 hi hz0 hz1 hz2 rfl (by decide) _ k _ rfl (HO.out.alloc _) ⟨wr.heap.size, 0, none⟩ 1 1 [.int .i64 (255 : Int)] rfl rfl ?_ ?_ ?_ ?_ ?_ ?_; exact World.news_of_block (cs := #[.int .i64 (255 : Int)]) (t := 3) (fr := (0, 0)) (heap_alloc_new wr _); (simp [Value.oneCell']); (unfold maxLen; omega); omega; (simp; omega); intro v2 w3 hown3 hg3 _))
      rw [show inC (A.take k) ++ [Value.int .i64 (255 : Int)] = inC (A.take (k + 1)) from by rw [hap, inC_snoc]; rfl] at hown3
      have hB3 : Below w.heap.size w w3 := (HB.out.alloc hz _).grown hg3 (by simp; omega) (fun g hg => (HO.out.lt g hg).1)
      have HO3 := Lib.hid hown3
      have HB3 := Lib.hid hB3
      clear hown3 hg3 hB3 hap
      go_wp2
      go_roundw
      case rel => exact ⟨k + 1, by omega, by omega, by go_num, HO3, HB3⟩
      case measure => simp [intOf]; omega
    · obtain rfl : k = 16 := by omega
      clear hlt hk hk1
      go_wp2_with (first | (at_builtin; refine wpList_append_own _ rfl _ _ 70 rfl w.heap.size 3 i0 (.int .i64 0) 1 8 Tryd.underlying70 hi hz0 hz1 hz2 rfl (by decide) _ 16 _ rfl (HO.out.alloc _) ⟨wr.heap.size, 0, none⟩ 1 1 [.int .i64 (3 : Int)] rfl rfl ?_ ?_ ?_ ?_ ?_ ?_; exact World.news_of_block (cs := #[.int .i64 (3 : Int)]) (t := 3) (fr := (0, 0)) (heap_alloc_new wr _); (simp [Value.oneCell']); (unfold maxLen; omega); omega; (simp; omega); intro v2 w3 hown3 hg3 _))
      rw [show inC (A.take 16) ++ [Value.int .i64 (3 : Int)] = inC B from by rw [← HE.out, inC_snoc]; rfl] at hown3
      have hB3 : Below w.heap.size w w3 := (HB.out.alloc hz _).grown hg3 (by simp; omega) (fun g hg => (HO.out.lt g hg).1)
      have ho := Joins.ownsRow_le (base' := 0) hown3 (Nat.zero_le _)
      clear hown3 hg3
      go_wp2
      go_ret
      exact ⟨_, rfl, by unfold Nu; rw [HL.out]; exact ho, hB3⟩
end
section
open Go.RowKit Go.ChangeShapes
theorem i64_and1 (z : Nat) (h : z < 256) : bits .and .i64 (z : Int) 1 = ((z % 2 : Nat) : Int) := by
  show IntKind.i64.wrap ((BitVec.ofInt 64 (z : Int) &&& BitVec.ofInt 64 1).toNat : Int) = _
  rw [BitVec.toNat_and, BitVec.ofInt_natCast, BitVec.toNat_ofNat, Nat.mod_eq_of_lt (by omega), show (BitVec.ofInt 64 1).toNat = 1 from rfl, Nat.and_one_is_mod]
  exact IntWalk.i64_in _ (by omega)
theorem len17 {M n x : Nat} (hM : M ≤ 17) (h1 : n ≤ M + 1) (h2 : n = M + 1 → 256 ^ M ≤ x) (hx : x < 256 ^ 17) : n ≤ 17 := by
  rcases Nat.lt_or_ge M 17 with h | h
  · omega
  · obtain rfl : M = 17 := by omega
    rcases Nat.lt_or_ge n 18 with h3 | h3
    · omega
    · exact absurd (h2 (by omega)) (by omega)
set_option maxRecDepth 100000 in
set_option maxHeartbeats 4000000 in
/-- The reference's rest. -/
theorem rrest (va : Value) (a : List Nat) (w : World) (ha : Nu w va a) (da : Dg a) (la : a.length ≤ 60) :
    Calls Tryd.prog 39 #[va] w fun e w' => ∃ v o, e = .returned v ∧ Nu w' v o ∧ Dg o ∧ vo o = vo a % pP ∧ o.length ≤ 17 ∧ Below w.heap.size w w' := by
  obtain ⟨aa, ca, rfl, fa⟩ := ha.form
  have FA := Lib.hid fa
  have GA := Lib.hid (fun k => da.get k)
  have BT := Lib.hid (vo_bit a da)
  have BS := Lib.hid (bit_step (vo a))
  have RS : Hid (∀ (k r b : Nat), r = vo a / 2 ^ (k + 1) % pP → b ≤ 1 → vo a / 2 ^ k % 2 = b → (if 2 * r + b < pP then 2 * r + b else 2 * r + b - pP) = vo a / 2 ^ k % pP) := Lib.hid fun k r b h1 h2 h3 => by
    rw [bit_step (vo a) k, h3]; exact rest_step _ b r h1 h2
  have HLT : Hid (∀ (k r : Nat), r = vo a / 2 ^ k % pP → 2 * r + 1 < 256 ^ 17) := Lib.hid fun k r h => by
    have h1 : r < pP := by rw [h]; exact Nat.mod_lt _ (by decide)
    have h2 : 2 * pP < 256 ^ 17 := by decide
    omega
  have V0 : Hid (vo [0] = vo a / 2 ^ (8 * a.length) % pP) := Lib.hid (by
    have := vo_lt a da
    rw [Nat.div_eq_of_lt (by rw [Nat.pow_mul]; exact this)]; rfl)
  have VE : Hid (vo a / 2 ^ 0 % pP = vo a % pP) := Lib.hid (by rw [Nat.pow_zero, Nat.div_one])
  have D0 : Hid (Dg [0]) := Lib.hid (by unfold Dg; decide)
  have D1 : Hid (Dg [1]) := Lib.hid (by unfold Dg; decide)
  have HP := Lib.hid prB_vo
  have HPD := Lib.hid prB_dg
  have HPL : Hid (prB.length = 17) := Lib.hid rfl
  have hp := Lib.hid (rprime w)
  generalize prB = B at HP HPD HPL hp
  generalize vo a = v at BT BS RS V0 VE HLT ⊢
  generalize pP = P at HP RS V0 VE HLT ⊢
  clear fa da ha
  obtain ⟨LA, hLA⟩ : ∃ LA, a.length = LA := ⟨_, rfl⟩
  rw [hLA] at FA V0 la ⊢
  clear hLA
  go_enter Tryd.func39, Tryd.ntmps39
  go_wp2_with fail
  refine hp.out.mono ?_
  rintro e w1 ⟨vp, rfl, hn1, hb1⟩
  have NP := Lib.hid (hn1.below ((Below.refl _ w1).alloc (Nat.le_refl _) (.cells #[.int .i64 ((0 : Nat) : Int)] 3)))
  have N0 := Lib.hid (Joins.ownsRow_le (base' := 0) (own_one w1 0 0 (Nat.zero_le _)) (Nat.zero_le _))
  have HB1 := Lib.hid (hb1.alloc hb1.size (.cells #[.int .i64 ((0 : Nat) : Int)] 3))
  clear hn1 hb1 hp
  go_wp2_with fail
  go_loopw [4, 5] (fun rv i wr => ∃ (j : Nat) (iw : Int) (ro : List Nat), i = .int .i64 iw ∧ iw = (j : Int) - 1 ∧ j ≤ 8 * LA ∧ ro.length ≤ 17 ∧ Hid (Nu wr rv ro) ∧ Hid (Dg ro) ∧ Hid (vo ro = v / 2 ^ j % P) ∧ Hid (Nu wr vp B) ∧ Hid (Below w.heap.size w wr)) (fun _ i _ => ((intOf i) + 1).toNat)
  case atStart => exact ⟨8 * LA, _, [0], rfl, by omega, Nat.le_refl _, by simp, N0, D0, V0, NP, HB1⟩
  case round =>
    clear V0 D0 N0 HB1
    obtain ⟨j, iw, ro, rfl, hiw, hj, hrl, HN, HD, HV, HNP, HB⟩ := hrel
    by_cases hj0 : j = 0
    · subst hj0
      have hi1 : iw = -1 := by omega
      subst hi1
      have hv := HV.out
      rw [VE.out] at hv
      clear hiw
      go_wp2
      go_ret
      first | exact ⟨_, rfl, ro, HN.out, HD.out, hv, by omega, HB.out⟩ | exact ⟨_, ro, rfl, HN.out, HD.out, hv, by omega, HB.out⟩
    · obtain ⟨k, rfl⟩ : ∃ k, j = k + 1 := ⟨j - 1, by omega⟩
      have hi1 : iw = (k : Int) := by omega
      subst hi1
      clear hiw hj0
      have k0 : (0 : Int) ≤ (k : Int) := by omega
      obtain ⟨q, hq⟩ : ∃ q, k / 8 = q := ⟨_, rfl⟩
      obtain ⟨m, hm⟩ : ∃ m, k % 8 = m := ⟨_, rfl⟩
      have q1 : (k : Int).tdiv 8 = (q : Int) := by rw [Int.tdiv_eq_ediv_of_nonneg (by omega)]; omega
      have q2 : (k : Int) / 8 = (q : Int) := by omega
      have m1 : (k : Int).tmod 8 = (m : Int) := by rw [Int.tmod_eq_emod_of_nonneg (by omega)]; omega
      have m2 : (k : Int) % 8 = (m : Int) := by omega
      have hqa : q < LA := by omega
      have hm8 : m < 8 := by omega
      obtain ⟨ga, rfl, hga, hca⟩ := FA.out q hqa
      have gx := GA.out q
      have hbt := BT.out k
      have hrs := RS.out k (vo ro)
      have HLTk := Lib.hid (HLT.out (k + 1) (vo ro) HV.out)
      rw [hq, hm] at hbt
      obtain ⟨x, hx⟩ : ∃ x, a.getD q 0 = x := ⟨_, rfl⟩
      rw [hx] at gx hca hbt
      obtain ⟨z, hzz⟩ : ∃ z, x / 2 ^ m = z := ⟨_, rfl⟩
      rw [hzz] at hbt
      have z256 : z < 256 := by rw [← hzz]; exact Nat.lt_of_le_of_lt (Nat.div_le_self _ _) gx
      have e1 : (x : Int) / 2 ^ m = (z : Int) := by rw [← hzz]; simp
      have e2 := i64_and1 z z256
      obtain ⟨bt, hb0⟩ : ∃ bt, z % 2 = bt := ⟨_, rfl⟩
      rw [hb0] at hbt e2
      have bt1 : bt ≤ 1 := by omega
      have hrs2 := Lib.hid (hrs bt HV.out bt1 hbt)
      have s1 := Lib.hid (rsum _ _ ro ro _ HN.out HN.out HD.out HD.out (by omega) (by omega))
      have zwr := HB.out.size
      clear hq hm hx hzz hb0 hbt hrs
      go_wp2_with fail
      refine s1.out.mono ?_
      rintro e W1 ⟨v1, o1, rfl, hn1, hd1, hv1, hl1, hb1⟩
      have hxa := (hb1.cell (p := ⟨ga, q, none⟩) (Nat.lt_of_lt_of_le hga zwr)).trans ((HB.out.cell (p := ⟨ga, q, none⟩) hga).trans hca)
      have NP1 := Lib.hid (HNP.out.below hb1)
      have HB1 := Lib.hid (HB.out.trans (hb1.mono zwr))
      have N1 := Lib.hid hn1
      have DD1 := Lib.hid hd1
      have VV1 := Lib.hid hv1
      have hl1' : o1.length ≤ 17 := by have h1 := VV1.out; have h2 := HLTk.out; exact len17 (M := max ro.length ro.length) (x := vo o1) (by omega) hl1.1 hl1.2 (by omega)
      have zw1 := HB1.out.size
      clear hn1 hd1 hv1 hb1 hl1 hca s1
      by_cases hbit : bt = 1
      · subst hbit
        have s2 := Lib.hid (rsum v1 (.slice (some ⟨W1.heap.size, 0, none⟩) 1 1) o1 [1] (W1.alloc (.cells #[.int .i64 1] 3)) (N1.out.below ((Below.refl _ W1).alloc (Nat.le_refl _) _)) (Joins.ownsRow_le (base' := 0) (own_one W1 0 1 (Nat.zero_le _)) (Nat.zero_le _)) DD1.out D1.out (by omega) (by simp))
        go_wp2_with fail
        refine s2.out.mono ?_
        rintro e W3 ⟨v3, o3, rfl, hn3, hd3, hv3, hl3, hb3⟩
        have N3 := Lib.hid hn3
        have D3 := Lib.hid hd3
        have hv31 : vo [1] = 1 := rfl
        have V3 : Hid (vo o3 = 2 * vo ro + 1) := Lib.hid (by have := VV1.out; omega)
        have NP3 := Lib.hid ((NP1.out.below ((Below.refl _ W1).alloc (Nat.le_refl _) (.cells #[.int .i64 1] 3))).below hb3)
        have HB3 := Lib.hid ((HB1.out.alloc zw1 (.cells #[.int .i64 1] 3)).trans (hb3.mono (by rw [World.size_alloc]; omega)))
        have hl31 : o3.length ≤ 17 := by have h1 := V3.out; have h2 := HLTk.out; exact len17 (M := max o1.length [1].length) (x := vo o3) (by have : [1].length = 1 := rfl; omega) hl3.1 hl3.2 (by omega)
        clear hn3 hd3 hv3 hb3 hl3 s2 hv31 hxa
        have L1 := Lib.hid (rless _ _ o3 B W3 N3.out NP3.out D3.out HPD.out (by omega) (by rw [HPL.out]; omega))
        go_wp2_with fail
        refine L1.out.mono ?_
        rintro e W' ⟨rfl, rfl⟩
        clear L1
        by_cases hlt : vo o3 < P
        · have hres : Hid (vo o3 = v / 2 ^ k % P) := Lib.hid (by have h1 := hrs2.out; have h2 := V3.out; rw [if_pos (by omega)] at h1; omega)
          rw [show decide (vo o3 < vo B) = true from decide_eq_true (by rw [HP.out]; exact hlt)]
          clear hlt
          go_wp2
          go_roundw
          case rel => exact ⟨k, (k : Int) - 1, o3, rfl, rfl, by omega, by omega, N3, D3, hres, NP3, HB3⟩
          case measure => simp [intOf]
        · have M1 := Lib.hid (rminus _ _ o3 B W3 N3.out NP3.out D3.out HPD.out (by omega) (by rw [HPL.out]; omega) (by rw [HP.out]; omega))
          rw [show decide (vo o3 < vo B) = false from decide_eq_false (by rw [HP.out]; exact hlt)]
          have hres : Hid (vo o3 - vo B = v / 2 ^ k % P) := Lib.hid (by have h1 := hrs2.out; have h2 := V3.out; have h3 := HP.out; rw [if_neg (by omega)] at h1; omega)
          clear hlt
          go_wp2_with fail
          refine M1.out.mono ?_
          rintro e W5 ⟨v5, o5, rfl, hn5, hd5, hv5, hl5, hb5⟩
          have N5 := Lib.hid hn5
          have D5 := Lib.hid hd5
          rw [← hv5] at hres
          have NP5 := Lib.hid (NP3.out.below hb5)
          have HB5 := Lib.hid (HB3.out.trans (hb5.mono HB3.out.size))
          have hl6 : o5.length = o3.length := hl5
          clear hn5 hd5 hv5 hb5 hl5 M1
          go_wp2
          go_roundw
          case rel => exact ⟨k, (k : Int) - 1, o5, rfl, rfl, by omega, by omega, N5, D5, hres, NP5, HB5⟩
          case measure => simp [intOf]
      · have hb0 : bt = 0 := by omega
        subst hb0
        have V1 : Hid (vo o1 = 2 * vo ro + 0) := Lib.hid (by have := VV1.out; omega)
        have L1 := Lib.hid (rless _ _ o1 B W1 N1.out NP1.out DD1.out HPD.out (by omega) (by rw [HPL.out]; omega))
        go_wp2_with fail
        refine L1.out.mono ?_
        rintro e W' ⟨rfl, rfl⟩
        clear L1
        by_cases hlt : vo o1 < P
        · have hres : Hid (vo o1 = v / 2 ^ k % P) := Lib.hid (by have h1 := hrs2.out; have h2 := V1.out; rw [if_pos (by omega)] at h1; omega)
          rw [show decide (vo o1 < vo B) = true from decide_eq_true (by rw [HP.out]; exact hlt)]
          clear hlt
          go_wp2
          go_roundw
          case rel => exact ⟨k, (k : Int) - 1, o1, rfl, rfl, by omega, by omega, N1, DD1, hres, NP1, HB1⟩
          case measure => simp [intOf]
        · have M1 := Lib.hid (rminus _ _ o1 B W1 N1.out NP1.out DD1.out HPD.out (by omega) (by rw [HPL.out]; omega) (by rw [HP.out]; omega))
          rw [show decide (vo o1 < vo B) = false from decide_eq_false (by rw [HP.out]; exact hlt)]
          have hres : Hid (vo o1 - vo B = v / 2 ^ k % P) := Lib.hid (by have h1 := hrs2.out; have h2 := V1.out; have h3 := HP.out; rw [if_neg (by omega)] at h1; omega)
          clear hlt
          go_wp2_with fail
          refine M1.out.mono ?_
          rintro e W5 ⟨v5, o5, rfl, hn5, hd5, hv5, hl5, hb5⟩
          have N5 := Lib.hid hn5
          have D5 := Lib.hid hd5
          rw [← hv5] at hres
          have NP5 := Lib.hid (NP1.out.below hb5)
          have HB5 := Lib.hid (HB1.out.trans (hb5.mono HB1.out.size))
          have hl6 : o5.length = o1.length := hl5
          clear hn5 hd5 hv5 hb5 hl5 M1
          go_wp2
          go_roundw
          case rel => exact ⟨k, (k : Int) - 1, o5, rfl, rfl, by omega, by omega, N5, D5, hres, NP5, HB5⟩
          case measure => simp [intOf]
end
end Go.Proofs.YtnfefkcfifnjnaaDoor
