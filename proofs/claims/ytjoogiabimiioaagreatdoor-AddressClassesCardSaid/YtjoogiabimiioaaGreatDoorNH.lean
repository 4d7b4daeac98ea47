/- Contract of readSix. -/
import Derived.Test.YtjoogiabimiioaaGreatDoorNG
import Derived.Test.YtjoogiabimiioaaGreatDoorK
import Derived.WalkMore
namespace Go.Proofs.YtjoogiabimiioaaGreatDoor
open Go.RowKit Go.ChangeShapes
theorem yields_row {P : Program} {ops : Array Oper} {S : World → Prop} {op : Oper} {a : Act} (hw : Region.wanted op (yielded ops a.tmps) = true) (ty : TypeId) (x : Operand) (ho : op.op = .load ty x)
    (g : Nat) (hx : a.eval x = .pointer (some ⟨g, 0, none⟩)) (cs : Array Value) (t : TypeId) (d : TypeDesc) (hS : ∀ w, S w → w.heap[g]? = some (.cells cs t (0, 0)))
    (hu : P.underlying ty = some d) (hd : (match d with | .struct _ | .array _ _ => true | _ => false) = true) (hi : (P.info? ty).map (·.size) = some cs.size) : YieldsIf P ops S op (.agg cs) a :=
  .inl ⟨hw, fun w hw' => by
    unfold execOp
    simp only [ho, hx, Instr.loadAt, Instr.sureAddr, Sem.run_bind, Sem.run_pure, Result.andThen_ok, run_loadVar_row w g t ty cs (0, 0) d (hS w hw') hu hd hi]⟩
/-- Whether the text is that of its groups. -/
def sixR (s : List UInt8) : Bool := grT (sixG s) == s
set_option maxRecDepth 100000 in
set_option maxHeartbeats 8000000 in
theorem readSix_any (s : List UInt8) (w : World) (hs : s.length ≤ 1000) (hE : Env w) :
    Calls Tryz.prog 50 #[.string (bs s)] w fun e w' => e = .returned (.tuple #[.string (bs (octL (sixG s))), .bool (sixR s)]) ∧ Below w.heap.size w w' := by
  have HCUT : Hid (Calls Tryz.prog 34 #[.string (bs s), .string ⟨#[58, 58]⟩] w fun e w' => (∃ fb, e = .returned (.tuple #[.string (bs (cut1 s)), .string (bs (cut2 s)), .bool fb])) ∧ ∃ n, w' = w.drewN n) := Lib.hid (by
    obtain ⟨m, hm⟩ := hE.m
    refine (Tryz.strings_Cut (bs s) ⟨#[58, 58]⟩ m w (by rw [bs_size]; omega) hm).mono ?_
    rintro e V ⟨rfl, hn⟩
    have hl : (bs s).data.toList = s := by simp [bs_data]
    refine ⟨⟨(Lib.cut s [58, 58]).2.2, ?_⟩, hn⟩
    rw [hl]
    rfl)
  have HN := Lib.hid (Sx.new hE)
  have H1 : Hid (∀ W, W.heap[w.heap.size]? = some (.cells (gsC z8) 120 (0, 0)) → Calls Tryz.prog 85 #[.slice (some ⟨w.heap.size, 0, none⟩) 8 8, .string (bs (cut1 s)), .string ⟨#[58]⟩, .int .i64 16] W fun e w' =>
      (∃ v, e = .returned v) ∧ Only w.heap.size W w' ∧ w'.heap[w.heap.size]? = some (.cells (rwK .u16 (six1 s)) 120 (0, 0))) :=
    Lib.hid (fun W h => (read85_any 120 w.heap.size 8 16 z8 58 (cut1 s) W (.inr rfl) (by decide) rfl (by have := cut1_len s; omega) h).mono (by rintro e V ⟨rfl, h1, h2⟩; exact ⟨⟨_, rfl⟩, h1, h2⟩))
  obtain ⟨r2, hr2, h2l⟩ : ∃ r2, plc z8 (six2 s) = r2 ∧ r2.length = 8 := ⟨_, rfl, by rw [plc_length z8 _ (six2_val s).1]; rfl⟩
  have H2 : Hid (∀ W, W.heap[w.heap.size + 1]? = some (.cells (gsC z8) 120 (0, 0)) → Calls Tryz.prog 85 #[.slice (some ⟨w.heap.size + 1, 0, none⟩) 8 8, .string (bs (cut2 s)), .string ⟨#[58]⟩, .int .i64 16] W fun e w' =>
      (∃ b, e = .returned (.tuple #[.int .i64 ((six2 s).length : Int), .bool b])) ∧ Only (w.heap.size + 1) W w' ∧ w'.heap[w.heap.size + 1]? = some (.cells (rwK .u16 r2) 120 (0, 0))) :=
    Lib.hid (fun W h => (read85_any 120 (w.heap.size + 1) 8 16 z8 58 (cut2 s) W (.inr rfl) (by decide) rfl (by have := cut2_len s; omega) h).mono (by rintro e V ⟨rfl, h1, h2⟩; exact ⟨⟨_, rfl⟩, h1, by rw [← hr2]; exact h2⟩))
  have hG : (six1 s).take (8 - (six2 s).length) ++ r2.take (six2 s).length = sixG s := by
    rw [← hr2, sixG]
    congr 1
    unfold plc
    exact List.take_left' rfl
  have hcc := (six2_val s).1
  generalize (six2 s).length = cc at H2 hG hcc
  obtain ⟨o, ho1, ho2⟩ := sl_rest w.heap.size (8 - cc) (by omega)
  have HCP : Hid (∀ W ty, Sx w (six1 s) r2 W → (Builtin.copy_ #[125, 125] ty #[.slice (some ⟨w.heap.size, o, none⟩) (8 - (8 - cc)) (8 - (8 - cc)), .slice (some ⟨w.heap.size + 1, 0, none⟩) cc 8]).run Tryz.prog W = .ok (goInt cc) (W.setRow w.heap.size (gsC (sixG s)))) :=
    Lib.hid (fun W ty h => by rw [← hG]; exact copyG ty W w.heap.size (w.heap.size + 1) (six1 s) r2 cc o (six1_val s).1 h2l hcc ho2 h.g1 h.g2)
  have HT := Lib.hid (fun W => text_any (sixG s) W (sixG_val s).1 (sixG_val s).2)
  have HH := Lib.hid (fun W => host_any (sixG s) W (sixG_val s).1 (sixG_val s).2)
  have HE := Lib.hid hE
  have HSZ : Hid ((Tryz.prog.info? 120).map (·.size) = some (gsC (sixG s)).size) := Lib.hid (by rw [size120, gsC_size, (sixG_val s).1])
  have hsa := sl_all
  have hst := fun W => sl_to (w.heap.size + 1) cc hcc W
  have hk1 : wrap64 ((8 : Int) - (cc : Int)) = ((8 - cc : Nat) : Int) := by rw [show (8 : Int) - (cc : Int) = ((8 - cc : Nat) : Int) by omega]; exact w64_nat (by omega)
  rw [show sixR s = ((bs (grT (sixG s))).toList == (bs s).toList) by rw [Lib.toList_data, Lib.toList_data, bs_data, bs_data]; rfl]
  generalize octL (sixG s) = O at HH ⊢
  generalize grT (sixG s) = T at HT ⊢
  generalize sixG s = G at HCP HT HH HSZ
  generalize six1 s = r1 at H1 HCP
  generalize cut1 s = B1 at HCUT H1
  generalize cut2 s = B2 at HCUT H2
  generalize 8 - cc = lo at ho1 HCP hk1
  generalize 8 - lo = cl at ho1 HCP
  generalize bs T = XT at HT ⊢
  generalize bs O = XO at HH ⊢
  generalize bs s = S at HCUT ⊢
  clear hG hr2 h2l hcc ho2 hE hs
  go_enter Tryz.func50, Tryz.ntmps50
  go_upto_region 1 with fail
  go_wp2_with fail
  (with_reducible refine HCUT.out.mono ?_)
  rintro e V ⟨⟨fb, rfl⟩, n, rfl⟩
  go_upto_region 3 with fail
  generalize hV0 : World.alloc (World.alloc (w.drewN n) _) _ = V0
  have HS := Lib.hid (show Sx w z8 z8 V0 by rw [← hV0]; exact HN.out n)
  clear hV0 HN HCUT
  go_upto_region 4 with (go_at_call 85; (with_reducible refine (H1.out _ HS.out.g1).mono ?_); rintro e V1 ⟨⟨v, rfl⟩, ho, hr⟩; (have HS1 := Lib.hid (HS.out.put1 ho hr HE.out)); clear ho hr HS H1)
  go_upto_region 5 with (go_at_call 85; (with_reducible refine (H2.out _ HS1.out.g2).mono ?_); rintro e V2 ⟨⟨b, rfl⟩, ho, hr⟩; (have HS2 := Lib.hid (HS1.out.put2 ho hr HE.out)); clear ho hr HS1 H2)
  have hcp := fun ty => HCP.out V2.drew ty HS2.out.drew
  have HS3 := Lib.hid (HS2.out.drew.copied G HE.out)
  clear HCP HS2
  go_region
  clear hcp hsa hst ho1 hk1
  generalize World.setRow V2.drew w.heap.size (gsC G) = V3 at HS3 ⊢
  have HS := HS3
  clear HS3
  go_upto_region 6 with fail
  refine region_anyC (fun W => Sx w G r2 W) (fun w' => True) [] (by kernel_rfl) ?_
  have HS := Lib.hid HS.out.drew
  refine anyC_takeS (i := 0) (oi := ⟨some 32, _, _, _, _, _⟩) (v := .agg (gsC G)) rfl (by kernel_rfl) (by kernel_rfl) (by kernel_rfl) (by kernel_rfl) (fun _ _ _ h => h) (yields_row (by rfl) 120 _ rfl w.heap.size rfl (gsC G) 120 _ (fun w' hw' => hw'.g1) Tryz.underlying120 rfl HSZ.out) HS.out (fun _ => trivial) ?_
  try simp only [Act.put, List.setIfInBounds_toArray, List.set_cons_zero, List.set_cons_succ]
  refine anyC_takeS (i := 2) (oi := ⟨some 34, _, _, _, _, _⟩) (v := .agg (gsC G)) rfl (by kernel_rfl) (by kernel_rfl) (by kernel_rfl) (by kernel_rfl) (fun _ _ _ h => h) (yields_row (by rfl) 120 _ rfl w.heap.size rfl (gsC G) 120 _ (fun w' hw' => hw'.g1) Tryz.underlying120 rfl HSZ.out) HS.out (fun _ => trivial) ?_
  try simp only [Act.put, List.setIfInBounds_toArray, List.set_cons_zero, List.set_cons_succ]
  refine anyC_takeS (i := 4) (oi := ⟨some 36, _, _, _, _, _⟩) (v := _) rfl (by kernel_rfl) (by kernel_rfl) (by kernel_rfl) (by kernel_rfl) (fun _ _ _ h => h) (Or.inl ⟨by rfl, fun w' hw' => (by clear hw'; go_simp; try with_reducible rfl)⟩) HS.out (fun _ => trivial) ?_
  try simp only [Act.put, List.setIfInBounds_toArray, List.set_cons_zero, List.set_cons_succ]
  refine anyC_keep (i := 1) (o := ⟨some 33, _, _, _, _, _⟩) (by kernel_rfl) rfl (fun K hK => ?_)
  rw [if_pos (by rfl)]
  go_wp2_with fail
  (with_reducible refine (HH.out _).mono ?_)
  rintro e V4 ⟨rfl, hb⟩
  have HS := Lib.hid (HS.out.below hb)
  refine hK.out _ _ ⟨HS.out, fun _ => trivial⟩ ?_
  clear hK K hb
  try simp only [Act.put, List.setIfInBounds_toArray, List.set_cons_zero, List.set_cons_succ]
  refine anyC_keep (i := 3) (o := ⟨some 35, _, _, _, _, _⟩) (by kernel_rfl) rfl (fun K hK => ?_)
  rw [if_pos (by rfl)]
  go_wp2_with fail
  (with_reducible refine (HT.out _ HS.out.e).mono ?_)
  rintro e V5 ⟨rfl, hb⟩
  have HS := Lib.hid (HS.out.below hb)
  refine hK.out _ _ ⟨HS.out, fun _ => trivial⟩ ?_
  clear hK K hb
  try simp only [Act.put, List.setIfInBounds_toArray, List.set_cons_zero, List.set_cons_succ]
  refine anyC_takeS (i := 5) (oi := ⟨some 37, _, _, _, _, _⟩) (v := _) rfl (by kernel_rfl) (by kernel_rfl) (by kernel_rfl) (by kernel_rfl) (fun _ _ _ h => h) (Or.inl ⟨by rfl, fun w' hw' => (by clear hw'; go_simp; try with_reducible rfl)⟩) HS.out (fun _ => trivial) ?_
  try simp only [Act.put, List.setIfInBounds_toArray, List.set_cons_zero, List.set_cons_succ]
  refine anyC_takeS (i := 6) (oi := ⟨some 2, _, _, _, _, _⟩) (v := _) rfl (by kernel_rfl) (by kernel_rfl) (by kernel_rfl) (by kernel_rfl) (fun _ _ _ h => h) (Or.inl ⟨by rfl, fun w' hw' => (by clear hw'; go_simp; try with_reducible rfl)⟩) HS.out (fun _ => trivial) ?_
  try simp only [Act.put, List.setIfInBounds_toArray, List.set_cons_zero, List.set_cons_succ]
  refine anyC_takeS (i := 7) (oi := ⟨some 3, _, _, _, _, _⟩) (v := _) rfl (by kernel_rfl) (by kernel_rfl) (by kernel_rfl) (by kernel_rfl) (fun _ _ _ h => h) (Or.inl ⟨by rfl, fun w' hw' => (by clear hw'; go_simp; try with_reducible rfl)⟩) HS.out (fun _ => trivial) ?_
  try simp only [Act.put, List.setIfInBounds_toArray, List.set_cons_zero, List.set_cons_succ]
  refine anyC_done (by kernel_rfl) ?_ _
  go_wp2
  go_ret2
  exact ⟨rfl, HS.out.b⟩
end Go.Proofs.YtjoogiabimiioaaGreatDoor
