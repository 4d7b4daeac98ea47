/- Contract of code: the code of octets with a key. -/
import Derived.Test.YtfdeegafdaobdaaDoorK2
import Derived.Test.YtfdeegafdaobdaaDoorN
namespace Go.Proofs.YtfdeegafdaobdaaDoor
open Go.RowKit Go.ChangeShapes

/-- What a call of more, and of end, is known to leave. -/
def MoreTo (kb : Nat) (p : W8) (t : ByteArray) (n : Int) (x : ByteArray) (p' : W8) (t' : ByteArray) (n' : Int) : Prop :=
  ∀ w', Arr w' kb 103 KL → Calls Tryd.prog 38 #[mkV p t n kb, .string x] w' fun e w'' => e = .returned (mkV p' t' n' kb) ∧ Below w'.heap.size w' w''
def EndTo (kb : Nat) (p : W8) (t : ByteArray) (n : Int) (x : ByteArray) : Prop :=
  ∀ w', Arr w' kb 103 KL → Calls Tryd.prog 39 #[mkV p t n kb] w' fun e w'' => e = .returned (.string x) ∧ Below w'.heap.size w' w''
def PadTo (key : ByteArray) (c : Int) (x : ByteArray) : Prop :=
  ∀ w', Calls Tryd.prog 66 #[.string key, .int .u8 c] w' fun e w'' => e = .returned (.string x) ∧ Below w'.heap.size w' w''
set_option maxRecDepth 100000 in
set_option maxHeartbeats 4000000 in
theorem code_short (p p1 p2 p3 p4 : W8) (t t1 t2 t3 t4 : ByteArray) (n n1 n2 n3 n4 : Int) (kb : Nat) (key s x1 x2 i o : ByteArray) (w : World) (hK : Arr w kb 103 KL) (hk : key.size ≤ 64)
    (h1 : PadTo key 54 x1) (h2 : PadTo key 92 x2) (m1 : MoreTo kb p t n x1 p1 t1 n1) (m2 : MoreTo kb p1 t1 n1 s p2 t2 n2) (e1 : EndTo kb p2 t2 n2 i)
    (m3 : MoreTo kb p t n x2 p3 t3 n3) (m4 : MoreTo kb p3 t3 n3 i p4 t4 n4) (e2 : EndTo kb p4 t4 n4 o) :
    Calls Tryd.prog 43 #[mkV p t n kb, .string key, .string s] w fun e w' => e = .returned (.string o) ∧ Below w.heap.size w w' := by
  unfold PadTo at h1 h2
  unfold MoreTo at m1 m2 m3 m4
  unfold EndTo at e1 e2
  have HK := Lib.hid hK
  have H1 := Lib.hid h1
  have H2 := Lib.hid h2
  have H3 := Lib.hid m1
  have H4 := Lib.hid m2
  have H5 := Lib.hid e1
  have H6 := Lib.hid m3
  have H7 := Lib.hid m4
  have H8 := Lib.hid e2
  clear hK h1 h2 m1 m2 e1 m3 m4 e2
  go_enter Tryd.func43, Tryd.ntmps43
  go_wp2
  have M0 : Mk (w.alloc (Obj.cells #[wd p.a, wd p.b, wd p.c, wd p.d, wd p.e, wd p.f, wd p.g, wd p.h, Value.string t, Value.int IntKind.i64 n, Value.pointer (some ⟨kb, 0, none⟩)] 76)) w.heap.size p t n kb := heap_alloc_new w _
  have K0 := HK.out.alloc (Obj.cells #[wd p.a, wd p.b, wd p.c, wd p.d, wd p.e, wd p.f, wd p.g, wd p.h, Value.string t, Value.int IntKind.i64 n, Value.pointer (some ⟨kb, 0, none⟩)] 76)
  have B0 : Below w.heap.size w (w.alloc (Obj.cells #[wd p.a, wd p.b, wd p.c, wd p.d, wd p.e, wd p.f, wd p.g, wd p.h, Value.string t, Value.int IntKind.i64 n, Value.pointer (some ⟨kb, 0, none⟩)] 76)) := by go_grown
  generalize (w.alloc (Obj.cells #[wd p.a, wd p.b, wd p.c, wd p.d, wd p.e, wd p.f, wd p.g, wd p.h, Value.string t, Value.int IntKind.i64 n, Value.pointer (some ⟨kb, 0, none⟩)] 76)) = W at M0 K0 B0 ⊢
  have z := M0.lt
  have MH := Lib.hid M0
  have KH := Lib.hid K0
  have BH := Lib.hid B0
  clear M0 K0 B0
  go_region_held3 (fun w' => ((w'.cell? ⟨w.heap.size, 0, none⟩ = some (wd p.a) ∧ w'.cell? ⟨w.heap.size, 1, none⟩ = some (wd p.b) ∧ w'.cell? ⟨w.heap.size, 2, none⟩ = some (wd p.c) ∧ w'.cell? ⟨w.heap.size, 3, none⟩ = some (wd p.d)) ∧ (w'.cell? ⟨w.heap.size, 4, none⟩ = some (wd p.e) ∧ w'.cell? ⟨w.heap.size, 5, none⟩ = some (wd p.f) ∧ w'.cell? ⟨w.heap.size, 6, none⟩ = some (wd p.g) ∧ w'.cell? ⟨w.heap.size, 7, none⟩ = some (wd p.h))) ∧ (w'.cell? ⟨w.heap.size, 8, none⟩ = some (.string t) ∧ w'.cell? ⟨w.heap.size, 9, none⟩ = some (.int .i64 n) ∧ w'.cell? ⟨w.heap.size, 10, none⟩ = some (.pointer (some ⟨kb, 0, none⟩))))
    (first | (with_reducible exact M4.cells) | (with_reducible exact M3.cells) | (with_reducible exact M2.cells) | (with_reducible exact M1.cells) | exact MH.out.cells)
    (first | (go_at_call 66; (with_reducible refine (H1.out _).mono ?_); rintro e w1 ⟨rfl, hb0⟩; have hb1 : Below W.heap.size W w1 := (by first | exact hb0 | exact (Below.refl _ W).drew.trans hb0); clear hb0; have M1 := Mk.below MH.out hb1 z; have K1 := Arr.below KH.out hb1 (Arr.lt KH.out); have z1 := Mk.lt M1; have B1 := Below.trans BH.out (hb1.mono (Below.size BH.out))) | (go_at_call 38; (with_reducible refine (H3.out _ K1).mono ?_); rintro e w2 ⟨rfl, hb0⟩; have hb2 : Below w1.heap.size w1 w2 := (by first | exact hb0 | exact (Below.refl _ w1).drew.trans hb0); clear hb0; have M2 := Mk.below M1 hb2 z1; have K2 := Arr.below K1 hb2 (Arr.lt K1); have z2 := Mk.lt M2; have B2 := Below.trans B1 (hb2.mono (Below.size B1))) | (go_at_call 38; (with_reducible refine (H4.out _ K2).mono ?_); rintro e w3 ⟨rfl, hb0⟩; have hb3 : Below w2.heap.size w2 w3 := (by first | exact hb0 | exact (Below.refl _ w2).drew.trans hb0); clear hb0; have M3 := Mk.below M2 hb3 z2; have K3 := Arr.below K2 hb3 (Arr.lt K2); have z3 := Mk.lt M3; have B3 := Below.trans B2 (hb3.mono (Below.size B2))) | (go_at_call 39; (with_reducible refine (H5.out _ K3).mono ?_); rintro e w4 ⟨rfl, hb0⟩; have hb4 : Below w3.heap.size w3 w4 := (by first | exact hb0 | exact (Below.refl _ w3).drew.trans hb0); clear hb0; have M4 := Mk.below M3 hb4 z3; have K4 := Arr.below K3 hb4 (Arr.lt K3); have z4 := Mk.lt M4; have B4 := Below.trans B3 (hb4.mono (Below.size B3))))
  all_goals go_wp2
  all_goals (clear M1 M2 M3 K1 K2 K3 z1 z2 z3 B1 B2 B3)
  go_region_held3 (fun w' => ((w'.cell? ⟨w.heap.size, 0, none⟩ = some (wd p.a) ∧ w'.cell? ⟨w.heap.size, 1, none⟩ = some (wd p.b) ∧ w'.cell? ⟨w.heap.size, 2, none⟩ = some (wd p.c) ∧ w'.cell? ⟨w.heap.size, 3, none⟩ = some (wd p.d)) ∧ (w'.cell? ⟨w.heap.size, 4, none⟩ = some (wd p.e) ∧ w'.cell? ⟨w.heap.size, 5, none⟩ = some (wd p.f) ∧ w'.cell? ⟨w.heap.size, 6, none⟩ = some (wd p.g) ∧ w'.cell? ⟨w.heap.size, 7, none⟩ = some (wd p.h))) ∧ (w'.cell? ⟨w.heap.size, 8, none⟩ = some (.string t) ∧ w'.cell? ⟨w.heap.size, 9, none⟩ = some (.int .i64 n) ∧ w'.cell? ⟨w.heap.size, 10, none⟩ = some (.pointer (some ⟨kb, 0, none⟩))))
    (first | (with_reducible exact M8.cells) | (with_reducible exact M7.cells) | (with_reducible exact M6.cells) | (with_reducible exact M5.cells) | exact Mk.cells M4)
    (first | (go_at_call 66; (with_reducible refine (H2.out _).mono ?_); rintro e w5 ⟨rfl, hb0⟩; have hb5 : Below w4.heap.size w4 w5 := (by first | exact hb0 | exact (Below.refl _ w4).drew.trans hb0); clear hb0; have M5 := Mk.below M4 hb5 z4; have K5 := Arr.below K4 hb5 (Arr.lt K4); have z5 := Mk.lt M5; have B5 := Below.trans B4 (hb5.mono (Below.size B4))) | (go_at_call 38; (with_reducible refine (H6.out _ K5).mono ?_); rintro e w6 ⟨rfl, hb0⟩; have hb6 : Below w5.heap.size w5 w6 := (by first | exact hb0 | exact (Below.refl _ w5).drew.trans hb0); clear hb0; have M6 := Mk.below M5 hb6 z5; have K6 := Arr.below K5 hb6 (Arr.lt K5); have z6 := Mk.lt M6; have B6 := Below.trans B5 (hb6.mono (Below.size B5))) | (go_at_call 38; (with_reducible refine (H7.out _ K6).mono ?_); rintro e w7 ⟨rfl, hb0⟩; have hb7 : Below w6.heap.size w6 w7 := (by first | exact hb0 | exact (Below.refl _ w6).drew.trans hb0); clear hb0; have M7 := Mk.below M6 hb7 z6; have K7 := Arr.below K6 hb7 (Arr.lt K6); have z7 := Mk.lt M7; have B7 := Below.trans B6 (hb7.mono (Below.size B6))) | (go_at_call 39; (with_reducible refine (H8.out _ K7).mono ?_); rintro e w8 ⟨rfl, hb0⟩; have hb8 : Below w7.heap.size w7 w8 := (by first | exact hb0 | exact (Below.refl _ w7).drew.trans hb0); clear hb0; have M8 := Mk.below M7 hb8 z7; have K8 := Arr.below K7 hb8 (Arr.lt K7); have z8 := Mk.lt M8; have B8 := Below.trans B7 (hb8.mono (Below.size B7))))
  all_goals go_wp2
  all_goals go_ret
  all_goals exact ⟨rfl, B8⟩
end Go.Proofs.YtfdeegafdaobdaaDoor
