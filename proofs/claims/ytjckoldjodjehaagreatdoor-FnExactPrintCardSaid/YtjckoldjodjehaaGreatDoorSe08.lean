import Derived.Test.YtjckoldjodjehaaGreatDoorSe07
namespace Go.Proofs.YtjckoldjodjehaaGreatDoor
set_option linter.unusedVariables false
set_option linter.unusedSimpArgs false
section
open Go.RowKit
set_option maxRecDepth 100000
set_option maxHeartbeats 64000000 in
theorem stmt_d {n1 n2 : Option Addr} {d1 d2 B : Nat} {T : Tre} {i : Nat} {n : Nd} (hS : TkS n1 n2 d1 d2 B T i) (hv : VN T i n) (hk : n.kind = 13 ∨ n.kind = 14 ∨ n.kind = 15) {s9 : Option Addr} {c9 B9 : Nat} {w : World} (hT : InC w B n1 n2 T) (hK : Els 1 cInt w B9 s9 n.kids) (hcap : n.kids.length ≤ c9) (h64 : -9223372036854775808 ≤ n.num ∧ n.num ≤ 9223372036854775807) (htl : ∀ (k : Nat) (m : Nd), k < i → VN T k m → (tkA T (k : Int)).length ≤ 90000) (hsum : (n.kids.map fun x => (tkA T x).length + 1).sum ≤ 90000) :
  Calls Tryz.prog 28 #[.agg #[.slice n1 T.nodes.length d1, .slice n2 T.tops.length d2], .agg #[.int .i64 n.kind, .string n.text, .int .i64 n.num, .slice s9 n.kids.length c9]] w fun e w' => SaysT w (tkA T (i : Int)) e w' := by
 have HT := hid hT
 have HK := hid hK
 have HS := hid hS
 have HV := hid hv
 have HTL := hid htl
 have HSUM := hid hsum
 have HCAP := hid hcap
 have HE : Hid (tkA T (i : Int) = tkN (tkA T) n) := tkA_eq hv
 obtain ⟨kd, hkd⟩ : ∃ k, Hid (n.kind = k) := ⟨_, rfl⟩
 obtain ⟨ml, hml⟩ : ∃ m, Hid (n.kids.length = m) := ⟨_, rfl⟩
 rw [hkd.out] at hk ⊢
 rw [hml.out]
 have ka := (Blk.new w #[.slice n1 T.nodes.length d1, .slice n2 T.tops.length d2] 31).alloc (.cells #[.int .i64 kd, .string n.text, .int .i64 n.num, .slice s9 ml c9] 66)
 have kn := Blk.new' (n := w.heap.size + 1) (w.alloc (.cells #[.slice n1 T.nodes.length d1, .slice n2 T.tops.length d2] 31)) #[.int .i64 kd, .string n.text, .int .i64 n.num, .slice s9 ml c9] 66 (by simp)
 have bx : Below w.heap.size w ((w.alloc (.cells #[.slice n1 T.nodes.length d1, .slice n2 T.tops.length d2] 31)).alloc (.cells #[.int .i64 kd, .string n.text, .int .i64 n.num, .slice s9 ml c9] 66)) := bl_alloc (bl_alloc (Below.refl _ _) _) _
 clear hT hK hS hv htl hsum hcap; obtain ⟨X, hX⟩ : ∃ X, (w.alloc (.cells #[.slice n1 T.nodes.length d1, .slice n2 T.tops.length d2] 31)).alloc (.cells #[.int .i64 kd, .string n.text, .int .i64 n.num, .slice s9 ml c9] 66) = X := ⟨_, rfl⟩
 rw [hX] at ka kn bx
 have KA := hid ka
 have KN := hid kn
 have BX := hid bx
 clear ka kn bx; rcases hk with rfl | rfl | rfl
 ·
  obtain ⟨a, an, hxa, hka, hai, hva, hca⟩ := HV.out.kidAt (j := 0) (c := 1) (by rw [hkd.out]; rfl)
  have kI0 : 0 < ml := by rw [← hml.out]; exact (List.getElem?_eq_some_iff.1 hxa).1
  have hna : ¬ an.kind = 29 ∧ ¬ an.kind = 30 := cls_no hca (by omega) (by omega)
  have hla := HTL.out a an hai hva
  have HVA := hid hva
  obtain ⟨fb, fo, rfl, _, hfb, pp0⟩ := eInt_cells HK.out hxa
  have PP0 : Hid (w.cell? ⟨fb, fo, none⟩ = some (.int .i64 (a : Int))) := pp0
  clear pp0 hxa hva hca; have HC : Hid (tkA T (i : Int) = [n.text, bEq] ++ tkA T (a : Int) ++ [bSemi]) := by show _ = _; rw [HE.out]; unfold tkN; rw [hkd.out, hka]; rfl
  clear hka; obtain ⟨z0, z1, z2, z3, z4⟩ := Blk.four' KN.out
  obtain ⟨t0, t1, t2⟩ := KA.out.two
  go_enter Tryz.func28, Tryz.ntmps28
  go_wp2_with fail; clear hX; have BC : ∀ Y, Below X.heap.size X Y → Y.cell? ⟨w.heap.size, 0, none⟩ = some (.slice n1 T.nodes.length d1) ∧ Y.cell? ⟨w.heap.size, 1, none⟩ = some (.slice n2 T.tops.length d2) ∧ Y.cell? ⟨w.heap.size + 1, 0, none⟩ = some (.int .i64 13) ∧ Y.cell? ⟨w.heap.size + 1, 1, none⟩ = some (.string n.text) ∧ Y.cell? ⟨w.heap.size + 1, 2, none⟩ = some (.int .i64 n.num) ∧ Y.cell? ⟨w.heap.size + 1, 3, none⟩ = some (.slice (some ⟨fb, fo, none⟩) ml c9) ∧ Y.cell? ⟨fb, fo, none⟩ = some (.int .i64 (a : Int)) := fun Y hY => ⟨(KA.out.later hY).cell 0 |>.trans rfl, (KA.out.later hY).cell 1 |>.trans rfl, (KN.out.later hY).cell 0 |>.trans rfl, (KN.out.later hY).cell 1 |>.trans rfl, (KN.out.later hY).cell 2 |>.trans rfl, (KN.out.later hY).cell 3 |>.trans rfl, ((bl_trans BX.out hY).cell (p := ⟨fb, fo, none⟩) hfb).trans PP0.out⟩
  have M : Below X.heap.size X X.drew := bl_drew (Below.refl _ _)
  go_region_held3 (fun Y => Y.cell? ⟨w.heap.size, 0, none⟩ = some (.slice n1 T.nodes.length d1) ∧ Y.cell? ⟨w.heap.size, 1, none⟩ = some (.slice n2 T.tops.length d2) ∧ Y.cell? ⟨w.heap.size + 1, 0, none⟩ = some (.int .i64 13) ∧ Y.cell? ⟨w.heap.size + 1, 1, none⟩ = some (.string n.text) ∧ Y.cell? ⟨w.heap.size + 1, 2, none⟩ = some (.int .i64 n.num) ∧ Y.cell? ⟨w.heap.size + 1, 3, none⟩ = some (.slice (some ⟨fb, fo, none⟩) ml c9) ∧ Y.cell? ⟨fb, fo, none⟩ = some (.int .i64 (a : Int))) (first | exact BC _ M | exact BC _ (bl_alloc M _) | exact BC _ (bl_alloc (bl_alloc M _) _) | exact BC _ (bl_alloc (bl_alloc (bl_alloc M _) _) _))
   (first
    | (go_at_call 13; refine (calls_from (X := X) (by first | exact M | exact bl_alloc M _ | exact bl_alloc (bl_alloc M _) _ | exact bl_alloc (bl_alloc (bl_alloc M _) _) _) (HS.out a an _ hai HVA.out hna (HT.out.later (bl_trans BX.out (by first | exact M | exact bl_alloc M _ | exact bl_alloc (bl_alloc M _) _ | exact bl_alloc (bl_alloc (bl_alloc M _) _) _))))).mono ?_; rintro e wa ⟨⟨⟨va, rfl, ho⟩, M⟩, hb⟩)
    | (go_at_call 30; refine (calls_from (X := X) (by first | exact M | exact bl_alloc M _ | exact bl_alloc (bl_alloc M _) _ | exact bl_alloc (bl_alloc (bl_alloc M _) _) _) (around_any (La := [n.text, bEq]) (Lm := (tkA T (a : Int))) (Lb := [bSemi]) (by (repeat (first | exact RT.nil _ | exact RT.n1 (by simp) | exact RT.n2 (by simp) | exact RT.n3 (by simp) | exact ho.rt | refine RT.alloc ?_ _ | refine RT.later ?_ hb))) (by (repeat (first | exact RT.nil _ | exact RT.n1 (by simp) | exact RT.n2 (by simp) | exact RT.n3 (by simp) | exact ho.rt | refine RT.alloc ?_ _ | refine RT.later ?_ hb))) (by (repeat (first | exact RT.nil _ | exact RT.n1 (by simp) | exact RT.n2 (by simp) | exact RT.n3 (by simp) | exact ho.rt | refine RT.alloc ?_ _ | refine RT.later ?_ hb))) (by simp only [List.length_append, List.length_cons, List.length_nil]; omega))).mono ?_; rintro e wz ⟨⟨⟨vz, rfl, hz⟩, M⟩, hbz⟩))
  all_goals
   have HZ := hid hz
   have HM := hid M
   clear hz M; go_wp2_with fail; go_ret; exact ⟨⟨_, rfl, by rw [HC.out]; exact HZ.out.mono BX.out.size⟩, bl_trans BX.out HM.out⟩
 ·
  obtain ⟨a, an, hxa, hka, hai, hva, hca⟩ := HV.out.kidAt (j := 0) (c := 1) (by rw [hkd.out]; rfl)
  have kI0 : 0 < ml := by rw [← hml.out]; exact (List.getElem?_eq_some_iff.1 hxa).1
  have hna : ¬ an.kind = 29 ∧ ¬ an.kind = 30 := cls_no hca (by omega) (by omega)
  have hla := HTL.out a an hai hva
  have HVA := hid hva
  obtain ⟨fb, fo, rfl, _, hfb, pp0⟩ := eInt_cells HK.out hxa
  have PP0 : Hid (w.cell? ⟨fb, fo, none⟩ = some (.int .i64 (a : Int))) := pp0
  clear pp0 hxa hva hca; have HC : Hid (tkA T (i : Int) = [bDot, n.text, bEq] ++ tkA T (a : Int) ++ [bSemi]) := by show _ = _; rw [HE.out]; unfold tkN; rw [hkd.out, hka]; rfl
  clear hka; obtain ⟨z0, z1, z2, z3, z4⟩ := Blk.four' KN.out
  obtain ⟨t0, t1, t2⟩ := KA.out.two
  go_enter Tryz.func28, Tryz.ntmps28
  go_wp2_with fail; clear hX; have BC : ∀ Y, Below X.heap.size X Y → Y.cell? ⟨w.heap.size, 0, none⟩ = some (.slice n1 T.nodes.length d1) ∧ Y.cell? ⟨w.heap.size, 1, none⟩ = some (.slice n2 T.tops.length d2) ∧ Y.cell? ⟨w.heap.size + 1, 0, none⟩ = some (.int .i64 14) ∧ Y.cell? ⟨w.heap.size + 1, 1, none⟩ = some (.string n.text) ∧ Y.cell? ⟨w.heap.size + 1, 2, none⟩ = some (.int .i64 n.num) ∧ Y.cell? ⟨w.heap.size + 1, 3, none⟩ = some (.slice (some ⟨fb, fo, none⟩) ml c9) ∧ Y.cell? ⟨fb, fo, none⟩ = some (.int .i64 (a : Int)) := fun Y hY => ⟨(KA.out.later hY).cell 0 |>.trans rfl, (KA.out.later hY).cell 1 |>.trans rfl, (KN.out.later hY).cell 0 |>.trans rfl, (KN.out.later hY).cell 1 |>.trans rfl, (KN.out.later hY).cell 2 |>.trans rfl, (KN.out.later hY).cell 3 |>.trans rfl, ((bl_trans BX.out hY).cell (p := ⟨fb, fo, none⟩) hfb).trans PP0.out⟩
  have M : Below X.heap.size X X.drew := bl_drew (Below.refl _ _)
  go_region_held3 (fun Y => Y.cell? ⟨w.heap.size, 0, none⟩ = some (.slice n1 T.nodes.length d1) ∧ Y.cell? ⟨w.heap.size, 1, none⟩ = some (.slice n2 T.tops.length d2) ∧ Y.cell? ⟨w.heap.size + 1, 0, none⟩ = some (.int .i64 14) ∧ Y.cell? ⟨w.heap.size + 1, 1, none⟩ = some (.string n.text) ∧ Y.cell? ⟨w.heap.size + 1, 2, none⟩ = some (.int .i64 n.num) ∧ Y.cell? ⟨w.heap.size + 1, 3, none⟩ = some (.slice (some ⟨fb, fo, none⟩) ml c9) ∧ Y.cell? ⟨fb, fo, none⟩ = some (.int .i64 (a : Int))) (first | exact BC _ M | exact BC _ (bl_alloc M _) | exact BC _ (bl_alloc (bl_alloc M _) _) | exact BC _ (bl_alloc (bl_alloc (bl_alloc M _) _) _))
   (first
    | (go_at_call 13; refine (calls_from (X := X) (by first | exact M | exact bl_alloc M _ | exact bl_alloc (bl_alloc M _) _ | exact bl_alloc (bl_alloc (bl_alloc M _) _) _) (HS.out a an _ hai HVA.out hna (HT.out.later (bl_trans BX.out (by first | exact M | exact bl_alloc M _ | exact bl_alloc (bl_alloc M _) _ | exact bl_alloc (bl_alloc (bl_alloc M _) _) _))))).mono ?_; rintro e wa ⟨⟨⟨va, rfl, ho⟩, M⟩, hb⟩)
    | (go_at_call 30; refine (calls_from (X := X) (by first | exact M | exact bl_alloc M _ | exact bl_alloc (bl_alloc M _) _ | exact bl_alloc (bl_alloc (bl_alloc M _) _) _) (around_any (La := [bDot, n.text, bEq]) (Lm := (tkA T (a : Int))) (Lb := [bSemi]) (by (repeat (first | exact RT.nil _ | exact RT.n1 (by simp) | exact RT.n2 (by simp) | exact RT.n3 (by simp) | exact ho.rt | refine RT.alloc ?_ _ | refine RT.later ?_ hb))) (by (repeat (first | exact RT.nil _ | exact RT.n1 (by simp) | exact RT.n2 (by simp) | exact RT.n3 (by simp) | exact ho.rt | refine RT.alloc ?_ _ | refine RT.later ?_ hb))) (by (repeat (first | exact RT.nil _ | exact RT.n1 (by simp) | exact RT.n2 (by simp) | exact RT.n3 (by simp) | exact ho.rt | refine RT.alloc ?_ _ | refine RT.later ?_ hb))) (by simp only [List.length_append, List.length_cons, List.length_nil]; omega))).mono ?_; rintro e wz ⟨⟨⟨vz, rfl, hz⟩, M⟩, hbz⟩))
  all_goals
   have HZ := hid hz
   have HM := hid M
   clear hz M; go_wp2_with fail; go_ret; exact ⟨⟨_, rfl, by rw [HC.out]; exact HZ.out.mono BX.out.size⟩, bl_trans BX.out HM.out⟩
 obtain ⟨a, an, hxa, hka, hai, hva, hca⟩ := HV.out.kidAt (j := 0) (c := 1) (by rw [hkd.out]; rfl)
 have kI0 : 0 < ml := by rw [← hml.out]; exact (List.getElem?_eq_some_iff.1 hxa).1
 have hna : ¬ an.kind = 29 ∧ ¬ an.kind = 30 := cls_no hca (by omega) (by omega)
 have hla := HTL.out a an hai hva
 have HVA := hid hva
 obtain ⟨fb, fo, rfl, _, hfb, pp0⟩ := eInt_cells HK.out hxa
 have PP0 : Hid (w.cell? ⟨fb, fo, none⟩ = some (.int .i64 (a : Int))) := pp0
 clear pp0 hxa hva hca; have HC : Hid (tkA T (i : Int) = [bDol, n.text, bEq] ++ tkA T (a : Int) ++ [bSemi]) := by show _ = _; rw [HE.out]; unfold tkN; rw [hkd.out, hka]; rfl
 clear hka; obtain ⟨z0, z1, z2, z3, z4⟩ := Blk.four' KN.out
 obtain ⟨t0, t1, t2⟩ := KA.out.two
 go_enter Tryz.func28, Tryz.ntmps28
 go_wp2_with fail; clear hX; have BC : ∀ Y, Below X.heap.size X Y → Y.cell? ⟨w.heap.size, 0, none⟩ = some (.slice n1 T.nodes.length d1) ∧ Y.cell? ⟨w.heap.size, 1, none⟩ = some (.slice n2 T.tops.length d2) ∧ Y.cell? ⟨w.heap.size + 1, 0, none⟩ = some (.int .i64 15) ∧ Y.cell? ⟨w.heap.size + 1, 1, none⟩ = some (.string n.text) ∧ Y.cell? ⟨w.heap.size + 1, 2, none⟩ = some (.int .i64 n.num) ∧ Y.cell? ⟨w.heap.size + 1, 3, none⟩ = some (.slice (some ⟨fb, fo, none⟩) ml c9) ∧ Y.cell? ⟨fb, fo, none⟩ = some (.int .i64 (a : Int)) := fun Y hY => ⟨(KA.out.later hY).cell 0 |>.trans rfl, (KA.out.later hY).cell 1 |>.trans rfl, (KN.out.later hY).cell 0 |>.trans rfl, (KN.out.later hY).cell 1 |>.trans rfl, (KN.out.later hY).cell 2 |>.trans rfl, (KN.out.later hY).cell 3 |>.trans rfl, ((bl_trans BX.out hY).cell (p := ⟨fb, fo, none⟩) hfb).trans PP0.out⟩
 have M : Below X.heap.size X X.drew := bl_drew (Below.refl _ _)
 go_region_held3 (fun Y => Y.cell? ⟨w.heap.size, 0, none⟩ = some (.slice n1 T.nodes.length d1) ∧ Y.cell? ⟨w.heap.size, 1, none⟩ = some (.slice n2 T.tops.length d2) ∧ Y.cell? ⟨w.heap.size + 1, 0, none⟩ = some (.int .i64 15) ∧ Y.cell? ⟨w.heap.size + 1, 1, none⟩ = some (.string n.text) ∧ Y.cell? ⟨w.heap.size + 1, 2, none⟩ = some (.int .i64 n.num) ∧ Y.cell? ⟨w.heap.size + 1, 3, none⟩ = some (.slice (some ⟨fb, fo, none⟩) ml c9) ∧ Y.cell? ⟨fb, fo, none⟩ = some (.int .i64 (a : Int))) (first | exact BC _ M | exact BC _ (bl_alloc M _) | exact BC _ (bl_alloc (bl_alloc M _) _) | exact BC _ (bl_alloc (bl_alloc (bl_alloc M _) _) _))
  (first
   | (go_at_call 13; refine (calls_from (X := X) (by first | exact M | exact bl_alloc M _ | exact bl_alloc (bl_alloc M _) _ | exact bl_alloc (bl_alloc (bl_alloc M _) _) _) (HS.out a an _ hai HVA.out hna (HT.out.later (bl_trans BX.out (by first | exact M | exact bl_alloc M _ | exact bl_alloc (bl_alloc M _) _ | exact bl_alloc (bl_alloc (bl_alloc M _) _) _))))).mono ?_; rintro e wa ⟨⟨⟨va, rfl, ho⟩, M⟩, hb⟩)
   | (go_at_call 30; refine (calls_from (X := X) (by first | exact M | exact bl_alloc M _ | exact bl_alloc (bl_alloc M _) _ | exact bl_alloc (bl_alloc (bl_alloc M _) _) _) (around_any (La := [bDol, n.text, bEq]) (Lm := (tkA T (a : Int))) (Lb := [bSemi]) (by (repeat (first | exact RT.nil _ | exact RT.n1 (by simp) | exact RT.n2 (by simp) | exact RT.n3 (by simp) | exact ho.rt | refine RT.alloc ?_ _ | refine RT.later ?_ hb))) (by (repeat (first | exact RT.nil _ | exact RT.n1 (by simp) | exact RT.n2 (by simp) | exact RT.n3 (by simp) | exact ho.rt | refine RT.alloc ?_ _ | refine RT.later ?_ hb))) (by (repeat (first | exact RT.nil _ | exact RT.n1 (by simp) | exact RT.n2 (by simp) | exact RT.n3 (by simp) | exact ho.rt | refine RT.alloc ?_ _ | refine RT.later ?_ hb))) (by simp only [List.length_append, List.length_cons, List.length_nil]; omega))).mono ?_; rintro e wz ⟨⟨⟨vz, rfl, hz⟩, M⟩, hbz⟩))
 all_goals
  have HZ := hid hz
  have HM := hid M
  clear hz M; go_wp2_with fail; go_ret; exact ⟨⟨_, rfl, by rw [HC.out]; exact HZ.out.mono BX.out.size⟩, bl_trans BX.out HM.out⟩
set_option maxHeartbeats 64000000 in
theorem stmt_e {n1 n2 : Option Addr} {d1 d2 B : Nat} {T : Tre} {i : Nat} {n : Nd} (hS : TkS n1 n2 d1 d2 B T i) (hv : VN T i n) (hk : n.kind = 19 ∨ n.kind = 23) {s9 : Option Addr} {c9 B9 : Nat} {w : World} (hT : InC w B n1 n2 T) (hK : Els 1 cInt w B9 s9 n.kids) (hcap : n.kids.length ≤ c9) (h64 : -9223372036854775808 ≤ n.num ∧ n.num ≤ 9223372036854775807) (htl : ∀ (k : Nat) (m : Nd), k < i → VN T k m → (tkA T (k : Int)).length ≤ 90000) (hsum : (n.kids.map fun x => (tkA T x).length + 1).sum ≤ 90000) :
  Calls Tryz.prog 28 #[.agg #[.slice n1 T.nodes.length d1, .slice n2 T.tops.length d2], .agg #[.int .i64 n.kind, .string n.text, .int .i64 n.num, .slice s9 n.kids.length c9]] w fun e w' => SaysT w (tkA T (i : Int)) e w' := by
 have HT := hid hT
 have HK := hid hK
 have HS := hid hS
 have HV := hid hv
 have HTL := hid htl
 have HSUM := hid hsum
 have HCAP := hid hcap
 have HE : Hid (tkA T (i : Int) = tkN (tkA T) n) := tkA_eq hv
 obtain ⟨kd, hkd⟩ : ∃ k, Hid (n.kind = k) := ⟨_, rfl⟩
 obtain ⟨ml, hml⟩ : ∃ m, Hid (n.kids.length = m) := ⟨_, rfl⟩
 rw [hkd.out] at hk ⊢
 rw [hml.out]
 have ka := (Blk.new w #[.slice n1 T.nodes.length d1, .slice n2 T.tops.length d2] 31).alloc (.cells #[.int .i64 kd, .string n.text, .int .i64 n.num, .slice s9 ml c9] 66)
 have kn := Blk.new' (n := w.heap.size + 1) (w.alloc (.cells #[.slice n1 T.nodes.length d1, .slice n2 T.tops.length d2] 31)) #[.int .i64 kd, .string n.text, .int .i64 n.num, .slice s9 ml c9] 66 (by simp)
 have bx : Below w.heap.size w ((w.alloc (.cells #[.slice n1 T.nodes.length d1, .slice n2 T.tops.length d2] 31)).alloc (.cells #[.int .i64 kd, .string n.text, .int .i64 n.num, .slice s9 ml c9] 66)) := bl_alloc (bl_alloc (Below.refl _ _) _) _
 clear hT hK hS hv htl hsum hcap; obtain ⟨X, hX⟩ : ∃ X, (w.alloc (.cells #[.slice n1 T.nodes.length d1, .slice n2 T.tops.length d2] 31)).alloc (.cells #[.int .i64 kd, .string n.text, .int .i64 n.num, .slice s9 ml c9] 66) = X := ⟨_, rfl⟩
 rw [hX] at ka kn bx
 have KA := hid ka
 have KN := hid kn
 have BX := hid bx
 clear ka kn bx; rcases hk with rfl | rfl
 ·
  obtain ⟨a, an, hxa, hka, hai, hva, hca⟩ := HV.out.kidAt (j := 0) (c := 1) (by rw [hkd.out]; rfl)
  have kI0 : 0 < ml := by rw [← hml.out]; exact (List.getElem?_eq_some_iff.1 hxa).1
  have hna : ¬ an.kind = 29 ∧ ¬ an.kind = 30 := cls_no hca (by omega) (by omega)
  have hla := HTL.out a an hai hva
  have HVA := hid hva
  obtain ⟨fb, fo, rfl, _, hfb, pp0⟩ := eInt_cells HK.out hxa
  have PP0 : Hid (w.cell? ⟨fb, fo, none⟩ = some (.int .i64 (a : Int))) := pp0
  clear pp0 hxa hva hca; have HC : Hid (tkA T (i : Int) = [bEmit, n.text] ++ tkA T (a : Int) ++ [bSemi]) := by show _ = _; rw [HE.out]; unfold tkN; rw [hkd.out, hka]; rfl
  clear hka; obtain ⟨z0, z1, z2, z3, z4⟩ := Blk.four' KN.out
  obtain ⟨t0, t1, t2⟩ := KA.out.two
  go_enter Tryz.func28, Tryz.ntmps28
  go_wp2_with fail; clear hX; have BC : ∀ Y, Below X.heap.size X Y → Y.cell? ⟨w.heap.size, 0, none⟩ = some (.slice n1 T.nodes.length d1) ∧ Y.cell? ⟨w.heap.size, 1, none⟩ = some (.slice n2 T.tops.length d2) ∧ Y.cell? ⟨w.heap.size + 1, 0, none⟩ = some (.int .i64 19) ∧ Y.cell? ⟨w.heap.size + 1, 1, none⟩ = some (.string n.text) ∧ Y.cell? ⟨w.heap.size + 1, 2, none⟩ = some (.int .i64 n.num) ∧ Y.cell? ⟨w.heap.size + 1, 3, none⟩ = some (.slice (some ⟨fb, fo, none⟩) ml c9) ∧ Y.cell? ⟨fb, fo, none⟩ = some (.int .i64 (a : Int)) := fun Y hY => ⟨(KA.out.later hY).cell 0 |>.trans rfl, (KA.out.later hY).cell 1 |>.trans rfl, (KN.out.later hY).cell 0 |>.trans rfl, (KN.out.later hY).cell 1 |>.trans rfl, (KN.out.later hY).cell 2 |>.trans rfl, (KN.out.later hY).cell 3 |>.trans rfl, ((bl_trans BX.out hY).cell (p := ⟨fb, fo, none⟩) hfb).trans PP0.out⟩
  have M : Below X.heap.size X X.drew := bl_drew (Below.refl _ _)
  go_region_held3 (fun Y => Y.cell? ⟨w.heap.size, 0, none⟩ = some (.slice n1 T.nodes.length d1) ∧ Y.cell? ⟨w.heap.size, 1, none⟩ = some (.slice n2 T.tops.length d2) ∧ Y.cell? ⟨w.heap.size + 1, 0, none⟩ = some (.int .i64 19) ∧ Y.cell? ⟨w.heap.size + 1, 1, none⟩ = some (.string n.text) ∧ Y.cell? ⟨w.heap.size + 1, 2, none⟩ = some (.int .i64 n.num) ∧ Y.cell? ⟨w.heap.size + 1, 3, none⟩ = some (.slice (some ⟨fb, fo, none⟩) ml c9) ∧ Y.cell? ⟨fb, fo, none⟩ = some (.int .i64 (a : Int))) (first | exact BC _ M | exact BC _ (bl_alloc M _) | exact BC _ (bl_alloc (bl_alloc M _) _) | exact BC _ (bl_alloc (bl_alloc (bl_alloc M _) _) _))
   (first
    | (go_at_call 13; refine (calls_from (X := X) (by first | exact M | exact bl_alloc M _ | exact bl_alloc (bl_alloc M _) _ | exact bl_alloc (bl_alloc (bl_alloc M _) _) _) (HS.out a an _ hai HVA.out hna (HT.out.later (bl_trans BX.out (by first | exact M | exact bl_alloc M _ | exact bl_alloc (bl_alloc M _) _ | exact bl_alloc (bl_alloc (bl_alloc M _) _) _))))).mono ?_; rintro e wa ⟨⟨⟨va, rfl, ho⟩, M⟩, hb⟩)
    | (go_at_call 30; refine (calls_from (X := X) (by first | exact M | exact bl_alloc M _ | exact bl_alloc (bl_alloc M _) _ | exact bl_alloc (bl_alloc (bl_alloc M _) _) _) (around_any (La := [bEmit, n.text]) (Lm := (tkA T (a : Int))) (Lb := [bSemi]) (by (repeat (first | exact RT.nil _ | exact RT.n1 (by simp) | exact RT.n2 (by simp) | exact RT.n3 (by simp) | exact ho.rt | refine RT.alloc ?_ _ | refine RT.later ?_ hb))) (by (repeat (first | exact RT.nil _ | exact RT.n1 (by simp) | exact RT.n2 (by simp) | exact RT.n3 (by simp) | exact ho.rt | refine RT.alloc ?_ _ | refine RT.later ?_ hb))) (by (repeat (first | exact RT.nil _ | exact RT.n1 (by simp) | exact RT.n2 (by simp) | exact RT.n3 (by simp) | exact ho.rt | refine RT.alloc ?_ _ | refine RT.later ?_ hb))) (by simp only [List.length_append, List.length_cons, List.length_nil]; omega))).mono ?_; rintro e wz ⟨⟨⟨vz, rfl, hz⟩, M⟩, hbz⟩))
  all_goals
   have HZ := hid hz
   have HM := hid M
   clear hz M; go_wp2_with fail; go_ret; exact ⟨⟨_, rfl, by rw [HC.out]; exact HZ.out.mono BX.out.size⟩, bl_trans BX.out HM.out⟩
 obtain ⟨a, an, hxa, hka, hai, hva, hca⟩ := HV.out.kidAt (j := 0) (c := 1) (by rw [hkd.out]; rfl)
 have kI0 : 0 < ml := by rw [← hml.out]; exact (List.getElem?_eq_some_iff.1 hxa).1
 have hna : ¬ an.kind = 29 ∧ ¬ an.kind = 30 := cls_no hca (by omega) (by omega)
 have hla := HTL.out a an hai hva
 have HVA := hid hva
 obtain ⟨fb, fo, rfl, _, hfb, pp0⟩ := eInt_cells HK.out hxa
 have PP0 : Hid (w.cell? ⟨fb, fo, none⟩ = some (.int .i64 (a : Int))) := pp0
 clear pp0 hxa hva hca; have HC : Hid (tkA T (i : Int) = [bPut, n.text, bEq] ++ tkA T (a : Int) ++ [bSemi]) := by show _ = _; rw [HE.out]; unfold tkN; rw [hkd.out, hka]; rfl
 clear hka; obtain ⟨z0, z1, z2, z3, z4⟩ := Blk.four' KN.out
 obtain ⟨t0, t1, t2⟩ := KA.out.two
 go_enter Tryz.func28, Tryz.ntmps28
 go_wp2_with fail; clear hX; have BC : ∀ Y, Below X.heap.size X Y → Y.cell? ⟨w.heap.size, 0, none⟩ = some (.slice n1 T.nodes.length d1) ∧ Y.cell? ⟨w.heap.size, 1, none⟩ = some (.slice n2 T.tops.length d2) ∧ Y.cell? ⟨w.heap.size + 1, 0, none⟩ = some (.int .i64 23) ∧ Y.cell? ⟨w.heap.size + 1, 1, none⟩ = some (.string n.text) ∧ Y.cell? ⟨w.heap.size + 1, 2, none⟩ = some (.int .i64 n.num) ∧ Y.cell? ⟨w.heap.size + 1, 3, none⟩ = some (.slice (some ⟨fb, fo, none⟩) ml c9) ∧ Y.cell? ⟨fb, fo, none⟩ = some (.int .i64 (a : Int)) := fun Y hY => ⟨(KA.out.later hY).cell 0 |>.trans rfl, (KA.out.later hY).cell 1 |>.trans rfl, (KN.out.later hY).cell 0 |>.trans rfl, (KN.out.later hY).cell 1 |>.trans rfl, (KN.out.later hY).cell 2 |>.trans rfl, (KN.out.later hY).cell 3 |>.trans rfl, ((bl_trans BX.out hY).cell (p := ⟨fb, fo, none⟩) hfb).trans PP0.out⟩
 have M : Below X.heap.size X X.drew := bl_drew (Below.refl _ _)
 go_region_held3 (fun Y => Y.cell? ⟨w.heap.size, 0, none⟩ = some (.slice n1 T.nodes.length d1) ∧ Y.cell? ⟨w.heap.size, 1, none⟩ = some (.slice n2 T.tops.length d2) ∧ Y.cell? ⟨w.heap.size + 1, 0, none⟩ = some (.int .i64 23) ∧ Y.cell? ⟨w.heap.size + 1, 1, none⟩ = some (.string n.text) ∧ Y.cell? ⟨w.heap.size + 1, 2, none⟩ = some (.int .i64 n.num) ∧ Y.cell? ⟨w.heap.size + 1, 3, none⟩ = some (.slice (some ⟨fb, fo, none⟩) ml c9) ∧ Y.cell? ⟨fb, fo, none⟩ = some (.int .i64 (a : Int))) (first | exact BC _ M | exact BC _ (bl_alloc M _) | exact BC _ (bl_alloc (bl_alloc M _) _) | exact BC _ (bl_alloc (bl_alloc (bl_alloc M _) _) _))
  (first
   | (go_at_call 13; refine (calls_from (X := X) (by first | exact M | exact bl_alloc M _ | exact bl_alloc (bl_alloc M _) _ | exact bl_alloc (bl_alloc (bl_alloc M _) _) _) (HS.out a an _ hai HVA.out hna (HT.out.later (bl_trans BX.out (by first | exact M | exact bl_alloc M _ | exact bl_alloc (bl_alloc M _) _ | exact bl_alloc (bl_alloc (bl_alloc M _) _) _))))).mono ?_; rintro e wa ⟨⟨⟨va, rfl, ho⟩, M⟩, hb⟩)
   | (go_at_call 30; refine (calls_from (X := X) (by first | exact M | exact bl_alloc M _ | exact bl_alloc (bl_alloc M _) _ | exact bl_alloc (bl_alloc (bl_alloc M _) _) _) (around_any (La := [bPut, n.text, bEq]) (Lm := (tkA T (a : Int))) (Lb := [bSemi]) (by (repeat (first | exact RT.nil _ | exact RT.n1 (by simp) | exact RT.n2 (by simp) | exact RT.n3 (by simp) | exact ho.rt | refine RT.alloc ?_ _ | refine RT.later ?_ hb))) (by (repeat (first | exact RT.nil _ | exact RT.n1 (by simp) | exact RT.n2 (by simp) | exact RT.n3 (by simp) | exact ho.rt | refine RT.alloc ?_ _ | refine RT.later ?_ hb))) (by (repeat (first | exact RT.nil _ | exact RT.n1 (by simp) | exact RT.n2 (by simp) | exact RT.n3 (by simp) | exact ho.rt | refine RT.alloc ?_ _ | refine RT.later ?_ hb))) (by simp only [List.length_append, List.length_cons, List.length_nil]; omega))).mono ?_; rintro e wz ⟨⟨⟨vz, rfl, hz⟩, M⟩, hbz⟩))
 all_goals
  have HZ := hid hz
  have HM := hid M
  clear hz M; go_wp2_with fail; go_ret; exact ⟨⟨_, rfl, by rw [HC.out]; exact HZ.out.mono BX.out.size⟩, bl_trans BX.out HM.out⟩
set_option maxHeartbeats 64000000 in
theorem stmt_f {n1 n2 : Option Addr} {d1 d2 B : Nat} {T : Tre} {i : Nat} {n : Nd} (hS : TkS n1 n2 d1 d2 B T i) (hv : VN T i n) (hk : n.kind = 25 ∨ n.kind = 26) {s9 : Option Addr} {c9 B9 : Nat} {w : World} (hT : InC w B n1 n2 T) (hK : Els 1 cInt w B9 s9 n.kids) (hcap : n.kids.length ≤ c9) (h64 : -9223372036854775808 ≤ n.num ∧ n.num ≤ 9223372036854775807) (htl : ∀ (k : Nat) (m : Nd), k < i → VN T k m → (tkA T (k : Int)).length ≤ 90000) (hsum : (n.kids.map fun x => (tkA T x).length + 1).sum ≤ 90000) :
  Calls Tryz.prog 28 #[.agg #[.slice n1 T.nodes.length d1, .slice n2 T.tops.length d2], .agg #[.int .i64 n.kind, .string n.text, .int .i64 n.num, .slice s9 n.kids.length c9]] w fun e w' => SaysT w (tkA T (i : Int)) e w' := by
 have HT := hid hT
 have HK := hid hK
 have HS := hid hS
 have HV := hid hv
 have HTL := hid htl
 have HSUM := hid hsum
 have HCAP := hid hcap
 have HE : Hid (tkA T (i : Int) = tkN (tkA T) n) := tkA_eq hv
 obtain ⟨kd, hkd⟩ : ∃ k, Hid (n.kind = k) := ⟨_, rfl⟩
 obtain ⟨ml, hml⟩ : ∃ m, Hid (n.kids.length = m) := ⟨_, rfl⟩
 rw [hkd.out] at hk ⊢
 rw [hml.out]
 have ka := (Blk.new w #[.slice n1 T.nodes.length d1, .slice n2 T.tops.length d2] 31).alloc (.cells #[.int .i64 kd, .string n.text, .int .i64 n.num, .slice s9 ml c9] 66)
 have kn := Blk.new' (n := w.heap.size + 1) (w.alloc (.cells #[.slice n1 T.nodes.length d1, .slice n2 T.tops.length d2] 31)) #[.int .i64 kd, .string n.text, .int .i64 n.num, .slice s9 ml c9] 66 (by simp)
 have bx : Below w.heap.size w ((w.alloc (.cells #[.slice n1 T.nodes.length d1, .slice n2 T.tops.length d2] 31)).alloc (.cells #[.int .i64 kd, .string n.text, .int .i64 n.num, .slice s9 ml c9] 66)) := bl_alloc (bl_alloc (Below.refl _ _) _) _
 clear hT hK hS hv htl hsum hcap; obtain ⟨X, hX⟩ : ∃ X, (w.alloc (.cells #[.slice n1 T.nodes.length d1, .slice n2 T.tops.length d2] 31)).alloc (.cells #[.int .i64 kd, .string n.text, .int .i64 n.num, .slice s9 ml c9] 66) = X := ⟨_, rfl⟩
 rw [hX] at ka kn bx
 have KA := hid ka
 have KN := hid kn
 have BX := hid bx
 clear ka kn bx; rcases hk with rfl | rfl
 ·
  obtain ⟨a, an, hxa, hka, hai, hva, hca⟩ := HV.out.kidAt (j := 0) (c := 10) (by rw [hkd.out]; rfl)
  have kI0 : 0 < ml := by rw [← hml.out]; exact (List.getElem?_eq_some_iff.1 hxa).1
  have hna : ¬ an.kind = 29 ∧ ¬ an.kind = 30 := cls_no hca (by omega) (by omega)
  have hla := HTL.out a an hai hva
  have HVA := hid hva
  obtain ⟨fb, fo, rfl, _, hfb, pp0⟩ := eInt_cells HK.out hxa
  have PP0 : Hid (w.cell? ⟨fb, fo, none⟩ = some (.int .i64 (a : Int))) := pp0
  clear pp0 hxa hva hca; have HC : Hid (tkA T (i : Int) = [bDo] ++ tkA T (a : Int) ++ [bSemi]) := by show _ = _; rw [HE.out]; unfold tkN; rw [hkd.out, hka]; rfl
  clear hka; obtain ⟨z0, z1, z2, z3, z4⟩ := Blk.four' KN.out
  obtain ⟨t0, t1, t2⟩ := KA.out.two
  go_enter Tryz.func28, Tryz.ntmps28
  go_wp2_with fail; clear hX; have BC : ∀ Y, Below X.heap.size X Y → Y.cell? ⟨w.heap.size, 0, none⟩ = some (.slice n1 T.nodes.length d1) ∧ Y.cell? ⟨w.heap.size, 1, none⟩ = some (.slice n2 T.tops.length d2) ∧ Y.cell? ⟨w.heap.size + 1, 0, none⟩ = some (.int .i64 25) ∧ Y.cell? ⟨w.heap.size + 1, 1, none⟩ = some (.string n.text) ∧ Y.cell? ⟨w.heap.size + 1, 2, none⟩ = some (.int .i64 n.num) ∧ Y.cell? ⟨w.heap.size + 1, 3, none⟩ = some (.slice (some ⟨fb, fo, none⟩) ml c9) ∧ Y.cell? ⟨fb, fo, none⟩ = some (.int .i64 (a : Int)) := fun Y hY => ⟨(KA.out.later hY).cell 0 |>.trans rfl, (KA.out.later hY).cell 1 |>.trans rfl, (KN.out.later hY).cell 0 |>.trans rfl, (KN.out.later hY).cell 1 |>.trans rfl, (KN.out.later hY).cell 2 |>.trans rfl, (KN.out.later hY).cell 3 |>.trans rfl, ((bl_trans BX.out hY).cell (p := ⟨fb, fo, none⟩) hfb).trans PP0.out⟩
  have M : Below X.heap.size X X.drew := bl_drew (Below.refl _ _)
  go_region_held3 (fun Y => Y.cell? ⟨w.heap.size, 0, none⟩ = some (.slice n1 T.nodes.length d1) ∧ Y.cell? ⟨w.heap.size, 1, none⟩ = some (.slice n2 T.tops.length d2) ∧ Y.cell? ⟨w.heap.size + 1, 0, none⟩ = some (.int .i64 25) ∧ Y.cell? ⟨w.heap.size + 1, 1, none⟩ = some (.string n.text) ∧ Y.cell? ⟨w.heap.size + 1, 2, none⟩ = some (.int .i64 n.num) ∧ Y.cell? ⟨w.heap.size + 1, 3, none⟩ = some (.slice (some ⟨fb, fo, none⟩) ml c9) ∧ Y.cell? ⟨fb, fo, none⟩ = some (.int .i64 (a : Int))) (first | exact BC _ M | exact BC _ (bl_alloc M _) | exact BC _ (bl_alloc (bl_alloc M _) _) | exact BC _ (bl_alloc (bl_alloc (bl_alloc M _) _) _))
   (first
    | (go_at_call 13; refine (calls_from (X := X) (by first | exact M | exact bl_alloc M _ | exact bl_alloc (bl_alloc M _) _ | exact bl_alloc (bl_alloc (bl_alloc M _) _) _) (HS.out a an _ hai HVA.out hna (HT.out.later (bl_trans BX.out (by first | exact M | exact bl_alloc M _ | exact bl_alloc (bl_alloc M _) _ | exact bl_alloc (bl_alloc (bl_alloc M _) _) _))))).mono ?_; rintro e wa ⟨⟨⟨va, rfl, ho⟩, M⟩, hb⟩)
    | (go_at_call 30; refine (calls_from (X := X) (by first | exact M | exact bl_alloc M _ | exact bl_alloc (bl_alloc M _) _ | exact bl_alloc (bl_alloc (bl_alloc M _) _) _) (around_any (La := [bDo]) (Lm := (tkA T (a : Int))) (Lb := [bSemi]) (by (repeat (first | exact RT.nil _ | exact RT.n1 (by simp) | exact RT.n2 (by simp) | exact RT.n3 (by simp) | exact ho.rt | refine RT.alloc ?_ _ | refine RT.later ?_ hb))) (by (repeat (first | exact RT.nil _ | exact RT.n1 (by simp) | exact RT.n2 (by simp) | exact RT.n3 (by simp) | exact ho.rt | refine RT.alloc ?_ _ | refine RT.later ?_ hb))) (by (repeat (first | exact RT.nil _ | exact RT.n1 (by simp) | exact RT.n2 (by simp) | exact RT.n3 (by simp) | exact ho.rt | refine RT.alloc ?_ _ | refine RT.later ?_ hb))) (by simp only [List.length_append, List.length_cons, List.length_nil]; omega))).mono ?_; rintro e wz ⟨⟨⟨vz, rfl, hz⟩, M⟩, hbz⟩))
  all_goals
   have HZ := hid hz
   have HM := hid M
   clear hz M; go_wp2_with fail; go_ret; exact ⟨⟨_, rfl, by rw [HC.out]; exact HZ.out.mono BX.out.size⟩, bl_trans BX.out HM.out⟩
 obtain ⟨a, an, hxa, hka, hai, hva, hca⟩ := HV.out.kidAt (j := 0) (c := 1) (by rw [hkd.out]; rfl)
 have kI0 : 0 < ml := by rw [← hml.out]; exact (List.getElem?_eq_some_iff.1 hxa).1
 have hna : ¬ an.kind = 29 ∧ ¬ an.kind = 30 := cls_no hca (by omega) (by omega)
 have hla := HTL.out a an hai hva
 have HVA := hid hva
 obtain ⟨fb, fo, rfl, _, hfb, pp0⟩ := eInt_cells HK.out hxa
 have PP0 : Hid (w.cell? ⟨fb, fo, none⟩ = some (.int .i64 (a : Int))) := pp0
 clear pp0 hxa hva hca; have HC : Hid (tkA T (i : Int) = [bReturn] ++ tkA T (a : Int) ++ [bSemi]) := by show _ = _; rw [HE.out]; unfold tkN; rw [hkd.out, hka]; rfl
 clear hka; obtain ⟨z0, z1, z2, z3, z4⟩ := Blk.four' KN.out
 obtain ⟨t0, t1, t2⟩ := KA.out.two
 go_enter Tryz.func28, Tryz.ntmps28
 go_wp2_with fail; clear hX; have BC : ∀ Y, Below X.heap.size X Y → Y.cell? ⟨w.heap.size, 0, none⟩ = some (.slice n1 T.nodes.length d1) ∧ Y.cell? ⟨w.heap.size, 1, none⟩ = some (.slice n2 T.tops.length d2) ∧ Y.cell? ⟨w.heap.size + 1, 0, none⟩ = some (.int .i64 26) ∧ Y.cell? ⟨w.heap.size + 1, 1, none⟩ = some (.string n.text) ∧ Y.cell? ⟨w.heap.size + 1, 2, none⟩ = some (.int .i64 n.num) ∧ Y.cell? ⟨w.heap.size + 1, 3, none⟩ = some (.slice (some ⟨fb, fo, none⟩) ml c9) ∧ Y.cell? ⟨fb, fo, none⟩ = some (.int .i64 (a : Int)) := fun Y hY => ⟨(KA.out.later hY).cell 0 |>.trans rfl, (KA.out.later hY).cell 1 |>.trans rfl, (KN.out.later hY).cell 0 |>.trans rfl, (KN.out.later hY).cell 1 |>.trans rfl, (KN.out.later hY).cell 2 |>.trans rfl, (KN.out.later hY).cell 3 |>.trans rfl, ((bl_trans BX.out hY).cell (p := ⟨fb, fo, none⟩) hfb).trans PP0.out⟩
 have M : Below X.heap.size X X.drew := bl_drew (Below.refl _ _)
 go_region_held3 (fun Y => Y.cell? ⟨w.heap.size, 0, none⟩ = some (.slice n1 T.nodes.length d1) ∧ Y.cell? ⟨w.heap.size, 1, none⟩ = some (.slice n2 T.tops.length d2) ∧ Y.cell? ⟨w.heap.size + 1, 0, none⟩ = some (.int .i64 26) ∧ Y.cell? ⟨w.heap.size + 1, 1, none⟩ = some (.string n.text) ∧ Y.cell? ⟨w.heap.size + 1, 2, none⟩ = some (.int .i64 n.num) ∧ Y.cell? ⟨w.heap.size + 1, 3, none⟩ = some (.slice (some ⟨fb, fo, none⟩) ml c9) ∧ Y.cell? ⟨fb, fo, none⟩ = some (.int .i64 (a : Int))) (first | exact BC _ M | exact BC _ (bl_alloc M _) | exact BC _ (bl_alloc (bl_alloc M _) _) | exact BC _ (bl_alloc (bl_alloc (bl_alloc M _) _) _))
  (first
   | (go_at_call 13; refine (calls_from (X := X) (by first | exact M | exact bl_alloc M _ | exact bl_alloc (bl_alloc M _) _ | exact bl_alloc (bl_alloc (bl_alloc M _) _) _) (HS.out a an _ hai HVA.out hna (HT.out.later (bl_trans BX.out (by first | exact M | exact bl_alloc M _ | exact bl_alloc (bl_alloc M _) _ | exact bl_alloc (bl_alloc (bl_alloc M _) _) _))))).mono ?_; rintro e wa ⟨⟨⟨va, rfl, ho⟩, M⟩, hb⟩)
   | (go_at_call 30; refine (calls_from (X := X) (by first | exact M | exact bl_alloc M _ | exact bl_alloc (bl_alloc M _) _ | exact bl_alloc (bl_alloc (bl_alloc M _) _) _) (around_any (La := [bReturn]) (Lm := (tkA T (a : Int))) (Lb := [bSemi]) (by (repeat (first | exact RT.nil _ | exact RT.n1 (by simp) | exact RT.n2 (by simp) | exact RT.n3 (by simp) | exact ho.rt | refine RT.alloc ?_ _ | refine RT.later ?_ hb))) (by (repeat (first | exact RT.nil _ | exact RT.n1 (by simp) | exact RT.n2 (by simp) | exact RT.n3 (by simp) | exact ho.rt | refine RT.alloc ?_ _ | refine RT.later ?_ hb))) (by (repeat (first | exact RT.nil _ | exact RT.n1 (by simp) | exact RT.n2 (by simp) | exact RT.n3 (by simp) | exact ho.rt | refine RT.alloc ?_ _ | refine RT.later ?_ hb))) (by simp only [List.length_append, List.length_cons, List.length_nil]; omega))).mono ?_; rintro e wz ⟨⟨⟨vz, rfl, hz⟩, M⟩, hbz⟩))
 all_goals
  have HZ := hid hz
  have HM := hid M
  clear hz M; go_wp2_with fail; go_ret; exact ⟨⟨_, rfl, by rw [HC.out]; exact HZ.out.mono BX.out.size⟩, bl_trans BX.out HM.out⟩
end
section
open Go.RowKit
set_option maxRecDepth 100000
set_option maxHeartbeats 64000000 in
theorem stmt_g {n1 n2 : Option Addr} {d1 d2 B : Nat} {T : Tre} {i : Nat} {n : Nd} (hS : TkS n1 n2 d1 d2 B T i) (hv : VN T i n) (hk : n.kind = 17 ∨ n.kind = 20) {s9 : Option Addr} {c9 B9 : Nat} {w : World} (hT : InC w B n1 n2 T) (hK : Els 1 cInt w B9 s9 n.kids) (hcap : n.kids.length ≤ c9) (h64 : -9223372036854775808 ≤ n.num ∧ n.num ≤ 9223372036854775807) (htl : ∀ (k : Nat) (m : Nd), k < i → VN T k m → (tkA T (k : Int)).length ≤ 90000) (hsum : (n.kids.map fun x => (tkA T x).length + 1).sum ≤ 90000) :
  Calls Tryz.prog 28 #[.agg #[.slice n1 T.nodes.length d1, .slice n2 T.tops.length d2], .agg #[.int .i64 n.kind, .string n.text, .int .i64 n.num, .slice s9 n.kids.length c9]] w fun e w' => SaysT w (tkA T (i : Int)) e w' := by
 have HT := hid hT
 have HK := hid hK
 have HS := hid hS
 have HV := hid hv
 have HTL := hid htl
 have HSUM := hid hsum
 have HCAP := hid hcap
 have HE : Hid (tkA T (i : Int) = tkN (tkA T) n) := tkA_eq hv
 obtain ⟨kd, hkd⟩ : ∃ k, Hid (n.kind = k) := ⟨_, rfl⟩
 obtain ⟨ml, hml⟩ : ∃ m, Hid (n.kids.length = m) := ⟨_, rfl⟩
 rw [hkd.out] at hk ⊢
 rw [hml.out]
 have ka := (Blk.new w #[.slice n1 T.nodes.length d1, .slice n2 T.tops.length d2] 31).alloc (.cells #[.int .i64 kd, .string n.text, .int .i64 n.num, .slice s9 ml c9] 66)
 have kn := Blk.new' (n := w.heap.size + 1) (w.alloc (.cells #[.slice n1 T.nodes.length d1, .slice n2 T.tops.length d2] 31)) #[.int .i64 kd, .string n.text, .int .i64 n.num, .slice s9 ml c9] 66 (by simp)
 have bx : Below w.heap.size w ((w.alloc (.cells #[.slice n1 T.nodes.length d1, .slice n2 T.tops.length d2] 31)).alloc (.cells #[.int .i64 kd, .string n.text, .int .i64 n.num, .slice s9 ml c9] 66)) := bl_alloc (bl_alloc (Below.refl _ _) _) _
 clear hT hK hS hv htl hsum hcap; obtain ⟨X, hX⟩ : ∃ X, (w.alloc (.cells #[.slice n1 T.nodes.length d1, .slice n2 T.tops.length d2] 31)).alloc (.cells #[.int .i64 kd, .string n.text, .int .i64 n.num, .slice s9 ml c9] 66) = X := ⟨_, rfl⟩
 rw [hX] at ka kn bx
 have KA := hid ka
 have KN := hid kn
 have BX := hid bx
 clear ka kn bx; rcases hk with rfl | rfl
 ·
  obtain ⟨a, an, hxa, hka, hai, hva, hca⟩ := HV.out.kidAt (j := 0) (c := 1) (by rw [hkd.out]; rfl)
  have kI0 : 0 < ml := by rw [← hml.out]; exact (List.getElem?_eq_some_iff.1 hxa).1
  have hna : ¬ an.kind = 29 ∧ ¬ an.kind = 30 := cls_no hca (by omega) (by omega)
  have hla := HTL.out a an hai hva
  have HVA := hid hva
  obtain ⟨b, bn, hxb, hkb, hbi, hvb, hcb⟩ := HV.out.kidAt (j := 1) (c := 3) (by rw [hkd.out]; rfl)
  have kI1 : 1 < ml := by rw [← hml.out]; exact (List.getElem?_eq_some_iff.1 hxb).1
  have kJ1 : (1 : Int) < (ml : Int) := by omega
  have hnb : ¬ bn.kind = 29 ∧ ¬ bn.kind = 30 := cls_no hcb (by omega) (by omega)
  have hlb := HTL.out b bn hbi hvb
  have HVB := hid hvb
  obtain ⟨fb, fo, rfl, _, hfb, pp0⟩ := eInt_cells HK.out hxa
  have PP0 : Hid (w.cell? ⟨fb, fo, none⟩ = some (.int .i64 (a : Int))) := pp0
  obtain ⟨_, _, e1, _, _, pp1⟩ := eInt_cells HK.out hxb
  cases e1
  have PP1 : Hid (w.cell? ⟨fb, fo + 1, none⟩ = some (.int .i64 (b : Int))) := pp1
  clear pp0 hxa hva hca pp1 hxb hvb hcb; have HC : Hid (tkA T (i : Int) = [bLoop] ++ tkA T (a : Int) ++ tkA T (b : Int)) := by show _ = _; rw [HE.out]; unfold tkN; rw [hkd.out, hka, hkb]; rfl
  clear hka hkb; obtain ⟨z0, z1, z2, z3, z4⟩ := Blk.four' KN.out
  obtain ⟨t0, t1, t2⟩ := KA.out.two
  go_enter Tryz.func28, Tryz.ntmps28
  go_wp2_with fail; clear hX; have BC : ∀ Y, Below X.heap.size X Y → Y.cell? ⟨w.heap.size, 0, none⟩ = some (.slice n1 T.nodes.length d1) ∧ Y.cell? ⟨w.heap.size, 1, none⟩ = some (.slice n2 T.tops.length d2) ∧ Y.cell? ⟨w.heap.size + 1, 0, none⟩ = some (.int .i64 17) ∧ Y.cell? ⟨w.heap.size + 1, 1, none⟩ = some (.string n.text) ∧ Y.cell? ⟨w.heap.size + 1, 2, none⟩ = some (.int .i64 n.num) ∧ Y.cell? ⟨w.heap.size + 1, 3, none⟩ = some (.slice (some ⟨fb, fo, none⟩) ml c9) ∧ Y.cell? ⟨fb, fo, none⟩ = some (.int .i64 (a : Int)) ∧ Y.cell? ⟨fb, fo + 1, none⟩ = some (.int .i64 (b : Int)) := fun Y hY => ⟨(KA.out.later hY).cell 0 |>.trans rfl, (KA.out.later hY).cell 1 |>.trans rfl, (KN.out.later hY).cell 0 |>.trans rfl, (KN.out.later hY).cell 1 |>.trans rfl, (KN.out.later hY).cell 2 |>.trans rfl, (KN.out.later hY).cell 3 |>.trans rfl, ((bl_trans BX.out hY).cell (p := ⟨fb, fo, none⟩) hfb).trans PP0.out, ((bl_trans BX.out hY).cell (p := ⟨fb, fo + 1, none⟩) hfb).trans PP1.out⟩
  have M : Below X.heap.size X X.drew := bl_drew (Below.refl _ _)
  go_region_held3 (fun Y => Y.cell? ⟨w.heap.size, 0, none⟩ = some (.slice n1 T.nodes.length d1) ∧ Y.cell? ⟨w.heap.size, 1, none⟩ = some (.slice n2 T.tops.length d2) ∧ Y.cell? ⟨w.heap.size + 1, 0, none⟩ = some (.int .i64 17) ∧ Y.cell? ⟨w.heap.size + 1, 1, none⟩ = some (.string n.text) ∧ Y.cell? ⟨w.heap.size + 1, 2, none⟩ = some (.int .i64 n.num) ∧ Y.cell? ⟨w.heap.size + 1, 3, none⟩ = some (.slice (some ⟨fb, fo, none⟩) ml c9) ∧ Y.cell? ⟨fb, fo, none⟩ = some (.int .i64 (a : Int)) ∧ Y.cell? ⟨fb, fo + 1, none⟩ = some (.int .i64 (b : Int))) (first | exact BC _ M | exact BC _ (bl_alloc M _) | exact BC _ (bl_alloc (bl_alloc M _) _) | exact BC _ (bl_alloc (bl_alloc (bl_alloc M _) _) _))
   (first
    | (have hgd := hb; go_at_call 13; refine (calls_from (X := X) (by first | exact M | exact bl_alloc M _ | exact bl_alloc (bl_alloc M _) _ | exact bl_alloc (bl_alloc (bl_alloc M _) _) _) (HS.out b bn _ hbi HVB.out hnb (HT.out.later (bl_trans BX.out (by first | exact M | exact bl_alloc M _ | exact bl_alloc (bl_alloc M _) _ | exact bl_alloc (bl_alloc (bl_alloc M _) _) _))))).mono ?_; rintro e wb ⟨⟨⟨vb, rfl, ho2⟩, M⟩, hb2⟩)
    | (go_at_call 13; refine (calls_from (X := X) (by first | exact M | exact bl_alloc M _ | exact bl_alloc (bl_alloc M _) _ | exact bl_alloc (bl_alloc (bl_alloc M _) _) _) (HS.out a an _ hai HVA.out hna (HT.out.later (bl_trans BX.out (by first | exact M | exact bl_alloc M _ | exact bl_alloc (bl_alloc M _) _ | exact bl_alloc (bl_alloc (bl_alloc M _) _) _))))).mono ?_; rintro e wa ⟨⟨⟨va, rfl, ho⟩, M⟩, hb⟩)
    | (go_at_call 30; refine (calls_from (X := X) (by first | exact M | exact bl_alloc M _ | exact bl_alloc (bl_alloc M _) _ | exact bl_alloc (bl_alloc (bl_alloc M _) _) _) (around_any (La := [bLoop]) (Lm := (tkA T (a : Int))) (Lb := (tkA T (b : Int))) (by (repeat (first | exact RT.nil _ | exact RT.n1 (by simp) | exact RT.n2 (by simp) | exact RT.n3 (by simp) | exact ho.rt | exact ho2.rt | refine RT.alloc ?_ _ | refine RT.later ?_ hb | refine RT.later ?_ hb2))) (by (repeat (first | exact RT.nil _ | exact RT.n1 (by simp) | exact RT.n2 (by simp) | exact RT.n3 (by simp) | exact ho.rt | exact ho2.rt | refine RT.alloc ?_ _ | refine RT.later ?_ hb | refine RT.later ?_ hb2))) (by (repeat (first | exact RT.nil _ | exact RT.n1 (by simp) | exact RT.n2 (by simp) | exact RT.n3 (by simp) | exact ho.rt | exact ho2.rt | refine RT.alloc ?_ _ | refine RT.later ?_ hb | refine RT.later ?_ hb2))) (by simp only [List.length_append, List.length_cons, List.length_nil]; omega))).mono ?_; rintro e wz ⟨⟨⟨vz, rfl, hz⟩, M⟩, hbz⟩))
  all_goals
   have HZ := hid hz
   have HM := hid M
   clear hz M; go_wp2_with fail; go_ret; exact ⟨⟨_, rfl, by rw [HC.out]; exact HZ.out.mono BX.out.size⟩, bl_trans BX.out HM.out⟩
 obtain ⟨a, an, hxa, hka, hai, hva, hca⟩ := HV.out.kidAt (j := 0) (c := 6) (by rw [hkd.out]; rfl)
 have kI0 : 0 < ml := by rw [← hml.out]; exact (List.getElem?_eq_some_iff.1 hxa).1
 have hna : ¬ an.kind = 29 ∧ ¬ an.kind = 30 := cls_no hca (by omega) (by omega)
 have hla := HTL.out a an hai hva
 have HVA := hid hva
 obtain ⟨b, bn, hxb, hkb, hbi, hvb, hcb⟩ := HV.out.kidAt (j := 1) (c := 3) (by rw [hkd.out]; rfl)
 have kI1 : 1 < ml := by rw [← hml.out]; exact (List.getElem?_eq_some_iff.1 hxb).1
 have kJ1 : (1 : Int) < (ml : Int) := by omega
 have hnb : ¬ bn.kind = 29 ∧ ¬ bn.kind = 30 := cls_no hcb (by omega) (by omega)
 have hlb := HTL.out b bn hbi hvb
 have HVB := hid hvb
 obtain ⟨fb, fo, rfl, _, hfb, pp0⟩ := eInt_cells HK.out hxa
 have PP0 : Hid (w.cell? ⟨fb, fo, none⟩ = some (.int .i64 (a : Int))) := pp0
 obtain ⟨_, _, e1, _, _, pp1⟩ := eInt_cells HK.out hxb
 cases e1
 have PP1 : Hid (w.cell? ⟨fb, fo + 1, none⟩ = some (.int .i64 (b : Int))) := pp1
 clear pp0 hxa hva hca pp1 hxb hvb hcb; have HC : Hid (tkA T (i : Int) = [bHear, n.text, bAs] ++ tkA T (a : Int) ++ tkA T (b : Int)) := by show _ = _; rw [HE.out]; unfold tkN; rw [hkd.out, hka, hkb]; rfl
 clear hka hkb; obtain ⟨z0, z1, z2, z3, z4⟩ := Blk.four' KN.out
 obtain ⟨t0, t1, t2⟩ := KA.out.two
 go_enter Tryz.func28, Tryz.ntmps28
 go_wp2_with fail; clear hX; have BC : ∀ Y, Below X.heap.size X Y → Y.cell? ⟨w.heap.size, 0, none⟩ = some (.slice n1 T.nodes.length d1) ∧ Y.cell? ⟨w.heap.size, 1, none⟩ = some (.slice n2 T.tops.length d2) ∧ Y.cell? ⟨w.heap.size + 1, 0, none⟩ = some (.int .i64 20) ∧ Y.cell? ⟨w.heap.size + 1, 1, none⟩ = some (.string n.text) ∧ Y.cell? ⟨w.heap.size + 1, 2, none⟩ = some (.int .i64 n.num) ∧ Y.cell? ⟨w.heap.size + 1, 3, none⟩ = some (.slice (some ⟨fb, fo, none⟩) ml c9) ∧ Y.cell? ⟨fb, fo, none⟩ = some (.int .i64 (a : Int)) ∧ Y.cell? ⟨fb, fo + 1, none⟩ = some (.int .i64 (b : Int)) := fun Y hY => ⟨(KA.out.later hY).cell 0 |>.trans rfl, (KA.out.later hY).cell 1 |>.trans rfl, (KN.out.later hY).cell 0 |>.trans rfl, (KN.out.later hY).cell 1 |>.trans rfl, (KN.out.later hY).cell 2 |>.trans rfl, (KN.out.later hY).cell 3 |>.trans rfl, ((bl_trans BX.out hY).cell (p := ⟨fb, fo, none⟩) hfb).trans PP0.out, ((bl_trans BX.out hY).cell (p := ⟨fb, fo + 1, none⟩) hfb).trans PP1.out⟩
 have M : Below X.heap.size X X.drew := bl_drew (Below.refl _ _)
 go_region_held3 (fun Y => Y.cell? ⟨w.heap.size, 0, none⟩ = some (.slice n1 T.nodes.length d1) ∧ Y.cell? ⟨w.heap.size, 1, none⟩ = some (.slice n2 T.tops.length d2) ∧ Y.cell? ⟨w.heap.size + 1, 0, none⟩ = some (.int .i64 20) ∧ Y.cell? ⟨w.heap.size + 1, 1, none⟩ = some (.string n.text) ∧ Y.cell? ⟨w.heap.size + 1, 2, none⟩ = some (.int .i64 n.num) ∧ Y.cell? ⟨w.heap.size + 1, 3, none⟩ = some (.slice (some ⟨fb, fo, none⟩) ml c9) ∧ Y.cell? ⟨fb, fo, none⟩ = some (.int .i64 (a : Int)) ∧ Y.cell? ⟨fb, fo + 1, none⟩ = some (.int .i64 (b : Int))) (first | exact BC _ M | exact BC _ (bl_alloc M _) | exact BC _ (bl_alloc (bl_alloc M _) _) | exact BC _ (bl_alloc (bl_alloc (bl_alloc M _) _) _))
  (first
   | (have hgd := hb; go_at_call 13; refine (calls_from (X := X) (by first | exact M | exact bl_alloc M _ | exact bl_alloc (bl_alloc M _) _ | exact bl_alloc (bl_alloc (bl_alloc M _) _) _) (HS.out b bn _ hbi HVB.out hnb (HT.out.later (bl_trans BX.out (by first | exact M | exact bl_alloc M _ | exact bl_alloc (bl_alloc M _) _ | exact bl_alloc (bl_alloc (bl_alloc M _) _) _))))).mono ?_; rintro e wb ⟨⟨⟨vb, rfl, ho2⟩, M⟩, hb2⟩)
   | (go_at_call 13; refine (calls_from (X := X) (by first | exact M | exact bl_alloc M _ | exact bl_alloc (bl_alloc M _) _ | exact bl_alloc (bl_alloc (bl_alloc M _) _) _) (HS.out a an _ hai HVA.out hna (HT.out.later (bl_trans BX.out (by first | exact M | exact bl_alloc M _ | exact bl_alloc (bl_alloc M _) _ | exact bl_alloc (bl_alloc (bl_alloc M _) _) _))))).mono ?_; rintro e wa ⟨⟨⟨va, rfl, ho⟩, M⟩, hb⟩)
   | (go_at_call 30; refine (calls_from (X := X) (by first | exact M | exact bl_alloc M _ | exact bl_alloc (bl_alloc M _) _ | exact bl_alloc (bl_alloc (bl_alloc M _) _) _) (around_any (La := [bHear, n.text, bAs]) (Lm := (tkA T (a : Int))) (Lb := (tkA T (b : Int))) (by (repeat (first | exact RT.nil _ | exact RT.n1 (by simp) | exact RT.n2 (by simp) | exact RT.n3 (by simp) | exact ho.rt | exact ho2.rt | refine RT.alloc ?_ _ | refine RT.later ?_ hb | refine RT.later ?_ hb2))) (by (repeat (first | exact RT.nil _ | exact RT.n1 (by simp) | exact RT.n2 (by simp) | exact RT.n3 (by simp) | exact ho.rt | exact ho2.rt | refine RT.alloc ?_ _ | refine RT.later ?_ hb | refine RT.later ?_ hb2))) (by (repeat (first | exact RT.nil _ | exact RT.n1 (by simp) | exact RT.n2 (by simp) | exact RT.n3 (by simp) | exact ho.rt | exact ho2.rt | refine RT.alloc ?_ _ | refine RT.later ?_ hb | refine RT.later ?_ hb2))) (by simp only [List.length_append, List.length_cons, List.length_nil]; omega))).mono ?_; rintro e wz ⟨⟨⟨vz, rfl, hz⟩, M⟩, hbz⟩))
 all_goals
  have HZ := hid hz
  have HM := hid M
  clear hz M; go_wp2_with fail; go_ret; exact ⟨⟨_, rfl, by rw [HC.out]; exact HZ.out.mono BX.out.size⟩, bl_trans BX.out HM.out⟩
end
section
open Go.RowKit
set_option maxRecDepth 100000
theorem cls_29 {k : Int} (h : clsOk 4 k) : k = 29 := by
 unfold clsOk at h
 simp only [show ¬ (4 : Int) = 10 by omega, if_false] at h
 have h := h.1
 unfold cls at h
 repeat (split at h <;> try omega)
theorem cls_30 {k : Int} (h : clsOk 5 k) : k = 30 := by
 unfold clsOk at h
 simp only [show ¬ (5 : Int) = 10 by omega, if_false] at h
 have h := h.1
 unfold cls at h
 repeat (split at h <;> try omega)
set_option maxHeartbeats 64000000 in
theorem stmt_i {n1 n2 : Option Addr} {d1 d2 B : Nat} {T : Tre} {i : Nat} {n : Nd} (hS : TkS n1 n2 d1 d2 B T i) (hv : VN T i n) (hk : n.kind = 18) {s9 : Option Addr} {c9 B9 : Nat} {w : World} (hT : InC w B n1 n2 T) (hK : Els 1 cInt w B9 s9 n.kids) (hcap : n.kids.length ≤ c9) (h64 : -9223372036854775808 ≤ n.num ∧ n.num ≤ 9223372036854775807) (htl : ∀ (k : Nat) (m : Nd), k < i → VN T k m → (tkA T (k : Int)).length ≤ 90000) (hts : ∀ (k : Nat) (m : Nd), k < i → VN T k m → (m.kids.map fun x => (tkA T x).length + 1).sum ≤ 90000) (hsum : (n.kids.map fun x => (tkA T x).length + 1).sum ≤ 90000) :
  Calls Tryz.prog 28 #[.agg #[.slice n1 T.nodes.length d1, .slice n2 T.tops.length d2], .agg #[.int .i64 n.kind, .string n.text, .int .i64 n.num, .slice s9 n.kids.length c9]] w fun e w' => SaysT w (tkA T (i : Int)) e w' := by
 have HT := hid hT
 have HK := hid hK
 have HS := hid hS
 have HV := hid hv
 have HTL := hid htl
 have HSUM := hid hsum
 have HTS := hid hts
 have HCAP := hid hcap
 have HE : Hid (tkA T (i : Int) = tkN (tkA T) n) := tkA_eq hv
 obtain ⟨kd, hkd⟩ : ∃ k, Hid (n.kind = k) := ⟨_, rfl⟩
 obtain ⟨ml, hml⟩ : ∃ m, Hid (n.kids.length = m) := ⟨_, rfl⟩
 rw [hkd.out] at hk ⊢
 rw [hml.out]
 have ka := (Blk.new w #[.slice n1 T.nodes.length d1, .slice n2 T.tops.length d2] 31).alloc (.cells #[.int .i64 kd, .string n.text, .int .i64 n.num, .slice s9 ml c9] 66)
 have kn := Blk.new' (n := w.heap.size + 1) (w.alloc (.cells #[.slice n1 T.nodes.length d1, .slice n2 T.tops.length d2] 31)) #[.int .i64 kd, .string n.text, .int .i64 n.num, .slice s9 ml c9] 66 (by simp)
 have bx : Below w.heap.size w ((w.alloc (.cells #[.slice n1 T.nodes.length d1, .slice n2 T.tops.length d2] 31)).alloc (.cells #[.int .i64 kd, .string n.text, .int .i64 n.num, .slice s9 ml c9] 66)) := bl_alloc (bl_alloc (Below.refl _ _) _) _
 clear hT hK hS hv hts htl hsum hcap; obtain ⟨X, hX⟩ : ∃ X, (w.alloc (.cells #[.slice n1 T.nodes.length d1, .slice n2 T.tops.length d2] 31)).alloc (.cells #[.int .i64 kd, .string n.text, .int .i64 n.num, .slice s9 ml c9] 66) = X := ⟨_, rfl⟩
 rw [hX] at ka kn bx
 have KA := hid ka
 have KN := hid kn
 have BX := hid bx
 clear ka kn bx; rcases hk with rfl
 obtain ⟨a, an, hxa, hka, hai, hva, hca⟩ := HV.out.kidAt (j := 0) (c := 4) (by rw [hkd.out]; rfl)
 have kI0 : 0 < ml := by rw [← hml.out]; exact (List.getElem?_eq_some_iff.1 hxa).1
 have hla := HTL.out a an hai hva
 have HVA := hid hva
 obtain ⟨b, bn, hxb, hkb, hbi, hvb, hcb⟩ := HV.out.kidAt (j := 1) (c := 5) (by rw [hkd.out]; rfl)
 have kI1 : 1 < ml := by rw [← hml.out]; exact (List.getElem?_eq_some_iff.1 hxb).1
 have kJ1 : (1 : Int) < (ml : Int) := by omega
 have hlb := HTL.out b bn hbi hvb
 have HVB := hid hvb
 obtain ⟨c, cn, hxc, hkc, hci, hvc, hcc⟩ := HV.out.kidAt (j := 2) (c := 3) (by rw [hkd.out]; rfl)
 have kI2 : 2 < ml := by rw [← hml.out]; exact (List.getElem?_eq_some_iff.1 hxc).1
 have kJ2 : (2 : Int) < (ml : Int) := by omega
 have hnc : ¬ cn.kind = 29 ∧ ¬ cn.kind = 30 := cls_no hcc (by omega) (by omega)
 have hlc := HTL.out c cn hci hvc
 have HVC := hid hvc
 have ha29 : an.kind = 29 := cls_29 hca
 have hb30 : bn.kind = 30 := cls_30 hcb
 have HAE : Hid (tkA T (a : Int) = [bWith] ++ (cm (an.kids.map (tkA T)))) := by show _ = _; rw [tkA_eq HVA.out]; unfold tkN; rw [ha29]; rfl
 obtain ⟨mb, hmb⟩ : ∃ m, Hid (bn.kids.length = m) := ⟨_, rfl⟩
 have HBE : Hid (tkA T (b : Int) = if mb = 0 then [] else [bWithout] ++ (cm (bn.kids.map (tkA T)))) := by show _ = _; rw [tkA_eq HVB.out]; unfold tkN; rw [hb30, hmb.out]; rfl
 have HKA : Hid (∀ x ∈ an.kids, ∃ (k : Nat) (m : Nd), x = k ∧ k < i ∧ VN T k m ∧ (¬ m.kind = 29 ∧ ¬ m.kind = 30)) := fun x hx => by obtain ⟨k, m, e, h1, h2, h3⟩ := HVA.out.kid_no (by rw [ha29]; omega) x hx; exact ⟨k, m, e, by omega, h2, h3⟩
 have HKB : Hid (∀ x ∈ bn.kids, ∃ (k : Nat) (m : Nd), x = k ∧ k < i ∧ VN T k m ∧ (¬ m.kind = 29 ∧ ¬ m.kind = 30)) := fun x hx => by obtain ⟨k, m, e, h1, h2, h3⟩ := HVB.out.kid_no (by rw [hb30]; omega) x hx; exact ⟨k, m, e, by omega, h2, h3⟩
 have hsa := HTS.out a an hai HVA.out
 have hsb := HTS.out b bn hbi HVB.out
 have hcma : (cm (an.kids.map (tkA T))).length ≤ 90000 := by have := cm_len (tkA T) an.kids; omega
 have hcmb : (cm (bn.kids.map (tkA T))).length ≤ 90000 := by have := cm_len (tkA T) bn.kids; omega
 obtain ⟨fb, fo, rfl, _, hfb, pp0⟩ := eInt_cells HK.out hxa
 have PP0 : Hid (w.cell? ⟨fb, fo, none⟩ = some (.int .i64 (a : Int))) := pp0
 obtain ⟨_, _, e1, _, _, pp1⟩ := eInt_cells HK.out hxb
 cases e1
 have PP1 : Hid (w.cell? ⟨fb, fo + 1, none⟩ = some (.int .i64 (b : Int))) := pp1
 obtain ⟨_, _, e2, _, _, pp2⟩ := eInt_cells HK.out hxc
 cases e2
 have PP2 : Hid (w.cell? ⟨fb, fo + 2, none⟩ = some (.int .i64 (c : Int))) := pp2
 clear pp0 hxa hva hca pp1 hxb hvb hcb pp2 hxc hvc hcc; obtain ⟨nb, no, rfl, _, hnb, sa, ca, _, _, _, qa, fa⟩ := eNode_cells HT.out.n HVA.out.at_
 obtain ⟨_, _, e9, _, _, sb, cb, _, _, _, qb, fb9⟩ := eNode_cells HT.out.n HVB.out.at_
 cases e9
 have QA : Hid (w.cell? ⟨nb, no + a * 4 + 3, none⟩ = some (.slice sa an.kids.length ca)) := qa
 have QB : Hid (w.cell? ⟨nb, no + b * 4 + 3, none⟩ = some (.slice sb mb cb)) := by rw [← hmb.out]; exact qb
 have HLA : Hid (Els 1 cInt w B sa an.kids) := fa
 have HLB : Hid (Els 1 cInt w B sb bn.kids) := fb9
 clear qa qb fa fb9; have aI : (a : Int) < (T.nodes.length : Int) := by have := (List.getElem?_eq_some_iff.1 HVA.out.at_).1; omega
 have bI : (b : Int) < (T.nodes.length : Int) := by have := (List.getElem?_eq_some_iff.1 HVB.out.at_).1; omega
 have aN : a < T.nodes.length := by omega
 have bN : b < T.nodes.length := by omega
 have HC : Hid (tkA T (i : Int) = [bEach] ++ tkA T (a : Int) ++ tkA T (b : Int) ++ tkA T (c : Int)) := by show _ = _; rw [HE.out]; unfold tkN; rw [hkd.out, hka, hkb, hkc]; rfl
 clear hka hkb hkc ha29 hb30; obtain ⟨z0, z1, z2, z3, z4⟩ := Blk.four' KN.out
 obtain ⟨t0, t1, t2⟩ := KA.out.two
 go_enter Tryz.func28, Tryz.ntmps28
 go_wp2_with fail; clear hX; have BC : ∀ Y, Below X.heap.size X Y → Y.cell? ⟨w.heap.size, 0, none⟩ = some (.slice (some ⟨nb, no, none⟩) T.nodes.length d1) ∧ Y.cell? ⟨w.heap.size, 1, none⟩ = some (.slice n2 T.tops.length d2) ∧ Y.cell? ⟨w.heap.size + 1, 0, none⟩ = some (.int .i64 18) ∧ Y.cell? ⟨w.heap.size + 1, 1, none⟩ = some (.string n.text) ∧ Y.cell? ⟨w.heap.size + 1, 2, none⟩ = some (.int .i64 n.num) ∧ Y.cell? ⟨w.heap.size + 1, 3, none⟩ = some (.slice (some ⟨fb, fo, none⟩) ml c9) ∧ Y.cell? ⟨fb, fo, none⟩ = some (.int .i64 (a : Int)) ∧ Y.cell? ⟨fb, fo + 1, none⟩ = some (.int .i64 (b : Int)) ∧ Y.cell? ⟨fb, fo + 2, none⟩ = some (.int .i64 (c : Int)) ∧ Y.cell? ⟨nb, no + a * 4 + 3, none⟩ = some (.slice sa an.kids.length ca) ∧ Y.cell? ⟨nb, no + b * 4 + 3, none⟩ = some (.slice sb mb cb) := fun Y hY => ⟨(KA.out.later hY).cell 0 |>.trans rfl, (KA.out.later hY).cell 1 |>.trans rfl, (KN.out.later hY).cell 0 |>.trans rfl, (KN.out.later hY).cell 1 |>.trans rfl, (KN.out.later hY).cell 2 |>.trans rfl, (KN.out.later hY).cell 3 |>.trans rfl, ((bl_trans BX.out hY).cell (p := ⟨fb, fo, none⟩) hfb).trans PP0.out, ((bl_trans BX.out hY).cell (p := ⟨fb, fo + 1, none⟩) hfb).trans PP1.out, ((bl_trans BX.out hY).cell (p := ⟨fb, fo + 2, none⟩) hfb).trans PP2.out, ((bl_trans BX.out hY).cell (p := ⟨nb, no + a * 4 + 3, none⟩) hnb).trans QA.out, ((bl_trans BX.out hY).cell (p := ⟨nb, no + b * 4 + 3, none⟩) hnb).trans QB.out⟩
 have M : Below X.heap.size X X.drew := bl_drew (Below.refl _ _)
 go_region_held3 (fun Y => Y.cell? ⟨w.heap.size, 0, none⟩ = some (.slice (some ⟨nb, no, none⟩) T.nodes.length d1) ∧ Y.cell? ⟨w.heap.size, 1, none⟩ = some (.slice n2 T.tops.length d2) ∧ Y.cell? ⟨w.heap.size + 1, 0, none⟩ = some (.int .i64 18) ∧ Y.cell? ⟨w.heap.size + 1, 1, none⟩ = some (.string n.text) ∧ Y.cell? ⟨w.heap.size + 1, 2, none⟩ = some (.int .i64 n.num) ∧ Y.cell? ⟨w.heap.size + 1, 3, none⟩ = some (.slice (some ⟨fb, fo, none⟩) ml c9) ∧ Y.cell? ⟨fb, fo, none⟩ = some (.int .i64 (a : Int)) ∧ Y.cell? ⟨fb, fo + 1, none⟩ = some (.int .i64 (b : Int)) ∧ Y.cell? ⟨fb, fo + 2, none⟩ = some (.int .i64 (c : Int)) ∧ Y.cell? ⟨nb, no + a * 4 + 3, none⟩ = some (.slice sa an.kids.length ca) ∧ Y.cell? ⟨nb, no + b * 4 + 3, none⟩ = some (.slice sb mb cb)) (first | exact BC _ M | exact BC _ (bl_alloc M _) | exact BC _ (bl_alloc (bl_alloc M _) _) | exact BC _ (bl_alloc (bl_alloc (bl_alloc M _) _) _))
  (first
   | (go_at_call 31; refine (calls_from (X := X) (by first | exact M | exact bl_alloc M _ | exact bl_alloc (bl_alloc M _) _ | exact bl_alloc (bl_alloc (bl_alloc M _) _) _) (list_n HS.out (HT.out.later (bl_trans BX.out (by first | exact M | exact bl_alloc M _ | exact bl_alloc (bl_alloc M _) _ | exact bl_alloc (bl_alloc (bl_alloc M _) _) _))) (HLA.out.later cInt_keeps (bl_trans BX.out (by first | exact M | exact bl_alloc M _ | exact bl_alloc (bl_alloc M _) _ | exact bl_alloc (bl_alloc (bl_alloc M _) _) _))) HKA.out (by omega) rfl)).mono ?_; rintro e wl ⟨⟨⟨vl, rfl, ho⟩, M⟩, hb⟩)
   | (go_at_call 30; refine (calls_from (X := X) (by first | exact M | exact bl_alloc M _ | exact bl_alloc (bl_alloc M _) _ | exact bl_alloc (bl_alloc (bl_alloc M _) _) _) (around_any (La := [bEach, bWith]) (Lm := (cm (an.kids.map (tkA T)))) (Lb := []) (by (repeat (first | exact RT.nil _ | exact RT.n1 (by simp) | exact RT.n2 (by simp) | exact RT.n3 (by simp) | exact ho.rt | refine RT.alloc ?_ _ | refine RT.later ?_ hb))) (by (repeat (first | exact RT.nil _ | exact RT.n1 (by simp) | exact RT.n2 (by simp) | exact RT.n3 (by simp) | exact ho.rt | refine RT.alloc ?_ _ | refine RT.later ?_ hb))) (RT.nil _) (by simp only [List.length_append, List.length_cons, List.length_nil]; omega))).mono ?_; rintro e wz ⟨⟨⟨vz, rfl, hz⟩, M⟩, hbz⟩))
 all_goals
  have HZ5 := hid hz
  have HM5 := hid M
  clear hz M hbz hb ho; go_wp2_with fail; have M : Below X.heap.size X wz.drew := bl_drew HM5.out
  go_region_held3 (fun Y => Y.cell? ⟨w.heap.size, 0, none⟩ = some (.slice (some ⟨nb, no, none⟩) T.nodes.length d1) ∧ Y.cell? ⟨w.heap.size, 1, none⟩ = some (.slice n2 T.tops.length d2) ∧ Y.cell? ⟨w.heap.size + 1, 0, none⟩ = some (.int .i64 18) ∧ Y.cell? ⟨w.heap.size + 1, 1, none⟩ = some (.string n.text) ∧ Y.cell? ⟨w.heap.size + 1, 2, none⟩ = some (.int .i64 n.num) ∧ Y.cell? ⟨w.heap.size + 1, 3, none⟩ = some (.slice (some ⟨fb, fo, none⟩) ml c9) ∧ Y.cell? ⟨fb, fo, none⟩ = some (.int .i64 (a : Int)) ∧ Y.cell? ⟨fb, fo + 1, none⟩ = some (.int .i64 (b : Int)) ∧ Y.cell? ⟨fb, fo + 2, none⟩ = some (.int .i64 (c : Int)) ∧ Y.cell? ⟨nb, no + a * 4 + 3, none⟩ = some (.slice sa an.kids.length ca) ∧ Y.cell? ⟨nb, no + b * 4 + 3, none⟩ = some (.slice sb mb cb)) (first | exact BC _ M | exact BC _ (bl_alloc M _) | exact BC _ (bl_alloc (bl_alloc M _) _) | exact BC _ (bl_alloc (bl_alloc (bl_alloc M _) _) _))
   (first
    | fail)
  clear M; by_cases h0 : mb = 0
  ·
   subst h0
   obtain ⟨LO, hLO⟩ : ∃ L, Hid (([bEach, bWith] ++ (cm (an.kids.map (tkA T))) ++ []) = L) := ⟨_, hid rfl⟩
   have hol := HZ5.out
   rw [hLO.out] at hol
   have hlo : LO.length ≤ 100000 := by rw [← hLO.out]; simp; omega
   obtain ⟨s7, c7, rfl⟩ := hol.shape
   have HOL := hid hol
   have HCC : Hid (tkA T (i : Int) = LO ++ tkA T (c : Int)) := by show _ = _; rw [HC.out, ← hLO.out, HAE.out, HBE.out]; simp
   clear hol; go_wp2_with fail; have M : Below X.heap.size X wz.drew.drew := bl_drew (bl_drew HM5.out)
   go_region_held3 (fun Y => Y.cell? ⟨w.heap.size, 0, none⟩ = some (.slice (some ⟨nb, no, none⟩) T.nodes.length d1) ∧ Y.cell? ⟨w.heap.size, 1, none⟩ = some (.slice n2 T.tops.length d2) ∧ Y.cell? ⟨w.heap.size + 1, 0, none⟩ = some (.int .i64 18) ∧ Y.cell? ⟨w.heap.size + 1, 1, none⟩ = some (.string n.text) ∧ Y.cell? ⟨w.heap.size + 1, 2, none⟩ = some (.int .i64 n.num) ∧ Y.cell? ⟨w.heap.size + 1, 3, none⟩ = some (.slice (some ⟨fb, fo, none⟩) ml c9) ∧ Y.cell? ⟨fb, fo, none⟩ = some (.int .i64 (a : Int)) ∧ Y.cell? ⟨fb, fo + 1, none⟩ = some (.int .i64 (b : Int)) ∧ Y.cell? ⟨fb, fo + 2, none⟩ = some (.int .i64 (c : Int)) ∧ Y.cell? ⟨nb, no + a * 4 + 3, none⟩ = some (.slice sa an.kids.length ca) ∧ Y.cell? ⟨nb, no + b * 4 + 3, none⟩ = some (.slice sb 0 cb)) (first | exact BC _ M | exact BC _ (bl_alloc M _) | exact BC _ (bl_alloc (bl_alloc M _) _) | exact BC _ (bl_alloc (bl_alloc (bl_alloc M _) _) _))
    (first
     | (go_at_call 13; refine (calls_from (X := X) (by first | exact M | exact bl_alloc M _ | exact bl_alloc (bl_alloc M _) _ | exact bl_alloc (bl_alloc (bl_alloc M _) _) _) (HS.out c cn _ hci HVC.out hnc (HT.out.later (bl_trans BX.out (by first | exact M | exact bl_alloc M _ | exact bl_alloc (bl_alloc M _) _ | exact bl_alloc (bl_alloc (bl_alloc M _) _) _))))).mono ?_; rintro e wc ⟨⟨⟨vc, rfl, ho⟩, M⟩, hb⟩; obtain ⟨s9, c8, rfl⟩ := ho.shape; have hO2 := (HOL.out.later (bl_drew (bl_drew (Below.refl _ _)))).later hb)
     | (refine step_app M M.size hO2 ho.rt rfl rfl (by omega) rfl rfl _ _ rfl rfl rfl ?_; intro s8 c9 wy hz M))
   have HZ := hid hz
   have HM := hid M
   clear hz M hO2 ho hb; go_wp2_with fail; go_ret; exact ⟨⟨_, rfl, by rw [HCC.out]; exact HZ.out.mono BX.out.size⟩, bl_trans BX.out HM.out⟩
  have hm0 : decide ((mb : Int) > 0) = true := by simp; omega
  go_wp2_with fail; have hd5 : RT wz.drew.drew vz ([bEach, bWith] ++ (cm (an.kids.map (tkA T))) ++ []) := HZ5.out.rt.later (bl_drew (bl_drew (Below.refl _ _)))
  have M : Below X.heap.size X wz.drew.drew := bl_drew (bl_drew HM5.out)
  go_region_held3 (fun Y => Y.cell? ⟨w.heap.size, 0, none⟩ = some (.slice (some ⟨nb, no, none⟩) T.nodes.length d1) ∧ Y.cell? ⟨w.heap.size, 1, none⟩ = some (.slice n2 T.tops.length d2) ∧ Y.cell? ⟨w.heap.size + 1, 0, none⟩ = some (.int .i64 18) ∧ Y.cell? ⟨w.heap.size + 1, 1, none⟩ = some (.string n.text) ∧ Y.cell? ⟨w.heap.size + 1, 2, none⟩ = some (.int .i64 n.num) ∧ Y.cell? ⟨w.heap.size + 1, 3, none⟩ = some (.slice (some ⟨fb, fo, none⟩) ml c9) ∧ Y.cell? ⟨fb, fo, none⟩ = some (.int .i64 (a : Int)) ∧ Y.cell? ⟨fb, fo + 1, none⟩ = some (.int .i64 (b : Int)) ∧ Y.cell? ⟨fb, fo + 2, none⟩ = some (.int .i64 (c : Int)) ∧ Y.cell? ⟨nb, no + a * 4 + 3, none⟩ = some (.slice sa an.kids.length ca) ∧ Y.cell? ⟨nb, no + b * 4 + 3, none⟩ = some (.slice sb mb cb)) (first | exact BC _ M | exact BC _ (bl_alloc M _) | exact BC _ (bl_alloc (bl_alloc M _) _) | exact BC _ (bl_alloc (bl_alloc (bl_alloc M _) _) _))
   (first
    | (go_at_call 31; refine (calls_from (X := X) (by first | exact M | exact bl_alloc M _ | exact bl_alloc (bl_alloc M _) _ | exact bl_alloc (bl_alloc (bl_alloc M _) _) _) (list_n HS.out (HT.out.later (bl_trans BX.out (by first | exact M | exact bl_alloc M _ | exact bl_alloc (bl_alloc M _) _ | exact bl_alloc (bl_alloc (bl_alloc M _) _) _))) (HLB.out.later cInt_keeps (bl_trans BX.out (by first | exact M | exact bl_alloc M _ | exact bl_alloc (bl_alloc M _) _ | exact bl_alloc (bl_alloc (bl_alloc M _) _) _))) HKB.out (by omega) hmb.out)).mono ?_; rintro e wl ⟨⟨⟨vl, rfl, ho⟩, M⟩, hb⟩)
    | (go_at_call 30; refine (calls_from (X := X) (by first | exact M | exact bl_alloc M _ | exact bl_alloc (bl_alloc M _) _ | exact bl_alloc (bl_alloc (bl_alloc M _) _) _) (around_any (La := ([bEach, bWith] ++ (cm (an.kids.map (tkA T))) ++ [])) (Lm := [bWithout]) (Lb := (cm (bn.kids.map (tkA T)))) (by (repeat (first | exact RT.nil _ | exact RT.n1 (by simp) | exact RT.n2 (by simp) | exact RT.n3 (by simp) | exact ho.rt | exact hd5 | refine RT.alloc ?_ _ | refine RT.later ?_ hb))) (by (repeat (first | exact RT.nil _ | exact RT.n1 (by simp) | exact RT.n2 (by simp) | exact RT.n3 (by simp) | exact ho.rt | exact hd5 | refine RT.alloc ?_ _ | refine RT.later ?_ hb))) (by (repeat (first | exact RT.nil _ | exact RT.n1 (by simp) | exact RT.n2 (by simp) | exact RT.n3 (by simp) | exact ho.rt | exact hd5 | refine RT.alloc ?_ _ | refine RT.later ?_ hb))) (by simp only [List.length_append, List.length_cons, List.length_nil]; omega))).mono ?_; rintro e wz ⟨⟨⟨vz, rfl, hz⟩, M⟩, hbz⟩))
  all_goals
   obtain ⟨LO, hLO⟩ : ∃ L, Hid ((([bEach, bWith] ++ (cm (an.kids.map (tkA T))) ++ []) ++ [bWithout] ++ (cm (bn.kids.map (tkA T)))) = L) := ⟨_, hid rfl⟩
   have hol := hz
   rw [hLO.out] at hol
   have hlo : LO.length ≤ 200000 := by rw [← hLO.out]; simp; omega
   obtain ⟨s7, c7, rfl⟩ := hol.shape
   have HOL := hid hol
   have HM6 := hid M
   have HCC : Hid (tkA T (i : Int) = LO ++ tkA T (c : Int)) := by show _ = _; rw [HC.out, ← hLO.out, HAE.out, HBE.out, if_neg h0]; simp
   clear hol hz M hbz hb ho hd5; go_wp2_with fail; have M : Below X.heap.size X _ := bl_drew HM6.out
   go_region_held3 (fun Y => Y.cell? ⟨w.heap.size, 0, none⟩ = some (.slice (some ⟨nb, no, none⟩) T.nodes.length d1) ∧ Y.cell? ⟨w.heap.size, 1, none⟩ = some (.slice n2 T.tops.length d2) ∧ Y.cell? ⟨w.heap.size + 1, 0, none⟩ = some (.int .i64 18) ∧ Y.cell? ⟨w.heap.size + 1, 1, none⟩ = some (.string n.text) ∧ Y.cell? ⟨w.heap.size + 1, 2, none⟩ = some (.int .i64 n.num) ∧ Y.cell? ⟨w.heap.size + 1, 3, none⟩ = some (.slice (some ⟨fb, fo, none⟩) ml c9) ∧ Y.cell? ⟨fb, fo, none⟩ = some (.int .i64 (a : Int)) ∧ Y.cell? ⟨fb, fo + 1, none⟩ = some (.int .i64 (b : Int)) ∧ Y.cell? ⟨fb, fo + 2, none⟩ = some (.int .i64 (c : Int)) ∧ Y.cell? ⟨nb, no + a * 4 + 3, none⟩ = some (.slice sa an.kids.length ca) ∧ Y.cell? ⟨nb, no + b * 4 + 3, none⟩ = some (.slice sb mb cb)) (first | exact BC _ M | exact BC _ (bl_alloc M _) | exact BC _ (bl_alloc (bl_alloc M _) _) | exact BC _ (bl_alloc (bl_alloc (bl_alloc M _) _) _))
    (first
     | (go_at_call 13; refine (calls_from (X := X) (by first | exact M | exact bl_alloc M _ | exact bl_alloc (bl_alloc M _) _ | exact bl_alloc (bl_alloc (bl_alloc M _) _) _) (HS.out c cn _ hci HVC.out hnc (HT.out.later (bl_trans BX.out (by first | exact M | exact bl_alloc M _ | exact bl_alloc (bl_alloc M _) _ | exact bl_alloc (bl_alloc (bl_alloc M _) _) _))))).mono ?_; rintro e wc ⟨⟨⟨vc, rfl, ho⟩, M⟩, hb⟩; obtain ⟨s9, c8, rfl⟩ := ho.shape; have hO2 := (HOL.out.later (bl_drew (Below.refl _ _))).later hb)
     | (refine step_app M M.size hO2 ho.rt rfl rfl (by omega) rfl rfl _ _ rfl rfl rfl ?_; intro s8 c9 wy hz M))
   have HZ := hid hz
   have HM := hid M
   clear hz M hO2 ho hb; go_wp2_with fail; go_ret; exact ⟨⟨_, rfl, by rw [HCC.out]; exact HZ.out.mono BX.out.size⟩, bl_trans BX.out HM.out⟩
end
section
open Go.RowKit
set_option maxRecDepth 100000
set_option maxHeartbeats 64000000 in
theorem stmt_h {n1 n2 : Option Addr} {d1 d2 B : Nat} {T : Tre} {i : Nat} {n : Nd} (hS : TkS n1 n2 d1 d2 B T i) (hv : VN T i n) (hk : n.kind = 16) {s9 : Option Addr} {c9 B9 : Nat} {w : World} (hT : InC w B n1 n2 T) (hK : Els 1 cInt w B9 s9 n.kids) (hcap : n.kids.length ≤ c9) (h64 : -9223372036854775808 ≤ n.num ∧ n.num ≤ 9223372036854775807) (htl : ∀ (k : Nat) (m : Nd), k < i → VN T k m → (tkA T (k : Int)).length ≤ 90000) (hsum : (n.kids.map fun x => (tkA T x).length + 1).sum ≤ 90000) :
  Calls Tryz.prog 28 #[.agg #[.slice n1 T.nodes.length d1, .slice n2 T.tops.length d2], .agg #[.int .i64 n.kind, .string n.text, .int .i64 n.num, .slice s9 n.kids.length c9]] w fun e w' => SaysT w (tkA T (i : Int)) e w' := by
 have HT := hid hT
 have HK := hid hK
 have HS := hid hS
 have HV := hid hv
 have HTL := hid htl
 have HSUM := hid hsum
 have HCAP := hid hcap
 have HE : Hid (tkA T (i : Int) = tkN (tkA T) n) := tkA_eq hv
 obtain ⟨kd, hkd⟩ : ∃ k, Hid (n.kind = k) := ⟨_, rfl⟩
 obtain ⟨ml, hml⟩ : ∃ m, Hid (n.kids.length = m) := ⟨_, rfl⟩
 rw [hkd.out] at hk ⊢
 rw [hml.out]
 have ka := (Blk.new w #[.slice n1 T.nodes.length d1, .slice n2 T.tops.length d2] 31).alloc (.cells #[.int .i64 kd, .string n.text, .int .i64 n.num, .slice s9 ml c9] 66)
 have kn := Blk.new' (n := w.heap.size + 1) (w.alloc (.cells #[.slice n1 T.nodes.length d1, .slice n2 T.tops.length d2] 31)) #[.int .i64 kd, .string n.text, .int .i64 n.num, .slice s9 ml c9] 66 (by simp)
 have bx : Below w.heap.size w ((w.alloc (.cells #[.slice n1 T.nodes.length d1, .slice n2 T.tops.length d2] 31)).alloc (.cells #[.int .i64 kd, .string n.text, .int .i64 n.num, .slice s9 ml c9] 66)) := bl_alloc (bl_alloc (Below.refl _ _) _) _
 clear hT hK hS hv htl hsum hcap; obtain ⟨X, hX⟩ : ∃ X, (w.alloc (.cells #[.slice n1 T.nodes.length d1, .slice n2 T.tops.length d2] 31)).alloc (.cells #[.int .i64 kd, .string n.text, .int .i64 n.num, .slice s9 ml c9] 66) = X := ⟨_, rfl⟩
 rw [hX] at ka kn bx
 have KA := hid ka
 have KN := hid kn
 have BX := hid bx
 clear ka kn bx; rcases hk with rfl
 obtain ⟨a, an, hxa, hka, hai, hva, hca⟩ := HV.out.kidAt (j := 0) (c := 1) (by rw [hkd.out]; unfold shp; simp; split <;> rfl)
 have kI0 : 0 < ml := by rw [← hml.out]; exact (List.getElem?_eq_some_iff.1 hxa).1
 have hna : ¬ an.kind = 29 ∧ ¬ an.kind = 30 := cls_no hca (by omega) (by omega)
 have hla := HTL.out a an hai hva
 have HVA := hid hva
 obtain ⟨b, bn, hxb, hkb, hbi, hvb, hcb⟩ := HV.out.kidAt (j := 1) (c := 3) (by rw [hkd.out]; unfold shp; simp; split <;> rfl)
 have kI1 : 1 < ml := by rw [← hml.out]; exact (List.getElem?_eq_some_iff.1 hxb).1
 have kJ1 : (1 : Int) < (ml : Int) := by omega
 have hnb : ¬ bn.kind = 29 ∧ ¬ bn.kind = 30 := cls_no hcb (by omega) (by omega)
 have hlb := HTL.out b bn hbi hvb
 have HVB := hid hvb
 by_cases h3 : ml = 3
 ·
  subst h3
  obtain ⟨c, cn, hxc, hkc, hci, hvc, hcc⟩ := HV.out.kidAt (j := 2) (c := 3) (by rw [hkd.out, hml.out]; rfl)
  have kI2 : 2 < 3 := by rw [← hml.out]; exact (List.getElem?_eq_some_iff.1 hxc).1
  have kJ2 : (2 : Int) < ((3 : Nat) : Int) := by omega
  have hnc : ¬ cn.kind = 29 ∧ ¬ cn.kind = 30 := cls_no hcc (by omega) (by omega)
  have hlc := HTL.out c cn hci hvc
  have HVC := hid hvc
  obtain ⟨fb, fo, rfl, _, hfb, pp0⟩ := eInt_cells HK.out hxa
  have PP0 : Hid (w.cell? ⟨fb, fo, none⟩ = some (.int .i64 (a : Int))) := pp0
  obtain ⟨_, _, e1, _, _, pp1⟩ := eInt_cells HK.out hxb
  cases e1
  have PP1 : Hid (w.cell? ⟨fb, fo + 1, none⟩ = some (.int .i64 (b : Int))) := pp1
  obtain ⟨_, _, e2, _, _, pp2⟩ := eInt_cells HK.out hxc
  cases e2
  have PP2 : Hid (w.cell? ⟨fb, fo + 2, none⟩ = some (.int .i64 (c : Int))) := pp2
  clear pp0 hxa hva hca pp1 hxb hvb hcb pp2 hxc hvc hcc; have HC : Hid (tkA T (i : Int) = ([bIf] ++ tkA T (a : Int) ++ tkA T (b : Int)) ++ [bElse] ++ tkA T (c : Int)) := by show _ = _; rw [HE.out]; unfold tkN; rw [hkd.out, hka, hkb, hkc, hml.out]; simp
  clear hka hkb hkc; obtain ⟨z0, z1, z2, z3, z4⟩ := Blk.four' KN.out
  obtain ⟨t0, t1, t2⟩ := KA.out.two
  go_enter Tryz.func28, Tryz.ntmps28
  go_wp2_with fail; clear hX; have BC : ∀ Y, Below X.heap.size X Y → Y.cell? ⟨w.heap.size, 0, none⟩ = some (.slice n1 T.nodes.length d1) ∧ Y.cell? ⟨w.heap.size, 1, none⟩ = some (.slice n2 T.tops.length d2) ∧ Y.cell? ⟨w.heap.size + 1, 0, none⟩ = some (.int .i64 16) ∧ Y.cell? ⟨w.heap.size + 1, 1, none⟩ = some (.string n.text) ∧ Y.cell? ⟨w.heap.size + 1, 2, none⟩ = some (.int .i64 n.num) ∧ Y.cell? ⟨w.heap.size + 1, 3, none⟩ = some (.slice (some ⟨fb, fo, none⟩) 3 c9) ∧ Y.cell? ⟨fb, fo, none⟩ = some (.int .i64 (a : Int)) ∧ Y.cell? ⟨fb, fo + 1, none⟩ = some (.int .i64 (b : Int)) ∧ Y.cell? ⟨fb, fo + 2, none⟩ = some (.int .i64 (c : Int)) := fun Y hY => ⟨(KA.out.later hY).cell 0 |>.trans rfl, (KA.out.later hY).cell 1 |>.trans rfl, (KN.out.later hY).cell 0 |>.trans rfl, (KN.out.later hY).cell 1 |>.trans rfl, (KN.out.later hY).cell 2 |>.trans rfl, (KN.out.later hY).cell 3 |>.trans rfl, ((bl_trans BX.out hY).cell (p := ⟨fb, fo, none⟩) hfb).trans PP0.out, ((bl_trans BX.out hY).cell (p := ⟨fb, fo + 1, none⟩) hfb).trans PP1.out, ((bl_trans BX.out hY).cell (p := ⟨fb, fo + 2, none⟩) hfb).trans PP2.out⟩
  have M : Below X.heap.size X X.drew := bl_drew (Below.refl _ _)
  go_region_held3 (fun Y => Y.cell? ⟨w.heap.size, 0, none⟩ = some (.slice n1 T.nodes.length d1) ∧ Y.cell? ⟨w.heap.size, 1, none⟩ = some (.slice n2 T.tops.length d2) ∧ Y.cell? ⟨w.heap.size + 1, 0, none⟩ = some (.int .i64 16) ∧ Y.cell? ⟨w.heap.size + 1, 1, none⟩ = some (.string n.text) ∧ Y.cell? ⟨w.heap.size + 1, 2, none⟩ = some (.int .i64 n.num) ∧ Y.cell? ⟨w.heap.size + 1, 3, none⟩ = some (.slice (some ⟨fb, fo, none⟩) 3 c9) ∧ Y.cell? ⟨fb, fo, none⟩ = some (.int .i64 (a : Int)) ∧ Y.cell? ⟨fb, fo + 1, none⟩ = some (.int .i64 (b : Int)) ∧ Y.cell? ⟨fb, fo + 2, none⟩ = some (.int .i64 (c : Int))) (first | exact BC _ M | exact BC _ (bl_alloc M _) | exact BC _ (bl_alloc (bl_alloc M _) _) | exact BC _ (bl_alloc (bl_alloc (bl_alloc M _) _) _))
   (first
    | (have hgd := hb; go_at_call 13; refine (calls_from (X := X) (by first | exact M | exact bl_alloc M _ | exact bl_alloc (bl_alloc M _) _ | exact bl_alloc (bl_alloc (bl_alloc M _) _) _) (HS.out b bn _ hbi HVB.out hnb (HT.out.later (bl_trans BX.out (by first | exact M | exact bl_alloc M _ | exact bl_alloc (bl_alloc M _) _ | exact bl_alloc (bl_alloc (bl_alloc M _) _) _))))).mono ?_; rintro e wb ⟨⟨⟨vb, rfl, ho2⟩, M⟩, hb2⟩)
    | (go_at_call 13; refine (calls_from (X := X) (by first | exact M | exact bl_alloc M _ | exact bl_alloc (bl_alloc M _) _ | exact bl_alloc (bl_alloc (bl_alloc M _) _) _) (HS.out a an _ hai HVA.out hna (HT.out.later (bl_trans BX.out (by first | exact M | exact bl_alloc M _ | exact bl_alloc (bl_alloc M _) _ | exact bl_alloc (bl_alloc (bl_alloc M _) _) _))))).mono ?_; rintro e wa ⟨⟨⟨va, rfl, ho⟩, M⟩, hb⟩)
    | (go_at_call 30; refine (calls_from (X := X) (by first | exact M | exact bl_alloc M _ | exact bl_alloc (bl_alloc M _) _ | exact bl_alloc (bl_alloc (bl_alloc M _) _) _) (around_any (La := [bIf]) (Lm := (tkA T (a : Int))) (Lb := (tkA T (b : Int))) (by (repeat (first | exact RT.nil _ | exact RT.n1 (by simp) | exact RT.n2 (by simp) | exact RT.n3 (by simp) | exact ho.rt | exact ho2.rt | refine RT.alloc ?_ _ | refine RT.later ?_ hb | refine RT.later ?_ hb2))) (by (repeat (first | exact RT.nil _ | exact RT.n1 (by simp) | exact RT.n2 (by simp) | exact RT.n3 (by simp) | exact ho.rt | exact ho2.rt | refine RT.alloc ?_ _ | refine RT.later ?_ hb | refine RT.later ?_ hb2))) (by (repeat (first | exact RT.nil _ | exact RT.n1 (by simp) | exact RT.n2 (by simp) | exact RT.n3 (by simp) | exact ho.rt | exact ho2.rt | refine RT.alloc ?_ _ | refine RT.later ?_ hb | refine RT.later ?_ hb2))) (by simp only [List.length_append, List.length_cons, List.length_nil]; omega))).mono ?_; rintro e wz ⟨⟨⟨vz, rfl, hz⟩, M⟩, hbz⟩))
  all_goals
   have HZ5 := hid hz
   have HM5 := hid M
   clear hz M hbz hb hb2 ho ho2; obtain ⟨z0, z1, z2, z3, z4⟩ := Blk.four' (KN.out.later HM5.out)
   go_wp2_with fail; have hd5 : RT wz.drew vz ([bIf] ++ tkA T (a : Int) ++ tkA T (b : Int)) := HZ5.out.rt.later (bl_drew (Below.refl _ _))
   have M : Below X.heap.size X wz.drew := bl_drew HM5.out
   go_region_held3 (fun Y => Y.cell? ⟨w.heap.size, 0, none⟩ = some (.slice n1 T.nodes.length d1) ∧ Y.cell? ⟨w.heap.size, 1, none⟩ = some (.slice n2 T.tops.length d2) ∧ Y.cell? ⟨w.heap.size + 1, 0, none⟩ = some (.int .i64 16) ∧ Y.cell? ⟨w.heap.size + 1, 1, none⟩ = some (.string n.text) ∧ Y.cell? ⟨w.heap.size + 1, 2, none⟩ = some (.int .i64 n.num) ∧ Y.cell? ⟨w.heap.size + 1, 3, none⟩ = some (.slice (some ⟨fb, fo, none⟩) 3 c9) ∧ Y.cell? ⟨fb, fo, none⟩ = some (.int .i64 (a : Int)) ∧ Y.cell? ⟨fb, fo + 1, none⟩ = some (.int .i64 (b : Int)) ∧ Y.cell? ⟨fb, fo + 2, none⟩ = some (.int .i64 (c : Int))) (first | exact BC _ M | exact BC _ (bl_alloc M _) | exact BC _ (bl_alloc (bl_alloc M _) _) | exact BC _ (bl_alloc (bl_alloc (bl_alloc M _) _) _))
    (first
     | (go_at_call 13; refine (calls_from (X := X) (by first | exact M | exact bl_alloc M _ | exact bl_alloc (bl_alloc M _) _ | exact bl_alloc (bl_alloc (bl_alloc M _) _) _) (HS.out c cn _ hci HVC.out hnc (HT.out.later (bl_trans BX.out (by first | exact M | exact bl_alloc M _ | exact bl_alloc (bl_alloc M _) _ | exact bl_alloc (bl_alloc (bl_alloc M _) _) _))))).mono ?_; rintro e wc ⟨⟨⟨vc, rfl, ho⟩, M⟩, hb⟩)
     | (go_at_call 30; refine (calls_from (X := X) (by first | exact M | exact bl_alloc M _ | exact bl_alloc (bl_alloc M _) _ | exact bl_alloc (bl_alloc (bl_alloc M _) _) _) (around_any (La := ([bIf] ++ tkA T (a : Int) ++ tkA T (b : Int))) (Lm := [bElse]) (Lb := (tkA T (c : Int))) (by (repeat (first | exact RT.nil _ | exact RT.n1 (by simp) | exact RT.n2 (by simp) | exact RT.n3 (by simp) | exact ho.rt | exact hd5 | refine RT.alloc ?_ _ | refine RT.later ?_ hb))) (by (repeat (first | exact RT.nil _ | exact RT.n1 (by simp) | exact RT.n2 (by simp) | exact RT.n3 (by simp) | exact ho.rt | exact hd5 | refine RT.alloc ?_ _ | refine RT.later ?_ hb))) (by (repeat (first | exact RT.nil _ | exact RT.n1 (by simp) | exact RT.n2 (by simp) | exact RT.n3 (by simp) | exact ho.rt | exact hd5 | refine RT.alloc ?_ _ | refine RT.later ?_ hb))) (by simp only [List.length_append, List.length_cons, List.length_nil]; omega))).mono ?_; rintro e wz ⟨⟨⟨vz, rfl, hz⟩, M⟩, hbz⟩))
   all_goals
    have HZ := hid hz
    have HM := hid M
    clear hz M; go_wp2_with fail; go_ret; exact ⟨⟨_, rfl, by rw [HC.out]; exact HZ.out.mono BX.out.size⟩, bl_trans BX.out HM.out⟩
 have hq : ((ml : Int) == 3) = false := by simp; omega
 obtain ⟨fb, fo, rfl, _, hfb, pp0⟩ := eInt_cells HK.out hxa
 have PP0 : Hid (w.cell? ⟨fb, fo, none⟩ = some (.int .i64 (a : Int))) := pp0
 obtain ⟨_, _, e1, _, _, pp1⟩ := eInt_cells HK.out hxb
 cases e1
 have PP1 : Hid (w.cell? ⟨fb, fo + 1, none⟩ = some (.int .i64 (b : Int))) := pp1
 clear pp0 hxa hva hca pp1 hxb hvb hcb; have HC : Hid (tkA T (i : Int) = ([bIf] ++ tkA T (a : Int) ++ tkA T (b : Int))) := by show _ = _; rw [HE.out]; unfold tkN; rw [hkd.out, hka, hkb, hml.out]; simp [h3]
 clear hka hkb h3; obtain ⟨z0, z1, z2, z3, z4⟩ := Blk.four' KN.out
 obtain ⟨t0, t1, t2⟩ := KA.out.two
 go_enter Tryz.func28, Tryz.ntmps28
 go_wp2_with fail; clear hX; have BC : ∀ Y, Below X.heap.size X Y → Y.cell? ⟨w.heap.size, 0, none⟩ = some (.slice n1 T.nodes.length d1) ∧ Y.cell? ⟨w.heap.size, 1, none⟩ = some (.slice n2 T.tops.length d2) ∧ Y.cell? ⟨w.heap.size + 1, 0, none⟩ = some (.int .i64 16) ∧ Y.cell? ⟨w.heap.size + 1, 1, none⟩ = some (.string n.text) ∧ Y.cell? ⟨w.heap.size + 1, 2, none⟩ = some (.int .i64 n.num) ∧ Y.cell? ⟨w.heap.size + 1, 3, none⟩ = some (.slice (some ⟨fb, fo, none⟩) ml c9) ∧ Y.cell? ⟨fb, fo, none⟩ = some (.int .i64 (a : Int)) ∧ Y.cell? ⟨fb, fo + 1, none⟩ = some (.int .i64 (b : Int)) := fun Y hY => ⟨(KA.out.later hY).cell 0 |>.trans rfl, (KA.out.later hY).cell 1 |>.trans rfl, (KN.out.later hY).cell 0 |>.trans rfl, (KN.out.later hY).cell 1 |>.trans rfl, (KN.out.later hY).cell 2 |>.trans rfl, (KN.out.later hY).cell 3 |>.trans rfl, ((bl_trans BX.out hY).cell (p := ⟨fb, fo, none⟩) hfb).trans PP0.out, ((bl_trans BX.out hY).cell (p := ⟨fb, fo + 1, none⟩) hfb).trans PP1.out⟩
 have M : Below X.heap.size X X.drew := bl_drew (Below.refl _ _)
 go_region_held3 (fun Y => Y.cell? ⟨w.heap.size, 0, none⟩ = some (.slice n1 T.nodes.length d1) ∧ Y.cell? ⟨w.heap.size, 1, none⟩ = some (.slice n2 T.tops.length d2) ∧ Y.cell? ⟨w.heap.size + 1, 0, none⟩ = some (.int .i64 16) ∧ Y.cell? ⟨w.heap.size + 1, 1, none⟩ = some (.string n.text) ∧ Y.cell? ⟨w.heap.size + 1, 2, none⟩ = some (.int .i64 n.num) ∧ Y.cell? ⟨w.heap.size + 1, 3, none⟩ = some (.slice (some ⟨fb, fo, none⟩) ml c9) ∧ Y.cell? ⟨fb, fo, none⟩ = some (.int .i64 (a : Int)) ∧ Y.cell? ⟨fb, fo + 1, none⟩ = some (.int .i64 (b : Int))) (first | exact BC _ M | exact BC _ (bl_alloc M _) | exact BC _ (bl_alloc (bl_alloc M _) _) | exact BC _ (bl_alloc (bl_alloc (bl_alloc M _) _) _))
  (first
   | (have hgd := hb; go_at_call 13; refine (calls_from (X := X) (by first | exact M | exact bl_alloc M _ | exact bl_alloc (bl_alloc M _) _ | exact bl_alloc (bl_alloc (bl_alloc M _) _) _) (HS.out b bn _ hbi HVB.out hnb (HT.out.later (bl_trans BX.out (by first | exact M | exact bl_alloc M _ | exact bl_alloc (bl_alloc M _) _ | exact bl_alloc (bl_alloc (bl_alloc M _) _) _))))).mono ?_; rintro e wb ⟨⟨⟨vb, rfl, ho2⟩, M⟩, hb2⟩)
   | (go_at_call 13; refine (calls_from (X := X) (by first | exact M | exact bl_alloc M _ | exact bl_alloc (bl_alloc M _) _ | exact bl_alloc (bl_alloc (bl_alloc M _) _) _) (HS.out a an _ hai HVA.out hna (HT.out.later (bl_trans BX.out (by first | exact M | exact bl_alloc M _ | exact bl_alloc (bl_alloc M _) _ | exact bl_alloc (bl_alloc (bl_alloc M _) _) _))))).mono ?_; rintro e wa ⟨⟨⟨va, rfl, ho⟩, M⟩, hb⟩)
   | (go_at_call 30; refine (calls_from (X := X) (by first | exact M | exact bl_alloc M _ | exact bl_alloc (bl_alloc M _) _ | exact bl_alloc (bl_alloc (bl_alloc M _) _) _) (around_any (La := [bIf]) (Lm := (tkA T (a : Int))) (Lb := (tkA T (b : Int))) (by (repeat (first | exact RT.nil _ | exact RT.n1 (by simp) | exact RT.n2 (by simp) | exact RT.n3 (by simp) | exact ho.rt | exact ho2.rt | refine RT.alloc ?_ _ | refine RT.later ?_ hb | refine RT.later ?_ hb2))) (by (repeat (first | exact RT.nil _ | exact RT.n1 (by simp) | exact RT.n2 (by simp) | exact RT.n3 (by simp) | exact ho.rt | exact ho2.rt | refine RT.alloc ?_ _ | refine RT.later ?_ hb | refine RT.later ?_ hb2))) (by (repeat (first | exact RT.nil _ | exact RT.n1 (by simp) | exact RT.n2 (by simp) | exact RT.n3 (by simp) | exact ho.rt | exact ho2.rt | refine RT.alloc ?_ _ | refine RT.later ?_ hb | refine RT.later ?_ hb2))) (by simp only [List.length_append, List.length_cons, List.length_nil]; omega))).mono ?_; rintro e wz ⟨⟨⟨vz, rfl, hz⟩, M⟩, hbz⟩))
 all_goals
  have HZ := hid hz
  have HM := hid M
  clear hz M hbz hb hb2 ho ho2; obtain ⟨z0, z1, z2, z3, z4⟩ := Blk.four' (KN.out.later HM.out)
  go_wp2_with fail; go_ret; exact ⟨⟨_, rfl, by rw [HC.out]; exact HZ.out.mono BX.out.size⟩, bl_trans BX.out HM.out⟩
end
section
open Go.RowKit
set_option maxRecDepth 100000
structure WK (T : Tre) (i : Nat) : Prop where
 tl : ∀ (k : Nat) (m : Nd), k < i → VN T k m → (tkA T (k : Int)).length ≤ 90000
 ts : ∀ (k : Nat) (m : Nd), k < i → VN T k m → (m.kids.map fun x => (tkA T x).length + 1).sum ≤ 90000
theorem expr_any {n1 n2 : Option Addr} {d1 d2 B : Nat} {T : Tre} {i : Nat} {n : Nd} (hS : TkS n1 n2 d1 d2 B T i) (hW : WK T i) (hv : VN T i n) (hk : 1 ≤ n.kind ∧ n.kind ≤ 11) {s9 : Option Addr} {c9 B9 : Nat} {w : World} (hT : InC w B n1 n2 T) (hK : Els 1 cInt w B9 s9 n.kids) (hcap : n.kids.length ≤ c9) (h64 : -9223372036854775808 ≤ n.num ∧ n.num ≤ 9223372036854775807) (hsum : (n.kids.map fun x => (tkA T x).length + 1).sum ≤ 90000) :
  Calls Tryz.prog 27 #[.agg #[.slice n1 T.nodes.length d1, .slice n2 T.tops.length d2], .agg #[.int .i64 n.kind, .string n.text, .int .i64 n.num, .slice s9 n.kids.length c9]] w fun e w' => SaysT w (tkA T (i : Int)) e w' := by
 by_cases h1 : n.kind ≤ 6
 ·
  exact expr_a hS hv (by omega) hT hK hcap h64 hW.tl hsum
 by_cases h2 : n.kind = 7 ∨ n.kind = 10
 ·
  exact expr_b hS hv h2 hT hK hcap h64 hW.tl hsum
 by_cases h3 : n.kind = 8
 ·
  exact expr_c hS hv h3 hT hK hcap h64 hW.tl hsum
 by_cases h4 : n.kind = 9
 ·
  exact expr_d hS hv h4 hT hK hcap h64 hW.tl hsum
 exact expr_e hS hv (by omega) hT hK hcap h64 hW.tl hsum
theorem stmt_any {n1 n2 : Option Addr} {d1 d2 B : Nat} {T : Tre} {i : Nat} {n : Nd} (hS : TkS n1 n2 d1 d2 B T i) (hW : WK T i) (hv : VN T i n) (hk : 12 ≤ n.kind ∧ n.kind ≤ 26) {s9 : Option Addr} {c9 B9 : Nat} {w : World} (hT : InC w B n1 n2 T) (hK : Els 1 cInt w B9 s9 n.kids) (hcap : n.kids.length ≤ c9) (h64 : -9223372036854775808 ≤ n.num ∧ n.num ≤ 9223372036854775807) (hsum : (n.kids.map fun x => (tkA T x).length + 1).sum ≤ 90000) :
  Calls Tryz.prog 28 #[.agg #[.slice n1 T.nodes.length d1, .slice n2 T.tops.length d2], .agg #[.int .i64 n.kind, .string n.text, .int .i64 n.num, .slice s9 n.kids.length c9]] w fun e w' => SaysT w (tkA T (i : Int)) e w' := by
 by_cases h1 : n.kind = 12
 ·
  exact stmt_a hS hv h1 hT hK hcap h64 hW.tl hsum
 by_cases h2 : n.kind = 22 ∨ n.kind = 24
 ·
  exact stmt_b hS hv h2 hT hK hcap h64 hW.tl hsum
 by_cases h3 : n.kind = 21
 ·
  exact stmt_c hS hv h3 hT hK hcap h64 hW.tl hsum
 by_cases h4 : n.kind = 13 ∨ n.kind = 14 ∨ n.kind = 15
 ·
  exact stmt_d hS hv h4 hT hK hcap h64 hW.tl hsum
 by_cases h5 : n.kind = 19 ∨ n.kind = 23
 ·
  exact stmt_e hS hv h5 hT hK hcap h64 hW.tl hsum
 by_cases h6 : n.kind = 25 ∨ n.kind = 26
 ·
  exact stmt_f hS hv h6 hT hK hcap h64 hW.tl hsum
 by_cases h7 : n.kind = 17 ∨ n.kind = 20
 ·
  exact stmt_g hS hv h7 hT hK hcap h64 hW.tl hsum
 by_cases h8 : n.kind = 16
 ·
  exact stmt_h hS hv h8 hT hK hcap h64 hW.tl hsum
 exact stmt_i hS hv (by omega) hT hK hcap h64 hW.tl hW.ts hsum
end
end Go.Proofs.YtjckoldjodjehaaGreatDoor
