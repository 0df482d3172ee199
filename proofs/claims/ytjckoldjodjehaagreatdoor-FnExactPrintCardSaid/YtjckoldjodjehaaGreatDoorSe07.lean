import Derived.Test.YtjckoldjodjehaaGreatDoorSe06
namespace Go.Proofs.YtjckoldjodjehaaGreatDoor
set_option linter.unusedVariables false
set_option linter.unusedSimpArgs false
section
open Go.RowKit
set_option maxRecDepth 100000
set_option maxHeartbeats 64000000 in
theorem expr_a {n1 n2 : Option Addr} {d1 d2 B : Nat} {T : Tre} {i : Nat} {n : Nd} (hS : TkS n1 n2 d1 d2 B T i) (hv : VN T i n) (hk : n.kind = 1 ∨ n.kind = 2 ∨ n.kind = 3 ∨ n.kind = 4 ∨ n.kind = 5 ∨ n.kind = 6) {s9 : Option Addr} {c9 B9 : Nat} {w : World} (hT : InC w B n1 n2 T) (hK : Els 1 cInt w B9 s9 n.kids) (hcap : n.kids.length ≤ c9) (h64 : -9223372036854775808 ≤ n.num ∧ n.num ≤ 9223372036854775807) (htl : ∀ (k : Nat) (m : Nd), k < i → VN T k m → (tkA T (k : Int)).length ≤ 90000) (hsum : (n.kids.map fun x => (tkA T x).length + 1).sum ≤ 90000) :
  Calls Tryz.prog 27 #[.agg #[.slice n1 T.nodes.length d1, .slice n2 T.tops.length d2], .agg #[.int .i64 n.kind, .string n.text, .int .i64 n.num, .slice s9 n.kids.length c9]] w fun e w' => SaysT w (tkA T (i : Int)) e w' := by
 have HT := hid hT
 have HK := hid hK
 have HS := hid hS
 have HV := hid hv
 have HTL := hid htl
 have HSUM := hid hsum
 have HCAP := hid hcap
 have HE : Hid (tkA T (i : Int) = tkN (tkA T) n) := tkA_eq hv
 obtain ⟨kd, hkd⟩ : ∃ k, Hid (n.kind = k) := ⟨_, rfl⟩
 obtain ⟨ml, hml⟩ : ∃ m, Hid (n.kids.length = m) := ⟨_, rfl⟩
 rw [hkd.out] at hk ⊢
 rw [hml.out]
 have ka := (Blk.new w #[.slice n1 T.nodes.length d1, .slice n2 T.tops.length d2] 31).alloc (.cells #[.int .i64 kd, .string n.text, .int .i64 n.num, .slice s9 ml c9] 66)
 have kn := Blk.new' (n := w.heap.size + 1) (w.alloc (.cells #[.slice n1 T.nodes.length d1, .slice n2 T.tops.length d2] 31)) #[.int .i64 kd, .string n.text, .int .i64 n.num, .slice s9 ml c9] 66 (by simp)
 have bx : Below w.heap.size w ((w.alloc (.cells #[.slice n1 T.nodes.length d1, .slice n2 T.tops.length d2] 31)).alloc (.cells #[.int .i64 kd, .string n.text, .int .i64 n.num, .slice s9 ml c9] 66)) := bl_alloc (bl_alloc (Below.refl _ _) _) _
 clear hT hK hS hv htl hsum hcap; obtain ⟨X, hX⟩ : ∃ X, (w.alloc (.cells #[.slice n1 T.nodes.length d1, .slice n2 T.tops.length d2] 31)).alloc (.cells #[.int .i64 kd, .string n.text, .int .i64 n.num, .slice s9 ml c9] 66) = X := ⟨_, rfl⟩
 rw [hX] at ka kn bx
 have KA := hid ka
 have KN := hid kn
 have BX := hid bx
 clear ka kn bx; rcases hk with rfl | rfl | rfl | rfl | rfl | rfl
 ·
  have HC : Hid (tkA T (i : Int) = [⟨(Lib.itoa n.num).toArray⟩]) := by show _ = _; rw [HE.out]; unfold tkN; rw [hkd.out]; rfl
  obtain ⟨z0, z1, z2, z3, z4⟩ := Blk.four' KN.out
  obtain ⟨t0, t1, t2⟩ := KA.out.two
  go_enter Tryz.func27, Tryz.ntmps27
  go_wp2_with fail; clear hX; refine (l1Digits_any n.num _ h64.1 h64.2).mono ?_
  rintro e wd ⟨rfl, hbd⟩
  have HD : Hid (Below w.heap.size w wd) := bl_trans BX.out hbd
  clear hbd; go_wp2_with fail; go_ret; exact ⟨⟨_, rfl, by rw [HC.out]; exact (OS.new1 wd _).mono HD.out.size⟩, bl_alloc HD.out _⟩
 ·
  have HC : Hid (tkA T (i : Int) = [n.text]) := by show _ = _; rw [HE.out]; unfold tkN; rw [hkd.out]; rfl
  obtain ⟨z0, z1, z2, z3, z4⟩ := Blk.four' KN.out
  obtain ⟨t0, t1, t2⟩ := KA.out.two
  go_enter Tryz.func27, Tryz.ntmps27
  go_wp2_with fail; clear hX; go_ret; exact ⟨⟨_, rfl, by rw [HC.out]; exact (OS.new1 _ _).mono BX.out.size⟩, bl_alloc BX.out _⟩
 ·
  by_cases hy : n.num = 1
  ·
   have HC : Hid (tkA T (i : Int) = [bYes]) := by show _ = _; rw [HE.out]; unfold tkN; rw [hkd.out]; simp only [Int.reduceEq, if_false, if_true, hy]
   have q : (n.num == 1) = true := by simp [hy]
   clear hy; obtain ⟨z0, z1, z2, z3, z4⟩ := Blk.four' KN.out
   obtain ⟨t0, t1, t2⟩ := KA.out.two
   go_enter Tryz.func27, Tryz.ntmps27
   go_wp2_with fail; clear hX; go_ret; exact ⟨⟨_, rfl, by rw [HC.out]; exact (OS.new1 X bYes).mono BX.out.size⟩, bl_alloc BX.out _⟩
  have HC : Hid (tkA T (i : Int) = [bNo]) := by show _ = _; rw [HE.out]; unfold tkN; rw [hkd.out]; simp only [Int.reduceEq, if_false, if_true, hy]
  have q : (n.num == 1) = false := by simp [hy]
  clear hy; obtain ⟨z0, z1, z2, z3, z4⟩ := Blk.four' KN.out
  obtain ⟨t0, t1, t2⟩ := KA.out.two
  go_enter Tryz.func27, Tryz.ntmps27
  go_wp2_with fail; clear hX; go_ret; exact ⟨⟨_, rfl, by rw [HC.out]; exact (OS.new1 X bNo).mono BX.out.size⟩, bl_alloc BX.out _⟩
 ·
  have HC : Hid (tkA T (i : Int) = [n.text]) := by show _ = _; rw [HE.out]; unfold tkN; rw [hkd.out]; rfl
  obtain ⟨z0, z1, z2, z3, z4⟩ := Blk.four' KN.out
  obtain ⟨t0, t1, t2⟩ := KA.out.two
  go_enter Tryz.func27, Tryz.ntmps27
  go_wp2_with fail; clear hX; go_ret; exact ⟨⟨_, rfl, by rw [HC.out]; exact (OS.new1 _ _).mono BX.out.size⟩, bl_alloc BX.out _⟩
 ·
  have HC : Hid (tkA T (i : Int) = [bDot, n.text]) := by show _ = _; rw [HE.out]; unfold tkN; rw [hkd.out]; rfl
  obtain ⟨z0, z1, z2, z3, z4⟩ := Blk.four' KN.out
  obtain ⟨t0, t1, t2⟩ := KA.out.two
  go_enter Tryz.func27, Tryz.ntmps27
  go_wp2_with fail; clear hX; go_ret; exact ⟨⟨_, rfl, by rw [HC.out]; exact (OS.new2 _ _ _).mono BX.out.size⟩, bl_alloc BX.out _⟩
 have HC : Hid (tkA T (i : Int) = [bDol, n.text]) := by show _ = _; rw [HE.out]; unfold tkN; rw [hkd.out]; rfl
 obtain ⟨z0, z1, z2, z3, z4⟩ := Blk.four' KN.out
 obtain ⟨t0, t1, t2⟩ := KA.out.two
 go_enter Tryz.func27, Tryz.ntmps27
 go_wp2_with fail; clear hX; go_ret; exact ⟨⟨_, rfl, by rw [HC.out]; exact (OS.new2 _ _ _).mono BX.out.size⟩, bl_alloc BX.out _⟩
set_option maxHeartbeats 64000000 in
theorem expr_b {n1 n2 : Option Addr} {d1 d2 B : Nat} {T : Tre} {i : Nat} {n : Nd} (hS : TkS n1 n2 d1 d2 B T i) (hv : VN T i n) (hk : n.kind = 7 ∨ n.kind = 10) {s9 : Option Addr} {c9 B9 : Nat} {w : World} (hT : InC w B n1 n2 T) (hK : Els 1 cInt w B9 s9 n.kids) (hcap : n.kids.length ≤ c9) (h64 : -9223372036854775808 ≤ n.num ∧ n.num ≤ 9223372036854775807) (htl : ∀ (k : Nat) (m : Nd), k < i → VN T k m → (tkA T (k : Int)).length ≤ 90000) (hsum : (n.kids.map fun x => (tkA T x).length + 1).sum ≤ 90000) :
  Calls Tryz.prog 27 #[.agg #[.slice n1 T.nodes.length d1, .slice n2 T.tops.length d2], .agg #[.int .i64 n.kind, .string n.text, .int .i64 n.num, .slice s9 n.kids.length c9]] w fun e w' => SaysT w (tkA T (i : Int)) e w' := by
 have HT := hid hT
 have HK := hid hK
 have HS := hid hS
 have HV := hid hv
 have HTL := hid htl
 have HSUM := hid hsum
 have HCAP := hid hcap
 have HE : Hid (tkA T (i : Int) = tkN (tkA T) n) := tkA_eq hv
 obtain ⟨kd, hkd⟩ : ∃ k, Hid (n.kind = k) := ⟨_, rfl⟩
 obtain ⟨ml, hml⟩ : ∃ m, Hid (n.kids.length = m) := ⟨_, rfl⟩
 rw [hkd.out] at hk ⊢
 rw [hml.out]
 have ka := (Blk.new w #[.slice n1 T.nodes.length d1, .slice n2 T.tops.length d2] 31).alloc (.cells #[.int .i64 kd, .string n.text, .int .i64 n.num, .slice s9 ml c9] 66)
 have kn := Blk.new' (n := w.heap.size + 1) (w.alloc (.cells #[.slice n1 T.nodes.length d1, .slice n2 T.tops.length d2] 31)) #[.int .i64 kd, .string n.text, .int .i64 n.num, .slice s9 ml c9] 66 (by simp)
 have bx : Below w.heap.size w ((w.alloc (.cells #[.slice n1 T.nodes.length d1, .slice n2 T.tops.length d2] 31)).alloc (.cells #[.int .i64 kd, .string n.text, .int .i64 n.num, .slice s9 ml c9] 66)) := bl_alloc (bl_alloc (Below.refl _ _) _) _
 clear hT hK hS hv htl hsum hcap; obtain ⟨X, hX⟩ : ∃ X, (w.alloc (.cells #[.slice n1 T.nodes.length d1, .slice n2 T.tops.length d2] 31)).alloc (.cells #[.int .i64 kd, .string n.text, .int .i64 n.num, .slice s9 ml c9] 66) = X := ⟨_, rfl⟩
 rw [hX] at ka kn bx
 have KA := hid ka
 have KN := hid kn
 have BX := hid bx
 clear ka kn bx; rcases hk with rfl | rfl
 ·
  have HC : Hid (tkA T (i : Int) = [n.text, bLp] ++ cm (n.kids.map (tkA T)) ++ [bRp]) := by show _ = _; rw [HE.out]; unfold tkN; rw [hkd.out]; rfl
  have HL : Hid (Els 1 cInt w B9 s9 n.kids) := HK.out
  have hls := HSUM.out
  have HKS : Hid (∀ x ∈ n.kids, ∃ (k : Nat) (m : Nd), x = k ∧ k < i ∧ VN T k m ∧ (¬ m.kind = 29 ∧ ¬ m.kind = 30)) := HV.out.kid_no (by rw [hkd.out]; omega)
  have hcm : (cm (n.kids.map (tkA T))).length ≤ 90000 := by have := cm_len (tkA T) n.kids; omega
  obtain ⟨z0, z1, z2, z3, z4⟩ := Blk.four' KN.out
  obtain ⟨t0, t1, t2⟩ := KA.out.two
  go_enter Tryz.func27, Tryz.ntmps27
  go_wp2_with fail; clear hX; have BC : ∀ Y, Below X.heap.size X Y → Y.cell? ⟨w.heap.size, 0, none⟩ = some (.slice n1 T.nodes.length d1) ∧ Y.cell? ⟨w.heap.size, 1, none⟩ = some (.slice n2 T.tops.length d2) ∧ Y.cell? ⟨w.heap.size + 1, 0, none⟩ = some (.int .i64 7) ∧ Y.cell? ⟨w.heap.size + 1, 1, none⟩ = some (.string n.text) ∧ Y.cell? ⟨w.heap.size + 1, 2, none⟩ = some (.int .i64 n.num) ∧ Y.cell? ⟨w.heap.size + 1, 3, none⟩ = some (.slice s9 ml c9) := fun Y hY => ⟨(KA.out.later hY).cell 0 |>.trans rfl, (KA.out.later hY).cell 1 |>.trans rfl, (KN.out.later hY).cell 0 |>.trans rfl, (KN.out.later hY).cell 1 |>.trans rfl, (KN.out.later hY).cell 2 |>.trans rfl, (KN.out.later hY).cell 3 |>.trans rfl⟩
  have M : Below X.heap.size X X.drew := bl_drew (Below.refl _ _)
  go_region_held3 (fun Y => Y.cell? ⟨w.heap.size, 0, none⟩ = some (.slice n1 T.nodes.length d1) ∧ Y.cell? ⟨w.heap.size, 1, none⟩ = some (.slice n2 T.tops.length d2) ∧ Y.cell? ⟨w.heap.size + 1, 0, none⟩ = some (.int .i64 7) ∧ Y.cell? ⟨w.heap.size + 1, 1, none⟩ = some (.string n.text) ∧ Y.cell? ⟨w.heap.size + 1, 2, none⟩ = some (.int .i64 n.num) ∧ Y.cell? ⟨w.heap.size + 1, 3, none⟩ = some (.slice s9 ml c9)) (first | exact BC _ M | exact BC _ (bl_alloc M _) | exact BC _ (bl_alloc (bl_alloc M _) _) | exact BC _ (bl_alloc (bl_alloc (bl_alloc M _) _) _))
   (first
    | (go_at_call 31; refine (calls_from (X := X) (by first | exact M | exact bl_alloc M _ | exact bl_alloc (bl_alloc M _) _ | exact bl_alloc (bl_alloc (bl_alloc M _) _) _) (list_n HS.out (HT.out.later (bl_trans BX.out (by first | exact M | exact bl_alloc M _ | exact bl_alloc (bl_alloc M _) _ | exact bl_alloc (bl_alloc (bl_alloc M _) _) _))) (HL.out.later cInt_keeps (bl_trans BX.out (by first | exact M | exact bl_alloc M _ | exact bl_alloc (bl_alloc M _) _ | exact bl_alloc (bl_alloc (bl_alloc M _) _) _))) HKS.out (by omega) hml.out)).mono ?_; rintro e wl ⟨⟨⟨vl, rfl, ho⟩, M⟩, hb⟩)
    | (go_at_call 30; refine (calls_from (X := X) (by first | exact M | exact bl_alloc M _ | exact bl_alloc (bl_alloc M _) _ | exact bl_alloc (bl_alloc (bl_alloc M _) _) _) (around_any (La := [n.text, bLp]) (Lm := (cm (n.kids.map (tkA T)))) (Lb := [bRp]) (by (repeat (first | exact RT.nil _ | exact RT.n1 (by simp) | exact RT.n2 (by simp) | exact RT.n3 (by simp) | exact ho.rt | refine RT.alloc ?_ _ | refine RT.later ?_ hb))) (by (repeat (first | exact RT.nil _ | exact RT.n1 (by simp) | exact RT.n2 (by simp) | exact RT.n3 (by simp) | exact ho.rt | refine RT.alloc ?_ _ | refine RT.later ?_ hb))) (by (repeat (first | exact RT.nil _ | exact RT.n1 (by simp) | exact RT.n2 (by simp) | exact RT.n3 (by simp) | exact ho.rt | refine RT.alloc ?_ _ | refine RT.later ?_ hb))) (by simp only [List.length_append, List.length_cons, List.length_nil]; omega))).mono ?_; rintro e wz ⟨⟨⟨vz, rfl, hz⟩, M⟩, hbz⟩))
  all_goals
   have HZ := hid hz
   have HM := hid M
   clear hz M; go_wp2_with fail; go_ret; exact ⟨⟨_, rfl, by rw [HC.out]; exact HZ.out.mono BX.out.size⟩, bl_trans BX.out HM.out⟩
 have HC : Hid (tkA T (i : Int) = [bPair, bLp] ++ cm (n.kids.map (tkA T)) ++ [bRp]) := by show _ = _; rw [HE.out]; unfold tkN; rw [hkd.out]; rfl
 have HL : Hid (Els 1 cInt w B9 s9 n.kids) := HK.out
 have hls := HSUM.out
 have HKS : Hid (∀ x ∈ n.kids, ∃ (k : Nat) (m : Nd), x = k ∧ k < i ∧ VN T k m ∧ (¬ m.kind = 29 ∧ ¬ m.kind = 30)) := HV.out.kid_no (by rw [hkd.out]; omega)
 have hcm : (cm (n.kids.map (tkA T))).length ≤ 90000 := by have := cm_len (tkA T) n.kids; omega
 have hal := alloc_old
 have haf := alloc_oldf
 have hl1 : w.heap.size < X.heap.size := KA.out.lt
 have hl2 : w.heap.size + 1 < X.heap.size := KN.out.lt
 obtain ⟨z0, z1, z2, z3, z4⟩ := Blk.four' KN.out
 obtain ⟨t0, t1, t2⟩ := KA.out.two
 go_enter Tryz.func27, Tryz.ntmps27
 go_wp2_with fail; clear hX; have M : Below X.heap.size X X := Below.refl _ _
 refine (calls_from (X := X) (by first | exact M | exact bl_alloc M _ | exact bl_alloc (bl_alloc M _) _ | exact bl_alloc (bl_alloc (bl_alloc M _) _) _) (list_n HS.out (HT.out.later (bl_trans BX.out (by first | exact M | exact bl_alloc M _ | exact bl_alloc (bl_alloc M _) _ | exact bl_alloc (bl_alloc (bl_alloc M _) _) _))) (HL.out.later cInt_keeps (bl_trans BX.out (by first | exact M | exact bl_alloc M _ | exact bl_alloc (bl_alloc M _) _ | exact bl_alloc (bl_alloc (bl_alloc M _) _) _))) HKS.out (by omega) hml.out)).mono ?_
 rintro e wl ⟨⟨⟨vl, rfl, ho⟩, M⟩, hb⟩
 go_wp2_with fail; refine (calls_from (X := X) (by first | exact M | exact bl_alloc M _ | exact bl_alloc (bl_alloc M _) _ | exact bl_alloc (bl_alloc (bl_alloc M _) _) _) (around_any (La := [bPair, bLp]) (Lm := (cm (n.kids.map (tkA T)))) (Lb := [bRp]) (by (repeat (first | exact RT.nil _ | exact RT.n1 (by simp) | exact RT.n2 (by simp) | exact RT.n3 (by simp) | exact ho.rt | refine RT.alloc ?_ _ | refine RT.later ?_ hb))) (by (repeat (first | exact RT.nil _ | exact RT.n1 (by simp) | exact RT.n2 (by simp) | exact RT.n3 (by simp) | exact ho.rt | refine RT.alloc ?_ _ | refine RT.later ?_ hb))) (by (repeat (first | exact RT.nil _ | exact RT.n1 (by simp) | exact RT.n2 (by simp) | exact RT.n3 (by simp) | exact ho.rt | refine RT.alloc ?_ _ | refine RT.later ?_ hb))) (by simp only [List.length_append, List.length_cons, List.length_nil]; omega))).mono ?_
 rintro e wz ⟨⟨⟨vz, rfl, hz⟩, M⟩, hbz⟩
 clear hbz hb ho; have HZ := hid hz
 have HM := hid M
 clear hz M; go_wp2_with fail; go_ret; exact ⟨⟨_, rfl, by rw [HC.out]; exact HZ.out.mono BX.out.size⟩, bl_trans BX.out HM.out⟩
end
section
open Go.RowKit
set_option maxRecDepth 100000
set_option maxHeartbeats 64000000 in
theorem expr_c {n1 n2 : Option Addr} {d1 d2 B : Nat} {T : Tre} {i : Nat} {n : Nd} (hS : TkS n1 n2 d1 d2 B T i) (hv : VN T i n) (hk : n.kind = 8) {s9 : Option Addr} {c9 B9 : Nat} {w : World} (hT : InC w B n1 n2 T) (hK : Els 1 cInt w B9 s9 n.kids) (hcap : n.kids.length ≤ c9) (h64 : -9223372036854775808 ≤ n.num ∧ n.num ≤ 9223372036854775807) (htl : ∀ (k : Nat) (m : Nd), k < i → VN T k m → (tkA T (k : Int)).length ≤ 90000) (hsum : (n.kids.map fun x => (tkA T x).length + 1).sum ≤ 90000) :
  Calls Tryz.prog 27 #[.agg #[.slice n1 T.nodes.length d1, .slice n2 T.tops.length d2], .agg #[.int .i64 n.kind, .string n.text, .int .i64 n.num, .slice s9 n.kids.length c9]] w fun e w' => SaysT w (tkA T (i : Int)) e w' := by
 have HT := hid hT
 have HK := hid hK
 have HS := hid hS
 have HV := hid hv
 have HTL := hid htl
 have HSUM := hid hsum
 have HCAP := hid hcap
 have HE : Hid (tkA T (i : Int) = tkN (tkA T) n) := tkA_eq hv
 obtain ⟨kd, hkd⟩ : ∃ k, Hid (n.kind = k) := ⟨_, rfl⟩
 obtain ⟨ml, hml⟩ : ∃ m, Hid (n.kids.length = m) := ⟨_, rfl⟩
 rw [hkd.out] at hk ⊢
 rw [hml.out]
 have ka := (Blk.new w #[.slice n1 T.nodes.length d1, .slice n2 T.tops.length d2] 31).alloc (.cells #[.int .i64 kd, .string n.text, .int .i64 n.num, .slice s9 ml c9] 66)
 have kn := Blk.new' (n := w.heap.size + 1) (w.alloc (.cells #[.slice n1 T.nodes.length d1, .slice n2 T.tops.length d2] 31)) #[.int .i64 kd, .string n.text, .int .i64 n.num, .slice s9 ml c9] 66 (by simp)
 have bx : Below w.heap.size w ((w.alloc (.cells #[.slice n1 T.nodes.length d1, .slice n2 T.tops.length d2] 31)).alloc (.cells #[.int .i64 kd, .string n.text, .int .i64 n.num, .slice s9 ml c9] 66)) := bl_alloc (bl_alloc (Below.refl _ _) _) _
 clear hT hK hS hv htl hsum hcap; obtain ⟨X, hX⟩ : ∃ X, (w.alloc (.cells #[.slice n1 T.nodes.length d1, .slice n2 T.tops.length d2] 31)).alloc (.cells #[.int .i64 kd, .string n.text, .int .i64 n.num, .slice s9 ml c9] 66) = X := ⟨_, rfl⟩
 rw [hX] at ka kn bx
 have KA := hid ka
 have KN := hid kn
 have BX := hid bx
 clear ka kn bx; rcases hk with rfl
 obtain ⟨a, an, hxa, hka, hai, hva, hca⟩ := HV.out.kidAt (j := 0) (c := 1) (by rw [hkd.out]; rfl)
 have kI0 : 0 < ml := by rw [← hml.out]; exact (List.getElem?_eq_some_iff.1 hxa).1
 have hna : ¬ an.kind = 29 ∧ ¬ an.kind = 30 := cls_no hca (by omega) (by omega)
 have hla := HTL.out a an hai hva
 have HVA := hid hva
 obtain ⟨b, bn, hxb, hkb, hbi, hvb, hcb⟩ := HV.out.kidAt (j := 1) (c := 1) (by rw [hkd.out]; rfl)
 have kI1 : 1 < ml := by rw [← hml.out]; exact (List.getElem?_eq_some_iff.1 hxb).1
 have kJ1 : (1 : Int) < (ml : Int) := by omega
 have hnb : ¬ bn.kind = 29 ∧ ¬ bn.kind = 30 := cls_no hcb (by omega) (by omega)
 have hlb := HTL.out b bn hbi hvb
 have HVB := hid hvb
 obtain ⟨fb, fo, rfl, _, hfb, pp0⟩ := eInt_cells HK.out hxa
 have PP0 : Hid (w.cell? ⟨fb, fo, none⟩ = some (.int .i64 (a : Int))) := pp0
 obtain ⟨_, _, e1, _, _, pp1⟩ := eInt_cells HK.out hxb
 cases e1
 have PP1 : Hid (w.cell? ⟨fb, fo + 1, none⟩ = some (.int .i64 (b : Int))) := pp1
 clear pp0 hxa hva hca pp1 hxb hvb hcb; have hop : 1 ≤ n.num ∧ n.num ≤ 9 := has_op8 HV.out hkd.out
 have HC : Hid (tkA T (i : Int) = [bLp] ++ tkA T (a : Int) ++ [opT n.num] ++ tkA T (b : Int) ++ [bRp]) := by show _ = _; rw [HE.out]; unfold tkN; rw [hkd.out, hka, hkb]; rfl
 clear hka hkb; obtain ⟨z0, z1, z2, z3, z4⟩ := Blk.four' KN.out
 obtain ⟨t0, t1, t2⟩ := KA.out.two
 go_enter Tryz.func27, Tryz.ntmps27
 go_wp2_with fail; clear hX; have BC : ∀ Y, Below X.heap.size X Y → Y.cell? ⟨w.heap.size, 0, none⟩ = some (.slice n1 T.nodes.length d1) ∧ Y.cell? ⟨w.heap.size, 1, none⟩ = some (.slice n2 T.tops.length d2) ∧ Y.cell? ⟨w.heap.size + 1, 0, none⟩ = some (.int .i64 8) ∧ Y.cell? ⟨w.heap.size + 1, 1, none⟩ = some (.string n.text) ∧ Y.cell? ⟨w.heap.size + 1, 2, none⟩ = some (.int .i64 n.num) ∧ Y.cell? ⟨w.heap.size + 1, 3, none⟩ = some (.slice (some ⟨fb, fo, none⟩) ml c9) ∧ Y.cell? ⟨fb, fo, none⟩ = some (.int .i64 (a : Int)) ∧ Y.cell? ⟨fb, fo + 1, none⟩ = some (.int .i64 (b : Int)) := fun Y hY => ⟨(KA.out.later hY).cell 0 |>.trans rfl, (KA.out.later hY).cell 1 |>.trans rfl, (KN.out.later hY).cell 0 |>.trans rfl, (KN.out.later hY).cell 1 |>.trans rfl, (KN.out.later hY).cell 2 |>.trans rfl, (KN.out.later hY).cell 3 |>.trans rfl, ((bl_trans BX.out hY).cell (p := ⟨fb, fo, none⟩) hfb).trans PP0.out, ((bl_trans BX.out hY).cell (p := ⟨fb, fo + 1, none⟩) hfb).trans PP1.out⟩
 have M : Below X.heap.size X X.drew := bl_drew (Below.refl _ _)
 go_region_held3 (fun Y => Y.cell? ⟨w.heap.size, 0, none⟩ = some (.slice n1 T.nodes.length d1) ∧ Y.cell? ⟨w.heap.size, 1, none⟩ = some (.slice n2 T.tops.length d2) ∧ Y.cell? ⟨w.heap.size + 1, 0, none⟩ = some (.int .i64 8) ∧ Y.cell? ⟨w.heap.size + 1, 1, none⟩ = some (.string n.text) ∧ Y.cell? ⟨w.heap.size + 1, 2, none⟩ = some (.int .i64 n.num) ∧ Y.cell? ⟨w.heap.size + 1, 3, none⟩ = some (.slice (some ⟨fb, fo, none⟩) ml c9) ∧ Y.cell? ⟨fb, fo, none⟩ = some (.int .i64 (a : Int)) ∧ Y.cell? ⟨fb, fo + 1, none⟩ = some (.int .i64 (b : Int))) (first | exact BC _ M | exact BC _ (bl_alloc M _) | exact BC _ (bl_alloc (bl_alloc M _) _) | exact BC _ (bl_alloc (bl_alloc (bl_alloc M _) _) _))
  (first
   | (go_at_call 13; refine (calls_from (X := X) (by first | exact M | exact bl_alloc M _ | exact bl_alloc (bl_alloc M _) _ | exact bl_alloc (bl_alloc (bl_alloc M _) _) _) (HS.out a an _ hai HVA.out hna (HT.out.later (bl_trans BX.out (by first | exact M | exact bl_alloc M _ | exact bl_alloc (bl_alloc M _) _ | exact bl_alloc (bl_alloc (bl_alloc M _) _) _))))).mono ?_; rintro e wa ⟨⟨⟨va, rfl, ho⟩, M⟩, hb⟩)
   | (go_at_call 51; refine (opText_any _ hop _).mono ?_; rintro e wt ⟨rfl, hbt⟩; have M := bl_trans (a := X) (by first | exact M | exact bl_alloc M _ | exact bl_alloc (bl_alloc M _) _ | exact bl_alloc (bl_alloc (bl_alloc M _) _) _) hbt)
   | (go_at_call 30; refine (calls_from (X := X) (by first | exact M | exact bl_alloc M _ | exact bl_alloc (bl_alloc M _) _ | exact bl_alloc (bl_alloc (bl_alloc M _) _) _) (around_any (La := [bLp]) (Lm := (tkA T (a : Int))) (Lb := [opT n.num]) (by (repeat (first | exact RT.nil _ | exact RT.n1 (by simp) | exact RT.n2 (by simp) | exact RT.n3 (by simp) | exact ho.rt | refine RT.alloc ?_ _ | refine RT.later ?_ hb | refine RT.later ?_ hbt))) (by (repeat (first | exact RT.nil _ | exact RT.n1 (by simp) | exact RT.n2 (by simp) | exact RT.n3 (by simp) | exact ho.rt | refine RT.alloc ?_ _ | refine RT.later ?_ hb | refine RT.later ?_ hbt))) (by (repeat (first | exact RT.nil _ | exact RT.n1 (by simp) | exact RT.n2 (by simp) | exact RT.n3 (by simp) | exact ho.rt | refine RT.alloc ?_ _ | refine RT.later ?_ hb | refine RT.later ?_ hbt))) (by simp only [List.length_append, List.length_cons, List.length_nil]; omega))).mono ?_; rintro e wz ⟨⟨⟨vz, rfl, hz⟩, M⟩, hbz⟩))
 all_goals
  have HZ5 := hid hz
  have HM5 := hid M
  clear hz M hbz hb hbt ho; go_wp2_with fail; have hd5 : RT wz.drew vz ([bLp] ++ tkA T (a : Int) ++ [opT n.num]) := HZ5.out.rt.later (bl_drew (Below.refl _ _))
  have M : Below X.heap.size X wz.drew := bl_drew HM5.out
  go_region_held3 (fun Y => Y.cell? ⟨w.heap.size, 0, none⟩ = some (.slice n1 T.nodes.length d1) ∧ Y.cell? ⟨w.heap.size, 1, none⟩ = some (.slice n2 T.tops.length d2) ∧ Y.cell? ⟨w.heap.size + 1, 0, none⟩ = some (.int .i64 8) ∧ Y.cell? ⟨w.heap.size + 1, 1, none⟩ = some (.string n.text) ∧ Y.cell? ⟨w.heap.size + 1, 2, none⟩ = some (.int .i64 n.num) ∧ Y.cell? ⟨w.heap.size + 1, 3, none⟩ = some (.slice (some ⟨fb, fo, none⟩) ml c9) ∧ Y.cell? ⟨fb, fo, none⟩ = some (.int .i64 (a : Int)) ∧ Y.cell? ⟨fb, fo + 1, none⟩ = some (.int .i64 (b : Int))) (first | exact BC _ M | exact BC _ (bl_alloc M _) | exact BC _ (bl_alloc (bl_alloc M _) _) | exact BC _ (bl_alloc (bl_alloc (bl_alloc M _) _) _))
   (first
    | (go_at_call 13; refine (calls_from (X := X) (by first | exact M | exact bl_alloc M _ | exact bl_alloc (bl_alloc M _) _ | exact bl_alloc (bl_alloc (bl_alloc M _) _) _) (HS.out b bn _ hbi HVB.out hnb (HT.out.later (bl_trans BX.out (by first | exact M | exact bl_alloc M _ | exact bl_alloc (bl_alloc M _) _ | exact bl_alloc (bl_alloc (bl_alloc M _) _) _))))).mono ?_; rintro e wb ⟨⟨⟨vb, rfl, ho⟩, M⟩, hb⟩)
    | (go_at_call 30; refine (calls_from (X := X) (by first | exact M | exact bl_alloc M _ | exact bl_alloc (bl_alloc M _) _ | exact bl_alloc (bl_alloc (bl_alloc M _) _) _) (around_any (La := ([bLp] ++ tkA T (a : Int) ++ [opT n.num])) (Lm := (tkA T (b : Int))) (Lb := [bRp]) (by (repeat (first | exact RT.nil _ | exact RT.n1 (by simp) | exact RT.n2 (by simp) | exact RT.n3 (by simp) | exact ho.rt | exact hd5 | refine RT.alloc ?_ _ | refine RT.later ?_ hb))) (by (repeat (first | exact RT.nil _ | exact RT.n1 (by simp) | exact RT.n2 (by simp) | exact RT.n3 (by simp) | exact ho.rt | exact hd5 | refine RT.alloc ?_ _ | refine RT.later ?_ hb))) (by (repeat (first | exact RT.nil _ | exact RT.n1 (by simp) | exact RT.n2 (by simp) | exact RT.n3 (by simp) | exact ho.rt | exact hd5 | refine RT.alloc ?_ _ | refine RT.later ?_ hb))) (by simp only [List.length_append, List.length_cons, List.length_nil]; omega))).mono ?_; rintro e wz ⟨⟨⟨vz, rfl, hz⟩, M⟩, hbz⟩))
  all_goals
   have HZ := hid hz
   have HM := hid M
   clear hz M; go_wp2_with fail; go_ret; exact ⟨⟨_, rfl, by rw [HC.out]; exact HZ.out.mono BX.out.size⟩, bl_trans BX.out HM.out⟩
end
section
open Go.RowKit
set_option maxRecDepth 100000
set_option maxHeartbeats 64000000 in
theorem expr_d {n1 n2 : Option Addr} {d1 d2 B : Nat} {T : Tre} {i : Nat} {n : Nd} (hS : TkS n1 n2 d1 d2 B T i) (hv : VN T i n) (hk : n.kind = 9) {s9 : Option Addr} {c9 B9 : Nat} {w : World} (hT : InC w B n1 n2 T) (hK : Els 1 cInt w B9 s9 n.kids) (hcap : n.kids.length ≤ c9) (h64 : -9223372036854775808 ≤ n.num ∧ n.num ≤ 9223372036854775807) (htl : ∀ (k : Nat) (m : Nd), k < i → VN T k m → (tkA T (k : Int)).length ≤ 90000) (hsum : (n.kids.map fun x => (tkA T x).length + 1).sum ≤ 90000) :
  Calls Tryz.prog 27 #[.agg #[.slice n1 T.nodes.length d1, .slice n2 T.tops.length d2], .agg #[.int .i64 n.kind, .string n.text, .int .i64 n.num, .slice s9 n.kids.length c9]] w fun e w' => SaysT w (tkA T (i : Int)) e w' := by
 have HT := hid hT
 have HK := hid hK
 have HS := hid hS
 have HV := hid hv
 have HTL := hid htl
 have HSUM := hid hsum
 have HCAP := hid hcap
 have HE : Hid (tkA T (i : Int) = tkN (tkA T) n) := tkA_eq hv
 obtain ⟨kd, hkd⟩ : ∃ k, Hid (n.kind = k) := ⟨_, rfl⟩
 obtain ⟨ml, hml⟩ : ∃ m, Hid (n.kids.length = m) := ⟨_, rfl⟩
 rw [hkd.out] at hk ⊢
 rw [hml.out]
 have ka := (Blk.new w #[.slice n1 T.nodes.length d1, .slice n2 T.tops.length d2] 31).alloc (.cells #[.int .i64 kd, .string n.text, .int .i64 n.num, .slice s9 ml c9] 66)
 have kn := Blk.new' (n := w.heap.size + 1) (w.alloc (.cells #[.slice n1 T.nodes.length d1, .slice n2 T.tops.length d2] 31)) #[.int .i64 kd, .string n.text, .int .i64 n.num, .slice s9 ml c9] 66 (by simp)
 have bx : Below w.heap.size w ((w.alloc (.cells #[.slice n1 T.nodes.length d1, .slice n2 T.tops.length d2] 31)).alloc (.cells #[.int .i64 kd, .string n.text, .int .i64 n.num, .slice s9 ml c9] 66)) := bl_alloc (bl_alloc (Below.refl _ _) _) _
 clear hT hK hS hv htl hsum hcap; obtain ⟨X, hX⟩ : ∃ X, (w.alloc (.cells #[.slice n1 T.nodes.length d1, .slice n2 T.tops.length d2] 31)).alloc (.cells #[.int .i64 kd, .string n.text, .int .i64 n.num, .slice s9 ml c9] 66) = X := ⟨_, rfl⟩
 rw [hX] at ka kn bx
 have KA := hid ka
 have KN := hid kn
 have BX := hid bx
 clear ka kn bx; rcases hk with rfl
 obtain ⟨a, an, hxa, hka, hai, hva, hca⟩ := HV.out.kidAt (j := 0) (c := 1) (by rw [hkd.out]; rfl)
 have kI0 : 0 < ml := by rw [← hml.out]; exact (List.getElem?_eq_some_iff.1 hxa).1
 have hna : ¬ an.kind = 29 ∧ ¬ an.kind = 30 := cls_no hca (by omega) (by omega)
 have hla := HTL.out a an hai hva
 have HVA := hid hva
 obtain ⟨fb, fo, rfl, _, hfb, pp0⟩ := eInt_cells HK.out hxa
 have PP0 : Hid (w.cell? ⟨fb, fo, none⟩ = some (.int .i64 (a : Int))) := pp0
 clear pp0 hxa hva hca; have hop : 1 ≤ n.num ∧ n.num ≤ 6 := has_op9 HV.out hkd.out
 obtain ⟨z0, z1, z2, z3, z4⟩ := Blk.four' KN.out
 obtain ⟨t0, t1, t2⟩ := KA.out.two
 go_enter Tryz.func27, Tryz.ntmps27
 go_wp2_with fail; clear hX; have BC : ∀ Y, Below X.heap.size X Y → Y.cell? ⟨w.heap.size, 0, none⟩ = some (.slice n1 T.nodes.length d1) ∧ Y.cell? ⟨w.heap.size, 1, none⟩ = some (.slice n2 T.tops.length d2) ∧ Y.cell? ⟨w.heap.size + 1, 0, none⟩ = some (.int .i64 9) ∧ Y.cell? ⟨w.heap.size + 1, 1, none⟩ = some (.string n.text) ∧ Y.cell? ⟨w.heap.size + 1, 2, none⟩ = some (.int .i64 n.num) ∧ Y.cell? ⟨w.heap.size + 1, 3, none⟩ = some (.slice (some ⟨fb, fo, none⟩) ml c9) ∧ Y.cell? ⟨fb, fo, none⟩ = some (.int .i64 (a : Int)) := fun Y hY => ⟨(KA.out.later hY).cell 0 |>.trans rfl, (KA.out.later hY).cell 1 |>.trans rfl, (KN.out.later hY).cell 0 |>.trans rfl, (KN.out.later hY).cell 1 |>.trans rfl, (KN.out.later hY).cell 2 |>.trans rfl, (KN.out.later hY).cell 3 |>.trans rfl, ((bl_trans BX.out hY).cell (p := ⟨fb, fo, none⟩) hfb).trans PP0.out⟩
 have M : Below X.heap.size X X.drew := bl_drew (Below.refl _ _)
 go_region_held3 (fun Y => Y.cell? ⟨w.heap.size, 0, none⟩ = some (.slice n1 T.nodes.length d1) ∧ Y.cell? ⟨w.heap.size, 1, none⟩ = some (.slice n2 T.tops.length d2) ∧ Y.cell? ⟨w.heap.size + 1, 0, none⟩ = some (.int .i64 9) ∧ Y.cell? ⟨w.heap.size + 1, 1, none⟩ = some (.string n.text) ∧ Y.cell? ⟨w.heap.size + 1, 2, none⟩ = some (.int .i64 n.num) ∧ Y.cell? ⟨w.heap.size + 1, 3, none⟩ = some (.slice (some ⟨fb, fo, none⟩) ml c9) ∧ Y.cell? ⟨fb, fo, none⟩ = some (.int .i64 (a : Int))) (first | exact BC _ M | exact BC _ (bl_alloc M _) | exact BC _ (bl_alloc (bl_alloc M _) _) | exact BC _ (bl_alloc (bl_alloc (bl_alloc M _) _) _))
  (first
   | (go_at_call 13; refine (calls_from (X := X) (by first | exact M | exact bl_alloc M _ | exact bl_alloc (bl_alloc M _) _ | exact bl_alloc (bl_alloc (bl_alloc M _) _) _) (HS.out a an _ hai HVA.out hna (HT.out.later (bl_trans BX.out (by first | exact M | exact bl_alloc M _ | exact bl_alloc (bl_alloc M _) _ | exact bl_alloc (bl_alloc (bl_alloc M _) _) _))))).mono ?_; rintro e wa ⟨⟨⟨va, rfl, ho⟩, M⟩, hb⟩))
 have HO5 := hid ho
 have HM5 := hid M
 clear ho M hb; obtain ⟨z0, z1, z2, z3, z4⟩ := Blk.four' (KN.out.later HM5.out)
 by_cases hle : n.num ≤ 2
 ·
  have HC : Hid (tkA T (i : Int) = [bLp, tuT n.num] ++ tkA T (a : Int) ++ [bRp]) := by show _ = _; rw [HE.out]; unfold tkN; rw [hkd.out, hka]; simp only [Int.reduceEq, if_false, if_true, hle]
  have q : decide (n.num ≤ 2) = true := by simp [hle]
  clear hka; go_wp2_with fail; refine (turnText_any _ hop _).mono ?_
  rintro e wt ⟨rfl, hbt⟩
  have M : Below X.heap.size X wt := bl_trans HM5.out hbt
  have hd5 : RT wt va (tkA T (a : Int)) := HO5.out.rt.later hbt
  clear hbt; go_wp2_with fail; refine (calls_from (X := X) (by first | exact M | exact bl_alloc M _ | exact bl_alloc (bl_alloc M _) _ | exact bl_alloc (bl_alloc (bl_alloc M _) _) _) (around_any (La := [bLp, tuT n.num]) (Lm := (tkA T (a : Int))) (Lb := [bRp]) (by (repeat (first | exact RT.nil _ | exact RT.n1 (by simp) | exact RT.n2 (by simp) | exact RT.n3 (by simp) | exact hd5 | refine RT.alloc ?_ _))) (by (repeat (first | exact RT.nil _ | exact RT.n1 (by simp) | exact RT.n2 (by simp) | exact RT.n3 (by simp) | exact hd5 | refine RT.alloc ?_ _))) (by (repeat (first | exact RT.nil _ | exact RT.n1 (by simp) | exact RT.n2 (by simp) | exact RT.n3 (by simp) | exact hd5 | refine RT.alloc ?_ _))) (by simp only [List.length_append, List.length_cons, List.length_nil]; omega))).mono ?_
  rintro e wz ⟨⟨⟨vz, rfl, hz⟩, M⟩, hbz⟩
  clear hbz hd5; have HZ := hid hz
  have HM := hid M
  clear hz M; go_wp2_with fail; go_ret; exact ⟨⟨_, rfl, by rw [HC.out]; exact HZ.out.mono BX.out.size⟩, bl_trans BX.out HM.out⟩
 have HC : Hid (tkA T (i : Int) = [tuT n.num, bLp] ++ tkA T (a : Int) ++ [bRp]) := by show _ = _; rw [HE.out]; unfold tkN; rw [hkd.out, hka]; simp only [Int.reduceEq, if_false, if_true, hle]
 have q : decide (n.num ≤ 2) = false := by simp [hle]
 clear hka; go_wp2_with fail; refine (turnText_any _ hop _).mono ?_
 rintro e wt ⟨rfl, hbt⟩
 have M : Below X.heap.size X wt := bl_trans HM5.out hbt
 have hd5 : RT wt va (tkA T (a : Int)) := HO5.out.rt.later hbt
 clear hbt; go_wp2_with fail; refine (calls_from (X := X) (by first | exact M | exact bl_alloc M _ | exact bl_alloc (bl_alloc M _) _ | exact bl_alloc (bl_alloc (bl_alloc M _) _) _) (around_any (La := [tuT n.num, bLp]) (Lm := (tkA T (a : Int))) (Lb := [bRp]) (by (repeat (first | exact RT.nil _ | exact RT.n1 (by simp) | exact RT.n2 (by simp) | exact RT.n3 (by simp) | exact hd5 | refine RT.alloc ?_ _))) (by (repeat (first | exact RT.nil _ | exact RT.n1 (by simp) | exact RT.n2 (by simp) | exact RT.n3 (by simp) | exact hd5 | refine RT.alloc ?_ _))) (by (repeat (first | exact RT.nil _ | exact RT.n1 (by simp) | exact RT.n2 (by simp) | exact RT.n3 (by simp) | exact hd5 | refine RT.alloc ?_ _))) (by simp only [List.length_append, List.length_cons, List.length_nil]; omega))).mono ?_
 rintro e wz ⟨⟨⟨vz, rfl, hz⟩, M⟩, hbz⟩
 clear hbz hd5; have HZ := hid hz
 have HM := hid M
 clear hz M; go_wp2_with fail; go_ret; exact ⟨⟨_, rfl, by rw [HC.out]; exact HZ.out.mono BX.out.size⟩, bl_trans BX.out HM.out⟩
set_option maxHeartbeats 64000000 in
theorem expr_e {n1 n2 : Option Addr} {d1 d2 B : Nat} {T : Tre} {i : Nat} {n : Nd} (hS : TkS n1 n2 d1 d2 B T i) (hv : VN T i n) (hk : n.kind = 11) {s9 : Option Addr} {c9 B9 : Nat} {w : World} (hT : InC w B n1 n2 T) (hK : Els 1 cInt w B9 s9 n.kids) (hcap : n.kids.length ≤ c9) (h64 : -9223372036854775808 ≤ n.num ∧ n.num ≤ 9223372036854775807) (htl : ∀ (k : Nat) (m : Nd), k < i → VN T k m → (tkA T (k : Int)).length ≤ 90000) (hsum : (n.kids.map fun x => (tkA T x).length + 1).sum ≤ 90000) :
  Calls Tryz.prog 27 #[.agg #[.slice n1 T.nodes.length d1, .slice n2 T.tops.length d2], .agg #[.int .i64 n.kind, .string n.text, .int .i64 n.num, .slice s9 n.kids.length c9]] w fun e w' => SaysT w (tkA T (i : Int)) e w' := by
 have HT := hid hT
 have HK := hid hK
 have HS := hid hS
 have HV := hid hv
 have HTL := hid htl
 have HSUM := hid hsum
 have HCAP := hid hcap
 have HE : Hid (tkA T (i : Int) = tkN (tkA T) n) := tkA_eq hv
 obtain ⟨kd, hkd⟩ : ∃ k, Hid (n.kind = k) := ⟨_, rfl⟩
 obtain ⟨ml, hml⟩ : ∃ m, Hid (n.kids.length = m) := ⟨_, rfl⟩
 rw [hkd.out] at hk ⊢
 rw [hml.out]
 have ka := (Blk.new w #[.slice n1 T.nodes.length d1, .slice n2 T.tops.length d2] 31).alloc (.cells #[.int .i64 kd, .string n.text, .int .i64 n.num, .slice s9 ml c9] 66)
 have kn := Blk.new' (n := w.heap.size + 1) (w.alloc (.cells #[.slice n1 T.nodes.length d1, .slice n2 T.tops.length d2] 31)) #[.int .i64 kd, .string n.text, .int .i64 n.num, .slice s9 ml c9] 66 (by simp)
 have bx : Below w.heap.size w ((w.alloc (.cells #[.slice n1 T.nodes.length d1, .slice n2 T.tops.length d2] 31)).alloc (.cells #[.int .i64 kd, .string n.text, .int .i64 n.num, .slice s9 ml c9] 66)) := bl_alloc (bl_alloc (Below.refl _ _) _) _
 clear hT hK hS hv htl hsum hcap; obtain ⟨X, hX⟩ : ∃ X, (w.alloc (.cells #[.slice n1 T.nodes.length d1, .slice n2 T.tops.length d2] 31)).alloc (.cells #[.int .i64 kd, .string n.text, .int .i64 n.num, .slice s9 ml c9] 66) = X := ⟨_, rfl⟩
 rw [hX] at ka kn bx
 have KA := hid ka
 have KN := hid kn
 have BX := hid bx
 clear ka kn bx; rcases hk with rfl
 have hlen := HV.out.len
 rw [hkd.out] at hlen
 have h2 : 2 ≤ ml := by rw [← hml.out, ← hlen]; simp [shp]
 have h1c : ml ≤ c9 := by rw [← hml.out]; exact HCAP.out
 have k1 : 1 ≤ ml := by omega
 have kI8 : (1 : Int) ≤ (ml : Int) := by omega
 have kI9 : (ml : Int) ≤ (c9 : Int) := by omega
 have hc91 : ¬ c9 = 1 := by omega
 obtain ⟨a, an, hxa, hka, hai, hva, hca⟩ := HV.out.kidAt (j := 0) (c := 1) (by rw [hkd.out]; rfl)
 have kI0 : 0 < ml := by rw [← hml.out]; exact (List.getElem?_eq_some_iff.1 hxa).1
 have hna : ¬ an.kind = 29 ∧ ¬ an.kind = 30 := cls_no hca (by omega) (by omega)
 have hla := HTL.out a an hai hva
 have HVA := hid hva
 obtain ⟨fb, fo, rfl, _, hfb, pp0⟩ := eInt_cells HK.out hxa
 have PP0 : Hid (w.cell? ⟨fb, fo, none⟩ = some (.int .i64 (a : Int))) := pp0
 clear pp0 hxa hva hca; have HC : Hid (tkA T (i : Int) = [bPick, bLp] ++ tkA T (a : Int) ++ [bOf] ++ cm (n.kids.tail.map (tkA T)) ++ [bRp]) := by show _ = _; rw [HE.out]; unfold tkN; rw [hkd.out, hka]; rfl
 clear hka hlen; obtain ⟨z0, z1, z2, z3, z4⟩ := Blk.four' KN.out
 obtain ⟨t0, t1, t2⟩ := KA.out.two
 go_enter Tryz.func27, Tryz.ntmps27
 go_wp2_with fail; clear hX; have BC : ∀ Y, Below X.heap.size X Y → Y.cell? ⟨w.heap.size, 0, none⟩ = some (.slice n1 T.nodes.length d1) ∧ Y.cell? ⟨w.heap.size, 1, none⟩ = some (.slice n2 T.tops.length d2) ∧ Y.cell? ⟨w.heap.size + 1, 0, none⟩ = some (.int .i64 11) ∧ Y.cell? ⟨w.heap.size + 1, 1, none⟩ = some (.string n.text) ∧ Y.cell? ⟨w.heap.size + 1, 2, none⟩ = some (.int .i64 n.num) ∧ Y.cell? ⟨w.heap.size + 1, 3, none⟩ = some (.slice (some ⟨fb, fo, none⟩) ml c9) ∧ Y.cell? ⟨fb, fo, none⟩ = some (.int .i64 (a : Int)) := fun Y hY => ⟨(KA.out.later hY).cell 0 |>.trans rfl, (KA.out.later hY).cell 1 |>.trans rfl, (KN.out.later hY).cell 0 |>.trans rfl, (KN.out.later hY).cell 1 |>.trans rfl, (KN.out.later hY).cell 2 |>.trans rfl, (KN.out.later hY).cell 3 |>.trans rfl, ((bl_trans BX.out hY).cell (p := ⟨fb, fo, none⟩) hfb).trans PP0.out⟩
 have M : Below X.heap.size X X.drew := bl_drew (Below.refl _ _)
 go_region_held3 (fun Y => Y.cell? ⟨w.heap.size, 0, none⟩ = some (.slice n1 T.nodes.length d1) ∧ Y.cell? ⟨w.heap.size, 1, none⟩ = some (.slice n2 T.tops.length d2) ∧ Y.cell? ⟨w.heap.size + 1, 0, none⟩ = some (.int .i64 11) ∧ Y.cell? ⟨w.heap.size + 1, 1, none⟩ = some (.string n.text) ∧ Y.cell? ⟨w.heap.size + 1, 2, none⟩ = some (.int .i64 n.num) ∧ Y.cell? ⟨w.heap.size + 1, 3, none⟩ = some (.slice (some ⟨fb, fo, none⟩) ml c9) ∧ Y.cell? ⟨fb, fo, none⟩ = some (.int .i64 (a : Int))) (first | exact BC _ M | exact BC _ (bl_alloc M _) | exact BC _ (bl_alloc (bl_alloc M _) _) | exact BC _ (bl_alloc (bl_alloc (bl_alloc M _) _) _))
  (first
   | (go_at_call 13; refine (calls_from (X := X) (by first | exact M | exact bl_alloc M _ | exact bl_alloc (bl_alloc M _) _ | exact bl_alloc (bl_alloc (bl_alloc M _) _) _) (HS.out a an _ hai HVA.out hna (HT.out.later (bl_trans BX.out (by first | exact M | exact bl_alloc M _ | exact bl_alloc (bl_alloc M _) _ | exact bl_alloc (bl_alloc (bl_alloc M _) _) _))))).mono ?_; rintro e wa ⟨⟨⟨va, rfl, ho⟩, M⟩, hb⟩)
   | (go_at_call 30; refine (calls_from (X := X) (by first | exact M | exact bl_alloc M _ | exact bl_alloc (bl_alloc M _) _ | exact bl_alloc (bl_alloc (bl_alloc M _) _) _) (around_any (La := [bPick, bLp]) (Lm := (tkA T (a : Int))) (Lb := [bOf]) (by (repeat (first | exact RT.nil _ | exact RT.n1 (by simp) | exact RT.n2 (by simp) | exact RT.n3 (by simp) | exact ho.rt | refine RT.alloc ?_ _ | refine RT.later ?_ hb))) (by (repeat (first | exact RT.nil _ | exact RT.n1 (by simp) | exact RT.n2 (by simp) | exact RT.n3 (by simp) | exact ho.rt | refine RT.alloc ?_ _ | refine RT.later ?_ hb))) (by (repeat (first | exact RT.nil _ | exact RT.n1 (by simp) | exact RT.n2 (by simp) | exact RT.n3 (by simp) | exact ho.rt | refine RT.alloc ?_ _ | refine RT.later ?_ hb))) (by simp only [List.length_append, List.length_cons, List.length_nil]; omega))).mono ?_; rintro e wz ⟨⟨⟨vz, rfl, hz⟩, M⟩, hbz⟩))
 all_goals
  have HZ5 := hid hz
  have HM5 := hid M
  clear hz M hbz hb ho; have htl : n.kids.tail.length = n.kids.length - 1 := by simp
  have HL : Hid (Els 1 cInt w B9 (some ⟨fb, fo + 1, none⟩) n.kids.tail) := els_tail HK.out
  have hls : (n.kids.tail.map fun x => (tkA T x).length + 1).sum ≤ 90000 := by have h3 := HSUM.out; have h4 := sum_tail (ks := n.kids) (g := fun x => (tkA T x).length + 1); omega
  have HKS : Hid (∀ x ∈ n.kids.tail, ∃ (k : Nat) (m : Nd), x = k ∧ k < i ∧ VN T k m ∧ (¬ m.kind = 29 ∧ ¬ m.kind = 30)) := fun x hx => HV.out.kid_no (by rw [hkd.out]; omega) x (List.mem_of_mem_tail hx)
  have hcm : (cm (n.kids.tail.map (tkA T))).length ≤ 90000 := by have := cm_len (tkA T) n.kids.tail; omega
  go_wp2_with fail; have hd5 : RT wz.drew vz ([bPick, bLp] ++ tkA T (a : Int) ++ [bOf]) := HZ5.out.rt.later (bl_drew (Below.refl _ _))
  have M : Below X.heap.size X wz.drew := bl_drew HM5.out
  go_region_held3 (fun Y => Y.cell? ⟨w.heap.size, 0, none⟩ = some (.slice n1 T.nodes.length d1) ∧ Y.cell? ⟨w.heap.size, 1, none⟩ = some (.slice n2 T.tops.length d2) ∧ Y.cell? ⟨w.heap.size + 1, 0, none⟩ = some (.int .i64 11) ∧ Y.cell? ⟨w.heap.size + 1, 1, none⟩ = some (.string n.text) ∧ Y.cell? ⟨w.heap.size + 1, 2, none⟩ = some (.int .i64 n.num) ∧ Y.cell? ⟨w.heap.size + 1, 3, none⟩ = some (.slice (some ⟨fb, fo, none⟩) ml c9) ∧ Y.cell? ⟨fb, fo, none⟩ = some (.int .i64 (a : Int))) (first | exact BC _ M | exact BC _ (bl_alloc M _) | exact BC _ (bl_alloc (bl_alloc M _) _) | exact BC _ (bl_alloc (bl_alloc (bl_alloc M _) _) _))
   (first
    | (go_at_call 31; refine (calls_from (X := X) (by first | exact M | exact bl_alloc M _ | exact bl_alloc (bl_alloc M _) _ | exact bl_alloc (bl_alloc (bl_alloc M _) _) _) (list_n (ck := c9 - 1) HS.out (HT.out.later (bl_trans BX.out (by first | exact M | exact bl_alloc M _ | exact bl_alloc (bl_alloc M _) _ | exact bl_alloc (bl_alloc (bl_alloc M _) _) _))) (HL.out.later cInt_keeps (bl_trans BX.out (by first | exact M | exact bl_alloc M _ | exact bl_alloc (bl_alloc M _) _ | exact bl_alloc (bl_alloc (bl_alloc M _) _) _))) HKS.out (by omega) (by rw [htl, hml.out]))).mono ?_; rintro e wl ⟨⟨⟨vl, rfl, ho⟩, M⟩, hb⟩)
    | (go_at_call 30; refine (calls_from (X := X) (by first | exact M | exact bl_alloc M _ | exact bl_alloc (bl_alloc M _) _ | exact bl_alloc (bl_alloc (bl_alloc M _) _) _) (around_any (La := ([bPick, bLp] ++ tkA T (a : Int) ++ [bOf])) (Lm := (cm (n.kids.tail.map (tkA T)))) (Lb := [bRp]) (by (repeat (first | exact RT.nil _ | exact RT.n1 (by simp) | exact RT.n2 (by simp) | exact RT.n3 (by simp) | exact ho.rt | exact hd5 | refine RT.alloc ?_ _ | refine RT.later ?_ hb))) (by (repeat (first | exact RT.nil _ | exact RT.n1 (by simp) | exact RT.n2 (by simp) | exact RT.n3 (by simp) | exact ho.rt | exact hd5 | refine RT.alloc ?_ _ | refine RT.later ?_ hb))) (by (repeat (first | exact RT.nil _ | exact RT.n1 (by simp) | exact RT.n2 (by simp) | exact RT.n3 (by simp) | exact ho.rt | exact hd5 | refine RT.alloc ?_ _ | refine RT.later ?_ hb))) (by simp only [List.length_append, List.length_cons, List.length_nil]; omega))).mono ?_; rintro e wz ⟨⟨⟨vz, rfl, hz⟩, M⟩, hbz⟩))
  all_goals
   have HZ := hid hz
   have HM := hid M
   clear hz M; go_wp2_with fail; go_ret; exact ⟨⟨_, rfl, by rw [HC.out]; exact HZ.out.mono BX.out.size⟩, bl_trans BX.out HM.out⟩
end
section
open Go.RowKit
set_option maxRecDepth 100000
set_option maxHeartbeats 64000000 in
theorem stmt_a {n1 n2 : Option Addr} {d1 d2 B : Nat} {T : Tre} {i : Nat} {n : Nd} (hS : TkS n1 n2 d1 d2 B T i) (hv : VN T i n) (hk : n.kind = 12) {s9 : Option Addr} {c9 B9 : Nat} {w : World} (hT : InC w B n1 n2 T) (hK : Els 1 cInt w B9 s9 n.kids) (hcap : n.kids.length ≤ c9) (h64 : -9223372036854775808 ≤ n.num ∧ n.num ≤ 9223372036854775807) (htl : ∀ (k : Nat) (m : Nd), k < i → VN T k m → (tkA T (k : Int)).length ≤ 90000) (hsum : (n.kids.map fun x => (tkA T x).length + 1).sum ≤ 90000) :
  Calls Tryz.prog 28 #[.agg #[.slice n1 T.nodes.length d1, .slice n2 T.tops.length d2], .agg #[.int .i64 n.kind, .string n.text, .int .i64 n.num, .slice s9 n.kids.length c9]] w fun e w' => SaysT w (tkA T (i : Int)) e w' := by
 have HT := hid hT
 have HK := hid hK
 have HS := hid hS
 have HV := hid hv
 have HTL := hid htl
 have HSUM := hid hsum
 have HCAP := hid hcap
 have HE : Hid (tkA T (i : Int) = tkN (tkA T) n) := tkA_eq hv
 obtain ⟨kd, hkd⟩ : ∃ k, Hid (n.kind = k) := ⟨_, rfl⟩
 obtain ⟨ml, hml⟩ : ∃ m, Hid (n.kids.length = m) := ⟨_, rfl⟩
 rw [hkd.out] at hk ⊢
 rw [hml.out]
 have ka := (Blk.new w #[.slice n1 T.nodes.length d1, .slice n2 T.tops.length d2] 31).alloc (.cells #[.int .i64 kd, .string n.text, .int .i64 n.num, .slice s9 ml c9] 66)
 have kn := Blk.new' (n := w.heap.size + 1) (w.alloc (.cells #[.slice n1 T.nodes.length d1, .slice n2 T.tops.length d2] 31)) #[.int .i64 kd, .string n.text, .int .i64 n.num, .slice s9 ml c9] 66 (by simp)
 have bx : Below w.heap.size w ((w.alloc (.cells #[.slice n1 T.nodes.length d1, .slice n2 T.tops.length d2] 31)).alloc (.cells #[.int .i64 kd, .string n.text, .int .i64 n.num, .slice s9 ml c9] 66)) := bl_alloc (bl_alloc (Below.refl _ _) _) _
 clear hT hK hS hv htl hsum hcap; obtain ⟨X, hX⟩ : ∃ X, (w.alloc (.cells #[.slice n1 T.nodes.length d1, .slice n2 T.tops.length d2] 31)).alloc (.cells #[.int .i64 kd, .string n.text, .int .i64 n.num, .slice s9 ml c9] 66) = X := ⟨_, rfl⟩
 rw [hX] at ka kn bx
 have KA := hid ka
 have KN := hid kn
 have BX := hid bx
 clear ka kn bx; rcases hk with rfl
 obtain ⟨a, an, hxa, hka, hai, hva, hca⟩ := HV.out.kidAt (j := 0) (c := 1) (by rw [hkd.out]; rfl)
 have kI0 : 0 < ml := by rw [← hml.out]; exact (List.getElem?_eq_some_iff.1 hxa).1
 have hna : ¬ an.kind = 29 ∧ ¬ an.kind = 30 := cls_no hca (by omega) (by omega)
 have hla := HTL.out a an hai hva
 have HVA := hid hva
 obtain ⟨fb, fo, rfl, _, hfb, pp0⟩ := eInt_cells HK.out hxa
 have PP0 : Hid (w.cell? ⟨fb, fo, none⟩ = some (.int .i64 (a : Int))) := pp0
 clear pp0 hxa hva hca; have HC : Hid (tkA T (i : Int) = [bLet, n.text, bEq] ++ tkA T (a : Int) ++ [bSemi]) := by show _ = _; rw [HE.out]; unfold tkN; rw [hkd.out, hka]; rfl
 clear hka; obtain ⟨z0, z1, z2, z3, z4⟩ := Blk.four' KN.out
 obtain ⟨t0, t1, t2⟩ := KA.out.two
 go_enter Tryz.func28, Tryz.ntmps28
 go_wp2_with fail; clear hX; have BC : ∀ Y, Below X.heap.size X Y → Y.cell? ⟨w.heap.size, 0, none⟩ = some (.slice n1 T.nodes.length d1) ∧ Y.cell? ⟨w.heap.size, 1, none⟩ = some (.slice n2 T.tops.length d2) ∧ Y.cell? ⟨w.heap.size + 1, 0, none⟩ = some (.int .i64 12) ∧ Y.cell? ⟨w.heap.size + 1, 1, none⟩ = some (.string n.text) ∧ Y.cell? ⟨w.heap.size + 1, 2, none⟩ = some (.int .i64 n.num) ∧ Y.cell? ⟨w.heap.size + 1, 3, none⟩ = some (.slice (some ⟨fb, fo, none⟩) ml c9) ∧ Y.cell? ⟨fb, fo, none⟩ = some (.int .i64 (a : Int)) := fun Y hY => ⟨(KA.out.later hY).cell 0 |>.trans rfl, (KA.out.later hY).cell 1 |>.trans rfl, (KN.out.later hY).cell 0 |>.trans rfl, (KN.out.later hY).cell 1 |>.trans rfl, (KN.out.later hY).cell 2 |>.trans rfl, (KN.out.later hY).cell 3 |>.trans rfl, ((bl_trans BX.out hY).cell (p := ⟨fb, fo, none⟩) hfb).trans PP0.out⟩
 have M : Below X.heap.size X X.drew := bl_drew (Below.refl _ _)
 go_region_held3 (fun Y => Y.cell? ⟨w.heap.size, 0, none⟩ = some (.slice n1 T.nodes.length d1) ∧ Y.cell? ⟨w.heap.size, 1, none⟩ = some (.slice n2 T.tops.length d2) ∧ Y.cell? ⟨w.heap.size + 1, 0, none⟩ = some (.int .i64 12) ∧ Y.cell? ⟨w.heap.size + 1, 1, none⟩ = some (.string n.text) ∧ Y.cell? ⟨w.heap.size + 1, 2, none⟩ = some (.int .i64 n.num) ∧ Y.cell? ⟨w.heap.size + 1, 3, none⟩ = some (.slice (some ⟨fb, fo, none⟩) ml c9) ∧ Y.cell? ⟨fb, fo, none⟩ = some (.int .i64 (a : Int))) (first | exact BC _ M | exact BC _ (bl_alloc M _) | exact BC _ (bl_alloc (bl_alloc M _) _) | exact BC _ (bl_alloc (bl_alloc (bl_alloc M _) _) _))
  (first
   | (go_at_call 13; refine (calls_from (X := X) (by first | exact M | exact bl_alloc M _ | exact bl_alloc (bl_alloc M _) _ | exact bl_alloc (bl_alloc (bl_alloc M _) _) _) (HS.out a an _ hai HVA.out hna (HT.out.later (bl_trans BX.out (by first | exact M | exact bl_alloc M _ | exact bl_alloc (bl_alloc M _) _ | exact bl_alloc (bl_alloc (bl_alloc M _) _) _))))).mono ?_; rintro e wa ⟨⟨⟨va, rfl, ho⟩, M⟩, hb⟩)
   | (go_at_call 30; refine (calls_from (X := X) (by first | exact M | exact bl_alloc M _ | exact bl_alloc (bl_alloc M _) _ | exact bl_alloc (bl_alloc (bl_alloc M _) _) _) (around_any (La := [bLet, n.text, bEq]) (Lm := (tkA T (a : Int))) (Lb := [bSemi]) (by (repeat (first | exact RT.nil _ | exact RT.n1 (by simp) | exact RT.n2 (by simp) | exact RT.n3 (by simp) | exact ho.rt | refine RT.alloc ?_ _ | refine RT.later ?_ hb))) (by (repeat (first | exact RT.nil _ | exact RT.n1 (by simp) | exact RT.n2 (by simp) | exact RT.n3 (by simp) | exact ho.rt | refine RT.alloc ?_ _ | refine RT.later ?_ hb))) (by (repeat (first | exact RT.nil _ | exact RT.n1 (by simp) | exact RT.n2 (by simp) | exact RT.n3 (by simp) | exact ho.rt | refine RT.alloc ?_ _ | refine RT.later ?_ hb))) (by simp only [List.length_append, List.length_cons, List.length_nil]; omega))).mono ?_; rintro e wz ⟨⟨⟨vz, rfl, hz⟩, M⟩, hbz⟩))
 all_goals
  have HZ := hid hz
  have HM := hid M
  clear hz M; go_wp2_with fail; go_ret; exact ⟨⟨_, rfl, by rw [HC.out]; exact HZ.out.mono BX.out.size⟩, bl_trans BX.out HM.out⟩
set_option maxHeartbeats 64000000 in
theorem stmt_b {n1 n2 : Option Addr} {d1 d2 B : Nat} {T : Tre} {i : Nat} {n : Nd} (hS : TkS n1 n2 d1 d2 B T i) (hv : VN T i n) (hk : n.kind = 22 ∨ n.kind = 24) {s9 : Option Addr} {c9 B9 : Nat} {w : World} (hT : InC w B n1 n2 T) (hK : Els 1 cInt w B9 s9 n.kids) (hcap : n.kids.length ≤ c9) (h64 : -9223372036854775808 ≤ n.num ∧ n.num ≤ 9223372036854775807) (htl : ∀ (k : Nat) (m : Nd), k < i → VN T k m → (tkA T (k : Int)).length ≤ 90000) (hsum : (n.kids.map fun x => (tkA T x).length + 1).sum ≤ 90000) :
  Calls Tryz.prog 28 #[.agg #[.slice n1 T.nodes.length d1, .slice n2 T.tops.length d2], .agg #[.int .i64 n.kind, .string n.text, .int .i64 n.num, .slice s9 n.kids.length c9]] w fun e w' => SaysT w (tkA T (i : Int)) e w' := by
 have HT := hid hT
 have HK := hid hK
 have HS := hid hS
 have HV := hid hv
 have HTL := hid htl
 have HSUM := hid hsum
 have HCAP := hid hcap
 have HE : Hid (tkA T (i : Int) = tkN (tkA T) n) := tkA_eq hv
 obtain ⟨kd, hkd⟩ : ∃ k, Hid (n.kind = k) := ⟨_, rfl⟩
 obtain ⟨ml, hml⟩ : ∃ m, Hid (n.kids.length = m) := ⟨_, rfl⟩
 rw [hkd.out] at hk ⊢
 rw [hml.out]
 have ka := (Blk.new w #[.slice n1 T.nodes.length d1, .slice n2 T.tops.length d2] 31).alloc (.cells #[.int .i64 kd, .string n.text, .int .i64 n.num, .slice s9 ml c9] 66)
 have kn := Blk.new' (n := w.heap.size + 1) (w.alloc (.cells #[.slice n1 T.nodes.length d1, .slice n2 T.tops.length d2] 31)) #[.int .i64 kd, .string n.text, .int .i64 n.num, .slice s9 ml c9] 66 (by simp)
 have bx : Below w.heap.size w ((w.alloc (.cells #[.slice n1 T.nodes.length d1, .slice n2 T.tops.length d2] 31)).alloc (.cells #[.int .i64 kd, .string n.text, .int .i64 n.num, .slice s9 ml c9] 66)) := bl_alloc (bl_alloc (Below.refl _ _) _) _
 clear hT hK hS hv htl hsum hcap; obtain ⟨X, hX⟩ : ∃ X, (w.alloc (.cells #[.slice n1 T.nodes.length d1, .slice n2 T.tops.length d2] 31)).alloc (.cells #[.int .i64 kd, .string n.text, .int .i64 n.num, .slice s9 ml c9] 66) = X := ⟨_, rfl⟩
 rw [hX] at ka kn bx
 have KA := hid ka
 have KN := hid kn
 have BX := hid bx
 clear ka kn bx; rcases hk with rfl | rfl
 ·
  have HC : Hid (tkA T (i : Int) = [bKill, bSemi]) := by show _ = _; rw [HE.out]; unfold tkN; rw [hkd.out]; rfl
  obtain ⟨z0, z1, z2, z3, z4⟩ := Blk.four' KN.out
  obtain ⟨t0, t1, t2⟩ := KA.out.two
  go_enter Tryz.func28, Tryz.ntmps28
  go_wp2_with fail; clear hX; go_ret; exact ⟨⟨_, rfl, by rw [HC.out]; exact (OS.new2 _ _ _).mono BX.out.size⟩, bl_alloc BX.out _⟩
 have HC : Hid (tkA T (i : Int) = [bDrop, n.text, bSemi]) := by show _ = _; rw [HE.out]; unfold tkN; rw [hkd.out]; rfl
 obtain ⟨z0, z1, z2, z3, z4⟩ := Blk.four' KN.out
 obtain ⟨t0, t1, t2⟩ := KA.out.two
 go_enter Tryz.func28, Tryz.ntmps28
 go_wp2_with fail; clear hX; go_ret; exact ⟨⟨_, rfl, by rw [HC.out]; exact (OS.new3 _ _ _ _).mono BX.out.size⟩, bl_alloc BX.out _⟩
set_option maxHeartbeats 64000000 in
theorem stmt_c {n1 n2 : Option Addr} {d1 d2 B : Nat} {T : Tre} {i : Nat} {n : Nd} (hS : TkS n1 n2 d1 d2 B T i) (hv : VN T i n) (hk : n.kind = 21) {s9 : Option Addr} {c9 B9 : Nat} {w : World} (hT : InC w B n1 n2 T) (hK : Els 1 cInt w B9 s9 n.kids) (hcap : n.kids.length ≤ c9) (h64 : -9223372036854775808 ≤ n.num ∧ n.num ≤ 9223372036854775807) (htl : ∀ (k : Nat) (m : Nd), k < i → VN T k m → (tkA T (k : Int)).length ≤ 90000) (hsum : (n.kids.map fun x => (tkA T x).length + 1).sum ≤ 90000) :
  Calls Tryz.prog 28 #[.agg #[.slice n1 T.nodes.length d1, .slice n2 T.tops.length d2], .agg #[.int .i64 n.kind, .string n.text, .int .i64 n.num, .slice s9 n.kids.length c9]] w fun e w' => SaysT w (tkA T (i : Int)) e w' := by
 have HT := hid hT
 have HK := hid hK
 have HS := hid hS
 have HV := hid hv
 have HTL := hid htl
 have HSUM := hid hsum
 have HCAP := hid hcap
 have HE : Hid (tkA T (i : Int) = tkN (tkA T) n) := tkA_eq hv
 obtain ⟨kd, hkd⟩ : ∃ k, Hid (n.kind = k) := ⟨_, rfl⟩
 obtain ⟨ml, hml⟩ : ∃ m, Hid (n.kids.length = m) := ⟨_, rfl⟩
 rw [hkd.out] at hk ⊢
 rw [hml.out]
 have ka := (Blk.new w #[.slice n1 T.nodes.length d1, .slice n2 T.tops.length d2] 31).alloc (.cells #[.int .i64 kd, .string n.text, .int .i64 n.num, .slice s9 ml c9] 66)
 have kn := Blk.new' (n := w.heap.size + 1) (w.alloc (.cells #[.slice n1 T.nodes.length d1, .slice n2 T.tops.length d2] 31)) #[.int .i64 kd, .string n.text, .int .i64 n.num, .slice s9 ml c9] 66 (by simp)
 have bx : Below w.heap.size w ((w.alloc (.cells #[.slice n1 T.nodes.length d1, .slice n2 T.tops.length d2] 31)).alloc (.cells #[.int .i64 kd, .string n.text, .int .i64 n.num, .slice s9 ml c9] 66)) := bl_alloc (bl_alloc (Below.refl _ _) _) _
 clear hT hK hS hv htl hsum hcap; obtain ⟨X, hX⟩ : ∃ X, (w.alloc (.cells #[.slice n1 T.nodes.length d1, .slice n2 T.tops.length d2] 31)).alloc (.cells #[.int .i64 kd, .string n.text, .int .i64 n.num, .slice s9 ml c9] 66) = X := ⟨_, rfl⟩
 rw [hX] at ka kn bx
 have KA := hid ka
 have KN := hid kn
 have BX := hid bx
 clear ka kn bx; rcases hk with rfl
 have HC : Hid (tkA T (i : Int) = [bSpawn, bLp] ++ cm (n.kids.map (tkA T)) ++ [bRp, bSemi]) := by show _ = _; rw [HE.out]; unfold tkN; rw [hkd.out]; rfl
 have HL : Hid (Els 1 cInt w B9 s9 n.kids) := HK.out
 have hls := HSUM.out
 have HKS : Hid (∀ x ∈ n.kids, ∃ (k : Nat) (m : Nd), x = k ∧ k < i ∧ VN T k m ∧ (¬ m.kind = 29 ∧ ¬ m.kind = 30)) := HV.out.kid_no (by rw [hkd.out]; omega)
 have hcm : (cm (n.kids.map (tkA T))).length ≤ 90000 := by have := cm_len (tkA T) n.kids; omega
 have hal := alloc_old
 have haf := alloc_oldf
 have hl1 : w.heap.size < X.heap.size := KA.out.lt
 have hl2 : w.heap.size + 1 < X.heap.size := KN.out.lt
 obtain ⟨z0, z1, z2, z3, z4⟩ := Blk.four' KN.out
 obtain ⟨t0, t1, t2⟩ := KA.out.two
 go_enter Tryz.func28, Tryz.ntmps28
 go_wp2_with fail; clear hX; have M : Below X.heap.size X X := Below.refl _ _
 refine (calls_from (X := X) (by first | exact M | exact bl_alloc M _ | exact bl_alloc (bl_alloc M _) _ | exact bl_alloc (bl_alloc (bl_alloc M _) _) _) (list_n HS.out (HT.out.later (bl_trans BX.out (by first | exact M | exact bl_alloc M _ | exact bl_alloc (bl_alloc M _) _ | exact bl_alloc (bl_alloc (bl_alloc M _) _) _))) (HL.out.later cInt_keeps (bl_trans BX.out (by first | exact M | exact bl_alloc M _ | exact bl_alloc (bl_alloc M _) _ | exact bl_alloc (bl_alloc (bl_alloc M _) _) _))) HKS.out (by omega) hml.out)).mono ?_
 rintro e wl ⟨⟨⟨vl, rfl, ho⟩, M⟩, hb⟩
 go_wp2_with fail; refine (calls_from (X := X) (by first | exact M | exact bl_alloc M _ | exact bl_alloc (bl_alloc M _) _ | exact bl_alloc (bl_alloc (bl_alloc M _) _) _) (around_any (La := [bSpawn, bLp]) (Lm := (cm (n.kids.map (tkA T)))) (Lb := [bRp, bSemi]) (by (repeat (first | exact RT.nil _ | exact RT.n1 (by simp) | exact RT.n2 (by simp) | exact RT.n3 (by simp) | exact ho.rt | refine RT.alloc ?_ _ | refine RT.later ?_ hb))) (by (repeat (first | exact RT.nil _ | exact RT.n1 (by simp) | exact RT.n2 (by simp) | exact RT.n3 (by simp) | exact ho.rt | refine RT.alloc ?_ _ | refine RT.later ?_ hb))) (by (repeat (first | exact RT.nil _ | exact RT.n1 (by simp) | exact RT.n2 (by simp) | exact RT.n3 (by simp) | exact ho.rt | refine RT.alloc ?_ _ | refine RT.later ?_ hb))) (by simp only [List.length_append, List.length_cons, List.length_nil]; omega))).mono ?_
 rintro e wz ⟨⟨⟨vz, rfl, hz⟩, M⟩, hbz⟩
 clear hbz hb ho; have HZ := hid hz
 have HM := hid M
 clear hz M; go_wp2_with fail; go_ret; exact ⟨⟨_, rfl, by rw [HC.out]; exact HZ.out.mono BX.out.size⟩, bl_trans BX.out HM.out⟩
end
end Go.Proofs.YtjckoldjodjehaaGreatDoor
