import Derived.Test.YtjckoldjodjehaaGreatDoorSe08
namespace Go.Proofs.YtjckoldjodjehaaGreatDoor
set_option linter.unusedVariables false
set_option linter.unusedSimpArgs false
section
open Go.RowKit
set_option maxRecDepth 100000
theorem VN.num {T : Tre} {i : Nat} {n : Nd} (h : VN T i n) : 0 ≤ n.num ∧ n.num ≤ 999999999999999 := by
 have h0 := h.has
 unfold hasB at h0
 have hn : n.num = 0 ∨ numB n.kind n.num = true := by
  split at h0
  ·
   left; simp at h0; exact h0.2
  right
  split at h0
  ·
   simp at h0; exact h0.2
  simp at h0; exact h0.2
 rcases hn with e | h2
 ·
  omega
 unfold numB at h2
 repeat' split at h2
 all_goals simp at h2
 all_goals omega
theorem has_op32 {T : Tre} {i : Nat} {n : Nd} (h : VN T i n) (hk : n.kind = 32 ∨ n.kind = 33) : 1 ≤ n.num ∧ n.num ≤ 4 := by
 have h0 := h.has
 rcases hk with hk | hk <;>
 ·
  rw [hk, has_named (by rfl)] at h0
  simp [numB] at h0
  omega
theorem els_init {w : World} {B : Nat} {s : Option Addr} {l : List Int} (h : Els 1 cInt w B s l) : Els 1 cInt w B s l.dropLast := by
 rcases h with rfl | ⟨b, o, e, h1, h2, h3, h4⟩
 ·
  exact Or.inl rfl
 refine Or.inr ⟨b, o, e, h1, h2, fun j a ha => h3 j a ?_, h4⟩
 rw [List.getElem?_dropLast] at ha
 split at ha
 ·
  exact ha
 cases ha
theorem sum_init {ks : List Int} {g : Int → Nat} : (ks.dropLast.map g).sum ≤ (ks.map g).sum := by
 rw [List.dropLast_eq_take]; exact sum_take
theorem len_sum (l : List Int) {T : Tre} : l.length ≤ (l.map fun x => (tkA T x).length + 1).sum := by
 induction l with
 | nil => simp
 | cons a l ih => simp only [List.length_cons, List.map_cons, List.sum_cons]; omega
end
section
open Go.RowKit
set_option maxRecDepth 100000
set_option maxHeartbeats 64000000 in
theorem toks_e {n1 n2 : Option Addr} {d1 d2 B : Nat} {T : Tre} {i : Nat} {n : Nd} (hS : TkS n1 n2 d1 d2 B T i) (hW : WK T i) (hv : VN T i n) (hk : 1 ≤ n.kind ∧ n.kind ≤ 11) {w : World} (hT : InC w B n1 n2 T) (hsum : (n.kids.map fun x => (tkA T x).length + 1).sum ≤ 90000) :
  Calls Tryz.prog 13 #[.agg #[.slice n1 T.nodes.length d1, .slice n2 T.tops.length d2], .int .i64 (i : Int)] w fun e w' => SaysT w (tkA T (i : Int)) e w' := by
 obtain ⟨nb, no, rfl, _, hnb, s9, c9, q0, q1, q2, q3, hkc, hcap⟩ := eNodeC_cells hT.c hv.at_
 have iI : (i : Int) < (T.nodes.length : Int) := by have := (List.getElem?_eq_some_iff.1 hv.at_).1; omega
 have HT := hid hT
 have HK : Hid (Els 1 cInt w B s9 n.kids) := hkc
 have HS := hid hS
 have HW := hid hW
 have HV := hid hv
 have HSUM := hid hsum
 have HCAP := hid hcap
 have HTL := hid hW.tl
 have HE : Hid (tkA T (i : Int) = tkN (tkA T) n) := tkA_eq hv
 obtain ⟨kd, hkd⟩ : ∃ k, Hid (n.kind = k) := ⟨_, hid rfl⟩
 obtain ⟨ml, hml⟩ : ∃ m, Hid (n.kids.length = m) := ⟨_, hid rfl⟩
 rw [hkd.out] at hk q0
 rw [hml.out] at q3
 have ka := (Blk.new w #[.slice (some ⟨nb, no, none⟩) T.nodes.length d1, .slice n2 T.tops.length d2] 31).alloc (.cells #[.int .i64 kd, .string n.text, .int .i64 n.num, .slice s9 ml c9] 66)
 have kn := Blk.new' (n := w.heap.size + 1) (w.alloc (.cells #[.slice (some ⟨nb, no, none⟩) T.nodes.length d1, .slice n2 T.tops.length d2] 31)) #[.int .i64 kd, .string n.text, .int .i64 n.num, .slice s9 ml c9] 66 (by simp)
 have bx : Below w.heap.size w ((w.alloc (.cells #[.slice (some ⟨nb, no, none⟩) T.nodes.length d1, .slice n2 T.tops.length d2] 31)).alloc (.cells #[.int .i64 kd, .string n.text, .int .i64 n.num, .slice s9 ml c9] 66)) := bl_alloc (bl_alloc (Below.refl _ _) _) _
 have hal := alloc_old
 have haf := alloc_oldf
 have KA0 := hid ka
 have KN0 := hid kn
 have BX0 := hid bx
 clear hT hkc hS hW hv hsum hcap ka kn bx; go_enter Tryz.func13, Tryz.ntmps13
 go_wp2_with fail; refine (l8Class_any kd _).mono ?_
 rintro e X ⟨rfl, hbx⟩
 have KA := hid (KA0.out.later hbx)
 have KN := hid (KN0.out.later hbx)
 have BX : Hid (Below w.heap.size w X) := bl_trans BX0.out hbx
 clear hbx KA0 KN0 BX0 q0 q1 q2 q3 hal haf; obtain ⟨z0, z1, z2, z3, z4⟩ := Blk.four' KN.out
 obtain ⟨t0, t1, t2⟩ := KA.out.two
 have hcl : cls kd = 1 := by unfold cls; exact if_pos hk
 rw [hcl]
 clear hcl; go_wp2_with fail; have he := expr_any HS.out HW.out HV.out (by rw [hkd.out]; exact hk) (HT.out.later BX.out) (HK.out.later cInt_keeps BX.out) HCAP.out (by have := HV.out.num; omega) HSUM.out
 rw [hkd.out, hml.out] at he
 refine he.mono ?_
 rintro e w3 ⟨⟨v, rfl, ho⟩, hb⟩
 have HO := hid ho
 have HB := hid hb
 clear he ho hb; go_wp2_with fail; go_ret; exact ⟨⟨_, rfl, HO.out.mono BX.out.size⟩, bl_trans BX.out HB.out⟩
set_option maxHeartbeats 64000000 in
theorem toks_s {n1 n2 : Option Addr} {d1 d2 B : Nat} {T : Tre} {i : Nat} {n : Nd} (hS : TkS n1 n2 d1 d2 B T i) (hW : WK T i) (hv : VN T i n) (hk : 12 ≤ n.kind ∧ n.kind ≤ 26) {w : World} (hT : InC w B n1 n2 T) (hsum : (n.kids.map fun x => (tkA T x).length + 1).sum ≤ 90000) :
  Calls Tryz.prog 13 #[.agg #[.slice n1 T.nodes.length d1, .slice n2 T.tops.length d2], .int .i64 (i : Int)] w fun e w' => SaysT w (tkA T (i : Int)) e w' := by
 obtain ⟨nb, no, rfl, _, hnb, s9, c9, q0, q1, q2, q3, hkc, hcap⟩ := eNodeC_cells hT.c hv.at_
 have iI : (i : Int) < (T.nodes.length : Int) := by have := (List.getElem?_eq_some_iff.1 hv.at_).1; omega
 have HT := hid hT
 have HK : Hid (Els 1 cInt w B s9 n.kids) := hkc
 have HS := hid hS
 have HW := hid hW
 have HV := hid hv
 have HSUM := hid hsum
 have HCAP := hid hcap
 have HTL := hid hW.tl
 have HE : Hid (tkA T (i : Int) = tkN (tkA T) n) := tkA_eq hv
 obtain ⟨kd, hkd⟩ : ∃ k, Hid (n.kind = k) := ⟨_, hid rfl⟩
 obtain ⟨ml, hml⟩ : ∃ m, Hid (n.kids.length = m) := ⟨_, hid rfl⟩
 rw [hkd.out] at hk q0
 rw [hml.out] at q3
 have ka := (Blk.new w #[.slice (some ⟨nb, no, none⟩) T.nodes.length d1, .slice n2 T.tops.length d2] 31).alloc (.cells #[.int .i64 kd, .string n.text, .int .i64 n.num, .slice s9 ml c9] 66)
 have kn := Blk.new' (n := w.heap.size + 1) (w.alloc (.cells #[.slice (some ⟨nb, no, none⟩) T.nodes.length d1, .slice n2 T.tops.length d2] 31)) #[.int .i64 kd, .string n.text, .int .i64 n.num, .slice s9 ml c9] 66 (by simp)
 have bx : Below w.heap.size w ((w.alloc (.cells #[.slice (some ⟨nb, no, none⟩) T.nodes.length d1, .slice n2 T.tops.length d2] 31)).alloc (.cells #[.int .i64 kd, .string n.text, .int .i64 n.num, .slice s9 ml c9] 66)) := bl_alloc (bl_alloc (Below.refl _ _) _) _
 have hal := alloc_old
 have haf := alloc_oldf
 have KA0 := hid ka
 have KN0 := hid kn
 have BX0 := hid bx
 clear hT hkc hS hW hv hsum hcap ka kn bx; go_enter Tryz.func13, Tryz.ntmps13
 go_wp2_with fail; refine (l8Class_any kd _).mono ?_
 rintro e X ⟨rfl, hbx⟩
 have KA := hid (KA0.out.later hbx)
 have KN := hid (KN0.out.later hbx)
 have BX : Hid (Below w.heap.size w X) := bl_trans BX0.out hbx
 clear hbx KA0 KN0 BX0 q0 q1 q2 q3 hal haf; obtain ⟨z0, z1, z2, z3, z4⟩ := Blk.four' KN.out
 obtain ⟨t0, t1, t2⟩ := KA.out.two
 have hcl : cls kd = 2 := by unfold cls; rw [if_neg (by omega)]; exact if_pos hk
 rw [hcl]
 clear hcl; go_wp2_with fail; have he := stmt_any HS.out HW.out HV.out (by rw [hkd.out]; exact hk) (HT.out.later BX.out) (HK.out.later cInt_keeps BX.out) HCAP.out (by have := HV.out.num; omega) HSUM.out
 rw [hkd.out, hml.out] at he
 refine he.mono ?_
 rintro e w3 ⟨⟨v, rfl, ho⟩, hb⟩
 have HO := hid ho
 have HB := hid hb
 clear he ho hb; go_wp2_with fail; go_ret; exact ⟨⟨_, rfl, HO.out.mono BX.out.size⟩, bl_trans BX.out HB.out⟩
set_option maxHeartbeats 64000000 in
theorem toks_n {n1 n2 : Option Addr} {d1 d2 B : Nat} {T : Tre} {i : Nat} {n : Nd} (hS : TkS n1 n2 d1 d2 B T i) (hW : WK T i) (hv : VN T i n) (hk : n.kind = 31) {w : World} (hT : InC w B n1 n2 T) (hsum : (n.kids.map fun x => (tkA T x).length + 1).sum ≤ 90000) :
  Calls Tryz.prog 13 #[.agg #[.slice n1 T.nodes.length d1, .slice n2 T.tops.length d2], .int .i64 (i : Int)] w fun e w' => SaysT w (tkA T (i : Int)) e w' := by
 obtain ⟨nb, no, rfl, _, hnb, s9, c9, q0, q1, q2, q3, hkc, hcap⟩ := eNodeC_cells hT.c hv.at_
 have iI : (i : Int) < (T.nodes.length : Int) := by have := (List.getElem?_eq_some_iff.1 hv.at_).1; omega
 have HT := hid hT
 have HK : Hid (Els 1 cInt w B s9 n.kids) := hkc
 have HS := hid hS
 have HW := hid hW
 have HV := hid hv
 have HSUM := hid hsum
 have HCAP := hid hcap
 have HTL := hid hW.tl
 have HE : Hid (tkA T (i : Int) = tkN (tkA T) n) := tkA_eq hv
 obtain ⟨kd, hkd⟩ : ∃ k, Hid (n.kind = k) := ⟨_, hid rfl⟩
 obtain ⟨ml, hml⟩ : ∃ m, Hid (n.kids.length = m) := ⟨_, hid rfl⟩
 rw [hkd.out] at hk q0
 obtain rfl : kd = 31 := hk
 rw [hml.out] at q3
 have ka := (Blk.new w #[.slice (some ⟨nb, no, none⟩) T.nodes.length d1, .slice n2 T.tops.length d2] 31).alloc (.cells #[.int .i64 31, .string n.text, .int .i64 n.num, .slice s9 ml c9] 66)
 have kn := Blk.new' (n := w.heap.size + 1) (w.alloc (.cells #[.slice (some ⟨nb, no, none⟩) T.nodes.length d1, .slice n2 T.tops.length d2] 31)) #[.int .i64 31, .string n.text, .int .i64 n.num, .slice s9 ml c9] 66 (by simp)
 have bx : Below w.heap.size w ((w.alloc (.cells #[.slice (some ⟨nb, no, none⟩) T.nodes.length d1, .slice n2 T.tops.length d2] 31)).alloc (.cells #[.int .i64 31, .string n.text, .int .i64 n.num, .slice s9 ml c9] 66)) := bl_alloc (bl_alloc (Below.refl _ _) _) _
 have hal := alloc_old
 have haf := alloc_oldf
 have KA0 := hid ka
 have KN0 := hid kn
 have BX0 := hid bx
 clear hT hkc hS hW hv hsum hcap ka kn bx; go_enter Tryz.func13, Tryz.ntmps13
 go_wp2_with fail; refine (l8Class_any 31 _).mono ?_
 rintro e X ⟨rfl, hbx⟩
 have KA := hid (KA0.out.later hbx)
 have KN := hid (KN0.out.later hbx)
 have BX : Hid (Below w.heap.size w X) := bl_trans BX0.out hbx
 clear hbx KA0 KN0 BX0 q0 q1 q2 q3 hal haf; obtain ⟨z0, z1, z2, z3, z4⟩ := Blk.four' KN.out
 obtain ⟨t0, t1, t2⟩ := KA.out.two
 have HC : Hid (tkA T (i : Int) = [n.text]) := by show _ = _; rw [HE.out]; unfold tkN; rw [hkd.out]; rfl
 rw [show cls 31 = 6 from rfl]
 go_wp2_with fail; go_ret; exact ⟨⟨_, rfl, by rw [HC.out]; exact (OS.new1 X _).mono BX.out.size⟩, bl_alloc BX.out _⟩
set_option maxHeartbeats 64000000 in
theorem toks_p {n1 n2 : Option Addr} {d1 d2 B : Nat} {T : Tre} {i : Nat} {n : Nd} (hS : TkS n1 n2 d1 d2 B T i) (hW : WK T i) (hv : VN T i n) (hk : n.kind = 32) {w : World} (hT : InC w B n1 n2 T) (hsum : (n.kids.map fun x => (tkA T x).length + 1).sum ≤ 90000) :
  Calls Tryz.prog 13 #[.agg #[.slice n1 T.nodes.length d1, .slice n2 T.tops.length d2], .int .i64 (i : Int)] w fun e w' => SaysT w (tkA T (i : Int)) e w' := by
 obtain ⟨nb, no, rfl, _, hnb, s9, c9, q0, q1, q2, q3, hkc, hcap⟩ := eNodeC_cells hT.c hv.at_
 have iI : (i : Int) < (T.nodes.length : Int) := by have := (List.getElem?_eq_some_iff.1 hv.at_).1; omega
 have HT := hid hT
 have HK : Hid (Els 1 cInt w B s9 n.kids) := hkc
 have HS := hid hS
 have HW := hid hW
 have HV := hid hv
 have HSUM := hid hsum
 have HCAP := hid hcap
 have HTL := hid hW.tl
 have HE : Hid (tkA T (i : Int) = tkN (tkA T) n) := tkA_eq hv
 obtain ⟨kd, hkd⟩ : ∃ k, Hid (n.kind = k) := ⟨_, hid rfl⟩
 obtain ⟨ml, hml⟩ : ∃ m, Hid (n.kids.length = m) := ⟨_, hid rfl⟩
 rw [hkd.out] at hk q0
 obtain rfl : kd = 32 := hk
 rw [hml.out] at q3
 have ka := (Blk.new w #[.slice (some ⟨nb, no, none⟩) T.nodes.length d1, .slice n2 T.tops.length d2] 31).alloc (.cells #[.int .i64 32, .string n.text, .int .i64 n.num, .slice s9 ml c9] 66)
 have kn := Blk.new' (n := w.heap.size + 1) (w.alloc (.cells #[.slice (some ⟨nb, no, none⟩) T.nodes.length d1, .slice n2 T.tops.length d2] 31)) #[.int .i64 32, .string n.text, .int .i64 n.num, .slice s9 ml c9] 66 (by simp)
 have bx : Below w.heap.size w ((w.alloc (.cells #[.slice (some ⟨nb, no, none⟩) T.nodes.length d1, .slice n2 T.tops.length d2] 31)).alloc (.cells #[.int .i64 32, .string n.text, .int .i64 n.num, .slice s9 ml c9] 66)) := bl_alloc (bl_alloc (Below.refl _ _) _) _
 have hal := alloc_old
 have haf := alloc_oldf
 have KA0 := hid ka
 have KN0 := hid kn
 have BX0 := hid bx
 clear hT hkc hS hW hv hsum hcap ka kn bx; go_enter Tryz.func13, Tryz.ntmps13
 go_wp2_with fail; refine (l8Class_any 32 _).mono ?_
 rintro e X ⟨rfl, hbx⟩
 have KA := hid (KA0.out.later hbx)
 have KN := hid (KN0.out.later hbx)
 have BX : Hid (Below w.heap.size w X) := bl_trans BX0.out hbx
 clear hbx KA0 KN0 BX0 q0 q1 q2 q3 hal haf; obtain ⟨z0, z1, z2, z3, z4⟩ := Blk.four' KN.out
 obtain ⟨t0, t1, t2⟩ := KA.out.two
 have hop : 1 ≤ n.num ∧ n.num ≤ 4 := has_op32 HV.out (Or.inl hkd.out)
 have HC : Hid (tkA T (i : Int) = [n.text, kiT n.num]) := by show _ = _; rw [HE.out]; unfold tkN; rw [hkd.out]; rfl
 rw [show cls 32 = 7 from rfl]
 go_wp2_with fail; have BC : ∀ Y, Below X.heap.size X Y → Y.cell? ⟨w.heap.size, 0, none⟩ = some (.slice (some ⟨nb, no, none⟩) T.nodes.length d1) ∧ Y.cell? ⟨w.heap.size, 1, none⟩ = some (.slice n2 T.tops.length d2) ∧ Y.cell? ⟨w.heap.size + 1, 0, none⟩ = some (.int .i64 32) ∧ Y.cell? ⟨w.heap.size + 1, 1, none⟩ = some (.string n.text) ∧ Y.cell? ⟨w.heap.size + 1, 2, none⟩ = some (.int .i64 n.num) ∧ Y.cell? ⟨w.heap.size + 1, 3, none⟩ = some (.slice s9 ml c9) := fun Y hY => ⟨(KA.out.later hY).cell 0 |>.trans rfl, (KA.out.later hY).cell 1 |>.trans rfl, (KN.out.later hY).cell 0 |>.trans rfl, (KN.out.later hY).cell 1 |>.trans rfl, (KN.out.later hY).cell 2 |>.trans rfl, (KN.out.later hY).cell 3 |>.trans rfl⟩
 have M : Below X.heap.size X X.drew := bl_drew (Below.refl _ _)
 go_region_held3 (fun Y => Y.cell? ⟨w.heap.size, 0, none⟩ = some (.slice (some ⟨nb, no, none⟩) T.nodes.length d1) ∧ Y.cell? ⟨w.heap.size, 1, none⟩ = some (.slice n2 T.tops.length d2) ∧ Y.cell? ⟨w.heap.size + 1, 0, none⟩ = some (.int .i64 32) ∧ Y.cell? ⟨w.heap.size + 1, 1, none⟩ = some (.string n.text) ∧ Y.cell? ⟨w.heap.size + 1, 2, none⟩ = some (.int .i64 n.num) ∧ Y.cell? ⟨w.heap.size + 1, 3, none⟩ = some (.slice s9 ml c9)) (first | exact BC _ M | exact BC _ (bl_alloc M _) | exact BC _ (bl_alloc (bl_alloc M _) _) | exact BC _ (bl_alloc (bl_alloc (bl_alloc M _) _) _))
  (first
   | (go_at_call 29; refine (kindWord_any _ hop _).mono ?_; rintro e wt ⟨rfl, hbt⟩; have M := bl_trans (a := X) (by first | exact M | exact bl_alloc M _ | exact bl_alloc (bl_alloc M _) _ | exact bl_alloc (bl_alloc (bl_alloc M _) _) _) hbt))
 all_goals
  have HM := hid M
  clear M hbt; go_wp2_with fail; go_ret; exact ⟨⟨_, rfl, by rw [HC.out]; exact (OS.new2 _ _ _).mono (Nat.le_trans BX.out.size HM.out.size)⟩, bl_alloc (bl_trans BX.out HM.out) _⟩
set_option maxHeartbeats 64000000 in
theorem toks_z {n1 n2 : Option Addr} {d1 d2 B : Nat} {T : Tre} {i : Nat} {n : Nd} (hS : TkS n1 n2 d1 d2 B T i) (hW : WK T i) (hv : VN T i n) (hk : n.kind < 1 ∨ 34 < n.kind) {w : World} (hT : InC w B n1 n2 T) (hsum : (n.kids.map fun x => (tkA T x).length + 1).sum ≤ 90000) :
  Calls Tryz.prog 13 #[.agg #[.slice n1 T.nodes.length d1, .slice n2 T.tops.length d2], .int .i64 (i : Int)] w fun e w' => SaysT w (tkA T (i : Int)) e w' := by
 obtain ⟨nb, no, rfl, _, hnb, s9, c9, q0, q1, q2, q3, hkc, hcap⟩ := eNodeC_cells hT.c hv.at_
 have iI : (i : Int) < (T.nodes.length : Int) := by have := (List.getElem?_eq_some_iff.1 hv.at_).1; omega
 have HT := hid hT
 have HK : Hid (Els 1 cInt w B s9 n.kids) := hkc
 have HS := hid hS
 have HW := hid hW
 have HV := hid hv
 have HSUM := hid hsum
 have HCAP := hid hcap
 have HTL := hid hW.tl
 have HE : Hid (tkA T (i : Int) = tkN (tkA T) n) := tkA_eq hv
 obtain ⟨kd, hkd⟩ : ∃ k, Hid (n.kind = k) := ⟨_, hid rfl⟩
 obtain ⟨ml, hml⟩ : ∃ m, Hid (n.kids.length = m) := ⟨_, hid rfl⟩
 rw [hkd.out] at hk q0
 rw [hml.out] at q3
 have ka := (Blk.new w #[.slice (some ⟨nb, no, none⟩) T.nodes.length d1, .slice n2 T.tops.length d2] 31).alloc (.cells #[.int .i64 kd, .string n.text, .int .i64 n.num, .slice s9 ml c9] 66)
 have kn := Blk.new' (n := w.heap.size + 1) (w.alloc (.cells #[.slice (some ⟨nb, no, none⟩) T.nodes.length d1, .slice n2 T.tops.length d2] 31)) #[.int .i64 kd, .string n.text, .int .i64 n.num, .slice s9 ml c9] 66 (by simp)
 have bx : Below w.heap.size w ((w.alloc (.cells #[.slice (some ⟨nb, no, none⟩) T.nodes.length d1, .slice n2 T.tops.length d2] 31)).alloc (.cells #[.int .i64 kd, .string n.text, .int .i64 n.num, .slice s9 ml c9] 66)) := bl_alloc (bl_alloc (Below.refl _ _) _) _
 have hal := alloc_old
 have haf := alloc_oldf
 have KA0 := hid ka
 have KN0 := hid kn
 have BX0 := hid bx
 clear hT hkc hS hW hv hsum hcap ka kn bx; go_enter Tryz.func13, Tryz.ntmps13
 go_wp2_with fail; refine (l8Class_any kd _).mono ?_
 rintro e X ⟨rfl, hbx⟩
 have KA := hid (KA0.out.later hbx)
 have KN := hid (KN0.out.later hbx)
 have BX : Hid (Below w.heap.size w X) := bl_trans BX0.out hbx
 clear hbx KA0 KN0 BX0 q0 q1 q2 q3 hal haf; obtain ⟨z0, z1, z2, z3, z4⟩ := Blk.four' KN.out
 obtain ⟨t0, t1, t2⟩ := KA.out.two
 have hcl : cls kd = 0 := cls_none hk
 rw [hcl]
 clear hcl; have HC : Hid (tkA T (i : Int) = [n.text]) := by show _ = _; rw [HE.out]; unfold tkN; rw [hkd.out]; repeat rw [if_neg (by omega)]
 go_wp2_with fail; go_ret; exact ⟨⟨_, rfl, by rw [HC.out]; exact (OS.new1 X _).mono BX.out.size⟩, bl_alloc BX.out _⟩
end
section
open Go.RowKit
set_option maxRecDepth 100000
set_option maxHeartbeats 64000000 in
theorem toks_c {n1 n2 : Option Addr} {d1 d2 B : Nat} {T : Tre} {i : Nat} {n : Nd} (hS : TkS n1 n2 d1 d2 B T i) (hW : WK T i) (hv : VN T i n) (hk : n.kind = 28) {w : World} (hT : InC w B n1 n2 T) (hsum : (n.kids.map fun x => (tkA T x).length + 1).sum ≤ 90000) :
  Calls Tryz.prog 13 #[.agg #[.slice n1 T.nodes.length d1, .slice n2 T.tops.length d2], .int .i64 (i : Int)] w fun e w' => SaysT w (tkA T (i : Int)) e w' := by
 obtain ⟨nb, no, rfl, _, hnb, s9, c9, q0, q1, q2, q3, hkc, hcap⟩ := eNodeC_cells hT.c hv.at_
 have iI : (i : Int) < (T.nodes.length : Int) := by have := (List.getElem?_eq_some_iff.1 hv.at_).1; omega
 have HT := hid hT
 have HK : Hid (Els 1 cInt w B s9 n.kids) := hkc
 have HS := hid hS
 have HW := hid hW
 have HV := hid hv
 have HSUM := hid hsum
 have HCAP := hid hcap
 have HTL := hid hW.tl
 have HE : Hid (tkA T (i : Int) = tkN (tkA T) n) := tkA_eq hv
 obtain ⟨kd, hkd⟩ : ∃ k, Hid (n.kind = k) := ⟨_, hid rfl⟩
 obtain ⟨ml, hml⟩ : ∃ m, Hid (n.kids.length = m) := ⟨_, hid rfl⟩
 rw [hkd.out] at hk q0
 obtain rfl : kd = 28 := hk
 rw [hml.out] at q3
 have ka := (Blk.new w #[.slice (some ⟨nb, no, none⟩) T.nodes.length d1, .slice n2 T.tops.length d2] 31).alloc (.cells #[.int .i64 28, .string n.text, .int .i64 n.num, .slice s9 ml c9] 66)
 have kn := Blk.new' (n := w.heap.size + 1) (w.alloc (.cells #[.slice (some ⟨nb, no, none⟩) T.nodes.length d1, .slice n2 T.tops.length d2] 31)) #[.int .i64 28, .string n.text, .int .i64 n.num, .slice s9 ml c9] 66 (by simp)
 have bx : Below w.heap.size w ((w.alloc (.cells #[.slice (some ⟨nb, no, none⟩) T.nodes.length d1, .slice n2 T.tops.length d2] 31)).alloc (.cells #[.int .i64 28, .string n.text, .int .i64 n.num, .slice s9 ml c9] 66)) := bl_alloc (bl_alloc (Below.refl _ _) _) _
 have hal := alloc_old
 have haf := alloc_oldf
 have KA0 := hid ka
 have KN0 := hid kn
 have BX0 := hid bx
 clear hT hkc hS hW hv hsum hcap ka kn bx; go_enter Tryz.func13, Tryz.ntmps13
 go_wp2_with fail; refine (l8Class_any 28 _).mono ?_
 rintro e X ⟨rfl, hbx⟩
 have KA := hid (KA0.out.later hbx)
 have KN := hid (KN0.out.later hbx)
 have BX : Hid (Below w.heap.size w X) := bl_trans BX0.out hbx
 clear hbx KA0 KN0 BX0 q0 q1 q2 q3 hal haf; obtain ⟨z0, z1, z2, z3, z4⟩ := Blk.four' KN.out
 obtain ⟨t0, t1, t2⟩ := KA.out.two
 obtain ⟨a, an, hxa, hka, hai, hva, hca⟩ := HV.out.kidAt (j := 0) (c := 1) (by rw [hkd.out]; rfl)
 have kI0 : 0 < ml := by rw [← hml.out]; exact (List.getElem?_eq_some_iff.1 hxa).1
 have hna : ¬ an.kind = 29 ∧ ¬ an.kind = 30 := cls_no hca (by omega) (by omega)
 have hla := HTL.out a an hai hva
 have HVA := hid hva
 obtain ⟨fb, fo, rfl, _, hfb, pp0⟩ := eInt_cells HK.out hxa
 have PP0 : Hid (w.cell? ⟨fb, fo, none⟩ = some (.int .i64 (a : Int))) := pp0
 clear pp0 hxa hva hca; have HC : Hid (tkA T (i : Int) = [n.text, bEq] ++ tkA T (a : Int) ++ []) := by show _ = _; rw [HE.out]; unfold tkN; rw [hkd.out, hka, List.append_nil]; rfl
 clear hka; rw [show cls 28 = 8 from rfl]
 go_wp2_with fail; have BC : ∀ Y, Below X.heap.size X Y → Y.cell? ⟨w.heap.size, 0, none⟩ = some (.slice (some ⟨nb, no, none⟩) T.nodes.length d1) ∧ Y.cell? ⟨w.heap.size, 1, none⟩ = some (.slice n2 T.tops.length d2) ∧ Y.cell? ⟨w.heap.size + 1, 0, none⟩ = some (.int .i64 28) ∧ Y.cell? ⟨w.heap.size + 1, 1, none⟩ = some (.string n.text) ∧ Y.cell? ⟨w.heap.size + 1, 2, none⟩ = some (.int .i64 n.num) ∧ Y.cell? ⟨w.heap.size + 1, 3, none⟩ = some (.slice (some ⟨fb, fo, none⟩) ml c9) ∧ Y.cell? ⟨fb, fo, none⟩ = some (.int .i64 (a : Int)) := fun Y hY => ⟨(KA.out.later hY).cell 0 |>.trans rfl, (KA.out.later hY).cell 1 |>.trans rfl, (KN.out.later hY).cell 0 |>.trans rfl, (KN.out.later hY).cell 1 |>.trans rfl, (KN.out.later hY).cell 2 |>.trans rfl, (KN.out.later hY).cell 3 |>.trans rfl, ((bl_trans BX.out hY).cell (p := ⟨fb, fo, none⟩) hfb).trans PP0.out⟩
 have M : Below X.heap.size X X.drew := bl_drew (Below.refl _ _)
 go_region_held3 (fun Y => Y.cell? ⟨w.heap.size, 0, none⟩ = some (.slice (some ⟨nb, no, none⟩) T.nodes.length d1) ∧ Y.cell? ⟨w.heap.size, 1, none⟩ = some (.slice n2 T.tops.length d2) ∧ Y.cell? ⟨w.heap.size + 1, 0, none⟩ = some (.int .i64 28) ∧ Y.cell? ⟨w.heap.size + 1, 1, none⟩ = some (.string n.text) ∧ Y.cell? ⟨w.heap.size + 1, 2, none⟩ = some (.int .i64 n.num) ∧ Y.cell? ⟨w.heap.size + 1, 3, none⟩ = some (.slice (some ⟨fb, fo, none⟩) ml c9) ∧ Y.cell? ⟨fb, fo, none⟩ = some (.int .i64 (a : Int))) (first | exact BC _ M | exact BC _ (bl_alloc M _) | exact BC _ (bl_alloc (bl_alloc M _) _) | exact BC _ (bl_alloc (bl_alloc (bl_alloc M _) _) _))
  (first
   | (go_at_call 13; refine (calls_from (X := X) (by first | exact M | exact bl_alloc M _ | exact bl_alloc (bl_alloc M _) _ | exact bl_alloc (bl_alloc (bl_alloc M _) _) _) (HS.out a an _ hai HVA.out hna (HT.out.later (bl_trans BX.out (by first | exact M | exact bl_alloc M _ | exact bl_alloc (bl_alloc M _) _ | exact bl_alloc (bl_alloc (bl_alloc M _) _) _))))).mono ?_; rintro e wa ⟨⟨⟨va, rfl, ho⟩, M⟩, hb⟩)
   | (go_at_call 30; refine (calls_from (X := X) (by first | exact M | exact bl_alloc M _ | exact bl_alloc (bl_alloc M _) _ | exact bl_alloc (bl_alloc (bl_alloc M _) _) _) (around_any (La := [n.text, bEq]) (Lm := (tkA T (a : Int))) (Lb := []) (by (repeat (first | exact RT.nil _ | exact RT.n1 (by simp) | exact RT.n2 (by simp) | exact RT.n3 (by simp) | exact ho.rt | refine RT.alloc ?_ _ | refine RT.later ?_ hb))) (by (repeat (first | exact RT.nil _ | exact RT.n1 (by simp) | exact RT.n2 (by simp) | exact RT.n3 (by simp) | exact ho.rt | refine RT.alloc ?_ _ | refine RT.later ?_ hb))) (RT.nil _) (by simp only [List.length_append, List.length_cons, List.length_nil]; omega))).mono ?_; rintro e wz ⟨⟨⟨vz, rfl, hz⟩, M⟩, hbz⟩))
 all_goals
  have HZ := hid hz
  have HM := hid M
  clear hz M; go_wp2_with fail; go_ret; exact ⟨⟨_, rfl, by rw [HC.out]; exact HZ.out.mono BX.out.size⟩, bl_trans BX.out HM.out⟩
set_option maxHeartbeats 64000000 in
theorem toks_y {n1 n2 : Option Addr} {d1 d2 B : Nat} {T : Tre} {i : Nat} {n : Nd} (hS : TkS n1 n2 d1 d2 B T i) (hW : WK T i) (hv : VN T i n) (hk : n.kind = 34) {w : World} (hT : InC w B n1 n2 T) (hsum : (n.kids.map fun x => (tkA T x).length + 1).sum ≤ 90000) :
  Calls Tryz.prog 13 #[.agg #[.slice n1 T.nodes.length d1, .slice n2 T.tops.length d2], .int .i64 (i : Int)] w fun e w' => SaysT w (tkA T (i : Int)) e w' := by
 obtain ⟨nb, no, rfl, _, hnb, s9, c9, q0, q1, q2, q3, hkc, hcap⟩ := eNodeC_cells hT.c hv.at_
 have iI : (i : Int) < (T.nodes.length : Int) := by have := (List.getElem?_eq_some_iff.1 hv.at_).1; omega
 have HT := hid hT
 have HK : Hid (Els 1 cInt w B s9 n.kids) := hkc
 have HS := hid hS
 have HW := hid hW
 have HV := hid hv
 have HSUM := hid hsum
 have HCAP := hid hcap
 have HTL := hid hW.tl
 have HE : Hid (tkA T (i : Int) = tkN (tkA T) n) := tkA_eq hv
 obtain ⟨kd, hkd⟩ : ∃ k, Hid (n.kind = k) := ⟨_, hid rfl⟩
 obtain ⟨ml, hml⟩ : ∃ m, Hid (n.kids.length = m) := ⟨_, hid rfl⟩
 rw [hkd.out] at hk q0
 obtain rfl : kd = 34 := hk
 rw [hml.out] at q3
 have ka := (Blk.new w #[.slice (some ⟨nb, no, none⟩) T.nodes.length d1, .slice n2 T.tops.length d2] 31).alloc (.cells #[.int .i64 34, .string n.text, .int .i64 n.num, .slice s9 ml c9] 66)
 have kn := Blk.new' (n := w.heap.size + 1) (w.alloc (.cells #[.slice (some ⟨nb, no, none⟩) T.nodes.length d1, .slice n2 T.tops.length d2] 31)) #[.int .i64 34, .string n.text, .int .i64 n.num, .slice s9 ml c9] 66 (by simp)
 have bx : Below w.heap.size w ((w.alloc (.cells #[.slice (some ⟨nb, no, none⟩) T.nodes.length d1, .slice n2 T.tops.length d2] 31)).alloc (.cells #[.int .i64 34, .string n.text, .int .i64 n.num, .slice s9 ml c9] 66)) := bl_alloc (bl_alloc (Below.refl _ _) _) _
 have hal := alloc_old
 have haf := alloc_oldf
 have KA0 := hid ka
 have KN0 := hid kn
 have BX0 := hid bx
 clear hT hkc hS hW hv hsum hcap ka kn bx; go_enter Tryz.func13, Tryz.ntmps13
 go_wp2_with fail; refine (l8Class_any 34 _).mono ?_
 rintro e X ⟨rfl, hbx⟩
 have KA := hid (KA0.out.later hbx)
 have KN := hid (KN0.out.later hbx)
 have BX : Hid (Below w.heap.size w X) := bl_trans BX0.out hbx
 clear hbx KA0 KN0 BX0 q0 q1 q2 q3 hal haf; obtain ⟨z0, z1, z2, z3, z4⟩ := Blk.four' KN.out
 obtain ⟨t0, t1, t2⟩ := KA.out.two
 have h1 : n.kids.length = 1 := by have h := HV.out.len; rw [hkd.out] at h; simp [shp] at h; omega
 obtain rfl : ml = 1 := by rw [← hml.out, h1]
 obtain ⟨a, an, hxa, hka, hai, hva, hca⟩ := HV.out.kidAt (j := 0) (c := 3) (by rw [hkd.out]; rw [h1]; rfl)
 have kI0 : 0 < 1 := by rw [← hml.out]; exact (List.getElem?_eq_some_iff.1 hxa).1
 have hna : ¬ an.kind = 29 ∧ ¬ an.kind = 30 := cls_no hca (by omega) (by omega)
 have hla := HTL.out a an hai hva
 have HVA := hid hva
 obtain ⟨fb, fo, rfl, _, hfb, pp0⟩ := eInt_cells HK.out hxa
 have PP0 : Hid (w.cell? ⟨fb, fo, none⟩ = some (.int .i64 (a : Int))) := pp0
 clear pp0 hxa hva hca; have HC : Hid (tkA T (i : Int) = [bSystem, n.text] ++ tkA T (a : Int) ++ []) := by show _ = _; rw [HE.out]; unfold tkN; rw [hkd.out, hka, List.append_nil]; rfl
 clear hka h1; rw [show cls 34 = 9 from rfl]
 go_wp2_with fail; have BC : ∀ Y, Below X.heap.size X Y → Y.cell? ⟨w.heap.size, 0, none⟩ = some (.slice (some ⟨nb, no, none⟩) T.nodes.length d1) ∧ Y.cell? ⟨w.heap.size, 1, none⟩ = some (.slice n2 T.tops.length d2) ∧ Y.cell? ⟨w.heap.size + 1, 0, none⟩ = some (.int .i64 34) ∧ Y.cell? ⟨w.heap.size + 1, 1, none⟩ = some (.string n.text) ∧ Y.cell? ⟨w.heap.size + 1, 2, none⟩ = some (.int .i64 n.num) ∧ Y.cell? ⟨w.heap.size + 1, 3, none⟩ = some (.slice (some ⟨fb, fo, none⟩) 1 c9) ∧ Y.cell? ⟨fb, fo, none⟩ = some (.int .i64 (a : Int)) := fun Y hY => ⟨(KA.out.later hY).cell 0 |>.trans rfl, (KA.out.later hY).cell 1 |>.trans rfl, (KN.out.later hY).cell 0 |>.trans rfl, (KN.out.later hY).cell 1 |>.trans rfl, (KN.out.later hY).cell 2 |>.trans rfl, (KN.out.later hY).cell 3 |>.trans rfl, ((bl_trans BX.out hY).cell (p := ⟨fb, fo, none⟩) hfb).trans PP0.out⟩
 have M : Below X.heap.size X X.drew := bl_drew (Below.refl _ _)
 go_region_held3 (fun Y => Y.cell? ⟨w.heap.size, 0, none⟩ = some (.slice (some ⟨nb, no, none⟩) T.nodes.length d1) ∧ Y.cell? ⟨w.heap.size, 1, none⟩ = some (.slice n2 T.tops.length d2) ∧ Y.cell? ⟨w.heap.size + 1, 0, none⟩ = some (.int .i64 34) ∧ Y.cell? ⟨w.heap.size + 1, 1, none⟩ = some (.string n.text) ∧ Y.cell? ⟨w.heap.size + 1, 2, none⟩ = some (.int .i64 n.num) ∧ Y.cell? ⟨w.heap.size + 1, 3, none⟩ = some (.slice (some ⟨fb, fo, none⟩) 1 c9) ∧ Y.cell? ⟨fb, fo, none⟩ = some (.int .i64 (a : Int))) (first | exact BC _ M | exact BC _ (bl_alloc M _) | exact BC _ (bl_alloc (bl_alloc M _) _) | exact BC _ (bl_alloc (bl_alloc (bl_alloc M _) _) _))
  (first
   | (go_at_call 13; refine (calls_from (X := X) (by first | exact M | exact bl_alloc M _ | exact bl_alloc (bl_alloc M _) _ | exact bl_alloc (bl_alloc (bl_alloc M _) _) _) (HS.out a an _ hai HVA.out hna (HT.out.later (bl_trans BX.out (by first | exact M | exact bl_alloc M _ | exact bl_alloc (bl_alloc M _) _ | exact bl_alloc (bl_alloc (bl_alloc M _) _) _))))).mono ?_; rintro e wa ⟨⟨⟨va, rfl, ho⟩, M⟩, hb⟩)
   | (go_at_call 30; refine (calls_from (X := X) (by first | exact M | exact bl_alloc M _ | exact bl_alloc (bl_alloc M _) _ | exact bl_alloc (bl_alloc (bl_alloc M _) _) _) (around_any (La := [bSystem, n.text]) (Lm := (tkA T (a : Int))) (Lb := []) (by (repeat (first | exact RT.nil _ | exact RT.n1 (by simp) | exact RT.n2 (by simp) | exact RT.n3 (by simp) | exact ho.rt | refine RT.alloc ?_ _ | refine RT.later ?_ hb))) (by (repeat (first | exact RT.nil _ | exact RT.n1 (by simp) | exact RT.n2 (by simp) | exact RT.n3 (by simp) | exact ho.rt | refine RT.alloc ?_ _ | refine RT.later ?_ hb))) (RT.nil _) (by simp only [List.length_append, List.length_cons, List.length_nil]; omega))).mono ?_; rintro e wz ⟨⟨⟨vz, rfl, hz⟩, M⟩, hbz⟩))
 all_goals
  have HZ := hid hz
  have HM := hid M
  clear hz M; go_wp2_with fail; go_ret; exact ⟨⟨_, rfl, by rw [HC.out]; exact HZ.out.mono BX.out.size⟩, bl_trans BX.out HM.out⟩
end
section
open Go.RowKit
set_option maxRecDepth 100000
set_option maxHeartbeats 64000000 in
theorem toks_f {n1 n2 : Option Addr} {d1 d2 B : Nat} {T : Tre} {i : Nat} {n : Nd} (hS : TkS n1 n2 d1 d2 B T i) (hW : WK T i) (hv : VN T i n) (hk : n.kind = 33) {w : World} (hT : InC w B n1 n2 T) (hsum : (n.kids.map fun x => (tkA T x).length + 1).sum ≤ 90000) :
  Calls Tryz.prog 13 #[.agg #[.slice n1 T.nodes.length d1, .slice n2 T.tops.length d2], .int .i64 (i : Int)] w fun e w' => SaysT w (tkA T (i : Int)) e w' := by
 obtain ⟨nb, no, rfl, _, hnb, s9, c9, q0, q1, q2, q3, hkc, hcap⟩ := eNodeC_cells hT.c hv.at_
 have iI : (i : Int) < (T.nodes.length : Int) := by have := (List.getElem?_eq_some_iff.1 hv.at_).1; omega
 have HT := hid hT
 have HK : Hid (Els 1 cInt w B s9 n.kids) := hkc
 have HS := hid hS
 have HW := hid hW
 have HV := hid hv
 have HSUM := hid hsum
 have HCAP := hid hcap
 have HTL := hid hW.tl
 have HE : Hid (tkA T (i : Int) = tkN (tkA T) n) := tkA_eq hv
 obtain ⟨kd, hkd⟩ : ∃ k, Hid (n.kind = k) := ⟨_, hid rfl⟩
 obtain ⟨ml, hml⟩ : ∃ m, Hid (n.kids.length = m) := ⟨_, hid rfl⟩
 rw [hkd.out] at hk q0
 obtain rfl : kd = 33 := hk
 rw [hml.out] at q3
 have ka := (Blk.new w #[.slice (some ⟨nb, no, none⟩) T.nodes.length d1, .slice n2 T.tops.length d2] 31).alloc (.cells #[.int .i64 33, .string n.text, .int .i64 n.num, .slice s9 ml c9] 66)
 have kn := Blk.new' (n := w.heap.size + 1) (w.alloc (.cells #[.slice (some ⟨nb, no, none⟩) T.nodes.length d1, .slice n2 T.tops.length d2] 31)) #[.int .i64 33, .string n.text, .int .i64 n.num, .slice s9 ml c9] 66 (by simp)
 have bx : Below w.heap.size w ((w.alloc (.cells #[.slice (some ⟨nb, no, none⟩) T.nodes.length d1, .slice n2 T.tops.length d2] 31)).alloc (.cells #[.int .i64 33, .string n.text, .int .i64 n.num, .slice s9 ml c9] 66)) := bl_alloc (bl_alloc (Below.refl _ _) _) _
 have hal := alloc_old
 have haf := alloc_oldf
 have KA0 := hid ka
 have KN0 := hid kn
 have BX0 := hid bx
 clear hT hkc hS hW hv hsum hcap ka kn bx; go_enter Tryz.func13, Tryz.ntmps13
 go_wp2_with fail; refine (l8Class_any 33 _).mono ?_
 rintro e X ⟨rfl, hbx⟩
 have KA := hid (KA0.out.later hbx)
 have KN := hid (KN0.out.later hbx)
 have BX : Hid (Below w.heap.size w X) := bl_trans BX0.out hbx
 clear hbx KA0 KN0 BX0 q0 q1 q2 q3 hal haf; obtain ⟨z0, z1, z2, z3, z4⟩ := Blk.four' KN.out
 obtain ⟨t0, t1, t2⟩ := KA.out.two
 have hlen := HV.out.len
 rw [hkd.out] at hlen
 have h1 : 1 ≤ n.kids.length := by simp [shp] at hlen; omega
 clear hlen; obtain ⟨P, hP⟩ : ∃ P, Hid (ml = P + 1) := ⟨ml - 1, by show _ = _; rw [← hml.out]; omega⟩
 obtain ⟨a, an, hxa, hka, hai, hva, hca⟩ := HV.out.kidAt (j := P) (c := 3) (by rw [hkd.out, hml.out, hP.out, show shp 33 (P + 1) = List.replicate P 7 ++ [3] by simp [shp], List.getElem?_append_right (by simp)]; simp)
 have hna : ¬ an.kind = 29 ∧ ¬ an.kind = 30 := cls_no hca (by omega) (by omega)
 have hla := HTL.out a an hai hva
 have HVA := hid hva
 obtain ⟨fb, fo, rfl, _, hfb, ppp⟩ := eInt_cells HK.out hxa
 have PPP : Hid (w.cell? ⟨fb, fo + P, none⟩ = some (.int .i64 (a : Int))) := ppp
 clear ppp hxa hva hca; have hop : 1 ≤ n.num ∧ n.num ≤ 4 := has_op32 HV.out (Or.inr hkd.out)
 have HC : Hid (tkA T (i : Int) = [bFn, n.text, bLp] ++ (cm (n.kids.dropLast.map (tkA T))) ++ [bRp, kiT n.num] ++ tkA T (a : Int)) := by show _ = _; rw [HE.out]; unfold tkN; rw [hkd.out, hml.out, show ml - 1 = P by rw [hP.out]; omega, hka]; rfl
 clear hka; have hdl : n.kids.dropLast.length = P := by rw [List.length_dropLast, hml.out, hP.out]; omega
 have HL : Hid (Els 1 cInt w B (some ⟨fb, fo, none⟩) n.kids.dropLast) := els_init HK.out
 have hls : (n.kids.dropLast.map fun x => (tkA T x).length + 1).sum ≤ 90000 := by have h3 := HSUM.out; have h4 := sum_init (ks := n.kids) (g := fun x => (tkA T x).length + 1); omega
 have HKS : Hid (∀ x ∈ n.kids.dropLast, ∃ (k : Nat) (m : Nd), x = k ∧ k < i ∧ VN T k m ∧ (¬ m.kind = 29 ∧ ¬ m.kind = 30)) := fun x hx => HV.out.kid_no (by rw [hkd.out]; omega) x (List.dropLast_subset _ hx)
 have hcm : (cm (n.kids.dropLast.map (tkA T))).length ≤ 90000 := by have := cm_len (tkA T) n.kids.dropLast; omega
 have hcp : P + 1 ≤ c9 := by rw [← hP.out, ← hml.out]; exact HCAP.out
 have hcpI : (P : Int) ≤ (c9 : Int) := by omega
 have hcpN : P ≤ c9 := by omega
 have hP0 : (0 : Int) ≤ (P : Int) := by omega
 have hPI : (P : Int) < (ml : Int) := by rw [hP.out]; omega
 have hPN : P < ml := by rw [hP.out]; omega
 have hwP : IntKind.i64.wrap (P : Int) = (P : Int) := by have h4 := hls; have h5 : n.kids.dropLast.length ≤ (n.kids.dropLast.map fun x => (tkA T x).length + 1).sum := len_sum _; rw [IntKind.wrap_i64]; omega
 have tw9 : IntKind.i64.wrap ((ml : Int) - 1) = (P : Int) := by rw [hP.out]; have h3 := HCAP.out; have h4 := hls; have h5 : n.kids.dropLast.length ≤ (n.kids.dropLast.map fun x => (tkA T x).length + 1).sum := len_sum _; rw [IntKind.wrap_i64]; omega
 rw [show cls 33 = 9 from rfl]
 go_wp2_with fail; have BC : ∀ Y, Below X.heap.size X Y → Y.cell? ⟨w.heap.size, 0, none⟩ = some (.slice (some ⟨nb, no, none⟩) T.nodes.length d1) ∧ Y.cell? ⟨w.heap.size, 1, none⟩ = some (.slice n2 T.tops.length d2) ∧ Y.cell? ⟨w.heap.size + 1, 0, none⟩ = some (.int .i64 33) ∧ Y.cell? ⟨w.heap.size + 1, 1, none⟩ = some (.string n.text) ∧ Y.cell? ⟨w.heap.size + 1, 2, none⟩ = some (.int .i64 n.num) ∧ Y.cell? ⟨w.heap.size + 1, 3, none⟩ = some (.slice (some ⟨fb, fo, none⟩) ml c9) ∧ Y.cell? ⟨fb, fo + P, none⟩ = some (.int .i64 (a : Int)) := fun Y hY => ⟨(KA.out.later hY).cell 0 |>.trans rfl, (KA.out.later hY).cell 1 |>.trans rfl, (KN.out.later hY).cell 0 |>.trans rfl, (KN.out.later hY).cell 1 |>.trans rfl, (KN.out.later hY).cell 2 |>.trans rfl, (KN.out.later hY).cell 3 |>.trans rfl, ((bl_trans BX.out hY).cell (p := ⟨fb, fo + P, none⟩) hfb).trans PPP.out⟩
 have M : Below X.heap.size X X.drew := bl_drew (Below.refl _ _)
 go_region_held3 (fun Y => Y.cell? ⟨w.heap.size, 0, none⟩ = some (.slice (some ⟨nb, no, none⟩) T.nodes.length d1) ∧ Y.cell? ⟨w.heap.size, 1, none⟩ = some (.slice n2 T.tops.length d2) ∧ Y.cell? ⟨w.heap.size + 1, 0, none⟩ = some (.int .i64 33) ∧ Y.cell? ⟨w.heap.size + 1, 1, none⟩ = some (.string n.text) ∧ Y.cell? ⟨w.heap.size + 1, 2, none⟩ = some (.int .i64 n.num) ∧ Y.cell? ⟨w.heap.size + 1, 3, none⟩ = some (.slice (some ⟨fb, fo, none⟩) ml c9) ∧ Y.cell? ⟨fb, fo + P, none⟩ = some (.int .i64 (a : Int))) (first | exact BC _ M | exact BC _ (bl_alloc M _) | exact BC _ (bl_alloc (bl_alloc M _) _) | exact BC _ (bl_alloc (bl_alloc (bl_alloc M _) _) _))
  (first
   | (go_at_call 31; refine (calls_from (X := X) (by first | exact M | exact bl_alloc M _ | exact bl_alloc (bl_alloc M _) _ | exact bl_alloc (bl_alloc (bl_alloc M _) _) _) (list_n HS.out (HT.out.later (bl_trans BX.out (by first | exact M | exact bl_alloc M _ | exact bl_alloc (bl_alloc M _) _ | exact bl_alloc (bl_alloc (bl_alloc M _) _) _))) (HL.out.later cInt_keeps (bl_trans BX.out (by first | exact M | exact bl_alloc M _ | exact bl_alloc (bl_alloc M _) _ | exact bl_alloc (bl_alloc (bl_alloc M _) _) _))) HKS.out (by omega) hdl)).mono ?_; rintro e wl ⟨⟨⟨vl, rfl, ho⟩, M⟩, hb⟩)
   | (go_at_call 29; refine (kindWord_any _ hop _).mono ?_; rintro e wt ⟨rfl, hbt⟩; have M := bl_trans (a := X) (by first | exact M | exact bl_alloc M _ | exact bl_alloc (bl_alloc M _) _ | exact bl_alloc (bl_alloc (bl_alloc M _) _) _) hbt)
   | (go_at_call 30; refine (calls_from (X := X) (by first | exact M | exact bl_alloc M _ | exact bl_alloc (bl_alloc M _) _ | exact bl_alloc (bl_alloc (bl_alloc M _) _) _) (around_any (La := [bFn, n.text, bLp]) (Lm := (cm (n.kids.dropLast.map (tkA T)))) (Lb := [bRp, kiT n.num]) (by (repeat (first | exact RT.nil _ | exact RT.n1 (by simp) | exact RT.n2 (by simp) | exact RT.n3 (by simp) | exact ho.rt | refine RT.alloc ?_ _ | refine RT.later ?_ hb | refine RT.later ?_ hbt))) (by (repeat (first | exact RT.nil _ | exact RT.n1 (by simp) | exact RT.n2 (by simp) | exact RT.n3 (by simp) | exact ho.rt | refine RT.alloc ?_ _ | refine RT.later ?_ hb | refine RT.later ?_ hbt))) (by (repeat (first | exact RT.nil _ | exact RT.n1 (by simp) | exact RT.n2 (by simp) | exact RT.n3 (by simp) | exact ho.rt | refine RT.alloc ?_ _ | refine RT.later ?_ hb | refine RT.later ?_ hbt))) (by simp only [List.length_append, List.length_cons, List.length_nil]; omega))).mono ?_; rintro e wz ⟨⟨⟨vz, rfl, hz⟩, M⟩, hbz⟩))
 all_goals
  obtain ⟨LO, hLO⟩ : ∃ L, Hid ([bFn, n.text, bLp] ++ (cm (n.kids.dropLast.map (tkA T))) ++ [bRp, kiT n.num] = L) := ⟨_, hid rfl⟩
  have hol := hz
  rw [hLO.out] at hol
  have hlo : LO.length ≤ 100000 := by rw [← hLO.out]; simp only [List.length_append, List.length_cons, List.length_nil]; omega
  obtain ⟨s7, c7, rfl⟩ := hol.shape
  have HOL := hid hol
  have HM6 := hid M
  have HCC : Hid (tkA T (i : Int) = LO ++ tkA T (a : Int)) := by show _ = _; rw [HC.out, ← hLO.out]
  clear hol hz M hbz hb ho hbt; go_wp2_with fail; have M : Below X.heap.size X wz.drew := bl_drew HM6.out
  go_region_held3 (fun Y => Y.cell? ⟨w.heap.size, 0, none⟩ = some (.slice (some ⟨nb, no, none⟩) T.nodes.length d1) ∧ Y.cell? ⟨w.heap.size, 1, none⟩ = some (.slice n2 T.tops.length d2) ∧ Y.cell? ⟨w.heap.size + 1, 0, none⟩ = some (.int .i64 33) ∧ Y.cell? ⟨w.heap.size + 1, 1, none⟩ = some (.string n.text) ∧ Y.cell? ⟨w.heap.size + 1, 2, none⟩ = some (.int .i64 n.num) ∧ Y.cell? ⟨w.heap.size + 1, 3, none⟩ = some (.slice (some ⟨fb, fo, none⟩) ml c9) ∧ Y.cell? ⟨fb, fo + P, none⟩ = some (.int .i64 (a : Int))) (first | exact BC _ M | exact BC _ (bl_alloc M _) | exact BC _ (bl_alloc (bl_alloc M _) _) | exact BC _ (bl_alloc (bl_alloc (bl_alloc M _) _) _))
   (first
    | (go_at_call 13; refine (calls_from (X := X) (by first | exact M | exact bl_alloc M _ | exact bl_alloc (bl_alloc M _) _ | exact bl_alloc (bl_alloc (bl_alloc M _) _) _) (HS.out a an _ hai HVA.out hna (HT.out.later (bl_trans BX.out (by first | exact M | exact bl_alloc M _ | exact bl_alloc (bl_alloc M _) _ | exact bl_alloc (bl_alloc (bl_alloc M _) _) _))))).mono ?_; rintro e wc ⟨⟨⟨vc, rfl, ho⟩, M⟩, hb⟩; obtain ⟨s8, c8, rfl⟩ := ho.shape; have hO2 := (HOL.out.later (bl_drew (Below.refl _ _))).later hb)
    | (refine step_app M M.size hO2 ho.rt rfl rfl (by omega) rfl rfl _ _ rfl rfl rfl ?_; intro s6 c6 wy hz M))
  have HZ := hid hz
  have HM := hid M
  clear hz M hO2 ho hb; go_wp2_with fail; go_ret; exact ⟨⟨_, rfl, by rw [HCC.out]; exact HZ.out.mono BX.out.size⟩, bl_trans BX.out HM.out⟩
end
section
open Go.RowKit
set_option maxRecDepth 100000
structure Pr (w0 w : World) (p : Nat) (nv v : Value) (L : List ByteArray) : Prop where
 bx : Blk w p #[nv, v] 49
 os : OS w w0.heap.size v L
 ne : ¬ v.ownBlock = some p
 hp : w0.heap.size ≤ p
 bl : Below w0.heap.size w0 w
structure Fr (w w' : World) (p : Nat) (v v' : Value) : Prop where
 size : w.heap.size ≤ w'.heap.size
 blk : ∀ k, k < w.heap.size → ¬ k = p → ¬ v.ownBlock = some k → w'.heap[k]? = w.heap[k]?
 own : ∀ g, v'.ownBlock = some g → v.ownBlock = some g ∨ w.heap.size ≤ g
theorem Fr.refl (w : World) (p : Nat) (v : Value) : Fr w w p v v := ⟨Nat.le_refl _, fun _ _ _ _ => rfl, fun g h => Or.inl h⟩
theorem Fr.trans {a b c : World} {p : Nat} {u v x : Value} (h : Fr a b p u v) (g : Fr b c p v x) : Fr a c p u x := by
 refine ⟨Nat.le_trans h.size g.size, fun k hk hp hu => ?_, fun q hq => ?_⟩
 ·
  rw [g.blk k (Nat.lt_of_lt_of_le hk h.size) hp (fun e => by rcases h.own k e with e | e; exact hu e; omega)]
  exact h.blk k hk hp hu
 rcases g.own q hq with e | e
 ·
  exact h.own q e
 exact Or.inr (Nat.le_trans h.size e)
theorem Fr.of {w w' : World} {p : Nat} {v : Value} (h : Below w.heap.size w w') : Fr w w' p v v := ⟨h.size, fun k hk _ _ => h.block k hk, fun g e => Or.inl e⟩
theorem Blk.fr {w w' : World} {p b : Nat} {v v' : Value} {c : Array Value} {t : TypeId} (h : Blk w b c t) (hf : Fr w w' p v v') (hp : ¬ b = p) (hv : ¬ v.ownBlock = some b) : Blk w' b c t := by
 unfold Blk
 rw [hf.blk b h.lt hp hv]
 exact h
theorem Fr.off {w w' : World} {p b : Nat} {v v' : Value} (hf : Fr w w' p v v') (hb : b < w.heap.size) (hv : ¬ v.ownBlock = some b) : ¬ v'.ownBlock = some b := fun e => by
 rcases hf.own b e with e | e
 ·
  exact hv e
 omega
theorem Pr.later {w0 w w' : World} {p : Nat} {nv v : Value} {L : List ByteArray} (h : Pr w0 w p nv v L) (hb : Below w.heap.size w w') : Pr w0 w' p nv v L :=
 ⟨h.bx.later hb, h.os.later hb, h.ne, h.hp, h.bl.trans (hb.mono h.bl.size)⟩
theorem Pr.own_lt {w0 w : World} {p : Nat} {nv v : Value} {L : List ByteArray} (h : Pr w0 w p nv v L) {b : Nat} (hb : w.heap.size ≤ b) : ¬ v.ownBlock = some b := fun e => by
 have := (World.ownsRow.lt h.os b e).2
 omega
def SaysQ (w0 w : World) (p : Nat) (nv v : Value) (L M : List ByteArray) (e : Ending) (w' : World) : Prop := e = .returned (.tuple #[]) ∧ ∃ v', Pr w0 w' p nv v' (L ++ M) ∧ Fr w w' p v v'
theorem app_grown {B : Nat} {w : World} (hB : B ≤ w.heap.size) (ty : TypeId) {v x : Value} {L M : List ByteArray} (hO : OS w B v L) (hR : RT w x M) (hl : L.length + M.length ≤ 1048576) :
  ∃ v' w', (Builtin.append_ #[39, 39] ty #[v, x]).run Tryz.prog w = .ok v' w' ∧ OS w' B v' (L ++ M) ∧ w.grownBy w' v.ownBlock ∧ (∀ g, v'.ownBlock = some g → v.ownBlock = some g ∨ w.heap.size ≤ g) := by
 obtain ⟨i0, hi, hz0, hz1, hz2⟩ := info_parts Tryz.infoS
 rcases hR with ⟨d', rfl, rfl⟩ | ⟨b, o, d', rfl, hlt, hM⟩
 ·
  obtain ⟨s, c, rfl⟩ := hO.shape
  refine ⟨_, w, run_append_zero w ty s _ c d' hO.cap, by rw [List.append_nil]; exact hO, ⟨rfl, rfl, rfl, Nat.le_refl _, fun _ _ _ => rfl⟩, fun g h => Or.inl h⟩
 have hnews : ∀ j u, (M.map Value.string)[j]? = some u → w.cell? ((⟨b, o, none⟩ : Addr).add j) = some u := by
  intro j u hu
  have hj : j < M.length := by have := (List.getElem?_eq_some_iff.1 hu).1; simpa using this
  rw [Go.WideShapes.add_plain, hM j hj]
  rw [List.getElem?_map] at hu
  cases hx : M[j]? with
  | none => rw [hx] at hu; simp at hu
  | some y => rw [hx] at hu; simpa using hu
 obtain ⟨v', w', hrun, h2, h3, _, h5⟩ := run_append_own_at (P := Tryz.prog) w B 39 ty 9 i0 (.string ByteArray.empty) 1 16 Tryz.underlying39 hi hz0 hz1 hz2 rfl (by decide) v L.length (L.map Value.string) hO ⟨b, o, none⟩ M.length d' (M.map Value.string) (by simp) hnews (fun u hu => by obtain ⟨y, _, rfl⟩ := List.mem_map.1 hu; rfl) (by unfold maxLen; omega) (by omega) hB
 have hO2 : OS w' B v' (L ++ M) := by
  unfold OS
  rw [List.length_append, List.map_append]
  exact h2
 refine ⟨v', w', hrun, hO2, h3, fun g hg => ?_⟩
 rcases h5 with h5 | h5
 ·
  left; rw [← h5]; exact hg
 right; rw [h5] at hg; cases hg; exact Nat.le_refl _
section
variable {ops : Array Oper} {o : Oper} {a : Act} {w w' : World} {Q : Exit → Act → World → Prop}
theorem wpl_run {rest : List Oper} (hg : o.guard = none) (s x : Operand) (ho : o.op = .call { callee := .builtin .append, args := #[s, x], argTypes := #[39, 39] }) {v u v' : Value} (hs : a.eval s = v) (hx : a.eval x = u) (hrun : (Builtin.append_ #[39, 39] o.type #[v, u]).run Tryz.prog w = .ok v' w')
  (hK : wpList Tryz.prog ops Q rest (a.put o.dst v') w') : wpList Tryz.prog ops Q (o :: rest) a w := by
 refine wpList_plain hg fun K hK2 => ?_
 unfold Oper.wp
 simp only [execOp, ho, resolve, invoke, builtin, List.map_toArray, List.map_cons, List.map_nil, hs, hx, Sem.run_bind, Sem.run_pure, hrun, Result.andThen_ok]
 exact hK2 _ _ hK
end
theorem OS.off {w w' : World} {B : Nat} {v : Value} {L : List ByteArray} {b : Option Nat} (h : OS w B v L) (hg : w.grownBy w' b) (hn : ∀ g, b = some g → ¬ v.ownBlock = some g) : OS w' B v L := by
 refine World.ownsRow.kept h hg ?_
 cases b with
 | none => 
  cases v.ownBlock with
  | none => exact Or.inl rfl
  | some b => exact Or.inr (by simp)
 | some g =>
  have := hn g rfl
  cases hv : v.ownBlock with
  | none => exact Or.inl rfl
  | some b => exact Or.inr (by rw [hv] at this; simpa using this)
theorem set_grown (w : World) (a : Addr) (u : Value) : w.grownBy (w.setCell a u) (some a.block) := ⟨rfl, rfl, rfl, by simp [World.setCell], fun k hk hne => Below.heap_setCell _ _ _ _ (fun e => hne (by rw [e]))⟩
set_option maxHeartbeats 4000000 in
theorem put_any {w0 w : World} {p : Nat} {nv v x : Value} {L M : List ByteArray} (h : Pr w0 w p nv v L) (hx : RT w x M) (hl : L.length + M.length ≤ 1048576) :
  Calls Tryz.prog 58 #[.pointer (some ⟨p, 0, none⟩), x] w fun e w' => SaysQ w0 w p nv v L M e w' := by
 obtain ⟨v', w', hrun, hO, hg, hown⟩ := app_grown h.bl.size 39 h.os hx hl
 have hp0 : ¬ v'.ownBlock = some p := fun e => by
  rcases hown p e with e | e
  ·
   exact h.ne e
  have := h.bx.lt; omega
 have hb : Blk w' p #[nv, v] 49 := by
  unfold Blk
  rw [hg.block p h.bx.lt (fun e => h.ne e.symm)]
  exact h.bx
 have hF : Fr w (w'.setCell ⟨p, 1, none⟩ v') p v v' := by
  refine ⟨Nat.le_trans hg.size (by simp [World.setCell]), fun k hk hp hv => ?_, hown⟩
  rw [Below.heap_setCell _ _ _ _ (by exact hp)]
  exact hg.block k hk (fun e => hv e.symm)
 have hP : Pr w0 (w'.setCell ⟨p, 1, none⟩ v') p nv v' (L ++ M) := by
  refine ⟨hb.set 1 v', hO.off (set_grown _ _ _) (fun g e => by cases e; exact hp0), hp0, h.hp, ?_⟩
  have h1 : Below w0.heap.size w0 w' := h.bl.grown hg h.bl.size (fun k e => by
   rcases h.os.form with ⟨e1, _⟩ | ⟨g, cap, e1, hg1, _⟩
   ·
    rw [e1] at e; cases e
   rw [e1] at e; cases e; exact hg1)
  exact h1.setCell h.hp _
 have HF := hid hF
 have HP := hid hP
 have x1 : w.cell? ⟨p, 1, none⟩ = some v := (h.bx.cell 1).trans rfl
 have y0 : w'.cell? ⟨p, 1, none⟩ = some v := (hb.cell 1).trans rfl
 have y1 := hb.frozen 1
 obtain ⟨s1, c1, rfl⟩ := hx.shape
 obtain ⟨s2, c2, rfl⟩ := h.os.shape
 obtain ⟨s3, c3, rfl⟩ := hO.shape
 obtain ⟨N3, hN3⟩ : ∃ N, Hid ((L ++ M).length = N) := ⟨_, hid rfl⟩
 rw [hN3.out] at HF HP hrun
 clear hF hP hb hp0 hown hg hO h hx; go_enter Tryz.func58, Tryz.ntmps58
 go_wp2_with (at_builtin; refine wpl_run rfl _ _ rfl rfl rfl hrun ?_)
 go_wp2_with fail; refine bodyPost_ret (v := .tuple #[]) (by simp [results, Tryz.results58]) rfl ?_
 exact ⟨rfl, _, HP.out, HF.out⟩
end
section
open Go.RowKit
set_option maxRecDepth 100000
def NdP (w0 : World) (p : Nat) (nv : Value) (T : Tre) (f : Nat) : Prop :=
 ∀ (i : Nat) (n : Nd) (w : World) (v : Value) (L : List ByteArray), i < f → VN T i n → (1 ≤ n.kind ∧ n.kind ≤ 34) → Pr w0 w p nv v L → L.length + (tkA T (i : Int)).length ≤ 500000 → Calls Tryz.prog 17 #[.pointer (some ⟨p, 0, none⟩), .int .i64 (i : Int)] w fun e w' => SaysQ w0 w p nv v L (tkA T (i : Int)) e w'
theorem cls_in {c k : Int} (h : clsOk c k) : 1 ≤ k ∧ k ≤ 34 := by
 by_cases hk : k < 1 ∨ 34 < k
 ·
  unfold clsOk at h
  split at h
  ·
   omega
  rw [cls_none hk] at h
  exact absurd h.1.symm h.2
 omega
theorem VN.kid_in {T : Tre} {i : Nat} {n : Nd} (h : VN T i n) : ∀ x ∈ n.kids, ∃ (k : Nat) (m : Nd), x = k ∧ k < i ∧ VN T k m ∧ (1 ≤ m.kind ∧ m.kind ≤ 34) := by
 intro x hx
 obtain ⟨j, hj, rfl⟩ := List.getElem_of_mem hx
 have hl := h.len
 obtain ⟨c, hc⟩ : ∃ c, (shp n.kind n.kids.length)[j]? = some c := ⟨_, List.getElem?_eq_getElem (by omega)⟩
 obtain ⟨k, m, hxk, _, hki, hvk, hck⟩ := h.kidAt hc
 rw [List.getElem?_eq_getElem hj] at hxk
 exact ⟨k, m, by simpa using hxk, hki, hvk, cls_in hck⟩
theorem fl_take {ks : List Int} {g : Int → List ByteArray} {k : Nat} {x : Int} (hx : ks[k]? = some x) : ((ks.take (k + 1)).map g).flatten = ((ks.take k).map g).flatten ++ g x := by
 rw [List.take_add_one, hx]; simp
theorem fl_part {ks : List Int} {g : Int → List ByteArray} {k : Nat} : ((ks.take k).map g).flatten.length ≤ (ks.map g).flatten.length := by
 have e : (ks.map g).flatten = ((ks.take k).map g).flatten ++ ((ks.drop k).map g).flatten := by rw [← List.flatten_append, ← List.map_append, List.take_append_drop]
 rw [e, List.length_append]; omega
theorem cm_tight {α : Type} (g : α → List ByteArray) (ks : List α) (h : ¬ ks = []) : (ks.map fun x => (g x).length + 1).sum = (cm (ks.map g)).length + 1 := by
 cases ks with
 | nil => exact absurd rfl h
 | cons x xs =>
  have : ∀ ys : List α, ((ys.map g).map fun y => bComma :: y).flatten.length = (ys.map fun x => (g x).length + 1).sum := by
   intro ys
   induction ys with
   | nil => rfl
   | cons y ys ih => simp only [List.map_cons, List.flatten_cons, List.length_append, List.sum_cons, ih, List.length_cons]
  simp only [List.map_cons, cm, List.length_append, this, List.sum_cons]
  omega
theorem cm_part (g : Int → List ByteArray) (ks : List Int) (k : Nat) : (cm ((ks.take k).map g)).length ≤ (cm (ks.map g)).length := by
 by_cases h : ks.take k = []
 ·
  rw [h]; simp [cm]
 have h2 : ¬ ks = [] := fun e => h (by rw [e]; simp)
 have e1 := cm_tight g (ks.take k) h
 have e2 := cm_tight g ks h2
 have e3 := sum_take (ks := ks) (g := fun x => (g x).length + 1) (k := k)
 omega
section
variable {w0 w : World} {p : Nat} {nv v : Value} {T : Tre} {f : Nat} {L : List ByteArray}
set_option maxHeartbeats 16000000 in
theorem row_any (hN : NdP w0 p nv T f) {sk : Option Addr} {ck Bk m : Nat} {ks : List Int} (hm : ks.length = m) (hm2 : m ≤ 1048576) (hK : Els 1 cInt w0 Bk sk ks) (hks : ∀ x ∈ ks, ∃ (k : Nat) (m : Nd), x = k ∧ k < f ∧ VN T k m ∧ (1 ≤ m.kind ∧ m.kind ≤ 34)) (h : Pr w0 w p nv v L) (hl : L.length + ((ks.map (tkA T)).flatten).length ≤ 500000) :
  Calls Tryz.prog 65 #[.pointer (some ⟨p, 0, none⟩), .slice sk m ck] w fun e w' => SaysQ w0 w p nv v L ((ks.map (tkA T)).flatten) e w' := by
 have HK := hid hK
 have HN := hid hN
 have HM := hid hm
 have H0 : Hid (Pr w0 w p nv v (L ++ ((ks.take 0).map (tkA T)).flatten)) := by show Pr _ _ _ _ _ _; simpa using h
 have F0 : Hid (Fr w w p v v) := Fr.refl w p v
 clear hK hN h hm; go_enter Tryz.func65, Tryz.ntmps65
 go_wp2_with fail; go_loopw [8] (fun iv wr => ∃ (k : Nat) (vk : Value), k ≤ m ∧ iv = .int .i64 k ∧ Hid (Pr w0 wr p nv vk (L ++ ((ks.take k).map (tkA T)).flatten)) ∧ Hid (Fr w wr p v vk)) (fun iv _ => m - (intOf iv).toNat)
 case atStart => exact ⟨0, v, Nat.zero_le _, rfl, H0, F0⟩
 clear H0 F0; obtain ⟨k, vk, hk, rfl, HP, HF⟩ := hrel
 by_cases hlt : k < m
 rotate_left 1
 ·
  have hke : k = m := by omega
  subst hke
  go_wp2_with fail; refine bodyPost_ret (v := .tuple #[]) (by simp [results, Tryz.results65]) rfl ?_
  have h1 := HP.out
  rw [← HM.out, List.take_length] at h1
  exact ⟨rfl, vk, h1, HF.out⟩
 obtain ⟨x, hx⟩ : ∃ x, ks[k]? = some x := get_some (by rw [HM.out]; exact hlt)
 obtain ⟨a, an, rfl, haf, hva, hra⟩ := hks _ (List.mem_of_getElem? hx)
 have HE := hid (fl_take (g := tkA T) hx)
 have hp1 := fl_part (ks := ks) (g := tkA T) (k := k + 1)
 obtain ⟨fb, fo, rfl, _, hfb, pp⟩ := eInt_cells HK.out hx
 have kI : (k : Int) < (m : Int) := by omega
 have v0 := (HP.out.bl.cell (p := ⟨fb, fo + k, none⟩) hfb).trans pp
 have hn := hid (HN.out a an wr vk (L ++ ((ks.take k).map (tkA T)).flatten) haf hva hra HP.out (by rw [HE.out, List.length_append] at hp1; rw [List.length_append]; omega))
 clear hx pp hva hp1; go_wp2_with fail; refine hn.out.mono ?_
 rintro e w2 ⟨rfl, v2, h2, f2⟩
 have HP2 : Hid (Pr w0 w2 p nv v2 (L ++ ((ks.take (k + 1)).map (tkA T)).flatten)) := by show Pr _ _ _ _ _ _; rw [HE.out, ← List.append_assoc]; exact h2
 have HF2 := hid (HF.out.trans f2)
 clear h2 f2 hn v0 HP HF HE; go_wp2_with fail; go_roundw
 case rel => exact ⟨k + 1, v2, by omega, by go_num, HP2, HF2⟩
 case measure => simp [intOf]; omega
set_option maxHeartbeats 16000000 in
theorem items_any (hN : NdP w0 p nv T f) {sk : Option Addr} {ck Bk m : Nat} {ks : List Int} (hm : ks.length = m) (hm2 : m ≤ 1048576) (hK : Els 1 cInt w0 Bk sk ks) (hks : ∀ x ∈ ks, ∃ (k : Nat) (m : Nd), x = k ∧ k < f ∧ VN T k m ∧ (1 ≤ m.kind ∧ m.kind ≤ 34)) (h : Pr w0 w p nv v L) (hl : L.length + (cm (ks.map (tkA T))).length ≤ 500000) :
  Calls Tryz.prog 64 #[.pointer (some ⟨p, 0, none⟩), .slice sk m ck] w fun e w' => SaysQ w0 w p nv v L (cm (ks.map (tkA T))) e w' := by
 have HK := hid hK
 have HN := hid hN
 have HM := hid hm
 have HTK : Hid (∀ k, L.length + (cm ((ks.take k).map (tkA T))).length ≤ 500000) := fun k => by
  have h1 := cm_part (tkA T) ks k
  omega
 have H0 : Hid (Pr w0 w p nv v (L ++ cm ((ks.take 0).map (tkA T)))) := by show Pr _ _ _ _ _ _; simpa [cm] using h
 have F0 : Hid (Fr w w p v v) := Fr.refl w p v
 clear hK hN h hm; go_enter Tryz.func64, Tryz.ntmps64
 go_wp2_with fail; go_loopw [8] (fun iv wr => ∃ (k : Nat) (vk : Value), k ≤ m ∧ iv = .int .i64 k ∧ Hid (Pr w0 wr p nv vk (L ++ cm ((ks.take k).map (tkA T)))) ∧ Hid (Fr w wr p v vk)) (fun iv _ => m - (intOf iv).toNat)
 case atStart => exact ⟨0, v, Nat.zero_le _, rfl, H0, F0⟩
 clear H0 F0; obtain ⟨k, vk, hk, rfl, HP, HF⟩ := hrel
 by_cases hlt : k < m
 rotate_left 1
 ·
  have hke : k = m := by omega
  subst hke
  go_wp2_with fail; refine bodyPost_ret (v := .tuple #[]) (by simp [results, Tryz.results64]) rfl ?_
  have h1 := HP.out
  rw [← HM.out, List.take_length] at h1
  exact ⟨rfl, vk, h1, HF.out⟩
 obtain ⟨x, hx⟩ : ∃ x, ks[k]? = some x := get_some (by rw [HM.out]; exact hlt)
 obtain ⟨a, an, rfl, haf, hva, hra⟩ := hks _ (List.mem_of_getElem? hx)
 have HE := hid (cm_take (tkA T) hx)
 have hp1 := HTK.out (k + 1)
 have hp0 := HTK.out k
 obtain ⟨fb, fo, rfl, _, hfb, pp⟩ := eInt_cells HK.out hx
 have kI : (k : Int) < (m : Int) := by omega
 obtain ⟨L2, hL2⟩ : ∃ L2, Hid (cm ((ks.take (k + 1)).map (tkA T)) = L2) := ⟨_, hid rfl⟩
 obtain ⟨L1, hL1⟩ : ∃ L1, Hid (cm ((ks.take k).map (tkA T)) = L1) := ⟨_, hid rfl⟩
 have HE := hid HE.out
 rw [hL2.out, hL1.out] at HE
 rw [hL2.out] at hp1
 rw [hL1.out] at hp0 HP
 have HVA := hid hva
 clear hx hva; rcases Nat.eq_zero_or_pos k with h0 | h0
 ·
  subst h0
  have HE2 : Hid (L2 = L1 ++ tkA T (a : Int)) := by show _ = _; rw [HE.out, if_pos rfl, ← hL1.out]; rfl
  have v0 : wr.cell? ⟨fb, fo, none⟩ = some (.int .i64 (a : Int)) := (HP.out.bl.cell (p := ⟨fb, fo + 0, none⟩) hfb).trans pp
  have hn := hid (HN.out a an wr vk (L ++ L1) haf HVA.out hra HP.out (by rw [HE2.out, List.length_append] at hp1; rw [List.length_append]; omega))
  clear pp HE; go_wp2_with fail; refine hn.out.mono ?_
  rintro e w2 ⟨rfl, v2, h2, f2⟩
  have HP2 : Hid (Pr w0 w2 p nv v2 (L ++ L2)) := by show Pr _ _ _ _ _ _; rw [HE2.out, ← List.append_assoc]; exact h2
  have HF2 := hid (HF.out.trans f2)
  clear h2 f2 hn v0 HP HF; go_wp2_with fail; go_roundw
  case rel => exact ⟨0 + 1, v2, by omega, by go_num, by rw [hL2.out]; exact HP2, HF2⟩
  case measure => simp [intOf]; omega
 have HE2 : Hid (L2 = L1 ++ [bComma] ++ tkA T (a : Int)) := by show _ = _; rw [HE.out, if_neg (by omega)]; simp
 have g0 : decide ((k : Int) > 0) = true := by simp; omega
 have hle := hp1
 rw [HE2.out, List.length_append, List.length_append] at hle
 simp only [List.length_cons, List.length_nil] at hle
 have v0 := (HP.out.bl.cell (p := ⟨fb, fo + k, none⟩) hfb).trans pp
 have hpa := hid (put_any (HP.out.later (bl_alloc (Below.refl _ _) (.cells #[.string bComma] 9))) (RT.n1 (w := wr) (a := bComma) (t := 9) rfl) (by simp only [List.length_append, List.length_cons, List.length_nil]; omega))
 clear pp HE; go_wp2_with fail; refine hpa.out.mono ?_
 rintro e w1 ⟨rfl, v1, h1, f1⟩
 have HP1 := hid h1
 have HF1 := hid (HF.out.trans ((Fr.of (bl_alloc (Below.refl wr.heap.size wr) (.cells #[.string bComma] 9))).trans f1))
 have hn := hid (HN.out a an w1 v1 (L ++ L1 ++ [bComma]) haf HVA.out hra h1 (by simp only [List.length_append, List.length_cons, List.length_nil]; omega))
 clear h1 f1 hpa v0; go_wp2_with fail; refine hn.out.mono ?_
 rintro e w2 ⟨rfl, v2, h2, f2⟩
 have HP2 : Hid (Pr w0 w2 p nv v2 (L ++ L2)) := by show Pr _ _ _ _ _ _; rw [HE2.out, ← List.append_assoc, ← List.append_assoc]; exact h2
 have HF2 := hid (HF1.out.trans f2)
 clear h2 f2 hn HP HF HP1 HF1; go_wp2_with fail; go_roundw
 case rel => exact ⟨k + 1, v2, by omega, by go_num, by rw [hL2.out]; exact HP2, HF2⟩
 case measure => simp [intOf]; omega
end
end
section
open Go.RowKit
set_option maxRecDepth 100000
set_option maxHeartbeats 64000000 in
theorem toks_b {n1 n2 : Option Addr} {d1 d2 B : Nat} {T : Tre} {i : Nat} {n : Nd} (hS : TkS n1 n2 d1 d2 B T i) (hW : WK T i) (hv : VN T i n) (hk : n.kind = 27) {w : World} (hT : InC w B n1 n2 T) (hsum : (n.kids.map fun x => (tkA T x).length + 1).sum ≤ 90000) :
  Calls Tryz.prog 13 #[.agg #[.slice n1 T.nodes.length d1, .slice n2 T.tops.length d2], .int .i64 (i : Int)] w fun e w' => SaysT w (tkA T (i : Int)) e w' := by
 obtain ⟨nb, no, rfl, _, hnb, s9, c9, q0, q1, q2, q3, hkc, hcap⟩ := eNodeC_cells hT.c hv.at_
 have iI : (i : Int) < (T.nodes.length : Int) := by have := (List.getElem?_eq_some_iff.1 hv.at_).1; omega
 have HT := hid hT
 have HK : Hid (Els 1 cInt w B s9 n.kids) := hkc
 have HS := hid hS
 have HW := hid hW
 have HV := hid hv
 have HSUM := hid hsum
 have HCAP := hid hcap
 have HTL := hid hW.tl
 have HE : Hid (tkA T (i : Int) = tkN (tkA T) n) := tkA_eq hv
 obtain ⟨kd, hkd⟩ : ∃ k, Hid (n.kind = k) := ⟨_, hid rfl⟩
 obtain ⟨ml, hml⟩ : ∃ m, Hid (n.kids.length = m) := ⟨_, hid rfl⟩
 rw [hkd.out] at hk q0
 obtain rfl : kd = 27 := hk
 rw [hml.out] at q3
 have ka := (Blk.new w #[.slice (some ⟨nb, no, none⟩) T.nodes.length d1, .slice n2 T.tops.length d2] 31).alloc (.cells #[.int .i64 27, .string n.text, .int .i64 n.num, .slice s9 ml c9] 66)
 have kn := Blk.new' (n := w.heap.size + 1) (w.alloc (.cells #[.slice (some ⟨nb, no, none⟩) T.nodes.length d1, .slice n2 T.tops.length d2] 31)) #[.int .i64 27, .string n.text, .int .i64 n.num, .slice s9 ml c9] 66 (by simp)
 have bx : Below w.heap.size w ((w.alloc (.cells #[.slice (some ⟨nb, no, none⟩) T.nodes.length d1, .slice n2 T.tops.length d2] 31)).alloc (.cells #[.int .i64 27, .string n.text, .int .i64 n.num, .slice s9 ml c9] 66)) := bl_alloc (bl_alloc (Below.refl _ _) _) _
 have hal := alloc_old
 have haf := alloc_oldf
 have KA0 := hid ka
 have KN0 := hid kn
 have BX0 := hid bx
 clear hT hkc hS hW hv hsum hcap ka kn bx; go_enter Tryz.func13, Tryz.ntmps13
 go_wp2_with fail; refine (l8Class_any 27 _).mono ?_
 rintro e X ⟨rfl, hbx⟩
 have KA := hid (KA0.out.later hbx)
 have KN := hid (KN0.out.later hbx)
 have BX : Hid (Below w.heap.size w X) := bl_trans BX0.out hbx
 clear hbx KA0 KN0 BX0 q0 q1 q2 q3 hal haf; obtain ⟨z0, z1, z2, z3, z4⟩ := Blk.four' KN.out
 obtain ⟨t0, t1, t2⟩ := KA.out.two
 have HC : Hid (tkA T (i : Int) = [bLb] ++ (n.kids.map (tkA T)).flatten ++ [bRb]) := by show _ = _; rw [HE.out]; unfold tkN; rw [hkd.out]; rfl
 have hfl := fl_len (tkA T) n.kids
 have hsm := HSUM.out
 have HTK : Hid (∀ k, ([bLb] ++ ((n.kids.take k).map (tkA T)).flatten).length ≤ 100000) := fun k => by
  have h1 := fl_part (ks := n.kids) (g := tkA T) (k := k)
  simp only [List.length_append, List.length_cons, List.length_nil]; omega
 have hlen : ml ≤ 100000 := by have h5 : n.kids.length ≤ (n.kids.map fun x => (tkA T x).length + 1).sum := len_sum _; rw [← hml.out]; omega
 have HKS := hid (HV.out.kid_no (by rw [hkd.out]; omega))
 clear hfl hsm; rw [show cls 27 = 3 from rfl]
 go_wp2_with fail; have O0 : Hid (OS (X.alloc (.cells #[.string bLb] 9)) X.heap.size (.slice (some ⟨X.heap.size, 0, none⟩) 1 1) [bLb]) := OS.new1 X bLb
 have M0 : Hid (Below X.heap.size X (X.alloc (.cells #[.string bLb] 9))) := bl_alloc (Below.refl _ _) _
 clear z0 z1 z2 z3 z4 t0 t1 t2; go_loopw [6, 7] (fun lv iv wr => ∃ (k : Nat) (so : Option Addr) (co : Nat), k ≤ ml ∧ lv = .slice so ([bLb] ++ ((n.kids.take k).map (tkA T)).flatten).length co ∧ iv = .int .i64 k ∧ Hid (OS wr X.heap.size (.slice so ([bLb] ++ ((n.kids.take k).map (tkA T)).flatten).length co) ([bLb] ++ ((n.kids.take k).map (tkA T)).flatten)) ∧ Hid (Below X.heap.size X wr)) (fun lv iv _ => ml - (intOf iv).toNat)
 case atStart => exact ⟨0, _, _, Nat.zero_le _, rfl, rfl, O0, M0⟩
 clear O0 M0; obtain ⟨k, so, co, hk, rfl, rfl, HO, HM⟩ := hrel
 obtain ⟨L, hL⟩ : ∃ L, Hid ([bLb] ++ ((n.kids.take k).map (tkA T)).flatten = L) := ⟨_, hid rfl⟩
 have hm0 := HTK.out k
 rw [hL.out] at HO hm0 ⊢
 obtain ⟨z0, z1, z2, z3, z4⟩ := Blk.four' (KN.out.later HM.out)
 by_cases hlt : k < ml
 rotate_left 1
 ·
  have hke : k = ml := by omega
  subst hke
  have HCC : Hid (tkA T (i : Int) = L ++ [bRb]) := by show _ = _; rw [HC.out, ← hL.out, ← hml.out, List.take_length]
  go_wp2_with (at_builtin; refine wpl_app (HM.out.trans ((bl_alloc (Below.refl _ _) _).mono HM.out.size)) (Nat.le_trans HM.out.size (by simp)) (HO.out.later (bl_alloc (Below.refl _ _) _)) (RT.n1 (a := bRb) rfl) rfl rfl (by omega) rfl _ _ rfl rfl rfl ?_)
  intro s7 c7 wy ho7 hm7
  have HO7 := hid ho7
  have HM7 := hid hm7
  clear ho7 hm7; go_wp2_with fail; go_ret; exact ⟨⟨_, rfl, by rw [HCC.out]; exact HO7.out.mono BX.out.size⟩, bl_trans BX.out HM7.out⟩
 obtain ⟨x, hx⟩ : ∃ x, n.kids[k]? = some x := get_some (by rw [hml.out]; exact hlt)
 obtain ⟨a, an, rfl, haf, hva, hna⟩ := HKS.out _ (List.mem_of_getElem? hx)
 have HE2 := hid (fl_take (g := tkA T) hx)
 obtain ⟨fb, fo, rfl, _, hfb, pp⟩ := eInt_cells HK.out hx
 have kI : (k : Int) < (ml : Int) := by omega
 have hm1 := HTK.out (k + 1)
 have HVA := hid hva
 have HL2 : Hid ([bLb] ++ ((n.kids.take (k + 1)).map (tkA T)).flatten = L ++ tkA T (a : Int)) := by show _ = _; rw [HE2.out, ← List.append_assoc, hL.out]
 rw [HL2.out, List.length_append] at hm1
 have PP : Hid (w.cell? ⟨fb, fo + k, none⟩ = some (.int .i64 (a : Int))) := pp
 clear hva hx pp HE2; go_wp2_with fail; have BC : ∀ Y, Below X.heap.size X Y → Y.cell? ⟨w.heap.size, 0, none⟩ = some (.slice (some ⟨nb, no, none⟩) T.nodes.length d1) ∧ Y.cell? ⟨w.heap.size, 1, none⟩ = some (.slice n2 T.tops.length d2) ∧ Y.cell? ⟨w.heap.size + 1, 0, none⟩ = some (.int .i64 27) ∧ Y.cell? ⟨w.heap.size + 1, 1, none⟩ = some (.string n.text) ∧ Y.cell? ⟨w.heap.size + 1, 2, none⟩ = some (.int .i64 n.num) ∧ Y.cell? ⟨w.heap.size + 1, 3, none⟩ = some (.slice (some ⟨fb, fo, none⟩) ml c9) ∧ Y.cell? ⟨fb, fo + k, none⟩ = some (.int .i64 (a : Int)) := fun Y hY => ⟨(KA.out.later hY).cell 0 |>.trans rfl, (KA.out.later hY).cell 1 |>.trans rfl, (KN.out.later hY).cell 0 |>.trans rfl, (KN.out.later hY).cell 1 |>.trans rfl, (KN.out.later hY).cell 2 |>.trans rfl, (KN.out.later hY).cell 3 |>.trans rfl, ((bl_trans BX.out hY).cell (p := ⟨fb, fo + k, none⟩) hfb).trans PP.out⟩
 have M : Below X.heap.size X wr.drew := HM.out.drew
 go_region_held3 (fun Y => Y.cell? ⟨w.heap.size, 0, none⟩ = some (.slice (some ⟨nb, no, none⟩) T.nodes.length d1) ∧ Y.cell? ⟨w.heap.size, 1, none⟩ = some (.slice n2 T.tops.length d2) ∧ Y.cell? ⟨w.heap.size + 1, 0, none⟩ = some (.int .i64 27) ∧ Y.cell? ⟨w.heap.size + 1, 1, none⟩ = some (.string n.text) ∧ Y.cell? ⟨w.heap.size + 1, 2, none⟩ = some (.int .i64 n.num) ∧ Y.cell? ⟨w.heap.size + 1, 3, none⟩ = some (.slice (some ⟨fb, fo, none⟩) ml c9) ∧ Y.cell? ⟨fb, fo + k, none⟩ = some (.int .i64 (a : Int))) (exact BC _ M)
  (first
   | (go_at_call 13; refine (HS.out a an _ haf HVA.out hna (HT.out.later (BX.out.trans (M.mono BX.out.size)))).mono ?_; rintro e wa ⟨⟨v9, rfl, ho⟩, hb⟩; obtain ⟨s8, c8, rfl⟩ := ho.shape; have hO2 := (HO.out.later (bl_drew (Below.refl _ _))).later hb; have M := M.trans (hb.mono M.size))
   | (refine step_app M M.size hO2 ho.rt rfl rfl (by omega) rfl rfl _ _ rfl rfl rfl ?_; intro s6 c6 wz hz M))
 have HZ := hid hz
 have HM9 := hid M
 clear hz M hO2 ho hb BC HO HM z0 z1 z2 z3 z4; go_wp2_with fail; go_roundw
 case rel =>
  have e : (L ++ tkA T (a : Int)).length = L.length + (tkA T (a : Int)).length := by simp
  refine ⟨k + 1, s6, c6, by omega, by rw [HL2.out, e], by go_num, ?_, HM9⟩
  rw [HL2.out, e]
  exact HZ
 case measure => simp [intOf]; omega
end
section
open Go.RowKit
set_option maxRecDepth 100000
theorem sum_fit {T : Tre} {ks : List Int} {a e : Nat} (h : FitL (kidsOf T) (okN T) ks a e) : (ks.map fun x => (tkA T x).length + 1).sum + 8 * a ≤ 8 * e := by
 induction h with
 | nil nx => simp
 | cons nx k ks e h1 h2 h3 h4 _ ih =>
  have h2' := h2
  obtain ⟨m, hm, _⟩ := h2'
  have h3' := h3
  rw [kidsOf_some hm] at h3'
  have g := tkA_len k m nx ⟨hm, h2, nx, h3'⟩ h1 h3'
  simp only [List.map_cons, List.sum_cons]
  omega
theorem VN.sum {T : Tre} {i : Nat} {n : Nd} (h : VN T i n) : (n.kids.map fun x => (tkA T x).length + 1).sum ≤ 8 * i := by
 obtain ⟨nx, hf⟩ := h.fit
 have := sum_fit hf
 omega
theorem VN.tl {T : Tre} {i : Nat} {n : Nd} (h : VN T i n) : (tkA T (i : Int)).length ≤ 8 * (i + 1) := by
 obtain ⟨nx, hf⟩ := h.fit
 have := tkA_len i n nx h hf.le hf
 omega
theorem wk_any {T : Tre} (hN : T.nodes.length ≤ 4000) {i : Nat} (hi : i ≤ T.nodes.length) : WK T i :=
 ⟨fun k m hk hv => by have := hv.tl; omega, fun k m hk hv => by have := hv.sum; omega⟩
set_option maxHeartbeats 4000000 in
theorem toks_any {n1 n2 : Option Addr} {d1 d2 B : Nat} {T : Tre} (hN : T.nodes.length ≤ 4000) : ∀ f, TkS n1 n2 d1 d2 B T f := by
 intro f
 induction f with
 | zero => intro i n w hi; omega
 | succ f ih =>
  intro i n w hi hv hno hT
  have hiN : i < T.nodes.length := (List.getElem?_eq_some_iff.1 hv.at_).1
  have hS : TkS n1 n2 d1 d2 B T i := fun j m w hj => ih j m w (by omega)
  have hW := wk_any hN (Nat.le_of_lt hiN)
  have hs : (n.kids.map fun x => (tkA T x).length + 1).sum ≤ 90000 := by have := hv.sum; omega
  by_cases h1 : 1 ≤ n.kind ∧ n.kind ≤ 11
  ·
   exact toks_e hS hW hv h1 hT hs
  by_cases h2 : 12 ≤ n.kind ∧ n.kind ≤ 26
  ·
   exact toks_s hS hW hv h2 hT hs
  by_cases h3 : n.kind = 27
  ·
   exact toks_b hS hW hv h3 hT hs
  by_cases h4 : n.kind = 28
  ·
   exact toks_c hS hW hv h4 hT hs
  by_cases h5 : n.kind = 31
  ·
   exact toks_n hS hW hv h5 hT hs
  by_cases h6 : n.kind = 32
  ·
   exact toks_p hS hW hv h6 hT hs
  by_cases h7 : n.kind = 33
  ·
   exact toks_f hS hW hv h7 hT hs
  by_cases h8 : n.kind = 34
  ·
   exact toks_y hS hW hv h8 hT hs
  exact toks_z hS hW hv (by omega) hT hs
def bSp : ByteArray := ⟨#[32]⟩
def bNl : ByteArray := ⟨#[10]⟩
def jnB : List ByteArray → ByteArray
 | [] => ⟨#[]⟩
 | x :: xs => xs.foldl (fun a y => a ++ bSp ++ y) x
theorem jn_snoc (L : List ByteArray) (x : ByteArray) : jnB (L ++ [x]) = if L.length = 0 then x else jnB L ++ bSp ++ x := by
 cases L with
 | nil => rfl
 | cons y ys => simp [jnB, List.foldl_append]
theorem jn_fold : ∀ (xs : List ByteArray) (a : ByteArray), (∀ t ∈ xs, t.size ≤ 1048576) → (xs.foldl (fun a y => a ++ bSp ++ y) a).size ≤ a.size + 1048577 * xs.length := by
 intro xs
 induction xs with
 | nil => intro a _; simp
 | cons x xs ih =>
  intro a h
  have h1 := ih (a ++ bSp ++ x) fun t ht => h t (by simp [ht])
  have h2 := h x (by simp)
  have h3 : bSp.size = 1 := rfl
  rw [ByteArray.size_append, ByteArray.size_append] at h1
  simp only [List.foldl_cons, List.length_cons]
  omega
theorem jn_size (L : List ByteArray) (h : ∀ t ∈ L, t.size ≤ 1048576) : (jnB L).size ≤ 1048577 * L.length := by
 cases L with
 | nil => exact Nat.le_refl 0
 | cons x xs =>
  have h1 := jn_fold xs x fun t ht => h t (by simp [ht])
  have h2 := h x (by simp)
  simp only [jnB, List.length_cons]
  omega
theorem jn_take {L : List ByteArray} {k : Nat} {x : ByteArray} (hx : L[k]? = some x) : jnB (L.take (k + 1)) = if k = 0 then x else jnB (L.take k) ++ bSp ++ x := by
 have hk : k < L.length := (List.getElem?_eq_some_iff.1 hx).1
 rw [List.take_add_one, hx]
 simp only [Option.toList_some]
 rw [jn_snoc, List.length_take, Nat.min_eq_left (by omega)]
theorem em_app (x : ByteArray) : (⟨#[]⟩ : ByteArray) ++ x = x := by
 apply ByteArray.ext
 simp
set_option maxHeartbeats 8000000 in
theorem join_any {v : Value} {L : List ByteArray} {w : World} (hv : RT w v L) (hz : ∀ t ∈ L, t.size ≤ 1048576) (hl : L.length ≤ 1048576) :
  Calls Tryz.prog 12 #[v] w fun e w' => e = .returned (.string (jnB L)) ∧ w' = w := by
 obtain ⟨s, c, rfl⟩ := hv.shape
 have HV := hid hv
 have HZ : Hid (∀ k, (jnB (L.take k)).size ≤ 1048577 * 1048576) := fun k => by
  have h1 := jn_size (L.take k) fun t ht => hz t (List.mem_of_mem_take ht)
  have h2 : (L.take k).length ≤ L.length := by rw [List.length_take]; omega
  have h3 : 1048577 * (L.take k).length ≤ 1048577 * 1048576 := Nat.mul_le_mul_left _ (by omega)
  omega
 have HZ0 := hid hz
 clear hv hz; go_enter Tryz.func12, Tryz.ntmps12
 go_wp2_with fail; go_loop [3, 4] (fun o i => ∃ k : Nat, k ≤ L.length ∧ Hid (o = .string (jnB (L.take k))) ∧ i = .int .i64 k) (fun o i => L.length - (intOf i).toNat)
 case atStart => exact ⟨0, Nat.zero_le _, rfl, rfl⟩
 obtain ⟨k, hk, ho, rfl⟩ := hrel
 have ho := ho.out
 subst ho
 by_cases hlt : k < L.length
 rotate_left 1
 ·
  have hke : k = L.length := by omega
  subst hke
  rw [List.take_length]
  go_wp2_with fail; go_ret; exact ⟨rfl, rfl⟩
 obtain ⟨x, hx⟩ := get_some hlt
 have HE := hid (jn_take hx)
 have hxz := HZ0.out x (List.mem_of_getElem? hx)
 have hs := HZ.out k
 obtain ⟨J, hJ⟩ : ∃ J, Hid (jnB (L.take k) = J) := ⟨_, hid rfl⟩
 rw [hJ.out] at hs HE ⊢
 have v0 : ∀ b o, s = some ⟨b, o, none⟩ → w.cell? ⟨b, o + k, none⟩ = some (.string x) := fun b o e => by
  rcases HV.out with ⟨c', e', hL⟩ | ⟨b', o', c', e', _, hc⟩
  ·
   rw [hL] at hlt; simp at hlt
  simp only [Value.slice.injEq] at e'
  rw [e'.1] at e
  cases e
  rw [hc k hlt, hx]; rfl
 obtain ⟨b, o, hso⟩ : ∃ b o, s = some ⟨b, o, none⟩ := by
  rcases HV.out with ⟨c', e', hL⟩ | ⟨b', o', c', e', _, hc⟩
  ·
   rw [hL] at hlt; simp at hlt
  simp only [Value.slice.injEq] at e'; exact ⟨b', o', e'.1⟩
 subst hso
 have v1 := v0 b o rfl
 have kI : (k : Int) < (L.length : Int) := by omega
 clear v0 hx; rcases Nat.eq_zero_or_pos k with h0 | h0
 ·
  subst h0
  have hJ0 : J = ⟨#[]⟩ := by rw [← hJ.out]; rfl
  subst hJ0
  have f1 : ∀ w, (Op.stringOp .add ⟨#[]⟩ x).run Tryz.prog w = .ok (.string ((⟨#[]⟩ : ByteArray) ++ x)) w := fun w => run_string_add_sum w _ _ (by have : (⟨#[]⟩ : ByteArray).size = 0 := rfl; omega)
  have v1 : w.cell? ⟨b, o, none⟩ = some (.string x) := v1
  go_wp2_with fail; go_round
  case rel => exact ⟨0 + 1, by omega, by show _ = _; rw [HE.out, if_pos rfl, em_app], by go_num⟩
  case measure => simp [intOf]; omega
 have g0 : decide ((k : Int) > 0) = true := by simp; omega
 have h1 : bSp.size = 1 := rfl
 have f1 : ∀ w, (Op.stringOp .add J bSp).run Tryz.prog w = .ok (.string (J ++ bSp)) w := fun w => run_string_add_sum w _ _ (by omega)
 have f2 : ∀ w, (Op.stringOp .add (J ++ bSp) x).run Tryz.prog w = .ok (.string (J ++ bSp ++ x)) w := fun w => run_string_add_sum w _ _ (by rw [ByteArray.size_append]; omega)
 have f1 : ∀ w, (Op.stringOp .add J ⟨#[32]⟩).run Tryz.prog w = .ok (.string (J ++ bSp)) w := f1
 go_wp2_with fail; go_round
 case rel => exact ⟨k + 1, by omega, by show _ = _; rw [HE.out, if_neg (by omega)], by go_num⟩
 case measure => simp [intOf]; omega
end
section
open Go.RowKit
set_option maxRecDepth 100000
structure Pn (w0 X w : World) (p : Nat) (nv v0 v : Value) (L : List ByteArray) (b : Nat) (c : Array Value) : Prop where
 pr : Pr w0 w p nv v L
 bx : Blk w b c 66
 nb : ¬ b = p
 ob : ¬ v.ownBlock = some b
 fr : Fr X w p v0 v
section
variable {w0 X w w' : World} {p : Nat} {nv v0 v v' : Value} {L L' : List ByteArray} {b : Nat} {c : Array Value}
theorem Pn.start (h : Pr w0 w p nv v L) (c : Array Value) : Pn w0 w (w.alloc (.cells c 66)) p nv v v L w.heap.size c :=
 ⟨h.later (bl_alloc (Below.refl _ _) _), Blk.new w c _, fun e => by have := h.bx.lt; omega, h.own_lt (Nat.le_refl _), Fr.of (bl_alloc (Below.refl _ _) _)⟩
theorem Pn.later (h : Pn w0 X w p nv v0 v L b c) (hb : Below w.heap.size w w') : Pn w0 X w' p nv v0 v L b c := ⟨h.pr.later hb, h.bx.later hb, h.nb, h.ob, h.fr.trans (Fr.of hb)⟩
theorem Pn.alloc (h : Pn w0 X w p nv v0 v L b c) (o : Obj) : Pn w0 X (w.alloc o) p nv v0 v L b c := h.later (bl_alloc (Below.refl _ _) _)
theorem Pn.step (h : Pn w0 X w p nv v0 v L b c) (h1 : Pr w0 w' p nv v' L') (f : Fr w w' p v v') : Pn w0 X w' p nv v0 v' L' b c := ⟨h1, h.bx.fr f h.nb h.ob, h.nb, f.off h.bx.lt h.ob, h.fr.trans f⟩
end
structure Tb (w : World) : Prop where
 k : ∀ q : Nat, 1 ≤ q → q ≤ 4 → w.cell? ⟨1, q, none⟩ = some (.string (kiT q)) ∧ 1 < w.heap.size
 o : ∀ q : Nat, 1 ≤ q → q ≤ 9 → w.cell? ⟨0, q, none⟩ = some (.string (opT q)) ∧ 0 < w.heap.size
 u : ∀ q : Nat, 1 ≤ q → q ≤ 6 → w.cell? ⟨2, q, none⟩ = some (.string (tuT q)) ∧ 2 < w.heap.size
theorem sum_cm {α : Type} (g : α → List ByteArray) (ks : List α) : (ks.map fun x => (g x).length + 1).sum ≤ (cm (ks.map g)).length + 1 := by
 cases ks with
 | nil => simp
 | cons x xs =>
  have : ∀ ys : List α, ((ys.map g).map fun y => bComma :: y).flatten.length = (ys.map fun x => (g x).length + 1).sum := by
   intro ys
   induction ys with
   | nil => rfl
   | cons y ys ih => simp only [List.map_cons, List.flatten_cons, List.length_append, List.sum_cons, ih, List.length_cons]
  simp only [List.map_cons, cm, List.length_append, this, List.sum_cons]
  omega
section
variable {w0 w : World} {p : Nat} {nv v : Value} {T : Tre} {f : Nat} {L : List ByteArray}
set_option maxHeartbeats 16000000 in
theorem listed_any (hN : NdP w0 p nv T f) {sk : Option Addr} {ck Bk m : Nat} {ks : List Int} (hm : ks.length = m) (hm2 : m ≤ 1048576) (hK : Els 1 cInt w0 Bk sk ks) (hks : ∀ x ∈ ks, ∃ (k : Nat) (m : Nd), x = k ∧ k < f ∧ VN T k m ∧ (1 ≤ m.kind ∧ m.kind ≤ 34)) (h : Pr w0 w p nv v L) (hl : L.length + 2 + (cm (ks.map (tkA T))).length ≤ 500000) :
  Calls Tryz.prog 62 #[.pointer (some ⟨p, 0, none⟩), .slice sk m ck] w fun e w' => SaysQ w0 w p nv v L ([bLp] ++ cm (ks.map (tkA T)) ++ [bRp]) e w' := by
 have hcl := sum_cm (tkA T) ks
 have HA := hid (h.later (bl_alloc (Below.refl _ _) (.cells #[.string bLp] 9)))
 have F0 : Hid (Fr w (w.alloc (.cells #[.string bLp] 9)) p v v) := Fr.of (bl_alloc (Below.refl _ _) _)
 clear h; go_enter Tryz.func62, Tryz.ntmps62
 go_wp2_with fail; refine (put_any (M := [bLp]) HA.out (RT.n1 rfl) (by simp; omega)).mono ?_
 rintro e w1 ⟨rfl, v1, h1, f1⟩
 have H1 := hid h1
 have F1 := hid (F0.out.trans f1)
 clear h1 f1 HA F0; go_wp2_with fail; refine (items_any hN hm hm2 hK hks H1.out (by simp only [List.length_append, List.length_cons, List.length_nil]; omega)).mono ?_
 rintro e w2 ⟨rfl, v2, h2, f2⟩
 have H2 := hid (h2.later (bl_alloc (Below.refl _ _) (.cells #[.string bRp] 9)))
 have F2 : Hid (Fr w (w2.alloc (.cells #[.string bRp] 9)) p v v2) := (F1.out.trans f2).trans (Fr.of (bl_alloc (Below.refl _ _) _))
 clear h2 f2 H1 F1; go_wp2_with fail; refine (put_any (M := [bRp]) H2.out (RT.n1 rfl) (by simp only [List.length_append, List.length_cons, List.length_nil]; omega)).mono ?_
 rintro e w3 ⟨rfl, v3, h3, f3⟩
 have H3 : Hid (Pr w0 w3 p nv v3 (L ++ ([bLp] ++ cm (ks.map (tkA T)) ++ [bRp]))) := by show Pr _ _ _ _ _ _; rw [← List.append_assoc, ← List.append_assoc]; exact h3
 have F3 := hid (F2.out.trans f3)
 clear h3 f3 H2 F2; go_wp2_with fail; refine bodyPost_ret (v := .tuple #[]) (by simp [results, Tryz.results62]) rfl ?_
 exact ⟨rfl, v3, H3.out, F3.out⟩
end
end
end Go.Proofs.YtjckoldjodjehaaGreatDoor
