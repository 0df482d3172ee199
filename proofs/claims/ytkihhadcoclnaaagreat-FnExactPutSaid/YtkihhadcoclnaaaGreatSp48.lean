import Derived.Test.YtkihhadcoclnaaaGreatSp47
namespace Go.Proofs.YtkihhadcoclnaaaGreat
set_option linter.unusedVariables false
set_option linter.unusedSimpArgs false
section
open Go.RowKit Go.Maps Go.WideMaps
set_option maxRecDepth 100000
def PutR (A B C : List (ByteArray × Int)) (W : Wd) (e : E2) (x : Int) (v : V4) (W' : Wd) (code : Int) : Prop :=
 ((standB A B C W && fitB A x v) = false ∧ W' = W ∧ code = 1) ∨
 (standB A B C W = true ∧ ((¬ e ∈ rowsOf W.tabs ∧ W' = W ∧ code = 2) ∨
 (∃ (i j : Nat) (T : Tab), W.tabs[i]? = some T ∧ T.rows[j]? = some e ∧ ((∃ (q : Nat) (M : List V4), T.cols[q]? = some x ∧ T.cells[q]? = some M ∧ W' = setW W i (setT T q (M.set j v)) ∧ code = 0) ∨ (¬ x ∈ T.cols ∧ ∃ q : Nat, Fnd T.cols x q ∧ MvA W e i j T ((rowC T j).insertIdx q (x, v)) W' code)))) ∧ fitB A x v = true)
theorem fnd_one {L : List Int} {x : Int} {p q : Nat} (h1 : Fnd L x p) (h2 : Fnd L x q) : p = q := by
 have key : ∀ {p q : Nat}, Fnd L x p → Fnd L x q → ¬ p < q := by
  intro p q h1 h2 hlt
  obtain ⟨a, ha⟩ := get_some (L := L) (k := p) (by have := h2.1; omega)
  have g1 := h2.2.1 p a hlt ha
  have g2 := h1.2.2 p a (Nat.le_refl _) ha
  omega
 have g1 := key h1 h2
 have g2 := key h2 h1
 omega
theorem PutR.same {A B C : List (ByteArray × Int)} {W : Wd} {e : E2} {x : Int} {v : V4} {W1 W2 : Wd} {c1 c2 : Int} (h1 : PutR A B C W e x v W1 c1) (h2 : PutR A B C W e x v W2 c2) : W1 = W2 ∧ c1 = c2 := by
 rcases h1 with ⟨hf, rfl, rfl⟩ | ⟨ht, h1, hx⟩
 ·
  rcases h2 with ⟨_, rfl, rfl⟩ | ⟨ht, _, hx⟩
  ·
   exact ⟨rfl, rfl⟩
  rw [ht, hx] at hf; cases hf
 obtain ⟨hrt, hon⟩ := stand_tabs ht
 simp only [onceB, decide_eq_true_eq] at hon
 rcases h2 with ⟨hf, _⟩ | ⟨_, h2, _⟩
 ·
  rw [ht, hx] at hf; cases hf
 rcases h1 with ⟨n1, rfl, rfl⟩ | ⟨i, j, T, hT, hj, h1⟩
 ·
  rcases h2 with ⟨n2, rfl, rfl⟩ | ⟨i, j, T, hT, hj, _⟩
  ·
   exact ⟨rfl, rfl⟩
  exact absurd (mem_rows hT hj) n1
 rcases h2 with ⟨n2, _⟩ | ⟨i', j', T', hT', hj', h2⟩
 ·
  exact absurd (mem_rows hT hj) n2
 obtain ⟨rfl, rfl⟩ := rows_unique hon.1 hT hj hT' hj'
 rw [hT] at hT'
 cases hT'
 rcases h1 with ⟨q, M, hq, hM, rfl, rfl⟩ | ⟨m1, q, hq, h1⟩
 ·
  rcases h2 with ⟨q', M', hq', hM', rfl, rfl⟩ | ⟨m2, _⟩
  ·
   obtain rfl := up_one (hrt T (List.mem_of_getElem? hT)) hq hq'
   rw [hM] at hM'
   cases hM'
   exact ⟨rfl, rfl⟩
  exact absurd (List.mem_of_getElem? hq) m2
 rcases h2 with ⟨q', M', hq', _⟩ | ⟨m2, q', hq', h2⟩
 ·
  exact absurd (List.mem_of_getElem? hq') m1
 obtain rfl := fnd_one hq hq'
 exact h1.same ht h2
theorem PutR.kW {A B C : List (ByteArray × Int)} {W : Wd} {e : E2} {x : Int} {v : V4} {W1 : Wd} {c1 : Int} (h : PutR A B C W e x v W1 c1) (hk : kW W) : kW W1 := by
 rcases h with ⟨_, rfl, _⟩ | ⟨hst, ⟨_, rfl, _⟩ | ⟨i, j, T, hT, hj, ⟨q, M, hq, hM, rfl, _⟩ | ⟨_, q, hq, h⟩⟩, _⟩
 ·
  exact hk
 ·
  exact hk
 ·
  have hkt := hk.2.2.1.2 T (List.mem_of_getElem? hT)
  refine ⟨hk.1, hk.2.1, ⟨?_, ?_⟩, hk.2.2.2⟩
  ·
   show (W.tabs.set _ _).length ≤ _
   rw [List.length_set]; exact hk.2.2.1.1
  intro U hU
  rcases List.mem_or_eq_of_mem_set (show U ∈ W.tabs.set i (setT T q (M.set j v)) from hU) with h' | rfl
  ·
   exact hk.2.2.1.2 U h'
  refine ⟨hkt.1, hkt.2.1, ?_, ?_⟩
  ·
   show (T.cells.set q _).length ≤ _
   rw [List.length_set]; exact hkt.2.2.1
  intro N hN
  rcases List.mem_or_eq_of_mem_set (show N ∈ T.cells.set q (M.set j v) from hN) with h9 | rfl
  ·
   exact hkt.2.2.2 N h9
  rw [List.length_set]; exact hkt.2.2.2 M (List.mem_of_getElem? hM)
 have hm := List.mem_of_getElem? hT
 refine h.kW hk (hk.2.2.1.2 T hm) ?_ (stand_lens hst).1 (stand_lens hst).2 (stand_40 hst)
 have h2 := rowC_le hst hm j
 rw [List.length_insertIdx_of_le_length (by rw [rowC_len ((stand_tabs hst).1 T hm).len]; exact hq.1)]
 omega
end
section
open Go.RowKit Go.Maps Go.WideMaps
set_option maxRecDepth 100000
set_option maxHeartbeats 8000000 in
theorem specPut_any (p1 q1 c1 p2 q2 c2 p3 q3 c3 : Nat) (A B C : List (ByteArray × Int)) (a1 a2 a3 a4 : Option Addr) (b1 b2 b3 b4 : Nat) (W : Wd) (e : E2) (x : Int) (v : V4) (w : World) (hA : Decls w (some ⟨p1, q1, none⟩) A) (hB : Decls w (some ⟨p2, q2, none⟩) B) (hC : Decls w (some ⟨p3, q3, none⟩) C)
  (hW : InW w 0 a1 a2 a3 a4 W) (hk : kW W) (ov : okV v) :
  Calls Tryz.prog 18 #[.agg #[.slice (some ⟨p1, q1, none⟩) A.length c1, .slice (some ⟨p2, q2, none⟩) B.length c2, .slice (some ⟨p3, q3, none⟩) C.length c3], .agg #[.slice a1 W.gens.length b1, .slice a2 W.free.length b2, .slice a3 W.tabs.length b3, .slice a4 W.res.length b4], .agg #[.int .i64 e.1, .int .i64 e.2], .int .i64 x, .agg #[.int .i64 v.1, .int .i64 v.2.1, .float .f64 v.2.2.1, .float .f64 v.2.2.2]] w fun r w' => WSays (PutR A B C W e x v) w r w' := by
 have hal := alloc_old
 have haf := alloc_oldf
 obtain ⟨X, hX, k0, k1, k2, k3, k4, L0⟩ := box5 w #[.slice (some ⟨p1, q1, none⟩) A.length c1, .slice (some ⟨p2, q2, none⟩) B.length c2, .slice (some ⟨p3, q3, none⟩) C.length c3] #[.slice a1 W.gens.length b1, .slice a2 W.free.length b2, .slice a3 W.tabs.length b3, .slice a4 W.res.length b4] #[.int .i64 e.1, .int .i64 e.2] #[.int .i64 v.1, .int .i64 v.2.1, .float .f64 v.2.2.1, .float .f64 v.2.2.2] #[.slice none 0 0, .slice none 0 0, .slice none 0 0, .slice none 0 0] 45 40 48 59 40
 have n4 : w.heap.size + 1 + 1 + 1 + 1 < X.heap.size := k4.lt
 go_enter Tryz.func18, Tryz.ntmps18
 go_wp2_with fail; rw [← hX]
 clear hX; refine (specWorldOk_any p1 q1 c1 p2 q2 c2 p3 q3 c3 A B C a1 a2 a3 a4 b1 b2 b3 b4 W _ (hA.later L0) (hB.later L0) (hC.later L0) (hW.later L0) hk).mono ?_
 rintro r w1 ⟨rfl, hb1⟩
 rw [spec_stand]
 have K0 := Hid.mk' (k0.later hb1)
 have K1 := Hid.mk' (k1.later hb1)
 have K2 := Hid.mk' (k2.later hb1)
 have K3 := Hid.mk' (k3.later hb1)
 have K4 := Hid.mk' (k4.later hb1)
 have L1 := Hid.mk' (bl_trans L0 hb1)
 have HW1 := Hid.mk' (hW.later L1.out)
 have n5 : w.heap.size + 1 + 1 + 1 + 1 < w1.heap.size := K4.out.lt
 have HA1 := Hid.mk' (hA.later L1.out)
 clear k0 k1 k2 k3 k4 hb1 hA hB hC hW L0; obtain ⟨x0, x1, x2, x3, x4⟩ := K1.out.four'
 cases hst : standB A B C W
 ·
  have HG : Hid (PutR A B C W e x v W 1) := Or.inl ⟨by rw [hst]; rfl, rfl, rfl⟩
  clear hst; go_wp2_with fail; refine (l4Copy_new a1 a2 a3 a4 b1 b2 b3 b4 W 0 w1 HW1.out hk).mono ?_
  rintro r w2 ⟨⟨V, rfl, hO⟩, hb2⟩
  obtain ⟨g1, d1, g2, d2, g3, d3, g4, d4, ts, rfl⟩ := hO.shape
  have HF := Hid.mk' hO.f
  obtain ⟨y0, y1, y2, y3, y4⟩ := (K4.out.later hb2).four'
  have lw : Hid (Below w.heap.size w w2) := bl_trans L1.out hb2
  have hO2 := Hid.mk' ((hO.own.put4 (n := w.heap.size + 1 + 1 + 1 + 1) n5 (.slice g1 W.gens.length d1) (.slice g2 W.free.length d2) (.slice g3 W.tabs.length d3) (.slice g4 W.res.length d4)).mono (B' := w.heap.size) (by omega))
  clear x0 x1 x2 x3 x4 hO hb2; go_wp2_with fail; refine bodyPost_ret (v := .tuple #[.agg #[.slice g1 W.gens.length d1, .slice g2 W.free.length d2, .slice g3 W.tabs.length d3, .slice g4 W.res.length d4], .int .i64 1]) (by simp [results, Tryz.results18, go_sem, y0, y1, y2, y3]) rfl ⟨_, W, 1, rfl, HF.out.ow hO2.out, HG.out, bl_put4 lw.out (by omega) _ _ _ _⟩
 obtain ⟨hrt, hon⟩ := stand_tabs hst
 simp only [onceB, decide_eq_true_eq] at hon
 have hlv : ∀ x, x ∈ listB W.gens W.free ↔ x ∈ rowsOf W.tabs := fun x => ⟨all_in hon.1 hon.2.1 hon.2.2 x, hon.2.1 x⟩
 have hok := stand_okE hst
 have HLV := Hid.mk' hlv
 have HRT := Hid.mk' hrt
 have HOK := Hid.mk' hok
 have HST := Hid.mk' hst
 have lA := okR_l12 (by simp only [standB, Bool.and_eq_true] at hst; exact hst.1.1.1.1.1)
 have hsz := stand_sizes hst
 have HSC : Hid (∀ T ∈ W.tabs, T.cols.length ≤ 900) := fun T hT => by have := hsz.1 T hT; omega
 have HSR : Hid (∀ T ∈ W.tabs, T.rows.length ≤ 100000) := fun T hT => by have := hsz.2 T hT; omega
 have H40 := Hid.mk' (stand_40 hst)
 obtain ⟨r0, r1, r2, r3⟩ := K0.out.three'
 obtain ⟨s0, s1, s2, s3, s4⟩ := K3.out.four'
 clear hst hrt hon hlv hok hsz; go_wp2_with fail; refine (l4Fits_any (some ⟨p1, q1, none⟩) (some ⟨p2, q2, none⟩) (some ⟨p3, q3, none⟩) c1 c2 c3 A B C x v _ HA1.out (by omega) ov).mono ?_
 rintro r w9 ⟨rfl, hb9⟩
 have K1 := Hid.mk' (K1.out.later hb9)
 have K2 := Hid.mk' (K2.out.later hb9)
 have K3 := Hid.mk' (K3.out.later hb9)
 have K4 := Hid.mk' (K4.out.later hb9)
 have L1 := Hid.mk' (bl_trans L1.out hb9)
 have HW1 := Hid.mk' (HW1.out.later hb9)
 have n5 : w.heap.size + 1 + 1 + 1 + 1 < w9.heap.size := K4.out.lt
 have HW2 : Hid (InW w9.drew 0 a1 a2 a3 a4 W) := HW1.out.later (bl_drew (Below.refl _ _))
 clear r0 r1 r2 r3 s0 s1 s2 s3 s4 x0 x1 x2 x3 x4 hb9; obtain ⟨x0, x1, x2, x3, x4⟩ := K1.out.four'
 cases hcm : fitB A x v
 ·
  have HG : Hid (PutR A B C W e x v W 1) := Or.inl ⟨by rw [HST.out, hcm]; rfl, rfl, rfl⟩
  clear hcm; go_wp2_with fail; refine (l4Copy_new a1 a2 a3 a4 b1 b2 b3 b4 W 0 w9 HW1.out hk).mono ?_
  rintro r w2 ⟨⟨V, rfl, hO⟩, hb2⟩
  obtain ⟨g1, d1, g2, d2, g3, d3, g4, d4, ts, rfl⟩ := hO.shape
  have HF := Hid.mk' hO.f
  obtain ⟨y0, y1, y2, y3, y4⟩ := (K4.out.later hb2).four'
  have lw : Hid (Below w.heap.size w w2) := bl_trans L1.out hb2
  have hO2 := Hid.mk' ((hO.own.put4 (n := w.heap.size + 1 + 1 + 1 + 1) n5 (.slice g1 W.gens.length d1) (.slice g2 W.free.length d2) (.slice g3 W.tabs.length d3) (.slice g4 W.res.length d4)).mono (B' := w.heap.size) (by omega))
  clear x0 x1 x2 x3 x4 hO hb2; go_wp2_with fail; refine bodyPost_ret (v := .tuple #[.agg #[.slice g1 W.gens.length d1, .slice g2 W.free.length d2, .slice g3 W.tabs.length d3, .slice g4 W.res.length d4], .int .i64 1]) (by simp [results, Tryz.results18, go_sem, y0, y1, y2, y3]) rfl ⟨_, W, 1, rfl, HF.out.ow hO2.out, HG.out, bl_put4 lw.out (by omega) _ _ _ _⟩
 have HCX := Hid.mk' hcm
 clear hcm; obtain ⟨z0, z1, z2⟩ := K2.out.two
 obtain ⟨s0, s1, s2, s3, s4⟩ := K3.out.four'
 go_wp2_with fail; go_region_with (first
  | (go_at_call 55; refine (l4Put_any (X := w9.drew) (B := w9.drew.heap.size) [] g1 g2 g3 g4 d1 d2 d3 d4 ts W e x v w2 hRs HF.out hk HRT.out HLV.out HOK.out HSC.out HSR.out H40.out ov).mono ?_; rintro r w3 ⟨V', W', code, rfl, hR3, hF3, hans⟩; obtain ⟨t1, m1, t2, m2, t3, m3, t4, m4, ts', rfl⟩ := (hF3.ow hR3.o).shape; have hb3 : Below w9.heap.size w9 w3 := bl_trans (bl_drew (Below.refl _ _)) hR3.l; obtain ⟨y0, y1, y2, y3, y4⟩ := (K4.out.later hb3).four')
  | (go_at_call 34; refine (l4Copy_new a1 a2 a3 a4 b1 b2 b3 b4 W 0 w9.drew HW2.out hk).mono ?_; rintro r w2 ⟨⟨V, rfl, hO⟩, hb2⟩; obtain ⟨g1, d1, g2, d2, g3, d3, g4, d4, ts, rfl⟩ := hO.shape; have HF := Hid.mk' hO.f; have hRs : Rs w9.drew w9.drew.heap.size w2 ([] ++ rW ⟨.slice g1 W.gens.length d1, .slice g2 W.free.length d2, .slice g3 W.tabs.length d3, .slice g4 W.res.length d4, ts⟩ W) := ⟨hb2, hO.own, hb2.size⟩; have hb2' : Below w9.heap.size w9 w2 := bl_trans (bl_drew (Below.refl _ _)) hb2; have z0 := kcell hb2' z0; have z1 := kcell hb2' z1; have s0 := kcell hb2' s0; have s1 := kcell hb2' s1; have s2 := kcell hb2' s2; have s3 := kcell hb2' s3; obtain ⟨y0, y1, y2, y3, y4⟩ := (K4.out.later hb2').four'))
 all_goals
  have HG : Hid (PutR A B C W e x v W' code) := Or.inr ⟨HST.out, hans, HCX.out⟩
  have HF3 := Hid.mk' hF3
  have hO2 := Hid.mk' (((show Owns w3 w9.heap.size (rW ⟨.slice t1 W'.gens.length m1, .slice t2 W'.free.length m2, .slice t3 W'.tabs.length m3, .slice t4 W'.res.length m4, ts'⟩ W') from hR3.o).put4 (n := w.heap.size + 1 + 1 + 1 + 1) n5 (.slice t1 W'.gens.length m1) (.slice t2 W'.free.length m2) (.slice t3 W'.tabs.length m3) (.slice t4 W'.res.length m4)).mono (B' := w.heap.size) (by omega))
  have lw : Hid (Below w.heap.size w w3) := bl_trans L1.out hb3
  clear hF3 hR3 hans hRs hO hb2 hb2' hb3; go_wp2_with fail; refine bodyPost_ret (v := .tuple #[.agg #[.slice t1 W'.gens.length m1, .slice t2 W'.free.length m2, .slice t3 W'.tabs.length m3, .slice t4 W'.res.length m4], .int .i64 code]) (by simp [results, Tryz.results18, go_sem, y0, y1, y2, y3]) rfl ⟨_, W', code, rfl, HF3.out.ow hO2.out, HG.out, bl_put4 lw.out (by omega) _ _ _ _⟩
end
section
open Go.RowKit Go.Maps Go.WideMaps
set_option maxRecDepth 100000
set_option maxHeartbeats 8000000 in
theorem implPut_any (s1 s2 s3 : Option Addr) (c1 c2 c3 : Nat) (A B C : List (ByteArray × Int)) (a1 a2 a3 a4 : Option Addr) (b1 b2 b3 b4 : Nat) (W : Wd) (e : E2) (x : Int) (v : V4) (w : World) (hA : Decls w s1 A) (hB : Decls w s2 B) (hC : Decls w s3 C) (nm : ∀ i, i < (A ++ B ++ C).length → (dAt (A ++ B ++ C) i).1.size ≤ maxLen) (l1 : A.length ≤ 1048576) (l2 : B.length ≤ 1048576) (l3 : C.length ≤ 1048576)
  (hW : InW w 0 a1 a2 a3 a4 W) (hk : kW W) (hcap : W.tabs.length ≤ b3) (bR : ∀ t ∈ W.tabs, ∀ x ∈ t.rows, bE x) (be : bE e) (ov : okV v) :
  Calls Tryz.prog 20 #[.agg #[.slice s1 A.length c1, .slice s2 B.length c2, .slice s3 C.length c3], .agg #[.slice a1 W.gens.length b1, .slice a2 W.free.length b2, .slice a3 W.tabs.length b3, .slice a4 W.res.length b4], .agg #[.int .i64 e.1, .int .i64 e.2], .int .i64 x, .agg #[.int .i64 v.1, .int .i64 v.2.1, .float .f64 v.2.2.1, .float .f64 v.2.2.2]] w fun r w' => WSays (PutR A B C W e x v) w r w' := by
 have hal := alloc_old
 have haf := alloc_oldf
 obtain ⟨X, hX, k0, k1, k2, k3, k4, L0⟩ := box5 w #[.slice s1 A.length c1, .slice s2 B.length c2, .slice s3 C.length c3] #[.slice a1 W.gens.length b1, .slice a2 W.free.length b2, .slice a3 W.tabs.length b3, .slice a4 W.res.length b4] #[.int .i64 e.1, .int .i64 e.2] #[.int .i64 v.1, .int .i64 v.2.1, .float .f64 v.2.2.1, .float .f64 v.2.2.2] #[.slice none 0 0, .slice none 0 0, .slice none 0 0, .slice none 0 0] 45 40 48 59 40
 have n4 : w.heap.size + 1 + 1 + 1 + 1 < X.heap.size := k4.lt
 go_enter Tryz.func20, Tryz.ntmps20
 go_wp2_with fail; rw [← hX]
 clear hX; have BR := Hid.mk' bR
 refine (openBoard_any s1 s2 s3 c1 c2 c3 A B C a1 a2 a3 a4 b1 b2 b3 b4 W _ (hA.later L0) (hB.later L0) (hC.later L0) nm l1 l2 l3 (hW.later L0) hk hcap bR).mono ?_
 rintro r w1 ⟨bb, V, mb, rfl, hR, hF, hS⟩
 obtain ⟨g1, d1, g2, d2, g3, d3, g4, d4, ts, rfl⟩ := (hF.ow hR.o.tail).shape
 have K0 := Hid.mk' k0
 have K2 := Hid.mk' k2
 have K3 := Hid.mk' k3
 have K4 := Hid.mk' k4
 have HR := Hid.mk' hR
 have HF := Hid.mk' hF
 have HS := Hid.mk' hS
 have HK := Hid.mk' hk
 have LX := Hid.mk' L0
 have HA := Hid.mk' hA
 clear k0 k1 k2 k3 k4 hR hF hS hB hC hW hA nm bR hcap L0 hk; obtain ⟨s0, s1, s2, s3, s4⟩ := (HR.out.blk K3.out (by omega)).four'
 have HRc := Hid.mk' (HR.out.later (bl_alloc (Below.refl _ w1) (.cells #[.int .i64 x, .int .i64 v.1, .int .i64 v.2.1, .float .f64 v.2.2.1, .float .f64 v.2.2.2] 103)))
 have KCc := Hid.mk' (Blk.new w1 #[.int .i64 x, .int .i64 v.1, .int .i64 v.2.1, .float .f64 v.2.2.1, .float .f64 v.2.2.2] 103)
 have HSc : Hid (∀ b n f, mb = some b → SM w1 b n f → SM (w1.alloc (.cells #[.int .i64 x, .int .i64 v.1, .int .i64 v.2.1, .float .f64 v.2.2.1, .float .f64 v.2.2.2] 103)) b n f) := fun b n f _ h => h.later (bl_alloc (Below.refl _ w1) _)
 go_upto_region 3 with fail
 generalize hwx : w1.alloc (.cells #[.int .i64 x, .int .i64 v.1, .int .i64 v.2.1, .float .f64 v.2.2.1, .float .f64 v.2.2.2] 103) = wx at HRc KCc HSc ⊢
 generalize hkx : w1.heap.size = kx at KCc ⊢
 clear hwx hkx s0 s1 s2 s3 s4; obtain ⟨y0, y1, y2, y3, y4⟩ := (HRc.out.blk K4.out n4).four'
 have KB : Blk wx bb #[.slice g1 W.gens.length d1, .slice g2 W.free.length d2, .slice g3 W.tabs.length d3, .slice g4 W.res.length d4, .map mb] 90 := rB_blk HRc.out.o.head
 have x0 := KB.cell 0
 have x1 := KB.cell 1
 have x2 := KB.cell 2
 have x3 := KB.cell 3
 have lw : Hid (Below w.heap.size w wx) := bl_trans LX.out HRc.out.l
 have hb0 : X.heap.size ≤ bb := (HRc.out.o.head.lt bb rfl).1
 cases hst : standB A B C W
 ·
  have HG : Hid (PutR A B C W e x v W 1) := Or.inl ⟨by rw [hst]; rfl, rfl, rfl⟩
  have hO := Hid.mk' ((HRc.out.o.tail.put4 (n := w.heap.size + 1 + 1 + 1 + 1) n4 (.slice g1 W.gens.length d1) (.slice g2 W.free.length d2) (.slice g3 W.tabs.length d3) (.slice g4 W.res.length d4)).mono (B' := w.heap.size) (by omega))
  clear hst KB HS HR HRc HSc; go_wp2_with fail; refine bodyPost_ret (v := .tuple #[.agg #[.slice g1 W.gens.length d1, .slice g2 W.free.length d2, .slice g3 W.tabs.length d3, .slice g4 W.res.length d4], .int .i64 1]) (by simp [results, Tryz.results20, go_sem, y0, y1, y2, y3]) rfl ⟨_, W, 1, rfl, HF.out.ow hO.out, HG.out, bl_put4 lw.out (by omega) _ _ _ _⟩
 obtain ⟨r0, r1, r2, r3⟩ := (HRc.out.blk K0.out (by omega)).three'
 have t0 := KCc.out.cell 0
 have t1 := KCc.out.cell 1
 have t2 := KCc.out.cell 2
 have t3 := KCc.out.cell 3
 have t4 := KCc.out.cell 4
 go_wp2_with fail; refine (cellOk_any s1 s2 s3 c1 c2 c3 A B C x v _ (HA.out.later lw.out) l1).mono ?_
 rintro r w2 ⟨rfl, hb2⟩
 have HR2 := Hid.mk' (HRc.out.later hb2)
 have KC2 := Hid.mk' (KCc.out.later hb2)
 clear x0 x1 x2 x3 y0 y1 y2 y3 y4 r0 r1 r2 r3 t0 t1 t2 t3 t4 KB lw HR HRc KCc; obtain ⟨b, n, f, rfl, hM, hSt, hnb, hlb, hnn⟩ := HS.out hst
 cases hcm : fitB A x v
 ·
  have HG : Hid (PutR A B C W e x v W 1) := Or.inl ⟨by rw [hst, hcm]; rfl, rfl, rfl⟩
  obtain ⟨y0, y1, y2, y3, y4⟩ := (HR2.out.blk K4.out n4).four'
  have KB : Blk w2 bb #[.slice g1 W.gens.length d1, .slice g2 W.free.length d2, .slice g3 W.tabs.length d3, .slice g4 W.res.length d4, .map (some b)] 90 := rB_blk HR2.out.o.head
  have x0 := KB.cell 0
  have x1 := KB.cell 1
  have x2 := KB.cell 2
  have x3 := KB.cell 3
  have lw : Hid (Below w.heap.size w w2) := bl_trans LX.out HR2.out.l
  have hO := Hid.mk' ((HR2.out.o.tail.put4 (n := w.heap.size + 1 + 1 + 1 + 1) n4 (.slice g1 W.gens.length d1) (.slice g2 W.free.length d2) (.slice g3 W.tabs.length d3) (.slice g4 W.res.length d4)).mono (B' := w.heap.size) (by omega))
  clear KB HS HSc HR2 KC2 hM hSt hnb hlb hnn hcm hst hb2; go_wp2_with fail; refine bodyPost_ret (v := .tuple #[.agg #[.slice g1 W.gens.length d1, .slice g2 W.free.length d2, .slice g3 W.tabs.length d3, .slice g4 W.res.length d4], .int .i64 1]) (by simp [results, Tryz.results20, go_sem, y0, y1, y2, y3]) rfl ⟨_, W, 1, rfl, HF.out.ow hO.out, HG.out, bl_put4 lw.out (by omega) _ _ _ _⟩
 obtain ⟨hrt, hon⟩ := stand_tabs hst
 simp only [onceB, decide_eq_true_eq] at hon
 have hlv : ∀ x, x ∈ listB W.gens W.free → x ∈ rowsOf W.tabs := all_in hon.1 hon.2.1 hon.2.2
 have hsz := stand_sizes hst
 have hsc : ∀ T ∈ W.tabs, T.cols.length ≤ 900 := fun T hT => by have := hsz.1 T hT; omega
 have hsr : ∀ T ∈ W.tabs, T.rows.length ≤ 100000 := fun T hT => by have := hsz.2 T hT; omega
 have HM : Hid (Rm X X.heap.size b n f w2 ([] ++ rB bb 90 [.slice g1 W.gens.length d1, .slice g2 W.free.length d2, .slice g3 W.tabs.length d3, .slice g4 W.res.length d4, .map (some b)] :: rW ⟨.slice g1 W.gens.length d1, .slice g2 W.free.length d2, .slice g3 W.tabs.length d3, .slice g4 W.res.length d4, ts⟩ W)) := ⟨HR2.out, (HSc.out b n f rfl hM).later hb2, hnb, hlb⟩
 have HKL := Hid.mk' (put_any (X := X) (B := X.heap.size) [] bb (.slice g1 W.gens.length d1) (.slice g2 W.free.length d2) (.slice g4 W.res.length d4) g3 d3 ts W e x v w2 HM.out HF.out HK.out hSt hlv hrt BR.out be (by omega) hsc hsr (stand_40 hst) ov)
 obtain ⟨z0, z1, z2⟩ := (HR2.out.blk K2.out (by omega)).two
 have t0 := KC2.out.cell 0
 have t1 := KC2.out.cell 1
 have t2 := KC2.out.cell 2
 have t3 := KC2.out.cell 3
 have t4 := KC2.out.cell 4
 have HST := Hid.mk' hst
 have HCX := Hid.mk' hcm
 clear hst hcm HS HSc HM hM hSt hnb hlb hnn hrt hon hlv hsz hsc hsr hb2; go_wp2_with fail; refine HKL.out.mono ?_
 rintro r w3 hr
 clear HKL z0 z1 z2 t0 t1 t2 t3 t4 HR2 KC2; rcases hr with ⟨rfl, hno, hR3⟩ | ⟨i, j, T, hT, hj, ⟨q, M, rfl, hq, hM, hF3, hR3⟩ | ⟨hnx, q, hq, ⟨rfl, hno, h4, hR3⟩ | ⟨i1, T1, W1, st, cp1, ts1, n', rfl, hGA, hF3, hR3, _⟩⟩⟩
 ·
  have HG : Hid (PutR A B C W e x v W 2) := Or.inr ⟨HST.out, Or.inl ⟨hno, rfl, rfl⟩, HCX.out⟩
  have HR3 := Hid.mk' hR3
  obtain ⟨y0, y1, y2, y3, y4⟩ := (HR3.out.rs.blk K4.out n4).four'
  have KB : Blk w3 bb #[.slice g1 W.gens.length d1, .slice g2 W.free.length d2, .slice g3 W.tabs.length d3, .slice g4 W.res.length d4, .map (some b)] 90 := rB_blk HR3.out.rs.o.head
  have x0 := KB.cell 0
  have x1 := KB.cell 1
  have x2 := KB.cell 2
  have x3 := KB.cell 3
  have lw : Hid (Below w.heap.size w w3) := bl_trans LX.out HR3.out.rs.l
  have hO := Hid.mk' ((HR3.out.rs.o.tail.put4 (n := w.heap.size + 1 + 1 + 1 + 1) n4 (.slice g1 W.gens.length d1) (.slice g2 W.free.length d2) (.slice g3 W.tabs.length d3) (.slice g4 W.res.length d4)).mono (B' := w.heap.size) (by omega))
  clear KB HR3 hR3 hno; go_wp2_with fail; refine bodyPost_ret (v := .tuple #[.agg #[.slice g1 W.gens.length d1, .slice g2 W.free.length d2, .slice g3 W.tabs.length d3, .slice g4 W.res.length d4], .int .i64 2]) (by simp [results, Tryz.results20, go_sem, y0, y1, y2, y3]) rfl ⟨_, W, 2, rfl, HF.out.ow hO.out, HG.out, bl_put4 lw.out (by omega) _ _ _ _⟩
 ·
  obtain ⟨W2, hW2⟩ : ∃ W2, Hid (setW W i (setT T q (M.set j v)) = W2) := ⟨_, rfl⟩
  have HG : Hid (PutR A B C W e x v W2 0) := Or.inr ⟨HST.out, Or.inr ⟨i, j, T, hT, hj, Or.inl ⟨q, M, hq, hM, hW2.out.symm, rfl⟩⟩, HCX.out⟩
  rw [hW2.out] at hR3 hF3
  have HR3 := Hid.mk' hR3
  have HF3 := Hid.mk' hF3
  obtain ⟨y0, y1, y2, y3, y4⟩ := (HR3.out.rs.blk K4.out n4).four'
  have KB : Blk w3 bb #[.slice g1 W.gens.length d1, .slice g2 W.free.length d2, .slice g3 W.tabs.length d3, .slice g4 W.res.length d4, .map (some b)] 90 := rB_blk HR3.out.rs.o.head
  have x0 := KB.cell 0
  have x1 := KB.cell 1
  have x2 := KB.cell 2
  have x3 := KB.cell 3
  have lw : Hid (Below w.heap.size w w3) := bl_trans LX.out HR3.out.rs.l
  have hO := Hid.mk' ((HR3.out.rs.o.tail.put4 (n := w.heap.size + 1 + 1 + 1 + 1) n4 (.slice g1 W.gens.length d1) (.slice g2 W.free.length d2) (.slice g3 W.tabs.length d3) (.slice g4 W.res.length d4)).mono (B' := w.heap.size) (by omega))
  clear KB HR3 hR3 hF3 hT hj hq hM; go_wp2_with fail; refine bodyPost_ret (v := .tuple #[.agg #[.slice g1 W.gens.length d1, .slice g2 W.free.length d2, .slice g3 W.tabs.length d3, .slice g4 W.res.length d4], .int .i64 0]) (by simp [results, Tryz.results20, go_sem, y0, y1, y2, y3]) rfl ⟨_, W2, 0, rfl, HF3.out.ow hO.out, HG.out, bl_put4 lw.out (by omega) _ _ _ _⟩
 ·
  have HG : Hid (PutR A B C W e x v W 3) := Or.inr ⟨HST.out, Or.inr ⟨i, j, T, hT, hj, Or.inr ⟨hnx, q, hq, Or.inl ⟨rfl, rfl, hno, h4⟩⟩⟩, HCX.out⟩
  have HR3 := Hid.mk' hR3
  obtain ⟨y0, y1, y2, y3, y4⟩ := (HR3.out.rs.blk K4.out n4).four'
  have KB : Blk w3 bb #[.slice g1 W.gens.length d1, .slice g2 W.free.length d2, .slice g3 W.tabs.length d3, .slice g4 W.res.length d4, .map (some b)] 90 := rB_blk HR3.out.rs.o.head
  have x0 := KB.cell 0
  have x1 := KB.cell 1
  have x2 := KB.cell 2
  have x3 := KB.cell 3
  have lw : Hid (Below w.heap.size w w3) := bl_trans LX.out HR3.out.rs.l
  have hO := Hid.mk' ((HR3.out.rs.o.tail.put4 (n := w.heap.size + 1 + 1 + 1 + 1) n4 (.slice g1 W.gens.length d1) (.slice g2 W.free.length d2) (.slice g3 W.tabs.length d3) (.slice g4 W.res.length d4)).mono (B' := w.heap.size) (by omega))
  clear KB HR3 hR3 hno h4 hT hj hq hnx; go_wp2_with fail; refine bodyPost_ret (v := .tuple #[.agg #[.slice g1 W.gens.length d1, .slice g2 W.free.length d2, .slice g3 W.tabs.length d3, .slice g4 W.res.length d4], .int .i64 3]) (by simp [results, Tryz.results20, go_sem, y0, y1, y2, y3]) rfl ⟨_, W, 3, rfl, HF.out.ow hO.out, HG.out, bl_put4 lw.out (by omega) _ _ _ _⟩
 obtain ⟨W2, hW2⟩ : ∃ W2, Hid (setW (setW W1 i1 (addT T1 e ((rowC T j).insertIdx q (x, v)))) i (gone T j) = W2) := ⟨_, rfl⟩
 have HG : Hid (PutR A B C W e x v W2 0) := Or.inr ⟨HST.out, Or.inr ⟨i, j, T, hT, hj, Or.inr ⟨hnx, q, hq, Or.inr ⟨i1, T1, W1, hGA, hW2.out.symm, rfl⟩⟩⟩, HCX.out⟩
 rw [hW2.out] at hR3 hF3
 have HR3 := Hid.mk' hR3
 have HF3 := Hid.mk' hF3
 obtain ⟨y0, y1, y2, y3, y4⟩ := (HR3.out.rs.blk K4.out n4).four'
 have KB : Blk w3 bb #[.slice g1 W.gens.length d1, .slice g2 W.free.length d2, .slice st W1.tabs.length cp1, .slice g4 W.res.length d4, .map (some b)] 90 := rB_blk HR3.out.rs.o.head
 have x0 := KB.cell 0
 have x1 := KB.cell 1
 have x2 := KB.cell 2
 have x3 := KB.cell 3
 have lw : Hid (Below w.heap.size w w3) := bl_trans LX.out HR3.out.rs.l
 have hO := Hid.mk' ((HR3.out.rs.o.tail.put4 (n := w.heap.size + 1 + 1 + 1 + 1) n4 (.slice g1 W.gens.length d1) (.slice g2 W.free.length d2) (.slice st W1.tabs.length cp1) (.slice g4 W.res.length d4)).mono (B' := w.heap.size) (by omega))
 clear KB HR3 hR3 hF3 hT hj hq hGA hnx; go_wp2_with fail; refine bodyPost_ret (v := .tuple #[.agg #[.slice g1 W.gens.length d1, .slice g2 W.free.length d2, .slice st W1.tabs.length cp1, .slice g4 W.res.length d4], .int .i64 0]) (by simp [results, Tryz.results20, go_sem, y0, y1, y2, y3]) rfl ⟨_, W2, 0, rfl, HF3.out.ow hO.out, HG.out, bl_put4 lw.out (by omega) _ _ _ _⟩
end
end Go.Proofs.YtkihhadcoclnaaaGreat
