import Derived.Test.YtbgeobpdojmdaaaGreatSq41
import Derived.Test.YtbgeobpdojmdaaaGreatSq44
import Derived.Shelf.SlSortCmp.SmallK
import Derived.Shelf.SlicesG.Cmp
import Derived.Shelf.Small.Bits
import Derived.Shelf.Lay
import Derived.Ground.SlsfProg
import Derived.Ground.SlgcProg
import Derived.Ground.NamesProg
namespace Go.Proofs
open Go.Shelf Go.RowKit Go.Lib Go.Sort
shelf_lay_g SlLaysF0.n14 Slsf 14 at Tryz 110 as Tryz.laysPdqC
shelf_lay_g SlLaysC2.n5 Slgc 5 at Tryz 76 as Tryz.laysCmpI
shelf_lay Lays.n125 Nm 125 at Tryz as Tryz.laysBits
end Go.Proofs
namespace Go.Proofs.YtbgeobpdojmdaaaGreat
set_option linter.unusedVariables false
set_option linter.unusedSimpArgs false
section
open Go.RowKit Go.Maps Go.WideMaps
set_option maxRecDepth 100000
def SpawnR (A B C : List (ByteArray × Int)) (W : Wd) (L : List C5) (W' : Wd) (e : E2) (code : Int) : Prop :=
 ((standB A B C W && sortB A L) = false ∧ W' = W ∧ e = (0, 0) ∧ code = 1) ∨ (standB A B C W = true ∧ sortB A L = true ∧ SpA W (outL L A.length) W' e code)
def WSays3 (R : Wd → E2 → Int → Prop) (w : World) (r : Ending) (w' : World) : Prop := ∃ (V : WV) (W' : Wd) (e : E2) (code : Int), r = .returned (.tuple #[.agg #[V.g, V.f, V.t, V.r], .agg #[.int .i64 e.1, .int .i64 e.2], .int .i64 code]) ∧ OW w' w.heap.size V W' ∧ R W' e code ∧ Below w.heap.size w w'
set_option maxHeartbeats 8000000 in
theorem specSpawn_any (p1 q1 c1 p2 q2 c2 p3 q3 c3 : Nat) (A B C : List (ByteArray × Int)) (a1 a2 a3 a4 : Option Addr) (b1 b2 b3 b4 : Nat) (W : Wd) (sc : Option Addr) (cc : Nat) (L : List C5) (Bc : Nat) (w : World) (hA : Decls w (some ⟨p1, q1, none⟩) A) (hB : Decls w (some ⟨p2, q2, none⟩) B) (hC : Decls w (some ⟨p3, q3, none⟩) C)
  (hW : InW w 0 a1 a2 a3 a4 W) (hk : kW W) (hL : Els 5 cCell w Bc sc L) (lL : L.length ≤ 1048576) (lA : A.length ≤ 1048576) :
  Calls Tryz.prog 7 #[.agg #[.slice (some ⟨p1, q1, none⟩) A.length c1, .slice (some ⟨p2, q2, none⟩) B.length c2, .slice (some ⟨p3, q3, none⟩) C.length c3], .agg #[.slice a1 W.gens.length b1, .slice a2 W.free.length b2, .slice a3 W.tabs.length b3, .slice a4 W.res.length b4], .slice sc L.length cc] w fun r w' => WSays3 (SpawnR A B C W L) w r w' := by
 have hal := alloc_old
 have haf := alloc_oldf
 obtain ⟨X, hX, k0, k1, k2, k3, L0⟩ := box4y w #[.slice (some ⟨p1, q1, none⟩) A.length c1, .slice (some ⟨p2, q2, none⟩) B.length c2, .slice (some ⟨p3, q3, none⟩) C.length c3] #[.slice a1 W.gens.length b1, .slice a2 W.free.length b2, .slice a3 W.tabs.length b3, .slice a4 W.res.length b4] #[.slice none 0 0, .slice none 0 0, .slice none 0 0, .slice none 0 0] #[.int .i64 0, .int .i64 0] 47 40 40 42
 have n4 : w.heap.size + 1 + 1 + 1 < X.heap.size := k3.lt
 have okC : Hid (okCs L) := by
  intro a ha
  obtain ⟨j, hj, rfl⟩ := List.getElem_of_mem ha
  obtain ⟨_, _, _, _, _, ok, _⟩ := eCell_cells hL (List.getElem?_eq_getElem hj)
  exact ok
 have HD := Hid.mk' (And.intro hA (And.intro hB hC))
 have HW := Hid.mk' hW
 have K2X := Hid.mk' k2
 have K3X := Hid.mk' k3
 have LXw := Hid.mk' L0
 obtain ⟨x0, x1, x2, x3⟩ := k0.three'
 rw [hX] at x0 x1 x2 x3
 go_enter Tryz.func7, Tryz.ntmps7
 go_wp2_with fail; rw [← hX]
 clear hX; refine (l4Sorted_list (some ⟨p1, q1, none⟩) (some ⟨p2, q2, none⟩) (some ⟨p3, q3, none⟩) c1 c2 c3 A B C sc cc L Bc _ (hA.later L0) (hL.later cCell_keeps L0) lA lL).mono ?_
 rintro r w1 ⟨⟨v, rfl, hv⟩, hb1⟩
 have HV := Hid.mk' hv
 have K0 := Hid.mk' (k0.later hb1)
 have K1 := Hid.mk' (k1.later hb1)
 have K2 := Hid.mk' (k2.later hb1)
 have K3 := Hid.mk' (k3.later hb1)
 have L1 := Hid.mk' (bl_trans L0 hb1)
 have LX1 := Hid.mk' hb1
 clear k0 k1 k2 k3 hb1 hA hB hC hW L0 hv hL x0 x1 x2 x3; obtain ⟨x0, x1, x2, x3⟩ := K0.out.three'
 obtain ⟨y0, y1, y2, y3, y4⟩ := K1.out.four'
 go_wp2_with fail; refine (specWorldOk_any p1 q1 c1 p2 q2 c2 p3 q3 c3 A B C a1 a2 a3 a4 b1 b2 b3 b4 W _ (HD.out.1.later L1.out) (HD.out.2.1.later L1.out) (HD.out.2.2.later L1.out) (HW.out.later L1.out) hk).mono ?_
 rintro r w2 ⟨rfl, hb2⟩
 rw [spec_stand]
 have K1 := Hid.mk' (K1.out.later hb2)
 have K2 := Hid.mk' (K2.out.later hb2)
 have K3 := Hid.mk' (K3.out.later hb2)
 have L2 := Hid.mk' (bl_trans L1.out hb2)
 have LX2 : Hid (Below X.heap.size X w2) := bl_trans LX1.out hb2
 have LB2 := Hid.mk' hb2
 have HW2 := Hid.mk' (HW.out.later L2.out)
 have n5 : w.heap.size + 1 + 1 + 1 < w2.heap.size := K3.out.lt
 clear hb2 x0 x1 x2 x3 y0 y1 y2 y3 y4 L1; obtain ⟨x0, x1, x2, x3, x4⟩ := K1.out.four'
 cases hst : standB A B C W
 ·
  have HG : Hid (SpawnR A B C W L W (0, 0) 1) := Or.inl ⟨by rw [hst]; rfl, rfl, rfl, rfl⟩
  clear hst; go_wp2_with fail; refine (l4Copy_new a1 a2 a3 a4 b1 b2 b3 b4 W 0 w2 HW2.out hk).mono ?_
  rintro r w3 ⟨⟨V, rfl, hO⟩, hb3⟩
  obtain ⟨g1, d1, g2, d2, g3, d3, g4, d4, ts, rfl⟩ := hO.shape
  have HF := Hid.mk' hO.f
  obtain ⟨y0, y1, y2, y3, y4⟩ := (K2.out.later hb3).four'
  obtain ⟨s0, s1, s2⟩ := (K3.out.later hb3).two
  have lw : Hid (Below w.heap.size w w3) := bl_trans L2.out hb3
  have n6 : w.heap.size + 1 + 1 < w2.heap.size := by omega
  have hO2 := Hid.mk' ((((hO.own.put4 (n := w.heap.size + 1 + 1) n6 (.slice g1 W.gens.length d1) (.slice g2 W.free.length d2) (.slice g3 W.tabs.length d3) (.slice g4 W.res.length d4)).putC (p := ⟨w.heap.size + 1 + 1 + 1, 0, none⟩) n5 (.int .i64 0)).putC (p := ⟨w.heap.size + 1 + 1 + 1, 1, none⟩) n5 (.int .i64 0)).mono (B' := w.heap.size) (by omega))
  clear x0 x1 x2 x3 x4 hO hb3; go_wp2_with fail; refine bodyPost_ret (v := .tuple #[.agg #[.slice g1 W.gens.length d1, .slice g2 W.free.length d2, .slice g3 W.tabs.length d3, .slice g4 W.res.length d4], .agg #[.int .i64 0, .int .i64 0], .int .i64 1]) (by simp [results, Tryz.results7, go_sem, y0, y1, y2, y3, s0, s1]) rfl ⟨_, W, (0, 0), 1, rfl, HF.out.ow hO2.out, HG.out, ((bl_put4 lw.out (by omega) _ _ _ _).setCell (by simp; omega) _).setCell (by simp; omega) _⟩
 cases hso : sortB A L
 ·
  have HG : Hid (SpawnR A B C W L W (0, 0) 1) := Or.inl ⟨by rw [hst, hso]; rfl, rfl, rfl, rfl⟩
  clear hst hso; go_wp2_with fail; refine (l4Copy_new a1 a2 a3 a4 b1 b2 b3 b4 W 0 w2 HW2.out hk).mono ?_
  rintro r w3 ⟨⟨V, rfl, hO⟩, hb3⟩
  obtain ⟨g1, d1, g2, d2, g3, d3, g4, d4, ts, rfl⟩ := hO.shape
  have HF := Hid.mk' hO.f
  obtain ⟨y0, y1, y2, y3, y4⟩ := (K2.out.later hb3).four'
  obtain ⟨s0, s1, s2⟩ := (K3.out.later hb3).two
  have lw : Hid (Below w.heap.size w w3) := bl_trans L2.out hb3
  have n6 : w.heap.size + 1 + 1 < w2.heap.size := by omega
  have hO2 := Hid.mk' ((((hO.own.put4 (n := w.heap.size + 1 + 1) n6 (.slice g1 W.gens.length d1) (.slice g2 W.free.length d2) (.slice g3 W.tabs.length d3) (.slice g4 W.res.length d4)).putC (p := ⟨w.heap.size + 1 + 1 + 1, 0, none⟩) n5 (.int .i64 0)).putC (p := ⟨w.heap.size + 1 + 1 + 1, 1, none⟩) n5 (.int .i64 0)).mono (B' := w.heap.size) (by omega))
  clear x0 x1 x2 x3 x4 hO hb3; go_wp2_with fail; refine bodyPost_ret (v := .tuple #[.agg #[.slice g1 W.gens.length d1, .slice g2 W.free.length d2, .slice g3 W.tabs.length d3, .slice g4 W.res.length d4], .agg #[.int .i64 0, .int .i64 0], .int .i64 1]) (by simp [results, Tryz.results7, go_sem, y0, y1, y2, y3, s0, s1]) rfl ⟨_, W, (0, 0), 1, rfl, HF.out.ow hO2.out, HG.out, ((bl_put4 lw.out (by omega) _ _ _ _).setCell (by simp; omega) _).setCell (by simp; omega) _⟩
 have hcr := HV.out hso
 obtain ⟨K, hK⟩ : ∃ K, Hid (outL L A.length = K) := ⟨_, rfl⟩
 rw [hK.out] at hcr
 have okK : okCs K := fun a ha => okC.out a (outL_sub L A.length a (by rw [hK.out]; exact ha))
 obtain ⟨sk, ck, ev⟩ := OR.on.shape (r := rC v K) hcr
 have ev : v = .slice sk K.length ck := ev
 subst ev
 have hKl : K.length ≤ 12 := by
  have h1 := outL_le L A.length
  rw [hK.out] at h1
  have h2 := okR_l12 (by simp only [standB, Bool.and_eq_true] at hst; exact hst.1.1.1.1.1)
  simp only [sortB, Bool.and_eq_true, decide_eq_true_eq] at hso
  omega
 obtain ⟨hrt, hon⟩ := stand_tabs hst
 have hRk : Rs X X.heap.size w2 [rC (.slice sk K.length ck) K] := by
  refine ⟨LX2.out, ⟨fun r hr => ?_, ?_⟩, LX2.out.size⟩
  ·
   simp only [List.mem_singleton] at hr
   subst hr
   exact OR.on.later hcr LB2.out
  unfold blks
  rw [List.filterMap_cons]
  cases (rC (.slice sk K.length ck) K).v.ownBlock <;> simp
 have HRK := Hid.mk' hRk
 have HSI := Hid.mk' (And.intro (fun t ht => (hrt t ht).len) (And.intro (stand_lens hst).1 (And.intro (stand_lens hst).2 (And.intro (stand_40 hst) (stand_okE hst)))))
 have HST := Hid.mk' (And.intro hst hso)
 have HOKK := Hid.mk' okK
 clear hst hso hrt hon hcr hRk okK HV; go_wp2_with fail; refine (l4Copy_new a1 a2 a3 a4 b1 b2 b3 b4 W 0 w2 HW2.out hk).mono ?_
 rintro r w3 ⟨⟨V, rfl, hO⟩, hb3⟩
 obtain ⟨g1, d1, g2, d2, g3, d3, g4, d4, ts, rfl⟩ := hO.shape
 have HF := Hid.mk' hO.f
 have HR3 : Hid (Rs X X.heap.size w3 ([rC (.slice sk K.length ck) K] ++ rW ⟨.slice g1 W.gens.length d1, .slice g2 W.free.length d2, .slice g3 W.tabs.length d3, .slice g4 W.res.length d4, ts⟩ W)) := by
  show Rs _ _ _ _
  have h := Rs.insM [rC (.slice sk K.length ck) K] (rW ⟨.slice g1 W.gens.length d1, .slice g2 W.free.length d2, .slice g3 W.tabs.length d3, .slice g4 W.res.length d4, ts⟩ W) [] (by simpa using HRK.out) hb3 hO.own
  simpa using h
 clear hO hb3 HRK x0 x1 x2 x3 x4; go_wp2_with fail; refine (l4Spawn_any (X := X) (B := X.heap.size) [rC (.slice sk K.length ck) K] g1 g2 g3 g4 d1 d2 d3 d4 ts W sk ck K w3 HR3.out HF.out hk (by simp) HOKK.out (by omega) HSI.out.1 HSI.out.2.1 HSI.out.2.2.1 HSI.out.2.2.2.1 HSI.out.2.2.2.2).mono ?_
 rintro r w4 ⟨V', W', e, code, rfl, hR4, hF4, hans⟩
 obtain ⟨t1, m1, t2, m2, t3, m3, t4, m4, ts', rfl⟩ := (hF4.ow hR4.o.right).shape
 have HG : Hid (SpawnR A B C W L W' e code) := Or.inr ⟨HST.out.1, HST.out.2, by rw [hK.out]; exact hans⟩
 have HF4 := Hid.mk' hF4
 have hX4 : Below X.heap.size X w4 := hR4.l
 obtain ⟨y0, y1, y2, y3, y4⟩ := (hR4.blk K2X.out (by omega)).four'
 obtain ⟨s0, s1, s2⟩ := (hR4.blk K3X.out (by omega)).two
 have lw : Hid (Below w.heap.size w w4) := bl_trans LXw.out hX4
 have hO2 := Hid.mk' ((((hR4.o.right.put4 (n := w.heap.size + 1 + 1) (by omega) (.slice t1 W'.gens.length m1) (.slice t2 W'.free.length m2) (.slice t3 W'.tabs.length m3) (.slice t4 W'.res.length m4)).putC (p := ⟨w.heap.size + 1 + 1 + 1, 0, none⟩) n4 (.int .i64 e.1)).putC (p := ⟨w.heap.size + 1 + 1 + 1, 1, none⟩) n4 (.int .i64 e.2)).mono (B' := w.heap.size) (by omega))
 clear hR4 hF4 hans hX4 HR3; go_wp2_with fail; refine bodyPost_ret (v := .tuple #[.agg #[.slice t1 W'.gens.length m1, .slice t2 W'.free.length m2, .slice t3 W'.tabs.length m3, .slice t4 W'.res.length m4], .agg #[.int .i64 e.1, .int .i64 e.2], .int .i64 code]) (by simp [results, Tryz.results7, go_sem, y0, y1, y2, y3, s0, s1]) rfl ⟨_, W', e, code, rfl, HF4.out.ow hO2.out, HG.out, ((bl_put4 lw.out (by omega) _ _ _ _).setCell (by simp; omega) _).setCell (by simp; omega) _⟩
end
section
open Go.RowKit Go.Maps Go.WideMaps
set_option maxRecDepth 100000
set_option maxHeartbeats 2000000 in
theorem copiedC_any (s : Option Addr) (c : Nat) (L : List C5) (B : Nat) (w : World) (hL : Els 5 cCell w B s L) (hl : L.length ≤ 1048576) :
  Calls Tryz.prog 73 #[.slice s L.length c] w fun e w' => e = .returned (.slice (some ⟨w.heap.size, 0, none⟩) L.length L.length) ∧ (rC (.slice (some ⟨w.heap.size, 0, none⟩) L.length L.length) L).on w' w.heap.size ∧ Below w.heap.size w w' := by
 obtain ⟨i0, hi, hz0, hz1, hz2⟩ := info_parts Tryz.infoC
 go_enter Tryz.func73, Tryz.ntmps73
 go_wp2_with (at_make; refine wpList_make_full _ rfl _ _ 138 rfl w.heap.size 77 i0 (.agg #[.int .i64 0, .int .i64 0, .int .i64 0, .float .f64 0, .float .f64 0]) 5 Tryz.underlying138 hi hz0 hz1 .i64 .i64 _ _ L.length rfl rfl rfl rfl (by rw [hz2]; omega) (by unfold maxLen; omega) (Nat.le_refl _) ?_)
 intro w1 hown hgrow
 have hbel : Below w.heap.size w w1 := (Below.refl _ w).grown hgrow (Nat.le_refl _) (fun k h => by cases h)
 obtain ⟨w2, hrun, hO, hb2⟩ := copyK_own 138 138 3 77 i0 5 Tryz.underlying138 hi hz1 w.heap.size w.heap.size L.length s c (L.flatMap ccells) _ hown (flat_len (k := 5) (f := ccells) (fun _ => rfl) L) (ccells_one L) (els_src (k := 5) (E := cCell) (f := ccells) (fun _ => rfl) (by decide) (fun _ _ _ _ h => h.1) (hL.later cCell_keeps hbel)) w hbel
 clear hgrow hi hz0 hz1 hz2 hown hbel; go_wp2_with fail; go_ret; exact ⟨rfl, hO, hb2⟩
theorem flatK_list (L : List C5) : (Sort.flatK ccells 5 L.toArray).toList = L.flatMap ccells := by
 apply List.ext_getElem?
 intro t
 by_cases ht : t < L.length * 5
 ·
  have hd : t / 5 < L.length := by omega
  have h1 : (Sort.flatK ccells 5 L.toArray)[t]! = _ := Sort.get_flatK ccells 5 L.toArray t (by simpa using ht)
  have hs : t < (Sort.flatK ccells 5 L.toArray).size := by simpa using ht
  rw [getElem!_pos _ t hs] at h1
  rw [Array.getElem?_toList, Array.getElem?_eq_getElem hs, h1]
  have h2 := flat_get (k := 5) (f := ccells) (fun _ => rfl) L (t / 5) L[t / 5] (List.getElem?_eq_getElem hd) (t % 5) (Nat.mod_lt _ (by decide))
  rw [show t / 5 * 5 + t % 5 = t by omega] at h2
  rw [h2]
  have h3 : L.toArray[t / 5]! = L[t / 5] := by simp [hd]
  rw [h3]
  have h4 : t % 5 < (ccells L[t / 5]).length := Nat.mod_lt _ (by decide)
  rw [getElem!_pos (ccells L[t / 5]) (t % 5) h4, List.getElem?_eq_getElem h4]
 rw [List.getElem?_eq_none (by simp; omega), List.getElem?_eq_none (by rw [flat_len (k := 5) (f := ccells) (fun _ => rfl)]; omega)]
set_option maxHeartbeats 1000000 in
theorem cmpC_any (x y : C5) (W : World) : Calls Tryz.prog 75 #[.agg (ccells x).toArray, .agg (ccells y).toArray] W fun e w' => e = .returned (.int .i64 (Lib.compareInt x.1 y.1)) ∧ ∃ q os', w' = Sort.grow (W.drewN q) os' := by
 show Calls Tryz.prog 75 #[.agg #[.int .i64 x.1, .int .i64 x.2.1, .int .i64 x.2.2.1, .float .f64 x.2.2.2.1, .float .f64 x.2.2.2.2], .agg #[.int .i64 y.1, .int .i64 y.2.1, .int .i64 y.2.2.1, .float .f64 y.2.2.2.1, .float .f64 y.2.2.2.2]] W _
 have hcon := fun W' => AnyG.cmp_Compare_int Tryz.laysCmpI x.1 y.1 W'
 change ∀ W', Calls Tryz.prog 76 _ _ _ at hcon
 generalize Lib.compareInt x.1 y.1 = r at hcon ⊢
 go_enter Tryz.func75, Tryz.ntmps75
 go_wp2_with (go_at_call 76; refine (hcon _).mono ?_; rintro e w' ⟨rfl, rfl⟩)
 go_ret; exact ⟨rfl, 0, _, by rw [Sort.alloc_eq_grow, Sort.alloc_eq_grow, Sort.grow_grow]; rfl⟩
theorem ltC : ∀ x y : C5, ltOf (fun x y : C5 => Lib.compareInt x.1 y.1) x y = decide (x.1 < y.1) := by
 intro x y
 simp only [ltOf, Lib.compareInt]
 split <;> (try split) <;> simp_all <;> omega
theorem swoC : Sort.SWO (ltOf fun x y : C5 => Lib.compareInt x.1 y.1) := by
 refine ⟨fun x => ?_, fun x y z => ?_, fun x y z => ?_⟩ <;> simp only [ltC, decide_eq_true_eq, decide_eq_false_iff_not] <;> omega
set_option maxHeartbeats 4000000 in
theorem sortC_any (g : Nat) (L : List C5) (B : Nat) (w : World) (hO : (rC (.slice (some ⟨g, 0, none⟩) L.length L.length) L).on w B) (hl : L.length ≤ 12) :
  Calls Tryz.prog 74 #[.slice (some ⟨g, 0, none⟩) L.length L.length, .func (.func 75) #[] #[]] w fun e w' => e = .returned (.tuple #[]) ∧ ∃ L' : List C5, L'.Perm L ∧ L'.Pairwise (fun a b => a.1 ≤ b.1) ∧ (rC (.slice (some ⟨g, 0, none⟩) L.length L.length) L').on w' B ∧ Below B w w' := by
 have eg : ∀ args w, (callFunc 75 args).run Tryz.prog w = .ok (.enter 75 args) w := enters_of Tryz.func75 (by kernel_rfl) rfl
 obtain ⟨h1, h2⟩ := hO
 rcases h2 with ⟨h2, _⟩ | ⟨g', cap, cur, h2, hBg, hg, hc1, hc2, hc3, hc4⟩
 ·
  cases h2
 simp only [rC, Value.slice.injEq, Option.some.injEq, Addr.mk.injEq] at h2
 obtain ⟨⟨rfl, _⟩, _, rfl⟩ := h2
 simp only [rC] at h1 hg hc1 hc2 hc3 hc4
 have hcur : cur.toList = L.flatMap ccells := by
  rw [← hc4, List.take_of_length_le (by rw [Array.length_toList, hc3]; exact Nat.le_refl _)]
 have hH : Sort.HoldsK ccells 5 w g 0 L.toArray := by
  have hF : cur = Sort.flatK ccells 5 L.toArray := Array.toList_inj.1 (hcur.trans (flatK_list L).symm)
  intro j hj
  rw [Nat.zero_add]
  refine ⟨?_, frozen_of_row w g j cur _ hg⟩
  rw [cell_of_row w g j cur _ (0, 0) hg, hF, getElem!_pos _ j hj, Array.getElem?_eq_getElem hj]
  rfl
 have hgw : g < w.heap.size := by
  have := (Array.getElem?_eq_some_iff.1 hg).1
  exact this
 have hp := fun lim => AnyQ.pdqsortCmpFunc_small Tryz.laysPdqC 5 Tryz.isAgg77 Tryz.sizeOf77 ccells (fun _ => rfl) (fun x v hv => by simp [ccells] at hv; rcases hv with rfl | rfl | rfl | rfl | rfl <;> rfl) (fun x y : C5 => Lib.compareInt x.1 y.1) 75 #[] g 0 L.length 0 L.length lim L.toArray w eg (fun _ _ _ _ x y => cmpC_any x y _) hH hgw (Nat.zero_le _) (by simp) (by simp; omega) (by omega)
 have hl2 : ∀ W, Calls Tryz.prog 111 #[.int .u64 L.length] W fun e w' => (∃ l : Int, e = .returned (.int .i64 l)) ∧ W = w' := fun W => (Any.bits_Len Tryz.laysBits L.length W (by omega) (by omega)).mono fun _ _ ⟨he, hw⟩ => ⟨⟨_, he⟩, hw.symm⟩
 have hso := Sort.insertionSort_holds (lt := ltOf fun x y : C5 => Lib.compareInt x.1 y.1) swoC L.toArray 0 L.length (Nat.zero_le _) (by simp)
 change ∀ lim, Calls Tryz.prog 110 _ _ _ at hp
 simp only [List.size_toArray] at hp
 generalize Sort.insertionSort (ltOf fun x y : C5 => Lib.compareInt x.1 y.1) L.toArray 0 L.length = D at hp hso
 clear hH eg; have HG := Hid.mk' hg
 have HS := Hid.mk' hso
 clear hg hso hcur hc4; go_enter Tryz.func74, Tryz.ntmps74
 go_wp2_with (first | (go_at_call 111; refine (hl2 _).mono ?_; rintro e w' ⟨⟨l, rfl⟩, rfl⟩) | (go_at_call 110; refine (hp _).mono ?_; rintro e w' ⟨rfl, n, os, rfl⟩))
 go_end0
 refine ⟨rfl, D.toList, ?_, ?_, ?_, ?_⟩
 ·
  have := HS.out.1.2.2
  rw [Array.extract_eq_self_of_le (by rw [HS.out.1.1]; simp), Array.extract_eq_self_of_le (by simp)] at this
  exact this
 ·
  rw [List.pairwise_iff_getElem]
  intro i j hi hj hij
  have hjs : j < D.size := by simpa using hj
  have his : i < D.size := by simpa using hi
  have hDs : D.size = L.length := by simpa using HS.out.1.1
  have := HS.out.2 i j (Nat.zero_le _) hij (by omega)
  rw [getElem!_pos D j hjs, getElem!_pos D i his, ltC] at this
  simp only [decide_eq_false_iff_not] at this
  simp only [Array.getElem_toList]
  omega
 ·
  have hDs : D.size = L.length := by simpa using HS.out.1.1
  have hfl := flatK_list D.toList
  rw [Array.toArray_toList] at hfl
  refine ⟨?_, Or.inr ⟨g, L.length, Sort.putCells id 0 (Sort.flatK ccells 5 D) cur, by simp [rC, hDs], hBg, ?_, ?_, hc2, ?_, ?_⟩⟩
  ·
   simp only [rC]
   exact flat_len (k := 5) (f := ccells) (fun _ => rfl) D.toList
  ·
   show (Sort.grow (Sort.putRow id (Sort.ahead w n) g 0 (Sort.flatK ccells 5 D)) os).heap[g]? = _
   rw [Sort.heap_grow_old _ _ (by simpa using hgw)]
   simp only [Sort.putRow, Sort.mapBlock, Sort.heap_ahead, Array.getElem?_modify, if_true, HG.out]
   rfl
  ·
   simp only [rC, Array.length_toList]
   omega
  ·
   show _ = L.length * 5
   simpa [Sort.putCells] using hc3
  have e : Sort.putCells id 0 (Sort.flatK ccells 5 D) cur = Sort.flatK ccells 5 D := by
   apply Array.ext
   ·
    simp [Sort.putCells, hc3, hDs]
   intro j h1 h2
   have h3 : j < D.size * 5 := by simpa using h2
   simp only [Sort.putCells, Array.getElem_mapIdx]
   rw [if_pos ⟨Nat.zero_le _, by simpa using h3⟩, Nat.sub_zero, getElem!_pos _ j h2]
   rfl
  rw [e, hfl]
  refine List.take_of_length_le ?_
  rw [flat_len (k := 5) (f := ccells) (fun _ => rfl)]
  exact Nat.le_refl _
 refine ⟨rfl, rfl, rfl, by unfold sortWorldK; rw [Sort.size_grow, Sort.size_putRowK]; exact Nat.le_add_right _ _, fun k hk => ?_⟩
 show (Sort.grow (Sort.putRow id (Sort.ahead w n) g 0 (Sort.flatK ccells 5 D)) os).heap[k]? = _
 rw [Sort.heap_grow_old _ _ (by simp; omega)]
 simp only [Sort.putRow, Sort.mapBlock, Sort.heap_ahead, Array.getElem?_modify]
 rw [if_neg (by omega)]
end
section
open Go.RowKit
def takeB (G F : List Int) : List Int × List Int × (Int × Int) × Int :=
 if okE G F = true then (if 0 < F.length then (G, F.dropLast, (F.getLastD 0, G[(F.getLastD 0).toNat]?.getD 0), 0) else if 2000 ≤ G.length then (G, F, (0, 0), 3) else (G ++ [0], F, ((G.length : Int), 0), 0)) else (G, F, (0, 0), 1)
theorem last_eq {F : List Int} (h : 0 < F.length) : F[F.length - 1]?.getD 0 = F.getLastD 0 := by
 rw [List.getLastD_eq_getLast?, List.getLast?_eq_getElem?]
theorem take_eq (F : List Int) : F.take (F.length - 1) = F.dropLast := by rw [List.dropLast_eq_take]
end
section
open Go.RowKit
theorem Fr.drew {g f : Nat} {a b : World} (h : Fr g f a b) : Fr g f a b.drew := ⟨h.os, h.tape, h.output, h.size, h.block⟩
end
section
open Go.RowKit
def Takes (O : List Int × List Int × (Int × Int) × Int) (w : World) (e : Ending) (w' : World) : Prop :=
 ∃ s c t d, e = .returned (.tuple #[.agg #[.slice s O.1.length c, .slice t O.2.1.length d], .agg #[.int .i64 O.2.2.1.1, .int .i64 O.2.2.1.2], .int .i64 O.2.2.2]) ∧ VRow w' w.heap.size (.slice s O.1.length c) O.1 ∧ VRow w' w.heap.size (.slice t O.2.1.length d) O.2.1 ∧ Apart (.slice s O.1.length c) (.slice t O.2.1.length d) ∧ Below w.heap.size w w'
theorem last_in {G F : List Int} (h : okE G F = true) (hF : 0 < F.length) : ∃ q : Nat, F.getLastD 0 = (q : Int) ∧ q < G.length := by
 simp only [okE, decide_eq_true_eq] at h
 have := h.2.2.1 (F.getLastD 0) (by rw [← last_eq hF]; exact getD_mem (by omega))
 exact ⟨(F.getLastD 0).toNat, by omega, by omega⟩
theorem VRow.apartB {w : World} {B : Nat} {v : Value} {L : List Int} (h : VRow w B v L) {m : Nat} {c : Array Value} {t : TypeId} (hb : Blk w m c t) (ht : ¬ t = 3) : ¬ v.ownBlock = some m := by
 rcases h.2 with ⟨rfl, _⟩ | ⟨g, cap, cur, rfl, _, hg, _⟩
 ·
  simp [Value.ownBlock]
 simp only [Value.ownBlock, Option.some.injEq]
 intro e
 subst e
 unfold Blk at hb
 rw [hg] at hb
 simp at hb
 exact ht hb.2.symm
end
section
open Go.RowKit
theorem VRow.takeS {w : World} {B f d : Nat} {F : List Int} (h : VRow w B (.slice (some ⟨f, 0, none⟩) F.length d) F) {m : Nat} (hm : m ≤ F.length) : VRow w B (.slice (some ⟨f, 0, none⟩) (F.take m).length d) (F.take m) := by
 have e : (F.take m).length = m := by simp; omega
 rcases h.2 with ⟨h1, _⟩ | ⟨g, cap, cur, h', hb, hg, hc, hx, hs, hr⟩
 ·
  simp at h1
 simp only [Value.slice.injEq, Option.some.injEq, Addr.mk.injEq, and_true] at h'
 obtain ⟨rfl, -, rfl⟩ := h'
 refine ⟨by simp, Or.inr ⟨f, d, cur, rfl, hb, hg, by omega, hx, hs, ?_⟩⟩
 rw [e, List.map_take, ← hr, List.take_take]
 congr 1
 omega
end
section
open Go.RowKit
theorem entAt_n (s1 s2 : Option Addr) (c1 c2 n m : Nat) (G : List Int) (q : Nat) (x : Int) (w : World) (h1 : Ints w s1 G) (hn : n = G.length) (hq : q < G.length) (hx : G[q]?.getD 0 = x) (l1 : G.length ≤ 1048576) :
  Calls Tryz.prog 109 #[.agg #[.slice s1 n c1, .slice s2 m c2], .int .i64 q] w fun e w' => e = .returned (.agg #[.int .i64 q, .int .i64 x]) ∧ Below w.heap.size w w' := by
 subst hn
 have := entAt_any s1 s2 c1 c2 G (List.replicate m 0) q x w h1 hq hx l1
 rw [List.length_replicate] at this
 exact this
end
end Go.Proofs.YtbgeobpdojmdaaaGreat
