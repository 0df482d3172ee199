import Derived.Test.YtbgeobpdojmdaaaGreatSq23
import Derived.Test.YtbgeobpdojmdaaaGreatSq18
namespace Go.Proofs.YtbgeobpdojmdaaaGreat
set_option linter.unusedVariables false
set_option linter.unusedSimpArgs false
section
open Go.RowKit Go.Maps Go.WideMaps
set_option maxRecDepth 100000
set_option maxHeartbeats 2000000 in
theorem cellOk_any (s1 s2 s3 : Option Addr) (c1 c2 c3 : Nat) (A B C : List (ByteArray × Int)) (c : Int) (v : V4) (w : World) (hA : Decls w s1 A) (l1 : A.length ≤ 1048576) :
  Calls Tryz.prog 69 #[.agg #[.slice s1 A.length c1, .slice s2 B.length c2, .slice s3 C.length c3], .agg #[.int .i64 c, .int .i64 v.1, .int .i64 v.2.1, .float .f64 v.2.2.1, .float .f64 v.2.2.2]] w fun e w' => e = .returned (.bool (fitB A c v)) ∧ Below w.heap.size w w' := by
 have hal := alloc_old
 have haf := alloc_oldf
 obtain ⟨k0, k1, L0⟩ := boxTwo w #[.slice s1 A.length c1, .slice s2 B.length c2, .slice s3 C.length c3] #[.int .i64 c, .int .i64 v.1, .int .i64 v.2.1, .float .f64 v.2.2.1, .float .f64 v.2.2.2] 47 77
 have HA : Hid (Decls ((w.alloc (.cells #[.slice s1 A.length c1, .slice s2 B.length c2, .slice s3 C.length c3] 47)).alloc (.cells #[.int .i64 c, .int .i64 v.1, .int .i64 v.2.1, .float .f64 v.2.2.1, .float .f64 v.2.2.2] 77)) s1 A) := hA.later L0
 clear hA; go_enter Tryz.func69, Tryz.ntmps69
 go_wp2_with fail; generalize hX : (w.alloc (.cells #[.slice s1 A.length c1, .slice s2 B.length c2, .slice s3 C.length c3] 47)).alloc (.cells #[.int .i64 c, .int .i64 v.1, .int .i64 v.2.1, .float .f64 v.2.2.1, .float .f64 v.2.2.2] 77) = X at k0 k1 L0 HA ⊢
 clear hX; have LX : Hid (Below w.heap.size w X) := L0
 obtain ⟨x0, x1, x2, x3⟩ := k0.three'
 have y0 := k1.cell 0
 have y1 := k1.cell 1
 have y2 := k1.cell 2
 have y3 := k1.cell 3
 have y4 := k1.cell 4
 clear L0 x3 k0 k1; cases hcm : cmpB A c
 ·
  have E : Hid (false = fitB A c v) := by simp [Hid, fitB, hcm]
  refine wp_region_held_drew (S := (fun w' => w'.cell? ⟨w.heap.size, 0, none⟩ = some (.slice s1 A.length c1) ∧ w'.cell? ⟨w.heap.size, 1, none⟩ = some (.slice s2 B.length c2) ∧ w'.cell? ⟨w.heap.size, 2, none⟩ = some (.slice s3 C.length c3) ∧ w'.cell? ⟨w.heap.size + 1, 0, none⟩ = some (.int .i64 c))) (by kernel_rfl) ?_ (fun hHeld => ?_)
  ·
   exact ⟨x0, x1, x2, y0⟩
  refine wpr 0 5 ?_; simp only [zs]; refine wpr 1 6 ?_; simp only [zs]; refine wpr 2 7 ?_; simp only [zs]; refine wpy 3 fun K hK => ?_
  go_simp; refine (compOk_any s1 s2 s3 c1 c2 c3 A B C c _ l1).mono ?_
  rintro e w2 ⟨rfl, hb_w2⟩
  rw [hcm]
  have hc_w2 : Below X.heap.size X w2 := bl_trans (bl_drew (Below.refl _ _)) hb_w2
  have hX_w2 : Hid (Below X.heap.size X w2) := hc_w2
  have x0 := kcell hc_w2 x0
  have x1 := kcell hc_w2 x1
  have x2 := kcell hc_w2 x2
  have y0 := kcell hc_w2 y0
  clear hb_w2 hc_w2; refine hK.out _ _ ?_ (fun hHeld => ?_)
  ·
   exact ⟨x0, x1, x2, y0⟩
  clear hK K; try simp only [zs]
  refine wpr 4 9 ?_; simp only [zs]; refine wpAnyH_skip (by kernel_rfl) (fun _ _ _ _ h => h) [(5, 10), (6, 11), (7, 12), (8, 13), (9, 14), (10, 15), (11, 16), (12, 17), (13, 18), (14, 19)] 2 _ _ _ (by assumption) (by kernel_rfl) ?_ _ rfl
  simp only [zs]; refine wpr 15 20 ?_; simp only [zs]; refine wpr 16 4 ?_; simp only [zs]; refine wpAnyH_done (by kernel_rfl) ?_ _
  go_wp2_with fail; go_ret; exact ⟨ret_bool' E.out, bl_trans LX.out hX_w2.out⟩
 obtain ⟨cn, rfl⟩ : ∃ cn : Nat, c = (cn : Int) := ⟨c.toNat, by simp [cmpB] at hcm; omega⟩
 have hcn : cn < A.length := by simp [cmpB] at hcm; omega
 obtain ⟨pb, po, rfl, hpb, e1, e2⟩ := HA.out.get hcn
 obtain ⟨q2, hq0⟩ : ∃ q2, Hid ((dAt A cn).2 = q2) := ⟨_, rfl⟩
 have E : Hid (vofB q2 v = fitB A (cn : Int) v) := by show _ = _; rw [fitB, hcm, Int.toNat_natCast, hq0.out]; simp
 rw [hq0.out] at e2
 have cI0 : (0 : Int) ≤ (cn : Int) := by omega
 have cI1 : (cn : Int) < (A.length : Int) := by omega
 clear e1; refine wp_region_held_drew (S := (fun w' => w'.cell? ⟨w.heap.size, 0, none⟩ = some (.slice (some ⟨pb, po, none⟩) A.length c1) ∧ w'.cell? ⟨w.heap.size, 1, none⟩ = some (.slice s2 B.length c2) ∧ w'.cell? ⟨w.heap.size, 2, none⟩ = some (.slice s3 C.length c3) ∧ w'.cell? ⟨w.heap.size + 1, 0, none⟩ = some (.int .i64 cn) ∧ w'.cell? ⟨w.heap.size + 1, 1, none⟩ = some (.int .i64 v.1) ∧ w'.cell? ⟨w.heap.size + 1, 2, none⟩ = some (.int .i64 v.2.1) ∧ w'.cell? ⟨w.heap.size + 1, 3, none⟩ = some (.float .f64 v.2.2.1) ∧ w'.cell? ⟨w.heap.size + 1, 4, none⟩ = some (.float .f64 v.2.2.2) ∧ w'.cell? ⟨pb, po + cn * 2 + 1, none⟩ = some (.int .i64 q2))) (by kernel_rfl) ?_ (fun hHeld => ?_)
 ·
  exact ⟨x0, x1, x2, y0, y1, y2, y3, y4, e2⟩
 refine wpr 0 5 ?_; simp only [zs]; refine wpr 1 6 ?_; simp only [zs]; refine wpr 2 7 ?_; simp only [zs]; refine wpy 3 fun K hK => ?_
 go_simp; refine (compOk_any (some ⟨pb, po, none⟩) s2 s3 c1 c2 c3 A B C cn _ l1).mono ?_
 rintro e w2 ⟨rfl, hb_w2⟩
 rw [hcm]
 have hc_w2 : Below X.heap.size X w2 := bl_trans (bl_drew (Below.refl _ _)) hb_w2
 have hX_w2 : Hid (Below X.heap.size X w2) := hc_w2
 have x0 := kcell hc_w2 x0
 have x1 := kcell hc_w2 x1
 have x2 := kcell hc_w2 x2
 have y0 := kcell hc_w2 y0
 have y1 := kcell hc_w2 y1
 have y2 := kcell hc_w2 y2
 have y3 := kcell hc_w2 y3
 have y4 := kcell hc_w2 y4
 have e2 := kcell hc_w2 e2
 clear hb_w2 hc_w2; refine hK.out _ _ ?_ (fun hHeld => ?_)
 ·
  exact ⟨x0, x1, x2, y0, y1, y2, y3, y4, e2⟩
 clear hK K; try simp only [zs]
 refine wpr 4 9 ?_; simp only [zs]; refine wpr 5 10 ?_; simp only [zs]; refine wpr 6 11 ?_; simp only [zs]; refine wpr 7 12 ?_; simp only [zs]; refine wpr 8 13 ?_; simp only [zs]; refine wpr 9 14 ?_; simp only [zs]; refine wpr 10 15 ?_; simp only [zs]; refine wpr 11 16 ?_; simp only [zs]; refine wpr 12 17 ?_; simp only [zs]; refine wpr 13 18 ?_; simp only [zs]; refine wpy 14 fun K hK => ?_
 go_simp; refine (valOf_any q2 v _).mono ?_
 rintro e w4 ⟨rfl, hb_w4⟩
 have hc_w4 : Below w2.heap.size w2 w4 := hb_w4
 have hX_w4 : Hid (Below X.heap.size X w4) := bl_trans hX_w2.out hc_w4
 have x0 := kcell hc_w4 x0
 have x1 := kcell hc_w4 x1
 have x2 := kcell hc_w4 x2
 have y0 := kcell hc_w4 y0
 have y1 := kcell hc_w4 y1
 have y2 := kcell hc_w4 y2
 have y3 := kcell hc_w4 y3
 have y4 := kcell hc_w4 y4
 have e2 := kcell hc_w4 e2
 clear hb_w4 hc_w4; refine hK.out _ _ ?_ (fun hHeld => ?_)
 ·
  exact ⟨x0, x1, x2, y0, y1, y2, y3, y4, e2⟩
 clear hK K; try simp only [zs]
 refine wpr 15 20 ?_; simp only [zs]; refine wpr 16 4 ?_; simp only [zs]; refine wpAnyH_done (by kernel_rfl) ?_ _
 go_wp2_with fail; go_ret; exact ⟨ret_bool' E.out, bl_trans LX.out hX_w4.out⟩
theorem take_map_succ {L : List C5} {k : Nat} {a : C5} (h : L[k]? = some a) : (L.take (k + 1)).map (·.1) = (L.take k).map (·.1) ++ [a.1] := by
 rw [List.take_add_one, h]; simp
set_option maxHeartbeats 2000000 in
theorem compsOf_any (s : Option Addr) (c : Nat) (L : List C5) (B : Nat) (w : World) (hL : Els 5 cCell w B s L) (hl : L.length ≤ 1048576) :
  Calls Tryz.prog 71 #[.slice s L.length c] w fun e w' => ∃ v, e = .returned v ∧ VRow w' w.heap.size v (L.map (·.1)) ∧ Below w.heap.size w w' := by
 have hal := alloc_old
 have haf := alloc_oldf
 obtain ⟨i0, hi, hz0, hz1, hz2⟩ := info_parts Tryz.infoI
 go_enter Tryz.func71, Tryz.ntmps71
 go_wp2_with fail; go_loopw [3, 8] (fun v i wr => ∃ (k : Nat) (M : List Int), k ≤ L.length ∧ i = .int .i64 k ∧ Hid (M = (L.take k).map (·.1) ∧ VRow wr w.heap.size v M ∧ Below w.heap.size w wr)) (fun _ i _ => L.length - (intOf i).toNat)
 case atStart => exact ⟨0, [], Nat.zero_le _, rfl, by simp, by simpa [VRow] using World.ownsRow_nil _ _ _ _, Below.refl _ _⟩
 obtain ⟨k, M, hk, rfl, hN⟩ := hrel
 by_cases hlt : k < L.length
 ·
  obtain ⟨a, ha⟩ := get_some hlt
  obtain ⟨b, o, rfl, _, hp, ok, e0, e1, e2, e3, e4⟩ := eCell_cells (hL.later cCell_keeps hN.out.2.2) ha
  have HM : Hid (M ++ [a.1] = (L.take (k + 1)).map (·.1)) := by show _ = _; rw [take_map_succ ha, ← hN.out.1]
  have hlm : M.length ≤ 1048576 := by rw [hN.out.1]; simp; omega
  clear ha ok hL; go_wp2_with (at_builtin; refine wpList_append_own _ rfl _ _ 25 rfl w.heap.size 3 i0 (.int .i64 0) 1 8 Tryz.underlying25 hi hz0 hz1 hz2 rfl (by decide) _ _ _ rfl (World.ownsRow.alloc (World.ownsRow.alloc hN.out.2.1 _) _) ⟨wr.heap.size + 1, 0, none⟩ 1 1 [.int .i64 a.1] rfl rfl ?c1 ?c2 ?c3 ?c4 ?c5 ?_)
  case c1 =>
   intro i u hi
   match i, hi with
   | 0, hi => simp at hi; subst hi; simp [Addr.add]
  case c2 => intro u hu; simp at hu; subst hu; rfl
  case c3 => unfold maxLen; omega
  case c4 => omega
  case c5 => have := hN.out.2.2.size; simp; omega
  intro v' w3 hown' hgrow _
  have L1 : Below w.heap.size w ((wr.alloc (.cells #[.int .i64 a.1, .int .i64 a.2.1, .int .i64 a.2.2.1, .float .f64 a.2.2.2.1, .float .f64 a.2.2.2.2] 77)).alloc (.cells #[.int .i64 a.1] 3)) := bl_alloc (bl_alloc hN.out.2.2 _) _
  have hr' : Hid (M ++ [a.1] = (L.take (k + 1)).map (·.1) ∧ VRow w3 w.heap.size v' (M ++ [a.1]) ∧ Below w.heap.size w w3) := by
   refine ⟨HM.out, ?_, L1.grown hgrow L1.size (fun q h => (World.ownsRow.lt hN.out.2.1 q h).1)⟩
   unfold VRow
   rw [List.length_append, List.map_append]
   exact hown'
  clear hown' hgrow L1 hN; go_wp2_with fail; go_roundw
  case rel => exact ⟨k + 1, M ++ [a.1], by omega, by go_num, hr'⟩
  case measure => simp [intOf]; omega
 have hm' : k = L.length := by omega
 subst hm'
 go_wp2_with fail; go_ret; refine ⟨_, rfl, ?_, hN.out.2.2⟩
 have e := hN.out.1
 rw [List.take_length] at e
 rw [← e]
 exact hN.out.2.1
end
section
open Go.RowKit Go.Maps Go.WideMaps
set_option maxRecDepth 100000
structure OWf (V : WV) (W : Wd) : Prop where
 len : V.ts.length = W.tabs.length
 lens : ∀ (j : Nat) t T, V.ts[j]? = some t → W.tabs[j]? = some T → t.xs.length = T.cells.length
 okc : ∀ T ∈ W.tabs, ∀ L ∈ T.cells, okVs L
 okr : okVs W.res
theorem OW.f {w : World} {B : Nat} {V : WV} {W : Wd} (h : OW w B V W) : OWf V W := ⟨h.len, h.lens, h.okc, h.okr⟩
theorem OWf.ow {w : World} {B : Nat} {V : WV} {W : Wd} (h : OWf V W) (ho : Owns w B (rW V W)) : OW w B V W := ⟨ho, h.len, h.lens, h.okc, h.okr⟩
theorem OW.shape {w : World} {B : Nat} {V : WV} {W : Wd} (h : OW w B V W) : ∃ a1 c1 a2 c2 a3 c3 a4 c4 ts, V = ⟨.slice a1 W.gens.length c1, .slice a2 W.free.length c2, .slice a3 W.tabs.length c3, .slice a4 W.res.length c4, ts⟩ := by
 obtain ⟨a1, c1, a2, c2, a3, c3, a4, c4, e1, e2, e3, e4, _⟩ := h.inW
 obtain ⟨Vg, Vf, Vt, Vr, ts⟩ := V
 dsimp only at e1 e2 e3 e4
 subst e1 e2 e3 e4
 exact ⟨_, _, _, _, _, _, _, _, _, rfl⟩
def brd (bb : Nat) (V : WV) (mb : Option Nat) : OR := rB bb 88 [V.g, V.f, V.t, V.r, .map mb]
def OpenSays (A B C : List (ByteArray × Int)) (W : Wd) (w : World) (e : Ending) (w' : World) : Prop :=
 ∃ (bb : Nat) (V : WV) (mb : Option Nat), e = .returned (.tuple #[.pointer (some ⟨bb, 0, none⟩), .bool (standB A B C W)]) ∧ Rs w w.heap.size w' (brd bb V mb :: rW V W) ∧ OWf V W ∧
  (standB A B C W = true → ∃ b n f, mb = some b ∧ SM w' b n f ∧ Std (listB W.gens W.free) W.tabs (rowsOf W.tabs) f ∧ ¬ b ∈ blks (brd bb V mb :: rW V W) ∧ w.heap.size ≤ b ∧ n ≤ 1099512676352)
set_option maxHeartbeats 4000000 in
theorem openBoard_any (s1 s2 s3 : Option Addr) (c1 c2 c3 : Nat) (A B C : List (ByteArray × Int)) (a1 a2 a3 a4 : Option Addr) (b1 b2 b3 b4 : Nat) (W : Wd) (w : World) (hA : Decls w s1 A) (hB : Decls w s2 B) (hC : Decls w s3 C) (nm : ∀ i, i < (A ++ B ++ C).length → (dAt (A ++ B ++ C) i).1.size ≤ maxLen) (l1 : A.length ≤ 1048576) (l2 : B.length ≤ 1048576) (l3 : C.length ≤ 1048576)
  (hW : InW w 0 a1 a2 a3 a4 W) (hk : kW W) (hcap : W.tabs.length ≤ b3) (bR : ∀ t ∈ W.tabs, ∀ x ∈ t.rows, bE x) :
  Calls Tryz.prog 33 #[.agg #[.slice s1 A.length c1, .slice s2 B.length c2, .slice s3 C.length c3], .agg #[.slice a1 W.gens.length b1, .slice a2 W.free.length b2, .slice a3 W.tabs.length b3, .slice a4 W.res.length b4]] w fun e w' => OpenSays A B C W w e w' := by
 have hal := alloc_old
 have haf := alloc_oldf
 obtain ⟨k0, k1, L0⟩ := boxWE' w #[.slice s1 A.length c1, .slice s2 B.length c2, .slice s3 C.length c3] #[.slice a1 W.gens.length b1, .slice a2 W.free.length b2, .slice a3 W.tabs.length b3, .slice a4 W.res.length b4] 47 40
 go_enter Tryz.func33, Tryz.ntmps33
 go_wp2_with fail; generalize hX : (w.alloc (.cells #[.slice s1 A.length c1, .slice s2 B.length c2, .slice s3 C.length c3] 47)).alloc (.cells #[.slice a1 W.gens.length b1, .slice a2 W.free.length b2, .slice a3 W.tabs.length b3, .slice a4 W.res.length b4] 40) = X at k0 k1 L0 ⊢
 clear hX; refine (standsOf_any s1 s2 s3 c1 c2 c3 A B C a1 a2 a3 a4 b1 b2 b3 b4 W _ (hA.later L0) (hB.later L0) (hC.later L0) nm l1 l2 l3 (hW.later L0) hk hcap bR).mono ?_
 rintro e w1 ⟨⟨v, rfl, hv, mb, rfl⟩, hb1⟩
 have L1 := bl_trans L0 hb1
 have hsz0 := L0.size
 have K1 := k1.later hb1
 obtain ⟨x0, x1, x2, x3, x4⟩ := K1.four'
 have HV := Hid.mk' hv
 clear k0 k1 hb1 hA hB hC nm bR hv; go_wp2_with fail; refine (copyWorld_new a1 a2 a3 a4 b1 b2 b3 b4 W 0 _ (hW.later L1) hk).mono ?_
 rintro e w2 ⟨⟨V, rfl, hO⟩, hb2⟩
 obtain ⟨g1, d1, g2, d2, g3, d3, g4, d4, ts, rfl⟩ := hO.shape
 have L2 := bl_trans L1 hb2
 have hsz := L1.size
 have hR : Hid (Rs w w.heap.size (w2.alloc (.cells #[.slice g1 W.gens.length d1, .slice g2 W.free.length d2, .slice g3 W.tabs.length d3, .slice g4 W.res.length d4, .map mb] 88)) (brd w2.heap.size ⟨.slice g1 W.gens.length d1, .slice g2 W.free.length d2, .slice g3 W.tabs.length d3, .slice g4 W.res.length d4, ts⟩ mb :: rW ⟨.slice g1 W.gens.length d1, .slice g2 W.free.length d2, .slice g3 W.tabs.length d3, .slice g4 W.res.length d4, ts⟩ W)) := by
  have h0 : Rs w w.heap.size w2 (rW ⟨.slice g1 W.gens.length d1, .slice g2 W.free.length d2, .slice g3 W.tabs.length d3, .slice g4 W.res.length d4, ts⟩ W) := ⟨L2, hO.own.mono hsz, L2.size⟩
  exact Rs.ins [] _ h0 (bl_alloc (Below.refl _ w2) _) (blk_rB (Blk.new w2 _ _) (Nat.le_refl _))
 have HS : Hid (standB A B C W = true → ∃ b n f, mb = some b ∧ SM (w2.alloc (.cells #[.slice g1 W.gens.length d1, .slice g2 W.free.length d2, .slice g3 W.tabs.length d3, .slice g4 W.res.length d4, .map mb] 88)) b n f ∧ Std (listB W.gens W.free) W.tabs (rowsOf W.tabs) f ∧ ¬ b ∈ blks (brd w2.heap.size ⟨.slice g1 W.gens.length d1, .slice g2 W.free.length d2, .slice g3 W.tabs.length d3, .slice g4 W.res.length d4, ts⟩ mb :: rW ⟨.slice g1 W.gens.length d1, .slice g2 W.free.length d2, .slice g3 W.tabs.length d3, .slice g4 W.res.length d4, ts⟩ W) ∧ w.heap.size ≤ b ∧ n ≤ 1099512676352) := by
  intro hst
  obtain ⟨b, n, f, e, hM, hS, hfr, hnn⟩ := HV.out hst
  simp only [Value.map.injEq] at e
  refine ⟨b, n, f, e, (hM.later hb2).later (bl_alloc (Below.refl _ _) _), hS, ?_, Nat.le_trans hsz0 hfr, hnn⟩
  have hlt := hM.lt
  rw [blks_cons]
  intro hm
  rcases List.mem_append.1 hm with h | h
  ·
   simp [brd, rB, Value.ownBlock] at h
   have := hb2.size
   omega
  have := (hO.own.lt h).1
  omega
 have HF := Hid.mk' hO.f
 clear hO hb2 x0 x1 x2 x3 x4 K1 HV hW; go_wp2_with fail; refine bodyPost_ret (v := .tuple #[.pointer (some ⟨w2.heap.size, 0, none⟩), .bool (standB A B C W)]) (by simp [results, Tryz.results33, go_sem]) rfl ⟨_, _, mb, rfl, hR.out, HF.out, HS.out⟩
end
end Go.Proofs.YtbgeobpdojmdaaaGreat
