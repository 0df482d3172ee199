import Derived.Test.YtbgeobpdojmdaaaGreatSq17
namespace Go.Proofs.YtbgeobpdojmdaaaGreat
open Go.RowKit
set_option linter.unusedVariables false
set_option linter.unusedSimpArgs false
set_option maxRecDepth 100000
theorem Tryz.infoWd : (Tryz.prog.info? 40).map (fun i => (i.zero, i.size, i.bytes)) = some (some (.agg #[.slice none 0 0, .slice none 0 0, .slice none 0 0, .slice none 0 0]), 4, 96) := by kernel_rfl
theorem rTabs_snoc {ts : List TV} {Ts : List Tab} {k : Nat} {T : Tab} (hx : ts.length = k) (h : Ts[k]? = some T) (t : TV) : rTabs (ts ++ [t]) (Ts.take (k + 1)) = rTabs ts (Ts.take k) ++ rTab t T := by
 have hk : k < Ts.length := (List.getElem?_eq_some_iff.1 h).1
 have e : Ts.take (k + 1) = Ts.take k ++ [T] := by rw [List.take_add_one, h]; rfl
 unfold rTabs
 rw [e, List.zipWith_append (by simp; omega), List.flatten_append]
 simp
theorem Rs.roundT {X W : World} {B : Nat} {P : List OR} {ts : List TV} {Ts : List Tab} {k : Nat} {T : Tab} (hx : ts.length = k) (h : Ts[k]? = some T) {t : TV} {q p : OR} (hR : Rs X B W (P ++ (q :: p :: (rTab t T ++ rTabs ts (Ts.take k))))) : Rs X B W (P ++ rTabs (ts ++ [t]) (Ts.take (k + 1))) := by
 rw [rTabs_snoc hx h]
 have h2 := Rs.less P _ (Rs.less P _ hR)
 exact h2.perm (List.Perm.append_left P List.perm_append_comm)
theorem on_one {w : World} {B : Nat} {r : OR} (h : r.on w B) : r.v.oneCell' = true := by
 obtain ⟨s, c, e⟩ := h.shape
 rw [e]; rfl
theorem oneT {w : World} {B : Nat} {R : List OR} {t : TV} {T : Tab} (h : ∀ r ∈ R, r.on w B) (hm : ∀ r ∈ rTab t T, r ∈ R) : ∀ u ∈ [t.c, t.r, t.x], u.oneCell' = true := by
 intro u hu
 simp only [List.mem_cons, List.not_mem_nil, or_false] at hu
 rcases hu with rfl | rfl | rfl
 ·
  exact on_one (r := rI t.c T.cols) (h _ (hm _ (by simp [rTab])))
 ·
  exact on_one (r := rE t.r T.rows) (h _ (hm _ (by simp [rTab])))
 exact on_one (r := rS t.x t.xs) (h _ (hm _ (by simp [rTab])))
theorem lens_snoc {ts : List TV} {Ts : List Tab} {k : Nat} {t : TV} {T : Tab} (h : ∀ (j : Nat) u U, ts[j]? = some u → (Ts.take k)[j]? = some U → u.xs.length = U.cells.length) (hl : ts.length = k) (hT : Ts[k]? = some T) (e : t.xs.length = T.cells.length) :
  ∀ (j : Nat) u U, (ts ++ [t])[j]? = some u → (Ts.take (k + 1))[j]? = some U → u.xs.length = U.cells.length := by
 intro j u U h1 h2
 by_cases hj : j < k
 ·
  rw [List.getElem?_append_left (by omega)] at h1
  rw [List.getElem?_take, if_pos (by omega)] at h2
  exact h j u U h1 (by rw [List.getElem?_take, if_pos hj]; exact h2)
 have hj' : j = k := by
  have := (List.getElem?_eq_some_iff.1 h1).1
  simp at this
  omega
 subst hj'
 rw [List.getElem?_append_right (by omega), hl, Nat.sub_self] at h1
 rw [List.getElem?_take, if_pos (by omega), hT] at h2
 simp at h1 h2
 subst h1 h2
 exact e
theorem tabs_okc {w : World} {B : Nat} {s : Option Addr} {Ts : List Tab} (h : Els 3 cTab w B s Ts) : ∀ T ∈ Ts, ∀ L ∈ T.cells, okVs L := by
 intro T hT
 obtain ⟨j, hj, rfl⟩ := List.getElem_of_mem hT
 obtain ⟨_, _, _, _, _, _, _, _, _, _, _, _, _, _, _, _, h3⟩ := eTab_cells h (j := j) (t := Ts[j]) (by simp [hj])
 exact els_okc h3
set_option maxHeartbeats 8000000 in
theorem copyWorld_new (a1 a2 a3 a4 : Option Addr) (c1 c2 c3 c4 : Nat) (W : Wd) (B0 : Nat) (w : World) (hW : InW w B0 a1 a2 a3 a4 W) (hk : kW W) :
  Calls Tryz.prog 68 #[.agg #[.slice a1 W.gens.length c1, .slice a2 W.free.length c2, .slice a3 W.tabs.length c3, .slice a4 W.res.length c4]] w fun e w' => (∃ V : WV, e = .returned (.agg #[V.g, V.f, V.t, V.r]) ∧ OW w' w.heap.size V W) ∧ Below w.heap.size w w' := by
 have hal := alloc_old
 have haf := alloc_oldf
 obtain ⟨m1, m2, ⟨m3, hkts⟩, m4⟩ := hk
 have HKT := Hid.mk' hkts
 obtain ⟨iW, hiW, hzW, hsW, hbW⟩ := info_parts Tryz.infoWd
 obtain ⟨iT, hiT, hzT, hsT, hbT⟩ := info_parts Tryz.infoTb
 obtain ⟨k0, k1, L0'⟩ := boxWE' w #[.slice a1 W.gens.length c1, .slice a2 W.free.length c2, .slice a3 W.tabs.length c3, .slice a4 W.res.length c4] #[.slice none 0 0, .slice none 0 0, .slice none 0 0, .slice none 0 0] 40 40
 go_enter Tryz.func68, Tryz.ntmps68
 go_wp2_with fail; generalize hX : (w.alloc (.cells #[.slice a1 W.gens.length c1, .slice a2 W.free.length c2, .slice a3 W.tabs.length c3, .slice a4 W.res.length c4] 40)).alloc (.cells #[.slice none 0 0, .slice none 0 0, .slice none 0 0, .slice none 0 0] 40) = X at k0 k1 L0' ⊢
 clear hX hkts; have b0 : w.heap.size < X.heap.size := k0.lt
 have b1 : w.heap.size + 1 < X.heap.size := k1.lt
 have K0 := Hid.mk' k0
 have K1 := Hid.mk' k1
 have L0 : Hid (Below w.heap.size w X) := L0'
 have HW := Hid.mk' hW
 have hR := Hid.mk' (Rs.nil X)
 clear k0 k1 hW L0'; go_cut [3] (fun pz wx => ∃ (kz : Nat) (sg : Option Addr) (cg : Nat) (sf : Option Addr) (cf : Nat) (sr : Option Addr) (cr : Nat), pz = .pointer (some ⟨kz, 0, none⟩) ∧ Rs X X.heap.size wx [rI (.slice sg W.gens.length cg) W.gens, rI (.slice sf W.free.length cf) W.free, rV (.slice sr W.res.length cr) W.res, rB kz 40 [.slice sg W.gens.length cg, .slice sf W.free.length cf, .slice none 0 0, .slice sr W.res.length cr]])
 case first =>
  refine wp_region_held_drew (S := (fun w' => Blk w' w.heap.size #[.slice a1 W.gens.length c1, .slice a2 W.free.length c2, .slice a3 W.tabs.length c3, .slice a4 W.res.length c4] 40 ∧ Blk w' (w.heap.size + 1) #[.slice none 0 0, .slice none 0 0, .slice none 0 0, .slice none 0 0] 40)) (by kernel_rfl) ?_ (fun hHeld => ?_)
  ·
   exact (k2 hR K0 K1 b0 b1 :)
  have hR := Hid.mk' hR.out.drew
  refine wpq (v := ?_) 0 6 rfl rfl ?_ ?_
  rotate_left 1
  ·
   intro w hSw; (try dsimp only at hSw); obtain ⟨q0, q1⟩ := hSw; obtain ⟨x0, x1, x2, x3, x4⟩ := q0.four'; go_simp <;> with_reducible rfl
  simp only [zs]; refine wpq (v := ?_) 1 7 rfl rfl ?_ ?_
  rotate_left 1
  ·
   intro w hSw; (try dsimp only at hSw); obtain ⟨q0, q1⟩ := hSw; obtain ⟨x0, x1, x2, x3, x4⟩ := q0.four'; go_simp <;> with_reducible rfl
  simp only [zs]; refine wpq (v := ?_) 3 9 rfl rfl ?_ ?_
  rotate_left 1
  ·
   intro w hSw; (try dsimp only at hSw); obtain ⟨q0, q1⟩ := hSw; obtain ⟨x0, x1, x2, x3, x4⟩ := q0.four'; go_simp <;> with_reducible rfl
  simp only [zs]; refine wpq (v := ?_) 4 10 rfl rfl ?_ ?_
  rotate_left 1
  ·
   intro w hSw; (try dsimp only at hSw); obtain ⟨q0, q1⟩ := hSw; obtain ⟨x0, x1, x2, x3, x4⟩ := q0.four'; go_simp <;> with_reducible rfl
  simp only [zs]; refine wpAnyH_ready (rs := [2, 7]) (by kernel_rfl) (by simp) ?_
  refine AllReadyH.cons rfl (fun K hK => ?_) ?_
  ·
   skip
   go_simp; refine (copyEnts_new a1 a2 c1 c2 W.gens W.free B0 _ (HW.out.g.kept cInt_keeps (hR.out.keptE L0.out b1)) (HW.out.f.kept cInt_keeps (hR.out.keptE L0.out b1)) m1 m2).mono ?_
   rintro z g1 ⟨⟨sg, cg, sf, cf, rfl, hO⟩, hb⟩
   have hR : Hid (Rs X X.heap.size g1 [rI (.slice sg W.gens.length cg) W.gens, rI (.slice sf W.free.length cf) W.free]) := Hid.mk' (hR.out.insM [] [rI (.slice sg W.gens.length cg) W.gens, rI (.slice sf W.free.length cf) W.free] [] hb hO)
   clear hb hO; refine hK.out _ _ ?_ (fun hHeld => ?_)
   ·
    exact (k2 hR K0 K1 b0 b1 :)
   clear hK K; try simp only [zs]
   refine wpAnyH_ready (rs := [5, 7]) (by kernel_rfl) (by simp) ?_
   refine AllReadyH.cons rfl (fun K hK => ?_) ?_
   ·
    skip
    go_simp; refine (copiedV_any a4 c4 W.res B0 _ (HW.out.r.kept cVal_keeps (hR.out.keptE L0.out b1)) m4).mono ?_
    rintro z g2 hN
    obtain ⟨sr, cr, rfl, hO, hb⟩ := NewR.sl (n := W.res.length) hN (fun _ => rfl) (fun _ => rfl)
    clear hN; have hR : Hid (Rs X X.heap.size g2 [rI (.slice sg W.gens.length cg) W.gens, rI (.slice sf W.free.length cf) W.free, rV (.slice sr W.res.length cr) W.res]) := Hid.mk' (hR.out.ins [rI (.slice sg W.gens.length cg) W.gens, rI (.slice sf W.free.length cf) W.free] [] hb hO)
    clear hb hO; refine hK.out _ _ ?_ (fun hHeld => ?_)
    ·
     exact (k2 hR K0 K1 b0 b1 :)
    clear hK K; try simp only [zs]
    refine wpr 6 12 ?_; simp only [zs]; refine wpy 7 fun K hK => ?_
    refine step_box [rI (.slice sg W.gens.length cg) W.gens, rI (.slice sf W.free.length cf) W.free, rV (.slice sr W.res.length cr) W.res] [] hR.out rfl (d0 := (some 3)) rfl 40 hiW hzW rfl ?_
    intro kz g3 hR'
    have hR : Hid (Rs X X.heap.size g3 [rI (.slice sg W.gens.length cg) W.gens, rI (.slice sf W.free.length cf) W.free, rV (.slice sr W.res.length cr) W.res, rB kz 40 [.slice none 0 0, .slice none 0 0, .slice none 0 0, .slice none 0 0]]) := hR'
    clear hR'; refine hK.out _ _ ?_ (fun hHeld => ?_)
    ·
     exact (k2 hR K0 K1 b0 b1 :)
    clear hK K; try simp only [zs]
    refine wpy 8 fun K hK => ?_
    refine step_put [rI (.slice sg W.gens.length cg) W.gens, rI (.slice sf W.free.length cf) W.free, rV (.slice sr W.res.length cr) W.res] [] hR.out rfl (d0 := none) rfl (.tmp 3) (.tmp 12) rfl [.slice sg W.gens.length cg, .slice sf W.free.length cf, .slice none 0 0, .slice sr W.res.length cr] rfl rfl (by rw [hiW]; simp [hsW]) rfl (by simp [Value.oneCell']) ?_
    intro g4 hR'
    have hR : Hid (Rs X X.heap.size g4 [rI (.slice sg W.gens.length cg) W.gens, rI (.slice sf W.free.length cf) W.free, rV (.slice sr W.res.length cr) W.res, rB kz 40 [.slice sg W.gens.length cg, .slice sf W.free.length cf, .slice none 0 0, .slice sr W.res.length cr]]) := hR'
    clear hR'; refine hK.out _ _ ?_ (fun hHeld => ?_)
    ·
     exact (k2 hR K0 K1 b0 b1 :)
    clear hK K; try simp only [zs]
    refine wpAnyH_done (by kernel_rfl) ?_ _
    clear hHeld; go_wp2_with fail; go_meet; exact ⟨kz, sg, cg, sf, cf, sr, cr, rfl, hR.out⟩
   refine AllReadyH.cons rfl (fun K hK => ?_) AllReadyH.nil
   refine step_box [rI (.slice sg W.gens.length cg) W.gens, rI (.slice sf W.free.length cf) W.free] [] hR.out rfl (d0 := (some 3)) rfl 40 hiW hzW rfl ?_
   intro kz g5 hR'
   have hR : Hid (Rs X X.heap.size g5 [rI (.slice sg W.gens.length cg) W.gens, rI (.slice sf W.free.length cf) W.free, rB kz 40 [.slice none 0 0, .slice none 0 0, .slice none 0 0, .slice none 0 0]]) := hR'
   clear hR'; refine hK.out _ _ ?_ (fun hHeld => ?_)
   ·
    exact (k2 hR K0 K1 b0 b1 :)
   clear hK K; try simp only [zs]
   refine wpy 5 fun K hK => ?_
   go_simp; refine (copiedV_any a4 c4 W.res B0 _ (HW.out.r.kept cVal_keeps (hR.out.keptE L0.out b1)) m4).mono ?_
   rintro z g6 hN
   obtain ⟨sr, cr, rfl, hO, hb⟩ := NewR.sl (n := W.res.length) hN (fun _ => rfl) (fun _ => rfl)
   clear hN; have hR : Hid (Rs X X.heap.size g6 [rI (.slice sg W.gens.length cg) W.gens, rI (.slice sf W.free.length cf) W.free, rV (.slice sr W.res.length cr) W.res, rB kz 40 [.slice none 0 0, .slice none 0 0, .slice none 0 0, .slice none 0 0]]) := Hid.mk' (hR.out.ins [rI (.slice sg W.gens.length cg) W.gens, rI (.slice sf W.free.length cf) W.free] [rB kz 40 [.slice none 0 0, .slice none 0 0, .slice none 0 0, .slice none 0 0]] hb hO)
   clear hb hO; refine hK.out _ _ ?_ (fun hHeld => ?_)
   ·
    exact (k2 hR K0 K1 b0 b1 :)
   clear hK K; try simp only [zs]
   refine wpr 6 12 ?_; simp only [zs]; refine wpy 8 fun K hK => ?_
   refine step_put [rI (.slice sg W.gens.length cg) W.gens, rI (.slice sf W.free.length cf) W.free, rV (.slice sr W.res.length cr) W.res] [] hR.out rfl (d0 := none) rfl (.tmp 3) (.tmp 12) rfl [.slice sg W.gens.length cg, .slice sf W.free.length cf, .slice none 0 0, .slice sr W.res.length cr] rfl rfl (by rw [hiW]; simp [hsW]) rfl (by simp [Value.oneCell']) ?_
   intro g7 hR'
   have hR : Hid (Rs X X.heap.size g7 [rI (.slice sg W.gens.length cg) W.gens, rI (.slice sf W.free.length cf) W.free, rV (.slice sr W.res.length cr) W.res, rB kz 40 [.slice sg W.gens.length cg, .slice sf W.free.length cf, .slice none 0 0, .slice sr W.res.length cr]]) := hR'
   clear hR'; refine hK.out _ _ ?_ (fun hHeld => ?_)
   ·
    exact (k2 hR K0 K1 b0 b1 :)
   clear hK K; try simp only [zs]
   refine wpAnyH_done (by kernel_rfl) ?_ _
   clear hHeld; go_wp2_with fail; go_meet; exact ⟨kz, sg, cg, sf, cf, sr, cr, rfl, hR.out⟩
  refine AllReadyH.cons rfl (fun K hK => ?_) AllReadyH.nil
  refine step_box [] [] hR.out rfl (d0 := (some 3)) rfl 40 hiW hzW rfl ?_
  intro kz g8 hR'
  have hR : Hid (Rs X X.heap.size g8 [rB kz 40 [.slice none 0 0, .slice none 0 0, .slice none 0 0, .slice none 0 0]]) := hR'
  clear hR'; refine hK.out _ _ ?_ (fun hHeld => ?_)
  ·
   exact (k2 hR K0 K1 b0 b1 :)
  clear hK K; try simp only [zs]
  refine wpy 2 fun K hK => ?_
  go_simp; refine (copyEnts_new a1 a2 c1 c2 W.gens W.free B0 _ (HW.out.g.kept cInt_keeps (hR.out.keptE L0.out b1)) (HW.out.f.kept cInt_keeps (hR.out.keptE L0.out b1)) m1 m2).mono ?_
  rintro z g9 ⟨⟨sg, cg, sf, cf, rfl, hO⟩, hb⟩
  have hR : Hid (Rs X X.heap.size g9 [rI (.slice sg W.gens.length cg) W.gens, rI (.slice sf W.free.length cf) W.free, rB kz 40 [.slice none 0 0, .slice none 0 0, .slice none 0 0, .slice none 0 0]]) := Hid.mk' (hR.out.insM [] [rI (.slice sg W.gens.length cg) W.gens, rI (.slice sf W.free.length cf) W.free] [rB kz 40 [.slice none 0 0, .slice none 0 0, .slice none 0 0, .slice none 0 0]] hb hO)
  clear hb hO; refine hK.out _ _ ?_ (fun hHeld => ?_)
  ·
   exact (k2 hR K0 K1 b0 b1 :)
  clear hK K; try simp only [zs]
  refine wpy 5 fun K hK => ?_
  go_simp; refine (copiedV_any a4 c4 W.res B0 _ (HW.out.r.kept cVal_keeps (hR.out.keptE L0.out b1)) m4).mono ?_
  rintro z g10 hN
  obtain ⟨sr, cr, rfl, hO, hb⟩ := NewR.sl (n := W.res.length) hN (fun _ => rfl) (fun _ => rfl)
  clear hN; have hR : Hid (Rs X X.heap.size g10 [rI (.slice sg W.gens.length cg) W.gens, rI (.slice sf W.free.length cf) W.free, rV (.slice sr W.res.length cr) W.res, rB kz 40 [.slice none 0 0, .slice none 0 0, .slice none 0 0, .slice none 0 0]]) := Hid.mk' (hR.out.ins [rI (.slice sg W.gens.length cg) W.gens, rI (.slice sf W.free.length cf) W.free] [rB kz 40 [.slice none 0 0, .slice none 0 0, .slice none 0 0, .slice none 0 0]] hb hO)
  clear hb hO; refine hK.out _ _ ?_ (fun hHeld => ?_)
  ·
   exact (k2 hR K0 K1 b0 b1 :)
  clear hK K; try simp only [zs]
  refine wpr 6 12 ?_; simp only [zs]; refine wpy 8 fun K hK => ?_
  refine step_put [rI (.slice sg W.gens.length cg) W.gens, rI (.slice sf W.free.length cf) W.free, rV (.slice sr W.res.length cr) W.res] [] hR.out rfl (d0 := none) rfl (.tmp 3) (.tmp 12) rfl [.slice sg W.gens.length cg, .slice sf W.free.length cf, .slice none 0 0, .slice sr W.res.length cr] rfl rfl (by rw [hiW]; simp [hsW]) rfl (by simp [Value.oneCell']) ?_
  intro g11 hR'
  have hR : Hid (Rs X X.heap.size g11 [rI (.slice sg W.gens.length cg) W.gens, rI (.slice sf W.free.length cf) W.free, rV (.slice sr W.res.length cr) W.res, rB kz 40 [.slice sg W.gens.length cg, .slice sf W.free.length cf, .slice none 0 0, .slice sr W.res.length cr]]) := hR'
  clear hR'; refine hK.out _ _ ?_ (fun hHeld => ?_)
  ·
   exact (k2 hR K0 K1 b0 b1 :)
  clear hK K; try simp only [zs]
  refine wpAnyH_done (by kernel_rfl) ?_ _
  clear hHeld; go_wp2_with fail; go_meet; exact ⟨kz, sg, cg, sf, cf, sr, cr, rfl, hR.out⟩
 obtain ⟨kz, sg, cg, sf, cf, sr, cr, rfl, hR⟩ := hcut
 obtain ⟨x0, x1, x2, x3, x4⟩ := (hR.blk K0.out b0).four'
 have hR := Hid.mk' hR
 go_wp2_with fail; clear x0 x1 x2 x3 x4; go_loopw [16] (fun i wr => ∃ (k : Nat) (sv : Option Addr) (cv : Nat) (ts : List TV), k ≤ W.tabs.length ∧ i = .int .i64 k ∧ Hid (ts.length = k) ∧ Hid (∀ (j : Nat) u U, ts[j]? = some u → (W.tabs.take k)[j]? = some U → u.xs.length = U.cells.length) ∧ Hid (Rs X X.heap.size wr ([rI (.slice sg W.gens.length cg) W.gens, rI (.slice sf W.free.length cf) W.free, rV (.slice sr W.res.length cr) W.res, rB kz 40 [.slice sg W.gens.length cg, .slice sf W.free.length cf, .slice sv k cv, .slice sr W.res.length cr], (⟨119, 3, .slice sv k cv, k, ts.flatMap tc⟩ : OR)] ++ rTabs ts (W.tabs.take k)))) (fun i _ => W.tabs.length - (intOf i).toNat)
 case atStart =>
  refine ⟨0, none, 0, [], Nat.zero_le _, rfl, rfl, fun j u U h => by simp at h, ?_⟩
  exact hR.out.ins [rI (.slice sg W.gens.length cg) W.gens, rI (.slice sf W.free.length cf) W.free, rV (.slice sr W.res.length cr) W.res, rB kz 40 [.slice sg W.gens.length cg, .slice sf W.free.length cf, .slice none 0 0, .slice sr W.res.length cr]] [] (Below.refl _ _) (World.ownsRow_nil _ _ _ _)
 clear hR; obtain ⟨k, sv, cv, ts, hk, rfl, hts, hle, hR⟩ := hrel
 have hts0 := hts
 by_cases hlt : k < W.tabs.length
 ·
  obtain ⟨T, hT⟩ := get_some hlt
  obtain ⟨b, o, rfl, _, hp, t1, d1, t2, d2, t3, d3, e1, e2, e3, F1, F2, F3⟩ := eTab_cells HW.out.t hT
  have tr := fun off => (hR.out.keptE (C := 0) L0.out b1).cell (b := b) (o := off) (Nat.zero_le _) hp
  have e1 := (tr _).trans e1
  have e2 := (tr _).trans e2
  have e3 := (tr _).trans e3
  have hkT := HKT.out T (List.mem_of_getElem? hT)
  have F1 := Hid.mk' F1
  have F2 := Hid.mk' F2
  have F3 := Hid.mk' F3
  have HTk := Hid.mk' hT
  have kI0 : (0 : Int) ≤ (k : Int) := by omega
  have kI1 : (k : Int) < (W.tabs.length : Int) := by omega
  clear hT tr; have hR := Hid.mk' (hR.out.ins [rI (.slice sg W.gens.length cg) W.gens, rI (.slice sf W.free.length cf) W.free, rV (.slice sr W.res.length cr) W.res, rB kz 40 [.slice sg W.gens.length cg, .slice sf W.free.length cf, .slice sv k cv, .slice sr W.res.length cr], (⟨119, 3, .slice sv k cv, k, ts.flatMap tc⟩ : OR)] (rTabs ts (W.tabs.take k)) (bl_alloc (Below.refl _ wr) (.cells #[.slice t1 T.cols.length d1, .slice t2 T.rows.length d2, .slice t3 T.cells.length d3] 119)) (blk_rB (cs := [.slice t1 T.cols.length d1, .slice t2 T.rows.length d2, .slice t3 T.cells.length d3]) (Blk.new wr _ 119) (Nat.le_refl _)))
  go_wp2_with fail; clear e1 e2 e3; generalize hY : wr.alloc (.cells #[.slice t1 T.cols.length d1, .slice t2 T.rows.length d2, .slice t3 T.cells.length d3] 119) = Y at hR ⊢
  generalize hkt : wr.heap.size = kt at hR ⊢
  clear hY hkt; refine wp_region_held_drew (S := (fun w' => Blk w' (w.heap.size + 1) #[.slice none 0 0, .slice none 0 0, .slice none 0 0, .slice none 0 0] 40 ∧ Blk w' kt #[.slice t1 T.cols.length d1, .slice t2 T.rows.length d2, .slice t3 T.cells.length d3] 119)) (by kernel_rfl) ?_ (fun hHeld => ?_)
  ·
   exact ⟨hR.out.blk K1.out b1, hR.out.box [rI (.slice sg W.gens.length cg) W.gens, rI (.slice sf W.free.length cf) W.free, rV (.slice sr W.res.length cr) W.res, rB kz 40 [.slice sg W.gens.length cg, .slice sf W.free.length cf, .slice sv k cv, .slice sr W.res.length cr], (⟨119, 3, .slice sv k cv, k, ts.flatMap tc⟩ : OR)] (rTabs ts (W.tabs.take k))⟩
  have hR := Hid.mk' hR.out.drew
  refine wpr 0 20 ?_; simp only [zs]; refine wpq (v := ?_) 2 22 rfl rfl ?_ ?_
  rotate_left 1
  ·
   intro w hSw; (try dsimp only at hSw); obtain ⟨q0, q1⟩ := hSw; obtain ⟨x0, x1, x2, x3⟩ := q1.three'; go_simp <;> with_reducible rfl
  simp only [zs]; refine wpAnyH_ready (rs := [1, 3]) (by kernel_rfl) (by simp) ?_
  refine AllReadyH.cons rfl (fun K hK => ?_) ?_
  ·
   skip
   have hbx := hR.out.box [rI (.slice sg W.gens.length cg) W.gens, rI (.slice sf W.free.length cf) W.free, rV (.slice sr W.res.length cr) W.res] ([(⟨119, 3, .slice sv k cv, k, ts.flatMap tc⟩ : OR), rB kt 119 [.slice t1 T.cols.length d1, .slice t2 T.rows.length d2, .slice t3 T.cells.length d3]] ++ (rTabs ts (W.tabs.take k)))
   have x0 := hbx.cell 2
   have x1 := hbx.frozen 2
   clear hbx; go_simp; clear x0 x1; refine hK.out _ _ ?_ (fun hHeld => ?_)
   ·
    exact ⟨hR.out.blk K1.out b1, hR.out.box [rI (.slice sg W.gens.length cg) W.gens, rI (.slice sf W.free.length cf) W.free, rV (.slice sr W.res.length cr) W.res, rB kz 40 [.slice sg W.gens.length cg, .slice sf W.free.length cf, .slice sv k cv, .slice sr W.res.length cr], (⟨119, 3, .slice sv k cv, k, ts.flatMap tc⟩ : OR)] (rTabs ts (W.tabs.take k))⟩
   clear hK K; try simp only [zs]
   refine wpy 3 fun K hK => ?_
   go_simp; refine (copyTable_new t1 t2 t3 d1 d2 d3 T B0 _ (F1.out.kept cInt_keeps (hR.out.keptE L0.out b1)) (F2.out.kept cEnt_keeps (hR.out.keptE L0.out b1)) (F3.out.kept cVals_keeps (hR.out.keptE L0.out b1)) hkT).mono ?_
   rintro z g2 ⟨⟨t, rfl, hT⟩, hb⟩
   have hO := hT.own
   have HT : Hid (t.xs.length = T.cells.length ∧ ∀ L ∈ T.cells, okVs L) := ⟨hT.len, hT.ok⟩
   clear hT; have hR : Hid (Rs X X.heap.size g2 ([rI (.slice sg W.gens.length cg) W.gens, rI (.slice sf W.free.length cf) W.free, rV (.slice sr W.res.length cr) W.res, rB kz 40 [.slice sg W.gens.length cg, .slice sf W.free.length cf, .slice sv k cv, .slice sr W.res.length cr], (⟨119, 3, .slice sv k cv, k, ts.flatMap tc⟩ : OR), rB kt 119 [.slice t1 T.cols.length d1, .slice t2 T.rows.length d2, .slice t3 T.cells.length d3]] ++ ((rTab t T) ++ (rTabs ts (W.tabs.take k))))) := Hid.mk' (hR.out.insM [rI (.slice sg W.gens.length cg) W.gens, rI (.slice sf W.free.length cf) W.free, rV (.slice sr W.res.length cr) W.res, rB kz 40 [.slice sg W.gens.length cg, .slice sf W.free.length cf, .slice sv k cv, .slice sr W.res.length cr], (⟨119, 3, .slice sv k cv, k, ts.flatMap tc⟩ : OR), rB kt 119 [.slice t1 T.cols.length d1, .slice t2 T.rows.length d2, .slice t3 T.cells.length d3]] (rTab t T) (rTabs ts (W.tabs.take k)) hb hO)
   clear hb hO; refine hK.out _ _ ?_ (fun hHeld => ?_)
   ·
    exact ⟨hR.out.blk K1.out b1, hR.out.box [rI (.slice sg W.gens.length cg) W.gens, rI (.slice sf W.free.length cf) W.free, rV (.slice sr W.res.length cr) W.res, rB kz 40 [.slice sg W.gens.length cg, .slice sf W.free.length cf, .slice sv k cv, .slice sr W.res.length cr], (⟨119, 3, .slice sv k cv, k, ts.flatMap tc⟩ : OR)] ((rTab t T) ++ (rTabs ts (W.tabs.take k)))⟩
   clear hK K; try simp only [zs]
   refine wpy 4 fun K hK => ?_
   refine step_bs3 [rI (.slice sg W.gens.length cg) W.gens, rI (.slice sf W.free.length cf) W.free, rV (.slice sr W.res.length cr) W.res, rB kz 40 [.slice sg W.gens.length cg, .slice sf W.free.length cf, .slice sv k cv, .slice sr W.res.length cr], (⟨119, 3, .slice sv k cv, k, ts.flatMap tc⟩ : OR), rB kt 119 [.slice t1 T.cols.length d1, .slice t2 T.rows.length d2, .slice t3 T.cells.length d3]] ((rTab t T) ++ (rTabs ts (W.tabs.take k))) hR.out rfl (d0 := (some 24)) rfl 37 119 Tryz.underlying37 hiT hzT hsT (.tmp 23) rfl t.c t.r t.x rfl ?_
   intro kb g3 hR'
   have hR : Hid (Rs X X.heap.size g3 ([rI (.slice sg W.gens.length cg) W.gens, rI (.slice sf W.free.length cf) W.free, rV (.slice sr W.res.length cr) W.res, rB kz 40 [.slice sg W.gens.length cg, .slice sf W.free.length cf, .slice sv k cv, .slice sr W.res.length cr], (⟨119, 3, .slice sv k cv, k, ts.flatMap tc⟩ : OR), rB kt 119 [.slice t1 T.cols.length d1, .slice t2 T.rows.length d2, .slice t3 T.cells.length d3], rB kb 119 [t.c, t.r, t.x]] ++ ((rTab t T) ++ (rTabs ts (W.tabs.take k))))) := hR'
   clear hR'; refine hK.out _ _ ?_ (fun hHeld => ?_)
   ·
    exact ⟨hR.out.blk K1.out b1, hR.out.box [rI (.slice sg W.gens.length cg) W.gens, rI (.slice sf W.free.length cf) W.free, rV (.slice sr W.res.length cr) W.res, rB kz 40 [.slice sg W.gens.length cg, .slice sf W.free.length cf, .slice sv k cv, .slice sr W.res.length cr], (⟨119, 3, .slice sv k cv, k, ts.flatMap tc⟩ : OR)] ([rB kb 119 [t.c, t.r, t.x]] ++ ((rTab t T) ++ (rTabs ts (W.tabs.take k))))⟩
   clear hK K; try simp only [zs]
   refine wpy 5 fun K hK => ?_
   refine step_app [rI (.slice sg W.gens.length cg) W.gens, rI (.slice sf W.free.length cf) W.free, rV (.slice sr W.res.length cr) W.res, rB kz 40 [.slice sg W.gens.length cg, .slice sf W.free.length cf, .slice sv k cv, .slice sr W.res.length cr]] ([rB kt 119 [.slice t1 T.cols.length d1, .slice t2 T.rows.length d2, .slice t3 T.cells.length d3], rB kb 119 [t.c, t.r, t.x]] ++ ((rTab t T) ++ (rTabs ts (W.tabs.take k)))) hR.out rfl (d0 := (some 25)) rfl (.tmp 21) (.tmp 24) 37 72 rfl Tryz.underlying37 hiT hzT hsT hbT rfl (Nat.succ_pos _) rfl (some ⟨kb, 0, none⟩) 1 1 [t.c, t.r, t.x] rfl rfl (Or.inr ⟨_, rfl, news3 (hR.out.box [rI (.slice sg W.gens.length cg) W.gens, rI (.slice sf W.free.length cf) W.free, rV (.slice sr W.res.length cr) W.res, rB kz 40 [.slice sg W.gens.length cg, .slice sf W.free.length cf, .slice sv k cv, .slice sr W.res.length cr], (⟨119, 3, .slice sv k cv, k, ts.flatMap tc⟩ : OR), rB kt 119 [.slice t1 T.cols.length d1, .slice t2 T.rows.length d2, .slice t3 T.cells.length d3]] ((rTab t T) ++ (rTabs ts (W.tabs.take k))))⟩) (oneT (T := T) hR.out.o.on (fun r hr => by simp [hr])) (by dsimp only; unfold maxLen; omega) (by dsimp only; omega) (k + 1) rfl (fun v => (⟨119, 3, v, k + 1, ts.flatMap tc ++ [t.c, t.r, t.x]⟩ : OR)) (fun _ => rfl) ?_
   intro sv2 cv2 g4 hR'
   have hR : Hid (Rs X X.heap.size g4 ([rI (.slice sg W.gens.length cg) W.gens, rI (.slice sf W.free.length cf) W.free, rV (.slice sr W.res.length cr) W.res, rB kz 40 [.slice sg W.gens.length cg, .slice sf W.free.length cf, .slice sv k cv, .slice sr W.res.length cr], (⟨119, 3, (.slice sv2 (k + 1) cv2), k + 1, ts.flatMap tc ++ [t.c, t.r, t.x]⟩ : OR), rB kt 119 [.slice t1 T.cols.length d1, .slice t2 T.rows.length d2, .slice t3 T.cells.length d3], rB kb 119 [t.c, t.r, t.x]] ++ ((rTab t T) ++ (rTabs ts (W.tabs.take k))))) := hR'
   clear hR'; refine hK.out _ _ ?_ (fun hHeld => ?_)
   ·
    exact ⟨hR.out.blk K1.out b1, hR.out.box [rI (.slice sg W.gens.length cg) W.gens, rI (.slice sf W.free.length cf) W.free, rV (.slice sr W.res.length cr) W.res, rB kz 40 [.slice sg W.gens.length cg, .slice sf W.free.length cf, .slice sv k cv, .slice sr W.res.length cr], (⟨119, 3, (.slice sv2 (k + 1) cv2), k + 1, ts.flatMap tc ++ [t.c, t.r, t.x]⟩ : OR)] ([rB kb 119 [t.c, t.r, t.x]] ++ ((rTab t T) ++ (rTabs ts (W.tabs.take k))))⟩
   clear hK K; try simp only [zs]
   refine wpr 6 26 ?_; simp only [zs]; refine wpy 7 fun K hK => ?_
   have hbx := hR.out.box [rI (.slice sg W.gens.length cg) W.gens, rI (.slice sf W.free.length cf) W.free, rV (.slice sr W.res.length cr) W.res] ([(⟨119, 3, (.slice sv2 (k + 1) cv2), k + 1, ts.flatMap tc ++ [t.c, t.r, t.x]⟩ : OR), rB kt 119 [.slice t1 T.cols.length d1, .slice t2 T.rows.length d2, .slice t3 T.cells.length d3], rB kb 119 [t.c, t.r, t.x]] ++ ((rTab t T) ++ (rTabs ts (W.tabs.take k))))
   have x0 := hbx.cell 2
   have x1 := hbx.frozen 2
   clear hbx; go_simp; clear x0 x1; have hR : Hid (Rs X X.heap.size _ ([rI (.slice sg W.gens.length cg) W.gens, rI (.slice sf W.free.length cf) W.free, rV (.slice sr W.res.length cr) W.res, rB kz 40 [.slice sg W.gens.length cg, .slice sf W.free.length cf, .slice sv2 (k + 1) cv2, .slice sr W.res.length cr], (⟨119, 3, (.slice sv2 (k + 1) cv2), k + 1, ts.flatMap tc ++ [t.c, t.r, t.x]⟩ : OR), rB kt 119 [.slice t1 T.cols.length d1, .slice t2 T.rows.length d2, .slice t3 T.cells.length d3], rB kb 119 [t.c, t.r, t.x]] ++ ((rTab t T) ++ (rTabs ts (W.tabs.take k))))) := Hid.mk' (hR.out.setB [rI (.slice sg W.gens.length cg) W.gens, rI (.slice sf W.free.length cf) W.free, rV (.slice sr W.res.length cr) W.res] ([(⟨119, 3, (.slice sv2 (k + 1) cv2), k + 1, ts.flatMap tc ++ [t.c, t.r, t.x]⟩ : OR), rB kt 119 [.slice t1 T.cols.length d1, .slice t2 T.rows.length d2, .slice t3 T.cells.length d3], rB kb 119 [t.c, t.r, t.x]] ++ ((rTab t T) ++ (rTabs ts (W.tabs.take k)))) 2 (.slice sv2 (k + 1) cv2))
   refine hK.out _ _ ?_ (fun hHeld => ?_)
   ·
    exact ⟨hR.out.blk K1.out b1, hR.out.box [rI (.slice sg W.gens.length cg) W.gens, rI (.slice sf W.free.length cf) W.free, rV (.slice sr W.res.length cr) W.res, rB kz 40 [.slice sg W.gens.length cg, .slice sf W.free.length cf, .slice sv2 (k + 1) cv2, .slice sr W.res.length cr], (⟨119, 3, (.slice sv2 (k + 1) cv2), k + 1, ts.flatMap tc ++ [t.c, t.r, t.x]⟩ : OR)] ([rB kb 119 [t.c, t.r, t.x]] ++ ((rTab t T) ++ (rTabs ts (W.tabs.take k))))⟩
   clear hK K; try simp only [zs]
   refine wpAnyH_done (by kernel_rfl) ?_ _
   clear hHeld; have hR := Hid.mk' (Rs.roundT (P := [rI (.slice sg W.gens.length cg) W.gens, rI (.slice sf W.free.length cf) W.free, rV (.slice sr W.res.length cr) W.res, rB kz 40 [.slice sg W.gens.length cg, .slice sf W.free.length cf, .slice sv2 (k + 1) cv2, .slice sr W.res.length cr], (⟨119, 3, .slice sv2 (k + 1) cv2, k + 1, ts.flatMap tc ++ [t.c, t.r, t.x]⟩ : OR)]) hts.out HTk.out hR.out)
   have hts : Hid ((ts ++ [t]).length = k + 1) := by show _ = _; rw [List.length_append, hts.out]; rfl
   have hle : Hid (∀ (j : Nat) u U, (ts ++ [t])[j]? = some u → (W.tabs.take (k + 1))[j]? = some U → u.xs.length = U.cells.length) := lens_snoc hle.out hts0.out HTk.out HT.out.1
   go_wp2_with fail; go_roundw
   case rel => exact ⟨k + 1, sv2, cv2, ts ++ [t], by omega, by go_num, hts, hle, by rw [List.flatMap_append, List.flatMap_singleton]; exact hR⟩
   case measure => simp [intOf]; omega
  refine AllReadyH.cons rfl (fun K hK => ?_) AllReadyH.nil
  go_simp; refine (copyTable_new t1 t2 t3 d1 d2 d3 T B0 _ (F1.out.kept cInt_keeps (hR.out.keptE L0.out b1)) (F2.out.kept cEnt_keeps (hR.out.keptE L0.out b1)) (F3.out.kept cVals_keeps (hR.out.keptE L0.out b1)) hkT).mono ?_
  rintro z g6 ⟨⟨t, rfl, hT⟩, hb⟩
  have hO := hT.own
  have HT : Hid (t.xs.length = T.cells.length ∧ ∀ L ∈ T.cells, okVs L) := ⟨hT.len, hT.ok⟩
  clear hT; have hR : Hid (Rs X X.heap.size g6 ([rI (.slice sg W.gens.length cg) W.gens, rI (.slice sf W.free.length cf) W.free, rV (.slice sr W.res.length cr) W.res, rB kz 40 [.slice sg W.gens.length cg, .slice sf W.free.length cf, .slice sv k cv, .slice sr W.res.length cr], (⟨119, 3, .slice sv k cv, k, ts.flatMap tc⟩ : OR), rB kt 119 [.slice t1 T.cols.length d1, .slice t2 T.rows.length d2, .slice t3 T.cells.length d3]] ++ ((rTab t T) ++ (rTabs ts (W.tabs.take k))))) := Hid.mk' (hR.out.insM [rI (.slice sg W.gens.length cg) W.gens, rI (.slice sf W.free.length cf) W.free, rV (.slice sr W.res.length cr) W.res, rB kz 40 [.slice sg W.gens.length cg, .slice sf W.free.length cf, .slice sv k cv, .slice sr W.res.length cr], (⟨119, 3, .slice sv k cv, k, ts.flatMap tc⟩ : OR), rB kt 119 [.slice t1 T.cols.length d1, .slice t2 T.rows.length d2, .slice t3 T.cells.length d3]] (rTab t T) (rTabs ts (W.tabs.take k)) hb hO)
  clear hb hO; refine hK.out _ _ ?_ (fun hHeld => ?_)
  ·
   exact ⟨hR.out.blk K1.out b1, hR.out.box [rI (.slice sg W.gens.length cg) W.gens, rI (.slice sf W.free.length cf) W.free, rV (.slice sr W.res.length cr) W.res, rB kz 40 [.slice sg W.gens.length cg, .slice sf W.free.length cf, .slice sv k cv, .slice sr W.res.length cr], (⟨119, 3, .slice sv k cv, k, ts.flatMap tc⟩ : OR)] ((rTab t T) ++ (rTabs ts (W.tabs.take k)))⟩
  clear hK K; try simp only [zs]
  refine wpAnyH_ready (rs := [1, 4]) (by kernel_rfl) (by simp) ?_
  refine AllReadyH.cons rfl (fun K hK => ?_) ?_
  ·
   skip
   have hbx := hR.out.box [rI (.slice sg W.gens.length cg) W.gens, rI (.slice sf W.free.length cf) W.free, rV (.slice sr W.res.length cr) W.res] ([(⟨119, 3, .slice sv k cv, k, ts.flatMap tc⟩ : OR), rB kt 119 [.slice t1 T.cols.length d1, .slice t2 T.rows.length d2, .slice t3 T.cells.length d3]] ++ ((rTab t T) ++ (rTabs ts (W.tabs.take k))))
   have x0 := hbx.cell 2
   have x1 := hbx.frozen 2
   clear hbx; go_simp; clear x0 x1; refine hK.out _ _ ?_ (fun hHeld => ?_)
   ·
    exact ⟨hR.out.blk K1.out b1, hR.out.box [rI (.slice sg W.gens.length cg) W.gens, rI (.slice sf W.free.length cf) W.free, rV (.slice sr W.res.length cr) W.res, rB kz 40 [.slice sg W.gens.length cg, .slice sf W.free.length cf, .slice sv k cv, .slice sr W.res.length cr], (⟨119, 3, .slice sv k cv, k, ts.flatMap tc⟩ : OR)] ((rTab t T) ++ (rTabs ts (W.tabs.take k)))⟩
   clear hK K; try simp only [zs]
   refine wpy 4 fun K hK => ?_
   refine step_bs3 [rI (.slice sg W.gens.length cg) W.gens, rI (.slice sf W.free.length cf) W.free, rV (.slice sr W.res.length cr) W.res, rB kz 40 [.slice sg W.gens.length cg, .slice sf W.free.length cf, .slice sv k cv, .slice sr W.res.length cr], (⟨119, 3, .slice sv k cv, k, ts.flatMap tc⟩ : OR), rB kt 119 [.slice t1 T.cols.length d1, .slice t2 T.rows.length d2, .slice t3 T.cells.length d3]] ((rTab t T) ++ (rTabs ts (W.tabs.take k))) hR.out rfl (d0 := (some 24)) rfl 37 119 Tryz.underlying37 hiT hzT hsT (.tmp 23) rfl t.c t.r t.x rfl ?_
   intro kb g8 hR'
   have hR : Hid (Rs X X.heap.size g8 ([rI (.slice sg W.gens.length cg) W.gens, rI (.slice sf W.free.length cf) W.free, rV (.slice sr W.res.length cr) W.res, rB kz 40 [.slice sg W.gens.length cg, .slice sf W.free.length cf, .slice sv k cv, .slice sr W.res.length cr], (⟨119, 3, .slice sv k cv, k, ts.flatMap tc⟩ : OR), rB kt 119 [.slice t1 T.cols.length d1, .slice t2 T.rows.length d2, .slice t3 T.cells.length d3], rB kb 119 [t.c, t.r, t.x]] ++ ((rTab t T) ++ (rTabs ts (W.tabs.take k))))) := hR'
   clear hR'; refine hK.out _ _ ?_ (fun hHeld => ?_)
   ·
    exact ⟨hR.out.blk K1.out b1, hR.out.box [rI (.slice sg W.gens.length cg) W.gens, rI (.slice sf W.free.length cf) W.free, rV (.slice sr W.res.length cr) W.res, rB kz 40 [.slice sg W.gens.length cg, .slice sf W.free.length cf, .slice sv k cv, .slice sr W.res.length cr], (⟨119, 3, .slice sv k cv, k, ts.flatMap tc⟩ : OR)] ([rB kb 119 [t.c, t.r, t.x]] ++ ((rTab t T) ++ (rTabs ts (W.tabs.take k))))⟩
   clear hK K; try simp only [zs]
   refine wpy 5 fun K hK => ?_
   refine step_app [rI (.slice sg W.gens.length cg) W.gens, rI (.slice sf W.free.length cf) W.free, rV (.slice sr W.res.length cr) W.res, rB kz 40 [.slice sg W.gens.length cg, .slice sf W.free.length cf, .slice sv k cv, .slice sr W.res.length cr]] ([rB kt 119 [.slice t1 T.cols.length d1, .slice t2 T.rows.length d2, .slice t3 T.cells.length d3], rB kb 119 [t.c, t.r, t.x]] ++ ((rTab t T) ++ (rTabs ts (W.tabs.take k)))) hR.out rfl (d0 := (some 25)) rfl (.tmp 21) (.tmp 24) 37 72 rfl Tryz.underlying37 hiT hzT hsT hbT rfl (Nat.succ_pos _) rfl (some ⟨kb, 0, none⟩) 1 1 [t.c, t.r, t.x] rfl rfl (Or.inr ⟨_, rfl, news3 (hR.out.box [rI (.slice sg W.gens.length cg) W.gens, rI (.slice sf W.free.length cf) W.free, rV (.slice sr W.res.length cr) W.res, rB kz 40 [.slice sg W.gens.length cg, .slice sf W.free.length cf, .slice sv k cv, .slice sr W.res.length cr], (⟨119, 3, .slice sv k cv, k, ts.flatMap tc⟩ : OR), rB kt 119 [.slice t1 T.cols.length d1, .slice t2 T.rows.length d2, .slice t3 T.cells.length d3]] ((rTab t T) ++ (rTabs ts (W.tabs.take k))))⟩) (oneT (T := T) hR.out.o.on (fun r hr => by simp [hr])) (by dsimp only; unfold maxLen; omega) (by dsimp only; omega) (k + 1) rfl (fun v => (⟨119, 3, v, k + 1, ts.flatMap tc ++ [t.c, t.r, t.x]⟩ : OR)) (fun _ => rfl) ?_
   intro sv2 cv2 g9 hR'
   have hR : Hid (Rs X X.heap.size g9 ([rI (.slice sg W.gens.length cg) W.gens, rI (.slice sf W.free.length cf) W.free, rV (.slice sr W.res.length cr) W.res, rB kz 40 [.slice sg W.gens.length cg, .slice sf W.free.length cf, .slice sv k cv, .slice sr W.res.length cr], (⟨119, 3, (.slice sv2 (k + 1) cv2), k + 1, ts.flatMap tc ++ [t.c, t.r, t.x]⟩ : OR), rB kt 119 [.slice t1 T.cols.length d1, .slice t2 T.rows.length d2, .slice t3 T.cells.length d3], rB kb 119 [t.c, t.r, t.x]] ++ ((rTab t T) ++ (rTabs ts (W.tabs.take k))))) := hR'
   clear hR'; refine hK.out _ _ ?_ (fun hHeld => ?_)
   ·
    exact ⟨hR.out.blk K1.out b1, hR.out.box [rI (.slice sg W.gens.length cg) W.gens, rI (.slice sf W.free.length cf) W.free, rV (.slice sr W.res.length cr) W.res, rB kz 40 [.slice sg W.gens.length cg, .slice sf W.free.length cf, .slice sv k cv, .slice sr W.res.length cr], (⟨119, 3, (.slice sv2 (k + 1) cv2), k + 1, ts.flatMap tc ++ [t.c, t.r, t.x]⟩ : OR)] ([rB kb 119 [t.c, t.r, t.x]] ++ ((rTab t T) ++ (rTabs ts (W.tabs.take k))))⟩
   clear hK K; try simp only [zs]
   refine wpr 6 26 ?_; simp only [zs]; refine wpy 7 fun K hK => ?_
   have hbx := hR.out.box [rI (.slice sg W.gens.length cg) W.gens, rI (.slice sf W.free.length cf) W.free, rV (.slice sr W.res.length cr) W.res] ([(⟨119, 3, (.slice sv2 (k + 1) cv2), k + 1, ts.flatMap tc ++ [t.c, t.r, t.x]⟩ : OR), rB kt 119 [.slice t1 T.cols.length d1, .slice t2 T.rows.length d2, .slice t3 T.cells.length d3], rB kb 119 [t.c, t.r, t.x]] ++ ((rTab t T) ++ (rTabs ts (W.tabs.take k))))
   have x0 := hbx.cell 2
   have x1 := hbx.frozen 2
   clear hbx; go_simp; clear x0 x1; have hR : Hid (Rs X X.heap.size _ ([rI (.slice sg W.gens.length cg) W.gens, rI (.slice sf W.free.length cf) W.free, rV (.slice sr W.res.length cr) W.res, rB kz 40 [.slice sg W.gens.length cg, .slice sf W.free.length cf, .slice sv2 (k + 1) cv2, .slice sr W.res.length cr], (⟨119, 3, (.slice sv2 (k + 1) cv2), k + 1, ts.flatMap tc ++ [t.c, t.r, t.x]⟩ : OR), rB kt 119 [.slice t1 T.cols.length d1, .slice t2 T.rows.length d2, .slice t3 T.cells.length d3], rB kb 119 [t.c, t.r, t.x]] ++ ((rTab t T) ++ (rTabs ts (W.tabs.take k))))) := Hid.mk' (hR.out.setB [rI (.slice sg W.gens.length cg) W.gens, rI (.slice sf W.free.length cf) W.free, rV (.slice sr W.res.length cr) W.res] ([(⟨119, 3, (.slice sv2 (k + 1) cv2), k + 1, ts.flatMap tc ++ [t.c, t.r, t.x]⟩ : OR), rB kt 119 [.slice t1 T.cols.length d1, .slice t2 T.rows.length d2, .slice t3 T.cells.length d3], rB kb 119 [t.c, t.r, t.x]] ++ ((rTab t T) ++ (rTabs ts (W.tabs.take k)))) 2 (.slice sv2 (k + 1) cv2))
   refine hK.out _ _ ?_ (fun hHeld => ?_)
   ·
    exact ⟨hR.out.blk K1.out b1, hR.out.box [rI (.slice sg W.gens.length cg) W.gens, rI (.slice sf W.free.length cf) W.free, rV (.slice sr W.res.length cr) W.res, rB kz 40 [.slice sg W.gens.length cg, .slice sf W.free.length cf, .slice sv2 (k + 1) cv2, .slice sr W.res.length cr], (⟨119, 3, (.slice sv2 (k + 1) cv2), k + 1, ts.flatMap tc ++ [t.c, t.r, t.x]⟩ : OR)] ([rB kb 119 [t.c, t.r, t.x]] ++ ((rTab t T) ++ (rTabs ts (W.tabs.take k))))⟩
   clear hK K; try simp only [zs]
   refine wpAnyH_done (by kernel_rfl) ?_ _
   clear hHeld; have hR := Hid.mk' (Rs.roundT (P := [rI (.slice sg W.gens.length cg) W.gens, rI (.slice sf W.free.length cf) W.free, rV (.slice sr W.res.length cr) W.res, rB kz 40 [.slice sg W.gens.length cg, .slice sf W.free.length cf, .slice sv2 (k + 1) cv2, .slice sr W.res.length cr], (⟨119, 3, .slice sv2 (k + 1) cv2, k + 1, ts.flatMap tc ++ [t.c, t.r, t.x]⟩ : OR)]) hts.out HTk.out hR.out)
   have hts : Hid ((ts ++ [t]).length = k + 1) := by show _ = _; rw [List.length_append, hts.out]; rfl
   have hle : Hid (∀ (j : Nat) u U, (ts ++ [t])[j]? = some u → (W.tabs.take (k + 1))[j]? = some U → u.xs.length = U.cells.length) := lens_snoc hle.out hts0.out HTk.out HT.out.1
   go_wp2_with fail; go_roundw
   case rel => exact ⟨k + 1, sv2, cv2, ts ++ [t], by omega, by go_num, hts, hle, by rw [List.flatMap_append, List.flatMap_singleton]; exact hR⟩
   case measure => simp [intOf]; omega
  refine AllReadyH.cons rfl (fun K hK => ?_) AllReadyH.nil
  refine step_bs3 [rI (.slice sg W.gens.length cg) W.gens, rI (.slice sf W.free.length cf) W.free, rV (.slice sr W.res.length cr) W.res, rB kz 40 [.slice sg W.gens.length cg, .slice sf W.free.length cf, .slice sv k cv, .slice sr W.res.length cr], (⟨119, 3, .slice sv k cv, k, ts.flatMap tc⟩ : OR), rB kt 119 [.slice t1 T.cols.length d1, .slice t2 T.rows.length d2, .slice t3 T.cells.length d3]] ((rTab t T) ++ (rTabs ts (W.tabs.take k))) hR.out rfl (d0 := (some 24)) rfl 37 119 Tryz.underlying37 hiT hzT hsT (.tmp 23) rfl t.c t.r t.x rfl ?_
  intro kb g11 hR'
  have hR : Hid (Rs X X.heap.size g11 ([rI (.slice sg W.gens.length cg) W.gens, rI (.slice sf W.free.length cf) W.free, rV (.slice sr W.res.length cr) W.res, rB kz 40 [.slice sg W.gens.length cg, .slice sf W.free.length cf, .slice sv k cv, .slice sr W.res.length cr], (⟨119, 3, .slice sv k cv, k, ts.flatMap tc⟩ : OR), rB kt 119 [.slice t1 T.cols.length d1, .slice t2 T.rows.length d2, .slice t3 T.cells.length d3], rB kb 119 [t.c, t.r, t.x]] ++ ((rTab t T) ++ (rTabs ts (W.tabs.take k))))) := hR'
  clear hR'; refine hK.out _ _ ?_ (fun hHeld => ?_)
  ·
   exact ⟨hR.out.blk K1.out b1, hR.out.box [rI (.slice sg W.gens.length cg) W.gens, rI (.slice sf W.free.length cf) W.free, rV (.slice sr W.res.length cr) W.res, rB kz 40 [.slice sg W.gens.length cg, .slice sf W.free.length cf, .slice sv k cv, .slice sr W.res.length cr], (⟨119, 3, .slice sv k cv, k, ts.flatMap tc⟩ : OR)] ([rB kb 119 [t.c, t.r, t.x]] ++ ((rTab t T) ++ (rTabs ts (W.tabs.take k))))⟩
  clear hK K; try simp only [zs]
  refine wpy 1 fun K hK => ?_
  have hbx := hR.out.box [rI (.slice sg W.gens.length cg) W.gens, rI (.slice sf W.free.length cf) W.free, rV (.slice sr W.res.length cr) W.res] ([(⟨119, 3, .slice sv k cv, k, ts.flatMap tc⟩ : OR), rB kt 119 [.slice t1 T.cols.length d1, .slice t2 T.rows.length d2, .slice t3 T.cells.length d3], rB kb 119 [t.c, t.r, t.x]] ++ ((rTab t T) ++ (rTabs ts (W.tabs.take k))))
  have x0 := hbx.cell 2
  have x1 := hbx.frozen 2
  clear hbx; go_simp; clear x0 x1; refine hK.out _ _ ?_ (fun hHeld => ?_)
  ·
   exact ⟨hR.out.blk K1.out b1, hR.out.box [rI (.slice sg W.gens.length cg) W.gens, rI (.slice sf W.free.length cf) W.free, rV (.slice sr W.res.length cr) W.res, rB kz 40 [.slice sg W.gens.length cg, .slice sf W.free.length cf, .slice sv k cv, .slice sr W.res.length cr], (⟨119, 3, .slice sv k cv, k, ts.flatMap tc⟩ : OR)] ([rB kb 119 [t.c, t.r, t.x]] ++ ((rTab t T) ++ (rTabs ts (W.tabs.take k))))⟩
  clear hK K; try simp only [zs]
  refine wpy 5 fun K hK => ?_
  refine step_app [rI (.slice sg W.gens.length cg) W.gens, rI (.slice sf W.free.length cf) W.free, rV (.slice sr W.res.length cr) W.res, rB kz 40 [.slice sg W.gens.length cg, .slice sf W.free.length cf, .slice sv k cv, .slice sr W.res.length cr]] ([rB kt 119 [.slice t1 T.cols.length d1, .slice t2 T.rows.length d2, .slice t3 T.cells.length d3], rB kb 119 [t.c, t.r, t.x]] ++ ((rTab t T) ++ (rTabs ts (W.tabs.take k)))) hR.out rfl (d0 := (some 25)) rfl (.tmp 21) (.tmp 24) 37 72 rfl Tryz.underlying37 hiT hzT hsT hbT rfl (Nat.succ_pos _) rfl (some ⟨kb, 0, none⟩) 1 1 [t.c, t.r, t.x] rfl rfl (Or.inr ⟨_, rfl, news3 (hR.out.box [rI (.slice sg W.gens.length cg) W.gens, rI (.slice sf W.free.length cf) W.free, rV (.slice sr W.res.length cr) W.res, rB kz 40 [.slice sg W.gens.length cg, .slice sf W.free.length cf, .slice sv k cv, .slice sr W.res.length cr], (⟨119, 3, .slice sv k cv, k, ts.flatMap tc⟩ : OR), rB kt 119 [.slice t1 T.cols.length d1, .slice t2 T.rows.length d2, .slice t3 T.cells.length d3]] ((rTab t T) ++ (rTabs ts (W.tabs.take k))))⟩) (oneT (T := T) hR.out.o.on (fun r hr => by simp [hr])) (by dsimp only; unfold maxLen; omega) (by dsimp only; omega) (k + 1) rfl (fun v => (⟨119, 3, v, k + 1, ts.flatMap tc ++ [t.c, t.r, t.x]⟩ : OR)) (fun _ => rfl) ?_
  intro sv2 cv2 g13 hR'
  have hR : Hid (Rs X X.heap.size g13 ([rI (.slice sg W.gens.length cg) W.gens, rI (.slice sf W.free.length cf) W.free, rV (.slice sr W.res.length cr) W.res, rB kz 40 [.slice sg W.gens.length cg, .slice sf W.free.length cf, .slice sv k cv, .slice sr W.res.length cr], (⟨119, 3, (.slice sv2 (k + 1) cv2), k + 1, ts.flatMap tc ++ [t.c, t.r, t.x]⟩ : OR), rB kt 119 [.slice t1 T.cols.length d1, .slice t2 T.rows.length d2, .slice t3 T.cells.length d3], rB kb 119 [t.c, t.r, t.x]] ++ ((rTab t T) ++ (rTabs ts (W.tabs.take k))))) := hR'
  clear hR'; refine hK.out _ _ ?_ (fun hHeld => ?_)
  ·
   exact ⟨hR.out.blk K1.out b1, hR.out.box [rI (.slice sg W.gens.length cg) W.gens, rI (.slice sf W.free.length cf) W.free, rV (.slice sr W.res.length cr) W.res, rB kz 40 [.slice sg W.gens.length cg, .slice sf W.free.length cf, .slice sv k cv, .slice sr W.res.length cr], (⟨119, 3, (.slice sv2 (k + 1) cv2), k + 1, ts.flatMap tc ++ [t.c, t.r, t.x]⟩ : OR)] ([rB kb 119 [t.c, t.r, t.x]] ++ ((rTab t T) ++ (rTabs ts (W.tabs.take k))))⟩
  clear hK K; try simp only [zs]
  refine wpr 6 26 ?_; simp only [zs]; refine wpy 7 fun K hK => ?_
  have hbx := hR.out.box [rI (.slice sg W.gens.length cg) W.gens, rI (.slice sf W.free.length cf) W.free, rV (.slice sr W.res.length cr) W.res] ([(⟨119, 3, (.slice sv2 (k + 1) cv2), k + 1, ts.flatMap tc ++ [t.c, t.r, t.x]⟩ : OR), rB kt 119 [.slice t1 T.cols.length d1, .slice t2 T.rows.length d2, .slice t3 T.cells.length d3], rB kb 119 [t.c, t.r, t.x]] ++ ((rTab t T) ++ (rTabs ts (W.tabs.take k))))
  have x0 := hbx.cell 2
  have x1 := hbx.frozen 2
  clear hbx; go_simp; clear x0 x1; have hR : Hid (Rs X X.heap.size _ ([rI (.slice sg W.gens.length cg) W.gens, rI (.slice sf W.free.length cf) W.free, rV (.slice sr W.res.length cr) W.res, rB kz 40 [.slice sg W.gens.length cg, .slice sf W.free.length cf, .slice sv2 (k + 1) cv2, .slice sr W.res.length cr], (⟨119, 3, (.slice sv2 (k + 1) cv2), k + 1, ts.flatMap tc ++ [t.c, t.r, t.x]⟩ : OR), rB kt 119 [.slice t1 T.cols.length d1, .slice t2 T.rows.length d2, .slice t3 T.cells.length d3], rB kb 119 [t.c, t.r, t.x]] ++ ((rTab t T) ++ (rTabs ts (W.tabs.take k))))) := Hid.mk' (hR.out.setB [rI (.slice sg W.gens.length cg) W.gens, rI (.slice sf W.free.length cf) W.free, rV (.slice sr W.res.length cr) W.res] ([(⟨119, 3, (.slice sv2 (k + 1) cv2), k + 1, ts.flatMap tc ++ [t.c, t.r, t.x]⟩ : OR), rB kt 119 [.slice t1 T.cols.length d1, .slice t2 T.rows.length d2, .slice t3 T.cells.length d3], rB kb 119 [t.c, t.r, t.x]] ++ ((rTab t T) ++ (rTabs ts (W.tabs.take k)))) 2 (.slice sv2 (k + 1) cv2))
  refine hK.out _ _ ?_ (fun hHeld => ?_)
  ·
   exact ⟨hR.out.blk K1.out b1, hR.out.box [rI (.slice sg W.gens.length cg) W.gens, rI (.slice sf W.free.length cf) W.free, rV (.slice sr W.res.length cr) W.res, rB kz 40 [.slice sg W.gens.length cg, .slice sf W.free.length cf, .slice sv2 (k + 1) cv2, .slice sr W.res.length cr], (⟨119, 3, (.slice sv2 (k + 1) cv2), k + 1, ts.flatMap tc ++ [t.c, t.r, t.x]⟩ : OR)] ([rB kb 119 [t.c, t.r, t.x]] ++ ((rTab t T) ++ (rTabs ts (W.tabs.take k))))⟩
  clear hK K; try simp only [zs]
  refine wpAnyH_done (by kernel_rfl) ?_ _
  clear hHeld; have hR := Hid.mk' (Rs.roundT (P := [rI (.slice sg W.gens.length cg) W.gens, rI (.slice sf W.free.length cf) W.free, rV (.slice sr W.res.length cr) W.res, rB kz 40 [.slice sg W.gens.length cg, .slice sf W.free.length cf, .slice sv2 (k + 1) cv2, .slice sr W.res.length cr], (⟨119, 3, .slice sv2 (k + 1) cv2, k + 1, ts.flatMap tc ++ [t.c, t.r, t.x]⟩ : OR)]) hts.out HTk.out hR.out)
  have hts : Hid ((ts ++ [t]).length = k + 1) := by show _ = _; rw [List.length_append, hts.out]; rfl
  have hle : Hid (∀ (j : Nat) u U, (ts ++ [t])[j]? = some u → (W.tabs.take (k + 1))[j]? = some U → u.xs.length = U.cells.length) := lens_snoc hle.out hts0.out HTk.out HT.out.1
  go_wp2_with fail; go_roundw
  case rel => exact ⟨k + 1, sv2, cv2, ts ++ [t], by omega, by go_num, hts, hle, by rw [List.flatMap_append, List.flatMap_singleton]; exact hR⟩
  case measure => simp [intOf]; omega
 have hk' : k = W.tabs.length := by omega
 subst hk'
 have KZ := hR.out.box [rI (.slice sg W.gens.length cg) W.gens, rI (.slice sf W.free.length cf) W.free, rV (.slice sr W.res.length cr) W.res] ([(⟨119, 3, .slice sv W.tabs.length cv, W.tabs.length, ts.flatMap tc⟩ : OR)] ++ rTabs ts (W.tabs.take W.tabs.length))
 obtain ⟨z0, z1, z2, z3, z4⟩ := KZ.four'
 obtain ⟨y0, y1, y2, y3, y4⟩ := (hR.out.blk K1.out b1).four'
 have lw : Below w.heap.size w wr := bl_trans' L0.out hR.out
 have okc := Hid.mk' (tabs_okc HW.out.t)
 have okr := Hid.mk' (els_okVs HW.out.r)
 have hle : Hid (∀ (j : Nat) u U, ts[j]? = some u → W.tabs[j]? = some U → u.xs.length = U.cells.length) := by have := hle.out; rw [List.take_length] at this; exact this
 go_wp2_with fail; refine bodyPost_ret (v := .agg #[.slice sg W.gens.length cg, .slice sf W.free.length cf, .slice sv W.tabs.length cv, .slice sr W.res.length cr]) (by simp [results, Tryz.results68, go_sem, y0, y1, y2, y3]) rfl ⟨⟨⟨.slice sg W.gens.length cg, .slice sf W.free.length cf, .slice sv W.tabs.length cv, .slice sr W.res.length cr, ts⟩, rfl, ?_, hts.out, hle.out, okc.out, okr.out⟩, ?_⟩
 ·
  have h := (Rs.less [rI (.slice sg W.gens.length cg) W.gens, rI (.slice sf W.free.length cf) W.free, rV (.slice sr W.res.length cr) W.res] ([(⟨119, 3, .slice sv W.tabs.length cv, W.tabs.length, ts.flatMap tc⟩ : OR)] ++ rTabs ts (W.tabs.take W.tabs.length)) hR.out).o
  have h := (((h.putC (p := ⟨w.heap.size + 1, 0, none⟩) b1 (.slice sg W.gens.length cg)).putC (p := ⟨w.heap.size + 1, 1, none⟩) b1 (.slice sf W.free.length cf)).putC (p := ⟨w.heap.size + 1, 2, none⟩) b1 (.slice sv W.tabs.length cv)).putC (p := ⟨w.heap.size + 1, 3, none⟩) b1 (.slice sr W.res.length cr)
  have h := h.mono (B' := w.heap.size) (by omega)
  rw [List.take_length] at h
  unfold rW rT
  dsimp only
  rw [hts.out]
  exact h.perm (((List.Perm.swap _ _ _).cons _).cons _)
 exact (((lw.setCell (by simp <;> omega) _).setCell (by simp <;> omega) _).setCell (by simp <;> omega) _).setCell (by simp <;> omega) _
end Go.Proofs.YtbgeobpdojmdaaaGreat
