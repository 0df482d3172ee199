import Derived.Test.YtbgeobpdojmdaaaGreatSq16
namespace Go.Proofs.YtbgeobpdojmdaaaGreat
open Go.RowKit
set_option linter.unusedVariables false
set_option linter.unusedSimpArgs false
set_option maxRecDepth 100000
theorem Hid.mk' {p : Prop} (h : p) : Hid p := h
theorem news1 {w : World} {k : Nat} {u : Value} {t : TypeId} (h : Blk w k #[u] t) : ∀ (j : Nat) v, [u][j]? = some v → w.cell? ((⟨k, 0, none⟩ : Addr).add j) = some v := by
 intro j v hj
 match j, hj with
 | 0, hj => rw [Go.WideShapes.add_plain]; exact (h.cell 0).trans hj
theorem news3 {w : World} {k : Nat} {u0 u1 u2 : Value} {t : TypeId} (h : Blk w k #[u0, u1, u2] t) : ∀ (j : Nat) v, [u0, u1, u2][j]? = some v → w.cell? ((⟨k, 0, none⟩ : Addr).add j) = some v := by
 intro j v hj
 match j, hj with
 | 0, hj => rw [Go.WideShapes.add_plain]; exact (h.cell 0).trans hj
 | 1, hj => rw [Go.WideShapes.add_plain]; exact (h.cell 1).trans hj
 | 2, hj => rw [Go.WideShapes.add_plain]; exact (h.cell 2).trans hj
theorem Rs.keptE {w X W : World} {C n : Nat} {R : List OR} (h : Rs X X.heap.size W R) (hb : Below w.heap.size w X) (hn : n < X.heap.size) : Kept C w W :=
 ⟨Nat.le_trans hb.size h.s, fun k _ hk => (h.l.block k (Nat.lt_of_lt_of_le hk hb.size)).trans (hb.block k hk)⟩
theorem Tryz.infoTb : (Tryz.prog.info? 119).map (fun i => (i.zero, i.size, i.bytes)) = some (some (.agg #[.slice none 0 0, .slice none 0 0, .slice none 0 0]), 3, 72) := by kernel_rfl
theorem Tryz.infoVs : (Tryz.prog.info? 38).map (fun i => (i.zero, i.size, i.bytes)) = some (some (.slice none 0 0), 1, 24) := by kernel_rfl
theorem rVs_snoc {xs : List Value} {C : List (List V4)} {k : Nat} {L : List V4} (hx : xs.length = k) (h : C[k]? = some L) (v : Value) : rVs (xs ++ [v]) (C.take (k + 1)) = rVs xs (C.take k) ++ [rV v L] := by
 have hk : k < C.length := (List.getElem?_eq_some_iff.1 h).1
 have e : C.take (k + 1) = C.take k ++ [L] := by rw [List.take_add_one, h]; rfl
 unfold rVs
 rw [e, List.zipWith_append (by simp; omega)]
 rfl
theorem Rs.round {X W : World} {B : Nat} {P : List OR} {xs : List Value} {C : List (List V4)} {k : Nat} {L : List V4} (hx : xs.length = k) (hC : C[k]? = some L) {v : Value} {q : OR} (h : Rs X B W (P ++ (rV v L :: q :: rVs xs (C.take k)))) : Rs X B W (P ++ rVs (xs ++ [v]) (C.take (k + 1))) := by
 rw [rVs_snoc hx hC]
 have h' := h.perm (List.Perm.append_left P ((List.Perm.swap q (rV v L) _)))
 have h2 := Rs.less P (rV v L :: rVs xs (C.take k)) h'
 exact h2.perm (List.Perm.append_left P (List.perm_append_comm (l₁ := [rV v L])))
theorem bl_trans' {w X W : World} {R : List OR} (hb : Below w.heap.size w X) (h : Rs X X.heap.size W R) : Below w.heap.size w W := bl_trans hb h.l
theorem els_okc {w : World} {B : Nat} {s : Option Addr} {C : List (List V4)} (h : Els 1 cVals w B s C) : ∀ L ∈ C, okVs L := by
 intro L hL
 obtain ⟨j, hj, rfl⟩ := List.getElem_of_mem hL
 obtain ⟨_, _, _, _, _, s', c', _, h'⟩ := eVals_cells h (j := j) (a := C[j]) (by simp [hj])
 exact els_okVs h'
set_option maxHeartbeats 8000000 in
theorem copyTable_new (s1 s2 s3 : Option Addr) (c1 c2 c3 : Nat) (T : Tab) (B0 : Nat) (w : World) (h1 : Els 1 cInt w B0 s1 T.cols) (h2 : Els 2 cEnt w B0 s2 T.rows) (h3 : Els 1 cVals w B0 s3 T.cells) (hk : kTab T) :
  Calls Tryz.prog 105 #[.agg #[.slice s1 T.cols.length c1, .slice s2 T.rows.length c2, .slice s3 T.cells.length c3]] w fun e w' => (∃ t : TV, e = .returned (.agg #[t.c, t.r, t.x]) ∧ OTb w' w.heap.size t T) ∧ Below w.heap.size w w' := by
 have hal := alloc_old
 have haf := alloc_oldf
 obtain ⟨m1, m2, m3, m4⟩ := hk
 obtain ⟨iT, hiT, hzT, hsT, hbT⟩ := info_parts Tryz.infoTb
 obtain ⟨iS, hiS, hzS, hsS, hbS⟩ := info_parts Tryz.infoVs
 obtain ⟨k0, k1, L0'⟩ := boxWE' w #[.slice s1 T.cols.length c1, .slice s2 T.rows.length c2, .slice s3 T.cells.length c3] #[.slice none 0 0, .slice none 0 0, .slice none 0 0] 119 119
 go_enter Tryz.func105, Tryz.ntmps105
 go_wp2_with fail; generalize hX : (w.alloc (.cells #[.slice s1 T.cols.length c1, .slice s2 T.rows.length c2, .slice s3 T.cells.length c3] 119)).alloc (.cells #[.slice none 0 0, .slice none 0 0, .slice none 0 0] 119) = X at k0 k1 L0' ⊢
 clear hX; have b0 : w.heap.size < X.heap.size := k0.lt
 have b1 : w.heap.size + 1 < X.heap.size := k1.lt
 have K0 := Hid.mk' k0
 have K1 := Hid.mk' k1
 have L0 : Hid (Below w.heap.size w X) := L0'
 clear L0'; have H1 := Hid.mk' h1
 have H2 := Hid.mk' h2
 have H3 := Hid.mk' h3
 have hR := Hid.mk' (Rs.nil X)
 clear k0 k1 h1 h2 h3; go_cut [3] (fun pz wx => ∃ (kz : Nat) (sa : Option Addr) (ca : Nat) (sb : Option Addr) (cb : Nat), pz = .pointer (some ⟨kz, 0, none⟩) ∧ Rs X X.heap.size wx [rI (.slice sa T.cols.length ca) T.cols, rE (.slice sb T.rows.length cb) T.rows, rB kz 119 [.slice sa T.cols.length ca, .slice sb T.rows.length cb, .slice none 0 0]])
 case first =>
  refine wp_region_held_drew (S := (fun w' => Blk w' w.heap.size #[.slice s1 T.cols.length c1, .slice s2 T.rows.length c2, .slice s3 T.cells.length c3] 119 ∧ Blk w' (w.heap.size + 1) #[.slice none 0 0, .slice none 0 0, .slice none 0 0] 119)) (by kernel_rfl) ?_ (fun hHeld => ?_)
  ·
   exact (k2 hR K0 K1 b0 b1 :)
  have hR := Hid.mk' hR.out.drew
  refine wpq (v := ?_) 0 6 rfl rfl ?_ ?_
  rotate_left 1
  ·
   intro w hSw; (try dsimp only at hSw); obtain ⟨q0, q1⟩ := hSw; obtain ⟨x0, x1, x2, x3⟩ := q0.three'; go_simp <;> with_reducible rfl
  simp only [zs]; refine wpq (v := ?_) 1 7 rfl rfl ?_ ?_
  rotate_left 1
  ·
   intro w hSw; (try dsimp only at hSw); obtain ⟨q0, q1⟩ := hSw; obtain ⟨x0, x1, x2, x3⟩ := q0.three'; go_simp <;> with_reducible rfl
  simp only [zs]; refine wpq (v := ?_) 3 9 rfl rfl ?_ ?_
  rotate_left 1
  ·
   intro w hSw; (try dsimp only at hSw); obtain ⟨q0, q1⟩ := hSw; obtain ⟨x0, x1, x2, x3⟩ := q0.three'; go_simp <;> with_reducible rfl
  simp only [zs]; refine wpq (v := ?_) 4 10 rfl rfl ?_ ?_
  rotate_left 1
  ·
   intro w hSw; (try dsimp only at hSw); obtain ⟨q0, q1⟩ := hSw; obtain ⟨x0, x1, x2, x3⟩ := q0.three'; go_simp <;> with_reducible rfl
  simp only [zs]; refine wpAnyH_ready (rs := [2, 7]) (by kernel_rfl) (by simp) ?_
  refine AllReadyH.cons rfl (fun K hK => ?_) ?_
  ·
   skip
   go_simp; refine (copyInts_new s1 c1 T.cols B0 _ (H1.out.kept cInt_keeps (hR.out.keptE L0.out b1)) m1).mono ?_
   rintro z g1 hN
   obtain ⟨sa, ca, rfl, hO, hb⟩ := NewR.sl (n := T.cols.length) hN (fun _ => rfl) (fun _ => rfl)
   clear hN; have hR : Hid (Rs X X.heap.size g1 [rI (.slice sa T.cols.length ca) T.cols]) := Hid.mk' (hR.out.ins [] [] hb hO)
   clear hb hO; refine hK.out _ _ ?_ (fun hHeld => ?_)
   ·
    exact (k2 hR K0 K1 b0 b1 :)
   clear hK K; try simp only [zs]
   refine wpAnyH_ready (rs := [5, 7]) (by kernel_rfl) (by simp) ?_
   refine AllReadyH.cons rfl (fun K hK => ?_) ?_
   ·
    skip
    go_simp; refine (copiedE_any s2 c2 T.rows B0 _ (H2.out.kept cEnt_keeps (hR.out.keptE L0.out b1)) m2).mono ?_
    rintro z g2 hN
    obtain ⟨sb, cb, rfl, hO, hb⟩ := NewR.sl (n := T.rows.length) hN (fun _ => rfl) (fun _ => rfl)
    clear hN; have hR : Hid (Rs X X.heap.size g2 [rI (.slice sa T.cols.length ca) T.cols, rE (.slice sb T.rows.length cb) T.rows]) := Hid.mk' (hR.out.ins [rI (.slice sa T.cols.length ca) T.cols] [] hb hO)
    clear hb hO; refine hK.out _ _ ?_ (fun hHeld => ?_)
    ·
     exact (k2 hR K0 K1 b0 b1 :)
    clear hK K; try simp only [zs]
    refine wpr 6 12 ?_; simp only [zs]; refine wpy 7 fun K hK => ?_
    refine step_box [rI (.slice sa T.cols.length ca) T.cols, rE (.slice sb T.rows.length cb) T.rows] [] hR.out rfl (d0 := (some 3)) rfl 119 hiT hzT rfl ?_
    intro kz g3 hR'
    have hR : Hid (Rs X X.heap.size g3 [rI (.slice sa T.cols.length ca) T.cols, rE (.slice sb T.rows.length cb) T.rows, rB kz 119 [.slice none 0 0, .slice none 0 0, .slice none 0 0]]) := hR'
    clear hR'; refine hK.out _ _ ?_ (fun hHeld => ?_)
    ·
     exact (k2 hR K0 K1 b0 b1 :)
    clear hK K; try simp only [zs]
    refine wpy 8 fun K hK => ?_
    refine step_put [rI (.slice sa T.cols.length ca) T.cols, rE (.slice sb T.rows.length cb) T.rows] [] hR.out rfl (d0 := none) rfl (.tmp 3) (.tmp 12) rfl [.slice sa T.cols.length ca, .slice sb T.rows.length cb, .slice none 0 0] rfl rfl (by rw [hiT]; simp [hsT]) rfl (by simp [Value.oneCell']) ?_
    intro g4 hR'
    have hR : Hid (Rs X X.heap.size g4 [rI (.slice sa T.cols.length ca) T.cols, rE (.slice sb T.rows.length cb) T.rows, rB kz 119 [.slice sa T.cols.length ca, .slice sb T.rows.length cb, .slice none 0 0]]) := hR'
    clear hR'; refine hK.out _ _ ?_ (fun hHeld => ?_)
    ·
     exact (k2 hR K0 K1 b0 b1 :)
    clear hK K; try simp only [zs]
    refine wpAnyH_done (by kernel_rfl) ?_ _
    clear hHeld; go_wp2_with fail; go_meet; exact ⟨kz, sa, ca, sb, cb, rfl, hR.out⟩
   refine AllReadyH.cons rfl (fun K hK => ?_) AllReadyH.nil
   refine step_box [rI (.slice sa T.cols.length ca) T.cols] [] hR.out rfl (d0 := (some 3)) rfl 119 hiT hzT rfl ?_
   intro kz g5 hR'
   have hR : Hid (Rs X X.heap.size g5 [rI (.slice sa T.cols.length ca) T.cols, rB kz 119 [.slice none 0 0, .slice none 0 0, .slice none 0 0]]) := hR'
   clear hR'; refine hK.out _ _ ?_ (fun hHeld => ?_)
   ·
    exact (k2 hR K0 K1 b0 b1 :)
   clear hK K; try simp only [zs]
   refine wpy 5 fun K hK => ?_
   go_simp; refine (copiedE_any s2 c2 T.rows B0 _ (H2.out.kept cEnt_keeps (hR.out.keptE L0.out b1)) m2).mono ?_
   rintro z g6 hN
   obtain ⟨sb, cb, rfl, hO, hb⟩ := NewR.sl (n := T.rows.length) hN (fun _ => rfl) (fun _ => rfl)
   clear hN; have hR : Hid (Rs X X.heap.size g6 [rI (.slice sa T.cols.length ca) T.cols, rE (.slice sb T.rows.length cb) T.rows, rB kz 119 [.slice none 0 0, .slice none 0 0, .slice none 0 0]]) := Hid.mk' (hR.out.ins [rI (.slice sa T.cols.length ca) T.cols] [rB kz 119 [.slice none 0 0, .slice none 0 0, .slice none 0 0]] hb hO)
   clear hb hO; refine hK.out _ _ ?_ (fun hHeld => ?_)
   ·
    exact (k2 hR K0 K1 b0 b1 :)
   clear hK K; try simp only [zs]
   refine wpr 6 12 ?_; simp only [zs]; refine wpy 8 fun K hK => ?_
   refine step_put [rI (.slice sa T.cols.length ca) T.cols, rE (.slice sb T.rows.length cb) T.rows] [] hR.out rfl (d0 := none) rfl (.tmp 3) (.tmp 12) rfl [.slice sa T.cols.length ca, .slice sb T.rows.length cb, .slice none 0 0] rfl rfl (by rw [hiT]; simp [hsT]) rfl (by simp [Value.oneCell']) ?_
   intro g7 hR'
   have hR : Hid (Rs X X.heap.size g7 [rI (.slice sa T.cols.length ca) T.cols, rE (.slice sb T.rows.length cb) T.rows, rB kz 119 [.slice sa T.cols.length ca, .slice sb T.rows.length cb, .slice none 0 0]]) := hR'
   clear hR'; refine hK.out _ _ ?_ (fun hHeld => ?_)
   ·
    exact (k2 hR K0 K1 b0 b1 :)
   clear hK K; try simp only [zs]
   refine wpAnyH_done (by kernel_rfl) ?_ _
   clear hHeld; go_wp2_with fail; go_meet; exact ⟨kz, sa, ca, sb, cb, rfl, hR.out⟩
  refine AllReadyH.cons rfl (fun K hK => ?_) AllReadyH.nil
  refine step_box [] [] hR.out rfl (d0 := (some 3)) rfl 119 hiT hzT rfl ?_
  intro kz g8 hR'
  have hR : Hid (Rs X X.heap.size g8 [rB kz 119 [.slice none 0 0, .slice none 0 0, .slice none 0 0]]) := hR'
  clear hR'; refine hK.out _ _ ?_ (fun hHeld => ?_)
  ·
   exact (k2 hR K0 K1 b0 b1 :)
  clear hK K; try simp only [zs]
  refine wpy 2 fun K hK => ?_
  go_simp; refine (copyInts_new s1 c1 T.cols B0 _ (H1.out.kept cInt_keeps (hR.out.keptE L0.out b1)) m1).mono ?_
  rintro z g9 hN
  obtain ⟨sa, ca, rfl, hO, hb⟩ := NewR.sl (n := T.cols.length) hN (fun _ => rfl) (fun _ => rfl)
  clear hN; have hR : Hid (Rs X X.heap.size g9 [rI (.slice sa T.cols.length ca) T.cols, rB kz 119 [.slice none 0 0, .slice none 0 0, .slice none 0 0]]) := Hid.mk' (hR.out.ins [] [rB kz 119 [.slice none 0 0, .slice none 0 0, .slice none 0 0]] hb hO)
  clear hb hO; refine hK.out _ _ ?_ (fun hHeld => ?_)
  ·
   exact (k2 hR K0 K1 b0 b1 :)
  clear hK K; try simp only [zs]
  refine wpy 5 fun K hK => ?_
  go_simp; refine (copiedE_any s2 c2 T.rows B0 _ (H2.out.kept cEnt_keeps (hR.out.keptE L0.out b1)) m2).mono ?_
  rintro z g10 hN
  obtain ⟨sb, cb, rfl, hO, hb⟩ := NewR.sl (n := T.rows.length) hN (fun _ => rfl) (fun _ => rfl)
  clear hN; have hR : Hid (Rs X X.heap.size g10 [rI (.slice sa T.cols.length ca) T.cols, rE (.slice sb T.rows.length cb) T.rows, rB kz 119 [.slice none 0 0, .slice none 0 0, .slice none 0 0]]) := Hid.mk' (hR.out.ins [rI (.slice sa T.cols.length ca) T.cols] [rB kz 119 [.slice none 0 0, .slice none 0 0, .slice none 0 0]] hb hO)
  clear hb hO; refine hK.out _ _ ?_ (fun hHeld => ?_)
  ·
   exact (k2 hR K0 K1 b0 b1 :)
  clear hK K; try simp only [zs]
  refine wpr 6 12 ?_; simp only [zs]; refine wpy 8 fun K hK => ?_
  refine step_put [rI (.slice sa T.cols.length ca) T.cols, rE (.slice sb T.rows.length cb) T.rows] [] hR.out rfl (d0 := none) rfl (.tmp 3) (.tmp 12) rfl [.slice sa T.cols.length ca, .slice sb T.rows.length cb, .slice none 0 0] rfl rfl (by rw [hiT]; simp [hsT]) rfl (by simp [Value.oneCell']) ?_
  intro g11 hR'
  have hR : Hid (Rs X X.heap.size g11 [rI (.slice sa T.cols.length ca) T.cols, rE (.slice sb T.rows.length cb) T.rows, rB kz 119 [.slice sa T.cols.length ca, .slice sb T.rows.length cb, .slice none 0 0]]) := hR'
  clear hR'; refine hK.out _ _ ?_ (fun hHeld => ?_)
  ·
   exact (k2 hR K0 K1 b0 b1 :)
  clear hK K; try simp only [zs]
  refine wpAnyH_done (by kernel_rfl) ?_ _
  clear hHeld; go_wp2_with fail; go_meet; exact ⟨kz, sa, ca, sb, cb, rfl, hR.out⟩
 obtain ⟨kz, sa, ca, sb, cb, rfl, hR⟩ := hcut
 obtain ⟨x0, x1, x2, x3⟩ := (hR.blk K0.out b0).three'
 have hR := Hid.mk' hR
 go_wp2_with fail; clear x0 x1 x2 x3; go_loopw [16] (fun i wr => ∃ (k : Nat) (sv : Option Addr) (cv : Nat) (xs : List Value), k ≤ T.cells.length ∧ i = .int .i64 k ∧ Hid (xs.length = k) ∧ Hid (Rs X X.heap.size wr ([rI (.slice sa T.cols.length ca) T.cols, rE (.slice sb T.rows.length cb) T.rows, rB kz 119 [.slice sa T.cols.length ca, .slice sb T.rows.length cb, .slice sv k cv], (⟨38, 1, .slice sv k cv, k, xs⟩ : OR)] ++ rVs xs (T.cells.take k)))) (fun i _ => T.cells.length - (intOf i).toNat)
 case atStart =>
  refine ⟨0, none, 0, [], Nat.zero_le _, rfl, rfl, ?_⟩
  exact hR.out.ins [rI (.slice sa T.cols.length ca) T.cols, rE (.slice sb T.rows.length cb) T.rows, rB kz 119 [.slice sa T.cols.length ca, .slice sb T.rows.length cb, .slice none 0 0]] [] (Below.refl _ _) (World.ownsRow_nil _ _ _ _)
 clear hR; obtain ⟨k, sv, cv, xs, hk, rfl, hxs, hR⟩ := hrel
 by_cases hlt : k < T.cells.length
 ·
  obtain ⟨L, hL⟩ := get_some hlt
  obtain ⟨b, o, rfl, _, hp, s', c', e1, EL⟩ := eVals_cells H3.out hL
  have e1 := ((hR.out.keptE (C := 0) L0.out b1).cell (Nat.zero_le _) hp).trans e1
  have hLl := m4 L (List.mem_of_getElem? hL)
  have EL := Hid.mk' EL
  have HL := Hid.mk' hL
  have kI0 : (0 : Int) ≤ (k : Int) := by omega
  have kI1 : (k : Int) < (T.cells.length : Int) := by omega
  clear hL; go_wp2_with fail; clear e1; refine wp_region_held_drew (S := (fun w' => Blk w' (w.heap.size + 1) #[.slice none 0 0, .slice none 0 0, .slice none 0 0] 119)) (by kernel_rfl) ?_ (fun hHeld => ?_)
  ·
   exact hR.out.blk K1.out b1
  have hR := Hid.mk' hR.out.drew
  refine wpr 0 20 ?_; simp only [zs]; refine wpr 2 22 ?_; simp only [zs]; refine wpAnyH_ready (rs := [1, 3]) (by kernel_rfl) (by simp) ?_
  refine AllReadyH.cons rfl (fun K hK => ?_) ?_
  ·
   skip
   have hbx := hR.out.box [rI (.slice sa T.cols.length ca) T.cols, rE (.slice sb T.rows.length cb) T.rows] ([(⟨38, 1, .slice sv k cv, k, xs⟩ : OR)] ++ (rVs xs (T.cells.take k)))
   have x0 := hbx.cell 2
   have x1 := hbx.frozen 2
   clear hbx; go_simp; clear x0 x1; refine hK.out _ _ ?_ (fun hHeld => ?_)
   ·
    exact hR.out.blk K1.out b1
   clear hK K; try simp only [zs]
   refine wpy 3 fun K hK => ?_
   go_simp; refine (copiedV_any s' c' L B0 _ (EL.out.kept cVal_keeps (hR.out.keptE L0.out b1)) hLl).mono ?_
   rintro z g2 hN
   obtain ⟨sn, cn, rfl, hO, hb⟩ := NewR.sl (n := L.length) hN (fun _ => rfl) (fun _ => rfl)
   clear hN; have hR : Hid (Rs X X.heap.size g2 ([rI (.slice sa T.cols.length ca) T.cols, rE (.slice sb T.rows.length cb) T.rows, rB kz 119 [.slice sa T.cols.length ca, .slice sb T.rows.length cb, .slice sv k cv], (⟨38, 1, .slice sv k cv, k, xs⟩ : OR), rV (.slice sn L.length cn) L] ++ (rVs xs (T.cells.take k)))) := Hid.mk' (hR.out.ins [rI (.slice sa T.cols.length ca) T.cols, rE (.slice sb T.rows.length cb) T.rows, rB kz 119 [.slice sa T.cols.length ca, .slice sb T.rows.length cb, .slice sv k cv], (⟨38, 1, .slice sv k cv, k, xs⟩ : OR)] (rVs xs (T.cells.take k)) hb hO)
   clear hb hO; refine hK.out _ _ ?_ (fun hHeld => ?_)
   ·
    exact hR.out.blk K1.out b1
   clear hK K; try simp only [zs]
   refine wpy 4 fun K hK => ?_
   refine step_bs1 [rI (.slice sa T.cols.length ca) T.cols, rE (.slice sb T.rows.length cb) T.rows, rB kz 119 [.slice sa T.cols.length ca, .slice sb T.rows.length cb, .slice sv k cv], (⟨38, 1, .slice sv k cv, k, xs⟩ : OR), rV (.slice sn L.length cn) L] (rVs xs (T.cells.take k)) hR.out rfl (d0 := (some 24)) rfl 117 38 Tryz.underlying117 hiS hzS hsS (.tmp 23) rfl sn L.length cn rfl ?_
   intro kb g3 hR'
   have hR : Hid (Rs X X.heap.size g3 ([rI (.slice sa T.cols.length ca) T.cols, rE (.slice sb T.rows.length cb) T.rows, rB kz 119 [.slice sa T.cols.length ca, .slice sb T.rows.length cb, .slice sv k cv], (⟨38, 1, .slice sv k cv, k, xs⟩ : OR), rV (.slice sn L.length cn) L, rB kb 38 [.slice sn L.length cn]] ++ (rVs xs (T.cells.take k)))) := hR'
   clear hR'; refine hK.out _ _ ?_ (fun hHeld => ?_)
   ·
    exact hR.out.blk K1.out b1
   clear hK K; try simp only [zs]
   refine wpy 5 fun K hK => ?_
   refine step_app [rI (.slice sa T.cols.length ca) T.cols, rE (.slice sb T.rows.length cb) T.rows, rB kz 119 [.slice sa T.cols.length ca, .slice sb T.rows.length cb, .slice sv k cv]] ([rV (.slice sn L.length cn) L, rB kb 38 [.slice sn L.length cn]] ++ (rVs xs (T.cells.take k))) hR.out rfl (d0 := (some 25)) rfl (.tmp 21) (.tmp 24) 117 24 rfl Tryz.underlying117 hiS hzS hsS hbS rfl (Nat.succ_pos _) rfl (some ⟨kb, 0, none⟩) 1 1 [.slice sn L.length cn] rfl rfl (Or.inr ⟨_, rfl, news1 (hR.out.box [rI (.slice sa T.cols.length ca) T.cols, rE (.slice sb T.rows.length cb) T.rows, rB kz 119 [.slice sa T.cols.length ca, .slice sb T.rows.length cb, .slice sv k cv], (⟨38, 1, .slice sv k cv, k, xs⟩ : OR), rV (.slice sn L.length cn) L] (rVs xs (T.cells.take k)))⟩) (by simp [Value.oneCell']) (by dsimp only; unfold maxLen; omega) (by dsimp only; omega) (k + 1) rfl (fun v => (⟨38, 1, v, k + 1, xs ++ [.slice sn L.length cn]⟩ : OR)) (fun _ => rfl) ?_
   intro sv2 cv2 g4 hR'
   have hR : Hid (Rs X X.heap.size g4 ([rI (.slice sa T.cols.length ca) T.cols, rE (.slice sb T.rows.length cb) T.rows, rB kz 119 [.slice sa T.cols.length ca, .slice sb T.rows.length cb, .slice sv k cv], (⟨38, 1, (.slice sv2 (k + 1) cv2), k + 1, xs ++ [.slice sn L.length cn]⟩ : OR), rV (.slice sn L.length cn) L, rB kb 38 [.slice sn L.length cn]] ++ (rVs xs (T.cells.take k)))) := hR'
   clear hR'; refine hK.out _ _ ?_ (fun hHeld => ?_)
   ·
    exact hR.out.blk K1.out b1
   clear hK K; try simp only [zs]
   refine wpr 6 26 ?_; simp only [zs]; refine wpy 7 fun K hK => ?_
   have hbx := hR.out.box [rI (.slice sa T.cols.length ca) T.cols, rE (.slice sb T.rows.length cb) T.rows] ([(⟨38, 1, (.slice sv2 (k + 1) cv2), k + 1, xs ++ [.slice sn L.length cn]⟩ : OR), rV (.slice sn L.length cn) L, rB kb 38 [.slice sn L.length cn]] ++ (rVs xs (T.cells.take k)))
   have x0 := hbx.cell 2
   have x1 := hbx.frozen 2
   clear hbx; go_simp; clear x0 x1; have hR : Hid (Rs X X.heap.size _ ([rI (.slice sa T.cols.length ca) T.cols, rE (.slice sb T.rows.length cb) T.rows, rB kz 119 [.slice sa T.cols.length ca, .slice sb T.rows.length cb, .slice sv2 (k + 1) cv2], (⟨38, 1, (.slice sv2 (k + 1) cv2), k + 1, xs ++ [.slice sn L.length cn]⟩ : OR), rV (.slice sn L.length cn) L, rB kb 38 [.slice sn L.length cn]] ++ (rVs xs (T.cells.take k)))) := Hid.mk' (hR.out.setB [rI (.slice sa T.cols.length ca) T.cols, rE (.slice sb T.rows.length cb) T.rows] ([(⟨38, 1, (.slice sv2 (k + 1) cv2), k + 1, xs ++ [.slice sn L.length cn]⟩ : OR), rV (.slice sn L.length cn) L, rB kb 38 [.slice sn L.length cn]] ++ (rVs xs (T.cells.take k))) 2 (.slice sv2 (k + 1) cv2))
   refine hK.out _ _ ?_ (fun hHeld => ?_)
   ·
    exact hR.out.blk K1.out b1
   clear hK K; try simp only [zs]
   refine wpAnyH_done (by kernel_rfl) ?_ _
   clear hHeld; have hR := Hid.mk' (Rs.round (P := [rI (.slice sa T.cols.length ca) T.cols, rE (.slice sb T.rows.length cb) T.rows, rB kz 119 [.slice sa T.cols.length ca, .slice sb T.rows.length cb, .slice sv2 (k + 1) cv2], (⟨38, 1, .slice sv2 (k + 1) cv2, k + 1, xs ++ [.slice sn L.length cn]⟩ : OR)]) hxs.out HL.out hR.out)
   go_wp2_with fail; go_roundw
   case rel => exact ⟨k + 1, sv2, cv2, xs ++ [.slice sn L.length cn], by omega, by go_num, by show _ = _; rw [List.length_append, hxs.out]; rfl, hR⟩
   case measure => simp [intOf]; omega
  refine AllReadyH.cons rfl (fun K hK => ?_) AllReadyH.nil
  go_simp; refine (copiedV_any s' c' L B0 _ (EL.out.kept cVal_keeps (hR.out.keptE L0.out b1)) hLl).mono ?_
  rintro z g6 hN
  obtain ⟨sn, cn, rfl, hO, hb⟩ := NewR.sl (n := L.length) hN (fun _ => rfl) (fun _ => rfl)
  clear hN; have hR : Hid (Rs X X.heap.size g6 ([rI (.slice sa T.cols.length ca) T.cols, rE (.slice sb T.rows.length cb) T.rows, rB kz 119 [.slice sa T.cols.length ca, .slice sb T.rows.length cb, .slice sv k cv], (⟨38, 1, .slice sv k cv, k, xs⟩ : OR), rV (.slice sn L.length cn) L] ++ (rVs xs (T.cells.take k)))) := Hid.mk' (hR.out.ins [rI (.slice sa T.cols.length ca) T.cols, rE (.slice sb T.rows.length cb) T.rows, rB kz 119 [.slice sa T.cols.length ca, .slice sb T.rows.length cb, .slice sv k cv], (⟨38, 1, .slice sv k cv, k, xs⟩ : OR)] (rVs xs (T.cells.take k)) hb hO)
  clear hb hO; refine hK.out _ _ ?_ (fun hHeld => ?_)
  ·
   exact hR.out.blk K1.out b1
  clear hK K; try simp only [zs]
  refine wpAnyH_ready (rs := [1, 4]) (by kernel_rfl) (by simp) ?_
  refine AllReadyH.cons rfl (fun K hK => ?_) ?_
  ·
   skip
   have hbx := hR.out.box [rI (.slice sa T.cols.length ca) T.cols, rE (.slice sb T.rows.length cb) T.rows] ([(⟨38, 1, .slice sv k cv, k, xs⟩ : OR), rV (.slice sn L.length cn) L] ++ (rVs xs (T.cells.take k)))
   have x0 := hbx.cell 2
   have x1 := hbx.frozen 2
   clear hbx; go_simp; clear x0 x1; refine hK.out _ _ ?_ (fun hHeld => ?_)
   ·
    exact hR.out.blk K1.out b1
   clear hK K; try simp only [zs]
   refine wpy 4 fun K hK => ?_
   refine step_bs1 [rI (.slice sa T.cols.length ca) T.cols, rE (.slice sb T.rows.length cb) T.rows, rB kz 119 [.slice sa T.cols.length ca, .slice sb T.rows.length cb, .slice sv k cv], (⟨38, 1, .slice sv k cv, k, xs⟩ : OR), rV (.slice sn L.length cn) L] (rVs xs (T.cells.take k)) hR.out rfl (d0 := (some 24)) rfl 117 38 Tryz.underlying117 hiS hzS hsS (.tmp 23) rfl sn L.length cn rfl ?_
   intro kb g8 hR'
   have hR : Hid (Rs X X.heap.size g8 ([rI (.slice sa T.cols.length ca) T.cols, rE (.slice sb T.rows.length cb) T.rows, rB kz 119 [.slice sa T.cols.length ca, .slice sb T.rows.length cb, .slice sv k cv], (⟨38, 1, .slice sv k cv, k, xs⟩ : OR), rV (.slice sn L.length cn) L, rB kb 38 [.slice sn L.length cn]] ++ (rVs xs (T.cells.take k)))) := hR'
   clear hR'; refine hK.out _ _ ?_ (fun hHeld => ?_)
   ·
    exact hR.out.blk K1.out b1
   clear hK K; try simp only [zs]
   refine wpy 5 fun K hK => ?_
   refine step_app [rI (.slice sa T.cols.length ca) T.cols, rE (.slice sb T.rows.length cb) T.rows, rB kz 119 [.slice sa T.cols.length ca, .slice sb T.rows.length cb, .slice sv k cv]] ([rV (.slice sn L.length cn) L, rB kb 38 [.slice sn L.length cn]] ++ (rVs xs (T.cells.take k))) hR.out rfl (d0 := (some 25)) rfl (.tmp 21) (.tmp 24) 117 24 rfl Tryz.underlying117 hiS hzS hsS hbS rfl (Nat.succ_pos _) rfl (some ⟨kb, 0, none⟩) 1 1 [.slice sn L.length cn] rfl rfl (Or.inr ⟨_, rfl, news1 (hR.out.box [rI (.slice sa T.cols.length ca) T.cols, rE (.slice sb T.rows.length cb) T.rows, rB kz 119 [.slice sa T.cols.length ca, .slice sb T.rows.length cb, .slice sv k cv], (⟨38, 1, .slice sv k cv, k, xs⟩ : OR), rV (.slice sn L.length cn) L] (rVs xs (T.cells.take k)))⟩) (by simp [Value.oneCell']) (by dsimp only; unfold maxLen; omega) (by dsimp only; omega) (k + 1) rfl (fun v => (⟨38, 1, v, k + 1, xs ++ [.slice sn L.length cn]⟩ : OR)) (fun _ => rfl) ?_
   intro sv2 cv2 g9 hR'
   have hR : Hid (Rs X X.heap.size g9 ([rI (.slice sa T.cols.length ca) T.cols, rE (.slice sb T.rows.length cb) T.rows, rB kz 119 [.slice sa T.cols.length ca, .slice sb T.rows.length cb, .slice sv k cv], (⟨38, 1, (.slice sv2 (k + 1) cv2), k + 1, xs ++ [.slice sn L.length cn]⟩ : OR), rV (.slice sn L.length cn) L, rB kb 38 [.slice sn L.length cn]] ++ (rVs xs (T.cells.take k)))) := hR'
   clear hR'; refine hK.out _ _ ?_ (fun hHeld => ?_)
   ·
    exact hR.out.blk K1.out b1
   clear hK K; try simp only [zs]
   refine wpr 6 26 ?_; simp only [zs]; refine wpy 7 fun K hK => ?_
   have hbx := hR.out.box [rI (.slice sa T.cols.length ca) T.cols, rE (.slice sb T.rows.length cb) T.rows] ([(⟨38, 1, (.slice sv2 (k + 1) cv2), k + 1, xs ++ [.slice sn L.length cn]⟩ : OR), rV (.slice sn L.length cn) L, rB kb 38 [.slice sn L.length cn]] ++ (rVs xs (T.cells.take k)))
   have x0 := hbx.cell 2
   have x1 := hbx.frozen 2
   clear hbx; go_simp; clear x0 x1; have hR : Hid (Rs X X.heap.size _ ([rI (.slice sa T.cols.length ca) T.cols, rE (.slice sb T.rows.length cb) T.rows, rB kz 119 [.slice sa T.cols.length ca, .slice sb T.rows.length cb, .slice sv2 (k + 1) cv2], (⟨38, 1, (.slice sv2 (k + 1) cv2), k + 1, xs ++ [.slice sn L.length cn]⟩ : OR), rV (.slice sn L.length cn) L, rB kb 38 [.slice sn L.length cn]] ++ (rVs xs (T.cells.take k)))) := Hid.mk' (hR.out.setB [rI (.slice sa T.cols.length ca) T.cols, rE (.slice sb T.rows.length cb) T.rows] ([(⟨38, 1, (.slice sv2 (k + 1) cv2), k + 1, xs ++ [.slice sn L.length cn]⟩ : OR), rV (.slice sn L.length cn) L, rB kb 38 [.slice sn L.length cn]] ++ (rVs xs (T.cells.take k))) 2 (.slice sv2 (k + 1) cv2))
   refine hK.out _ _ ?_ (fun hHeld => ?_)
   ·
    exact hR.out.blk K1.out b1
   clear hK K; try simp only [zs]
   refine wpAnyH_done (by kernel_rfl) ?_ _
   clear hHeld; have hR := Hid.mk' (Rs.round (P := [rI (.slice sa T.cols.length ca) T.cols, rE (.slice sb T.rows.length cb) T.rows, rB kz 119 [.slice sa T.cols.length ca, .slice sb T.rows.length cb, .slice sv2 (k + 1) cv2], (⟨38, 1, .slice sv2 (k + 1) cv2, k + 1, xs ++ [.slice sn L.length cn]⟩ : OR)]) hxs.out HL.out hR.out)
   go_wp2_with fail; go_roundw
   case rel => exact ⟨k + 1, sv2, cv2, xs ++ [.slice sn L.length cn], by omega, by go_num, by show _ = _; rw [List.length_append, hxs.out]; rfl, hR⟩
   case measure => simp [intOf]; omega
  refine AllReadyH.cons rfl (fun K hK => ?_) AllReadyH.nil
  refine step_bs1 [rI (.slice sa T.cols.length ca) T.cols, rE (.slice sb T.rows.length cb) T.rows, rB kz 119 [.slice sa T.cols.length ca, .slice sb T.rows.length cb, .slice sv k cv], (⟨38, 1, .slice sv k cv, k, xs⟩ : OR), rV (.slice sn L.length cn) L] (rVs xs (T.cells.take k)) hR.out rfl (d0 := (some 24)) rfl 117 38 Tryz.underlying117 hiS hzS hsS (.tmp 23) rfl sn L.length cn rfl ?_
  intro kb g11 hR'
  have hR : Hid (Rs X X.heap.size g11 ([rI (.slice sa T.cols.length ca) T.cols, rE (.slice sb T.rows.length cb) T.rows, rB kz 119 [.slice sa T.cols.length ca, .slice sb T.rows.length cb, .slice sv k cv], (⟨38, 1, .slice sv k cv, k, xs⟩ : OR), rV (.slice sn L.length cn) L, rB kb 38 [.slice sn L.length cn]] ++ (rVs xs (T.cells.take k)))) := hR'
  clear hR'; refine hK.out _ _ ?_ (fun hHeld => ?_)
  ·
   exact hR.out.blk K1.out b1
  clear hK K; try simp only [zs]
  refine wpy 1 fun K hK => ?_
  have hbx := hR.out.box [rI (.slice sa T.cols.length ca) T.cols, rE (.slice sb T.rows.length cb) T.rows] ([(⟨38, 1, .slice sv k cv, k, xs⟩ : OR), rV (.slice sn L.length cn) L, rB kb 38 [.slice sn L.length cn]] ++ (rVs xs (T.cells.take k)))
  have x0 := hbx.cell 2
  have x1 := hbx.frozen 2
  clear hbx; go_simp; clear x0 x1; refine hK.out _ _ ?_ (fun hHeld => ?_)
  ·
   exact hR.out.blk K1.out b1
  clear hK K; try simp only [zs]
  refine wpy 5 fun K hK => ?_
  refine step_app [rI (.slice sa T.cols.length ca) T.cols, rE (.slice sb T.rows.length cb) T.rows, rB kz 119 [.slice sa T.cols.length ca, .slice sb T.rows.length cb, .slice sv k cv]] ([rV (.slice sn L.length cn) L, rB kb 38 [.slice sn L.length cn]] ++ (rVs xs (T.cells.take k))) hR.out rfl (d0 := (some 25)) rfl (.tmp 21) (.tmp 24) 117 24 rfl Tryz.underlying117 hiS hzS hsS hbS rfl (Nat.succ_pos _) rfl (some ⟨kb, 0, none⟩) 1 1 [.slice sn L.length cn] rfl rfl (Or.inr ⟨_, rfl, news1 (hR.out.box [rI (.slice sa T.cols.length ca) T.cols, rE (.slice sb T.rows.length cb) T.rows, rB kz 119 [.slice sa T.cols.length ca, .slice sb T.rows.length cb, .slice sv k cv], (⟨38, 1, .slice sv k cv, k, xs⟩ : OR), rV (.slice sn L.length cn) L] (rVs xs (T.cells.take k)))⟩) (by simp [Value.oneCell']) (by dsimp only; unfold maxLen; omega) (by dsimp only; omega) (k + 1) rfl (fun v => (⟨38, 1, v, k + 1, xs ++ [.slice sn L.length cn]⟩ : OR)) (fun _ => rfl) ?_
  intro sv2 cv2 g13 hR'
  have hR : Hid (Rs X X.heap.size g13 ([rI (.slice sa T.cols.length ca) T.cols, rE (.slice sb T.rows.length cb) T.rows, rB kz 119 [.slice sa T.cols.length ca, .slice sb T.rows.length cb, .slice sv k cv], (⟨38, 1, (.slice sv2 (k + 1) cv2), k + 1, xs ++ [.slice sn L.length cn]⟩ : OR), rV (.slice sn L.length cn) L, rB kb 38 [.slice sn L.length cn]] ++ (rVs xs (T.cells.take k)))) := hR'
  clear hR'; refine hK.out _ _ ?_ (fun hHeld => ?_)
  ·
   exact hR.out.blk K1.out b1
  clear hK K; try simp only [zs]
  refine wpr 6 26 ?_; simp only [zs]; refine wpy 7 fun K hK => ?_
  have hbx := hR.out.box [rI (.slice sa T.cols.length ca) T.cols, rE (.slice sb T.rows.length cb) T.rows] ([(⟨38, 1, (.slice sv2 (k + 1) cv2), k + 1, xs ++ [.slice sn L.length cn]⟩ : OR), rV (.slice sn L.length cn) L, rB kb 38 [.slice sn L.length cn]] ++ (rVs xs (T.cells.take k)))
  have x0 := hbx.cell 2
  have x1 := hbx.frozen 2
  clear hbx; go_simp; clear x0 x1; have hR : Hid (Rs X X.heap.size _ ([rI (.slice sa T.cols.length ca) T.cols, rE (.slice sb T.rows.length cb) T.rows, rB kz 119 [.slice sa T.cols.length ca, .slice sb T.rows.length cb, .slice sv2 (k + 1) cv2], (⟨38, 1, (.slice sv2 (k + 1) cv2), k + 1, xs ++ [.slice sn L.length cn]⟩ : OR), rV (.slice sn L.length cn) L, rB kb 38 [.slice sn L.length cn]] ++ (rVs xs (T.cells.take k)))) := Hid.mk' (hR.out.setB [rI (.slice sa T.cols.length ca) T.cols, rE (.slice sb T.rows.length cb) T.rows] ([(⟨38, 1, (.slice sv2 (k + 1) cv2), k + 1, xs ++ [.slice sn L.length cn]⟩ : OR), rV (.slice sn L.length cn) L, rB kb 38 [.slice sn L.length cn]] ++ (rVs xs (T.cells.take k))) 2 (.slice sv2 (k + 1) cv2))
  refine hK.out _ _ ?_ (fun hHeld => ?_)
  ·
   exact hR.out.blk K1.out b1
  clear hK K; try simp only [zs]
  refine wpAnyH_done (by kernel_rfl) ?_ _
  clear hHeld; have hR := Hid.mk' (Rs.round (P := [rI (.slice sa T.cols.length ca) T.cols, rE (.slice sb T.rows.length cb) T.rows, rB kz 119 [.slice sa T.cols.length ca, .slice sb T.rows.length cb, .slice sv2 (k + 1) cv2], (⟨38, 1, .slice sv2 (k + 1) cv2, k + 1, xs ++ [.slice sn L.length cn]⟩ : OR)]) hxs.out HL.out hR.out)
  go_wp2_with fail; go_roundw
  case rel => exact ⟨k + 1, sv2, cv2, xs ++ [.slice sn L.length cn], by omega, by go_num, by show _ = _; rw [List.length_append, hxs.out]; rfl, hR⟩
  case measure => simp [intOf]; omega
 have hk' : k = T.cells.length := by omega
 subst hk'
 have KZ := hR.out.box [rI (.slice sa T.cols.length ca) T.cols, rE (.slice sb T.rows.length cb) T.rows] ([(⟨38, 1, .slice sv T.cells.length cv, T.cells.length, xs⟩ : OR)] ++ rVs xs (T.cells.take T.cells.length))
 obtain ⟨z0, z1, z2, z3⟩ := KZ.three'
 obtain ⟨y0, y1, y2, y3⟩ := (hR.out.blk K1.out b1).three'
 have lw : Below w.heap.size w wr := bl_trans' L0.out hR.out
 have okc : ∀ L ∈ T.cells, okVs L := els_okc H3.out
 go_wp2_with fail; refine bodyPost_ret (v := .agg #[.slice sa T.cols.length ca, .slice sb T.rows.length cb, .slice sv T.cells.length cv]) (by simp [results, Tryz.results105, go_sem, y0, y1, y2]) rfl ⟨⟨⟨.slice sa T.cols.length ca, .slice sb T.rows.length cb, .slice sv T.cells.length cv, xs⟩, rfl, ?_, hxs.out, okc⟩, ?_⟩
 ·
  have h := (Rs.less [rI (.slice sa T.cols.length ca) T.cols, rE (.slice sb T.rows.length cb) T.rows] ([(⟨38, 1, .slice sv T.cells.length cv, T.cells.length, xs⟩ : OR)] ++ rVs xs (T.cells.take T.cells.length)) hR.out).o
  have h := ((h.putC (p := ⟨w.heap.size + 1, 0, none⟩) b1 (.slice sa T.cols.length ca)).putC (p := ⟨w.heap.size + 1, 1, none⟩) b1 (.slice sb T.rows.length cb)).putC (p := ⟨w.heap.size + 1, 2, none⟩) b1 (.slice sv T.cells.length cv)
  have h := h.mono (B' := w.heap.size) (by omega)
  rw [List.take_length] at h
  unfold rTab rS
  rw [hxs.out]
  exact h
 exact ((lw.setCell (by simp <;> omega) _).setCell (by simp <;> omega) _).setCell (by simp <;> omega) _
end Go.Proofs.YtbgeobpdojmdaaaGreat
