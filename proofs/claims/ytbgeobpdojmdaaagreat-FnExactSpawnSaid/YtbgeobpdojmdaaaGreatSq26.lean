import Derived.Test.YtbgeobpdojmdaaaGreatSq25
import Derived.Test.YtbgeobpdojmdaaaGreatSq18
namespace Go.Proofs.YtbgeobpdojmdaaaGreat
set_option linter.unusedVariables false
set_option linter.unusedSimpArgs false
section
open Go.RowKit
set_option maxRecDepth 100000
theorem rTabs_set {ts : List TV} {Ts : List Tab} {m : Nat} {t : TV} {T T' : Tab} (h1 : ts[m]? = some t) (h2 : Ts[m]? = some T) : rTabs ts (Ts.set m T') = rTabs (ts.take m) (Ts.take m) ++ (rTab t T' ++ rTabs (ts.drop (m + 1)) (Ts.drop (m + 1))) := by
 have l2 := (List.getElem?_eq_some_iff.1 h2).1
 have := rTabs_split (Ts := Ts.set m T') (j := m) (T := T') h1 (by rw [List.getElem?_set_self l2])
 rw [this, List.take_set_of_le (Nat.le_refl _), List.drop_set_of_lt (by omega)]
theorem rT_cells {w : World} {B : Nat} {g n cv : Nat} {ts : List TV} (h : w.ownsRow B 119 3 (.slice (some ⟨g, 0, none⟩) n cv) n (ts.flatMap tc)) {m : Nat} {t : TV} (hm : m < n) (ht : ts[m]? = some t) : w.cell? ⟨g, m * 3, none⟩ = some t.c ∧ w.cell? ⟨g, m * 3 + 1, none⟩ = some t.r ∧ w.cell? ⟨g, m * 3 + 2, none⟩ = some t.x := by
 have e : ∀ i u, (tc t)[i]? = some u → w.cell? ⟨g, m * 3 + i, none⟩ = some u := by
  intro i u hu
  have hi : i < 3 := (List.getElem?_eq_some_iff.1 hu).1
  rw [World.ownsRow.cellAt h (m * 3 + i) (by omega), flat_get (k := 3) (f := tc) (fun _ => rfl) ts m t ht i hi, hu]
 exact ⟨e 0 _ rfl, e 1 _ rfl, e 2 _ rfl⟩
theorem own_some {w : World} {B n c : Nat} {T : TypeId} {K : Nat} {s : Option Addr} {xs : List Value} (h : w.ownsRow B T K (.slice s n c) n xs) (hn : 0 < n) : ∃ g, s = some ⟨g, 0, none⟩ := by
 rcases Go.Joins.ownsRow_forms h with ⟨_, h0⟩ | ⟨g, cap, e⟩
 ·
  omega
 simp only [Value.slice.injEq] at e; exact ⟨g, e.1⟩
set_option maxHeartbeats 8000000 in
theorem markTs_o (X : World) (B : Nat) (P S : List OR) (sv : Option Addr) (cv : Nat) (ts : List TV) (Ts : List Tab) (k : Int) (w : World) (hx : ts.length = Ts.length) (hle : ∀ (j : Nat) t T, ts[j]? = some t → Ts[j]? = some T → t.xs.length = T.cells.length) (hR : Rs X B w ((P ++ [(⟨119, 3, .slice sv Ts.length cv, Ts.length, ts.flatMap tc⟩ : OR)]) ++ (rTabs ts Ts ++ S))) (hk : kTabs Ts) (k0 : 0 ≤ k) (k1 : k + cTs Ts ≤ 9000000000000000000) :
  Calls Tryz.prog 43 #[.slice sv Ts.length cv, .int .i64 k] w fun e w' => e = .returned (.int .i64 (k + cTs Ts)) ∧ Rs X B w' ((P ++ [(⟨119, 3, .slice sv Ts.length cv, Ts.length, ts.flatMap tc⟩ : OR)]) ++ (rTabs ts (wTs k Ts) ++ S)) := by
 obtain ⟨hl, hls⟩ := hk
 have HLS := Hid.mk' hls
 have HX := Hid.mk' hx
 have HLE := Hid.mk' hle
 have K1 := Hid.mk' k1
 clear hls hx k1 hle; go_enter Tryz.func43, Tryz.ntmps43
 go_wp2_with fail; go_loopw [1, 5] (fun x i wr => ∃ (m : Nat) (q : Int), m ≤ Ts.length ∧ i = .int .i64 m ∧ x = .int .i64 q ∧ Hid (q = k + cTs (Ts.take m)) ∧ Hid (Rs X B wr ((P ++ [(⟨119, 3, .slice sv Ts.length cv, Ts.length, ts.flatMap tc⟩ : OR)]) ++ (rTabs ts ((wTs k Ts).take m ++ Ts.drop m) ++ S)))) (fun _ i _ => Ts.length - (intOf i).toNat)
 case atStart => exact ⟨0, k, Nat.zero_le _, rfl, rfl, by show _ = _; simp [cTs], by show Rs _ _ _ _; simpa using hR⟩
 clear hR; obtain ⟨m, q, hm, rfl, rfl, hq, hR⟩ := hrel
 by_cases hlt : m < Ts.length
 ·
  obtain ⟨T, hT⟩ := get_some hlt
  obtain ⟨t, ht⟩ := get_some (L := ts) (k := m) (by have := HX.out; omega)
  have hM : ((wTs k Ts).take m ++ Ts.drop m)[m]? = some T := by rw [take_drop_get (wTs_len _ _) hlt]; exact hT
  have hlx := HLE.out m t T ht hT
  have hkT := HLS.out T (List.mem_of_getElem? hT)
  have hnn := cT_nn T
  have hq1 : Hid (q + cT T ≤ 9000000000000000000) := by
   show _ ≤ _
   have e := cTs_take Ts m T hT
   have := cTs_takeLe Ts (m + 1)
   have := hq.out
   have := K1.out
   omega
  have q0 : 0 ≤ q := by rw [hq.out]; have := cTs_nn (Ts.take m); omega
  have HB := Hid.mk' (cC_nn T.cells)
  obtain ⟨Q, hQ⟩ : ∃ Q, Q = (P ++ [(⟨119, 3, .slice sv Ts.length cv, Ts.length, ts.flatMap tc⟩ : OR)]) ++ rTabs (ts.take m) (((wTs k Ts).take m ++ Ts.drop m).take m) := ⟨_, rfl⟩
  obtain ⟨D, hD⟩ : ∃ D, D = rTabs (ts.drop (m + 1)) (((wTs k Ts).take m ++ Ts.drop m).drop (m + 1)) ++ S := ⟨_, rfl⟩
  have h1 : Rs X B wr (Q ++ rI t.c T.cols :: (rE t.r T.rows :: rS t.x t.xs :: (rVs t.xs T.cells ++ D))) := by
   have h := hR.out
   rw [rTabs_split ht hM] at h
   rw [hQ, hD]
   simpa [rTab] using h
  have hQD : Hid (Q = (P ++ [(⟨119, 3, .slice sv Ts.length cv, Ts.length, ts.flatMap tc⟩ : OR)]) ++ rTabs (ts.take m) (((wTs k Ts).take m ++ Ts.drop m).take m) ∧ D = rTabs (ts.drop (m + 1)) (((wTs k Ts).take m ++ Ts.drop m).drop (m + 1)) ++ S) := ⟨hQ, hD⟩
  have hmem : (⟨119, 3, .slice sv Ts.length cv, Ts.length, ts.flatMap tc⟩ : OR) ∈ Q := by rw [hQ]; simp
  have HT := Hid.mk' hT
  have HTv := Hid.mk' ht
  have HM := Hid.mk' hM
  obtain ⟨s1, c1, e1⟩ := (h1.o.on (rI t.c T.cols) (by simp)).shape
  obtain ⟨s2, c2, e2⟩ := (h1.o.on (rE t.r T.rows) (by simp)).shape
  obtain ⟨s3, c3, e3⟩ := (h1.o.on (rS t.x t.xs) (by simp)).shape
  obtain ⟨tcv, trv, txv, txs⟩ := t
  dsimp only [rI, rE, rS] at e1 e2 e3 hlx
  rw [hlx] at e3
  subst e1 e2 e3
  have hrow : World.ownsRow wr B 119 3 (.slice sv Ts.length cv) Ts.length (ts.flatMap tc) := h1.o.on (⟨119, 3, .slice sv Ts.length cv, Ts.length, ts.flatMap tc⟩ : OR) (by simp [hmem])
  obtain ⟨g, rfl⟩ := own_some hrow (by omega)
  obtain ⟨x0, x1, x2⟩ := rT_cells hrow hlt ht
  dsimp only at x0 x1 x2
  have HX1 := Hid.mk' h1
  have hcI : (0 : Int) ≤ (m : Int) := by omega
  have hcJ : (m : Int) < (Ts.length : Int) := by omega
  have ktc := hkT.1
  have ktr := hkT.2.1
  have HK2 := Hid.mk' hkT.2.2
  have HLX := Hid.mk' hlx
  have q1 : q ≤ 9000000000000000000 := by have := hq1.out; omega
  clear hT ht hM hrow h1 hQ hD hkT hlx hR; go_wp2_with fail; refine (markI_o s1 c1 T.cols B q _ (HX1.out.at _ _) ktc q0 q1).mono ?_
  rintro e w2 ⟨rfl, hr2, hg2⟩
  have HX2 := Hid.mk' (Rs.turn Q _ HX1.out hg2 hr2 (fun g h => Or.inl h))
  clear hr2 hg2 HX1 x0 x1 x2; have hrow : World.ownsRow w2 B 119 3 (.slice (some ⟨g, 0, none⟩) Ts.length cv) Ts.length (ts.flatMap tc) := HX2.out.o.on (⟨119, 3, .slice (some ⟨g, 0, none⟩) Ts.length cv, Ts.length, ts.flatMap tc⟩ : OR) (by simp [hmem])
  obtain ⟨x0, x1, x2⟩ := rT_cells hrow hlt HTv.out
  dsimp only at x0 x1 x2
  clear hrow; have q2 : 0 ≤ q + (T.cols.length : Int) := by omega
  have q3 : q + (T.cols.length : Int) ≤ 9000000000000000000 := by have hh := hq1.out; have := HB.out; unfold cT at hh; omega
  go_wp2_with fail; refine (markE_o s2 c2 T.rows B (q + (T.cols.length : Int)) _ (HX2.out.o.on _ (by simp)) ktr q2 q3).mono ?_
  rintro e w3 ⟨rfl, hr3, hg3⟩
  have HX3 : Hid (Rs X B w3 ((Q ++ [rI (.slice s1 T.cols.length c1) (wI q T.cols.length)]) ++ rE (.slice s2 T.rows.length c2) (wE (q + (T.cols.length : Int)) T.rows.length) :: (rS (.slice s3 T.cells.length c3) txs :: (rVs txs T.cells ++ D)))) := by
   have h := HX2.out
   rw [List.append_cons] at h
   exact Rs.turn _ _ h hg3 hr3 (fun g h => Or.inl h)
  clear hr3 hg3 HX2 x0 x1 x2; have hrow : World.ownsRow w3 B 119 3 (.slice (some ⟨g, 0, none⟩) Ts.length cv) Ts.length (ts.flatMap tc) := HX3.out.o.on (⟨119, 3, .slice (some ⟨g, 0, none⟩) Ts.length cv, Ts.length, ts.flatMap tc⟩ : OR) (by simp [hmem])
  obtain ⟨x0, x1, x2⟩ := rT_cells hrow hlt HTv.out
  dsimp only at x0 x1 x2
  clear hrow; have q4 : 0 ≤ q + (T.cols.length : Int) + 2 * (T.rows.length : Int) := by omega
  have q5 : q + (T.cols.length : Int) + 2 * (T.rows.length : Int) + cC T.cells ≤ 9000000000000000000 := by have := hq1.out; unfold cT at this; omega
  have HX3' : Hid (Rs X B w3 (((Q ++ [rI (.slice s1 T.cols.length c1) (wI q T.cols.length), rE (.slice s2 T.rows.length c2) (wE (q + (T.cols.length : Int)) T.rows.length)]) ++ [(⟨38, 1, .slice s3 T.cells.length c3, T.cells.length, txs⟩ : OR)]) ++ (rVs txs T.cells ++ D))) := by
   have h := HX3.out
   unfold rS at h
   rw [HLX.out] at h
   show Rs _ _ _ _
   simpa using h
  clear HX3; go_wp2_with fail; refine (markVV_o X B _ _ s3 c3 txs T.cells _ _ HLX.out HX3'.out HK2.out q4 q5).mono ?_
  rintro e w4 ⟨rfl, hR4⟩
  clear HX3' x0 x1 x2; have hR : Hid (Rs X B w4 ((P ++ [(⟨119, 3, .slice (some ⟨g, 0, none⟩) Ts.length cv, Ts.length, ts.flatMap tc⟩ : OR)]) ++ (rTabs ts ((wTs k Ts).take (m + 1) ++ Ts.drop (m + 1)) ++ S))) := by
   show Rs _ _ _ _
   rw [← take_drop_set (wTs_len _ _) (wTs_get k Ts m T HT.out), rTabs_set HTv.out HM.out, ← hq.out]
   rw [hQD.out.1, hQD.out.2] at hR4
   unfold rTab rS wT
   dsimp only
   rw [HLX.out]
   simpa using hR4
  have hq' : Hid (q + (T.cols.length : Int) + 2 * (T.rows.length : Int) + cC T.cells = k + cTs (Ts.take (m + 1))) := by show _ = _; rw [cTs_take Ts m T HT.out, hq.out]; unfold cT; omega
  clear hR4; go_wp2_with fail; go_roundw
  case rel => exact ⟨m + 1, _, by omega, by go_num, rfl, hq', hR⟩
  case measure => simp [intOf]; omega
 have hm' : m = Ts.length := by omega
 subst hm'
 have h := hR.out
 rw [List.drop_length, List.append_nil, List.take_of_length_le (by rw [wTs_len]; exact Nat.le_refl _)] at h
 have e := hq.out
 rw [List.take_length] at e
 subst e
 go_wp2_with fail; go_ret; exact ⟨rfl, h⟩
set_option maxHeartbeats 4000000 in
theorem markEnts_o (X : World) (B : Nat) (P S : List OR) (s1 : Option Addr) (c1 : Nat) (s2 : Option Addr) (c2 : Nat) (G F : List Int) (k : Int) (w : World) (hR : Rs X B w (P ++ rI (.slice s1 G.length c1) G :: (rI (.slice s2 F.length c2) F :: S))) (l1 : G.length ≤ 1048576) (l2 : F.length ≤ 1048576) (k0 : 0 ≤ k) (k1 : k ≤ 8000000000000000000) :
  Calls Tryz.prog 42 #[.agg #[.slice s1 G.length c1, .slice s2 F.length c2], .int .i64 k] w fun e w' => e = .returned (.int .i64 (k + (G.length : Int) + (F.length : Int))) ∧ Rs X B w' (P ++ rI (.slice s1 G.length c1) (wI k G.length) :: (rI (.slice s2 F.length c2) (wI (k + (G.length : Int)) F.length) :: S)) := by
 have k2 : k + (G.length : Int) ≤ 9000000000000000000 := by omega
 have k3 : 0 ≤ k + (G.length : Int) := by omega
 have h1 : Hid (Rs X B (w.alloc (.cells #[.slice s1 G.length c1, .slice s2 F.length c2] 36)) (P ++ rI (.slice s1 G.length c1) G :: (rI (.slice s2 F.length c2) F :: (rB w.heap.size 36 [.slice s1 G.length c1, .slice s2 F.length c2] :: S)))) := by
  have := Rs.ins (P ++ [rI (.slice s1 G.length c1) G, rI (.slice s2 F.length c2) F]) S (r := rB w.heap.size 36 [.slice s1 G.length c1, .slice s2 F.length c2]) (by simpa using hR) (bl_alloc (Below.refl _ w) (.cells #[.slice s1 G.length c1, .slice s2 F.length c2] 36)) (blk_rB (Blk.new w _ _) (Nat.le_refl _))
  show Rs _ _ _ _
  simpa using this
 clear hR; go_enter Tryz.func42, Tryz.ntmps42
 go_wp2_with fail; generalize hY : w.alloc (.cells #[.slice s1 G.length c1, .slice s2 F.length c2] 36) = Y at h1 ⊢
 generalize hkt : w.heap.size = kt at h1 ⊢
 clear hY hkt; have KB : Blk Y kt #[.slice s1 G.length c1, .slice s2 F.length c2] 36 := by
  have := h1.out.o.on (rB kt 36 [.slice s1 G.length c1, .slice s2 F.length c2]) (by simp)
  exact rB_blk this
 refine (markI_o s1 c1 G B k _ (h1.out.at _ _) l1 k0 (by omega)).mono ?_
 rintro e w2 ⟨rfl, hr2, hg2⟩
 have h2 := Hid.mk' (Rs.turn P _ h1.out hg2 hr2 (fun g h => Or.inl h))
 clear hr2 hg2 h1 KB; have KB : Blk w2 kt #[.slice s1 G.length c1, .slice s2 F.length c2] 36 := by
  have := h2.out.o.on (rB kt 36 [.slice s1 G.length c1, .slice s2 F.length c2]) (by simp)
  exact rB_blk this
 obtain ⟨x0, x1, x2⟩ := KB.two
 go_wp2_with fail; refine (markI_o s2 c2 F B (k + (G.length : Int)) _ (h2.out.o.on _ (by simp)) l2 k3 k2).mono ?_
 rintro e w3 ⟨rfl, hr3, hg3⟩
 have h3 : Hid (Rs X B w3 (P ++ rI (.slice s1 G.length c1) (wI k G.length) :: (rI (.slice s2 F.length c2) (wI (k + (G.length : Int)) F.length) :: S))) := by
  have h := h2.out
  rw [List.append_cons] at h
  have h := Rs.turn _ _ h hg3 hr3 (fun g h => Or.inl h)
  rw [List.append_cons] at h
  have h := Rs.less _ _ h
  show Rs _ _ _ _
  simpa using h
 clear hr3 hg3 h2 x0 x1 x2 KB; go_wp2_with fail; go_ret; exact ⟨rfl, h3.out⟩
def cW (W : Wd) : Int := (W.gens.length : Int) + (W.free.length : Int) + cTs W.tabs + 4 * (W.res.length : Int)
def wW (k : Int) (W : Wd) : Wd := ⟨wI k W.gens.length, wI (k + (W.gens.length : Int)) W.free.length, wTs (k + (W.gens.length : Int) + (W.free.length : Int)) W.tabs, wV (k + (W.gens.length : Int) + (W.free.length : Int) + cTs W.tabs) W.res.length⟩
theorem okc_wC : ∀ (k : Int) (C : List (List V4)), 0 ≤ k → k + cC C ≤ 9000000000000000000 → ∀ L ∈ wC k C, okVs L
 | _, [], _, _, L, h => by simp [wC] at h
 | k, L' :: C, h0, h1, L, h => by
  simp only [wC, List.mem_cons] at h
  simp only [cC] at h1
  have := cC_nn C
  rcases h with rfl | h
  ·
   exact okVs_wV h0 (by omega)
  exact okc_wC _ C (by omega) (by omega) L h
theorem okc_wTs : ∀ (k : Int) (C : List Tab), 0 ≤ k → k + cTs C ≤ 9000000000000000000 → ∀ T ∈ wTs k C, ∀ L ∈ T.cells, okVs L
 | _, [], _, _, L, h => by simp [wTs] at h
 | k, T' :: C, h0, h1, T, h => by
  simp only [wTs, List.mem_cons] at h
  simp only [cTs] at h1
  have := cTs_nn C
  have := cC_nn T'.cells
  rcases h with rfl | h
  ·
   exact okc_wC _ T'.cells (by omega) (by unfold cT at h1; omega)
  exact okc_wTs _ C (by have := cT_nn T'; omega) (by omega) T h
theorem cW_le {W : Wd} (h : kW W) : cW W ≤ 4700000000000000000 := by
 obtain ⟨h1, h2, ⟨h3, h4⟩, h5⟩ := h
 have := cTs_le h4
 unfold cW; omega
end
section
open Go.RowKit
set_option maxRecDepth 100000
set_option maxHeartbeats 4000000 in
theorem heldVV_o (s : Option Addr) (c : Nat) (C : List (List V4)) (B : Nat) (k : Int) (w : World) (h : Els 1 cVals w B s (wC k C)) (hk : kLL C) (k0 : 0 ≤ k) (k1 : k + cC C ≤ 9000000000000000000) :
  Calls Tryz.prog 88 #[.slice s C.length c, .int .i64 k] w fun e w' => e = .returned (.int .i64 (k + cC C)) ∧ w' = w := by
 obtain ⟨hl, hls⟩ := hk
 have HLS := Hid.mk' hls
 have K1 := Hid.mk' k1
 have H := Hid.mk' h
 clear hls k1 h; go_enter Tryz.func88, Tryz.ntmps88
 go_wp2_with fail; go_loopw [1, 5] (fun x i wr => ∃ (m : Nat) (q : Int), m ≤ C.length ∧ i = .int .i64 m ∧ x = .int .i64 q ∧ Hid (q = k + cC (C.take m)) ∧ wr = w) (fun _ i _ => C.length - (intOf i).toNat)
 case atStart => exact ⟨0, k, Nat.zero_le _, rfl, rfl, by show _ = _; simp [cC], rfl⟩
 obtain ⟨m, q, hm, rfl, rfl, hq, rfl⟩ := hrel
 by_cases hlt : m < C.length
 ·
  obtain ⟨L, hL⟩ := get_some hlt
  obtain ⟨b, o, rfl, _, hp, s', c', e1, EL⟩ := eVals_cells H.out (wC_get k C m L hL)
  rw [wV_len] at e1
  have hLl := HLS.out L (List.mem_of_getElem? hL)
  have q0 : 0 ≤ q := by rw [hq.out]; have := cC_nn (C.take m); omega
  have q1 : q ≤ 9000000000000000000 := by rw [hq.out]; have := cC_takeLe C m; have := K1.out; omega
  have q2 : ¬ (q + 4 * (L.length : Int) < 0) := by omega
  have HL := Hid.mk' hL
  rw [← hq.out] at EL
  clear hL; go_wp2_with fail; refine (heldV_o s' c' L.length B q _ EL hLl q0 q1).mono ?_
  rintro e w2 ⟨rfl, rfl⟩
  have hq' : Hid (q + 4 * (L.length : Int) = k + cC (C.take (m + 1))) := by show _ = _; rw [hq.out, cC_take C m L HL.out]; omega
  clear EL; go_wp2_with fail; go_roundw
  case rel => exact ⟨m + 1, _, by omega, by go_num, rfl, hq', trivial⟩
  case measure => simp [intOf]; omega
 have hm' : m = C.length := by omega
 subst hm'
 have e := hq.out
 rw [List.take_length] at e
 subst e
 go_wp2_with fail; go_ret; exact ⟨rfl, rfl⟩
set_option maxHeartbeats 4000000 in
theorem heldTs_o (s : Option Addr) (c : Nat) (C : List Tab) (B : Nat) (k : Int) (w : World) (h : Els 3 cTab w B s (wTs k C)) (hk : kTabs C) (k0 : 0 ≤ k) (k1 : k + cTs C ≤ 9000000000000000000) :
  Calls Tryz.prog 46 #[.slice s C.length c, .int .i64 k] w fun e w' => e = .returned (.int .i64 (k + cTs C)) ∧ w' = w := by
 obtain ⟨hl, hls⟩ := hk
 have HLS := Hid.mk' hls
 have K1 := Hid.mk' k1
 have H := Hid.mk' h
 clear hls k1 h; go_enter Tryz.func46, Tryz.ntmps46
 go_wp2_with fail; go_loopw [1, 5] (fun x i wr => ∃ (m : Nat) (q : Int), m ≤ C.length ∧ i = .int .i64 m ∧ x = .int .i64 q ∧ Hid (q = k + cTs (C.take m)) ∧ wr = w) (fun _ i _ => C.length - (intOf i).toNat)
 case atStart => exact ⟨0, k, Nat.zero_le _, rfl, rfl, by show _ = _; simp [cTs], rfl⟩
 obtain ⟨m, q, hm, rfl, rfl, hq, rfl⟩ := hrel
 by_cases hlt : m < C.length
 ·
  obtain ⟨T, hT⟩ := get_some hlt
  obtain ⟨b, o, rfl, _, hp, s1, c1, s2, c2, s3, c3, e1, e2, e3, F1, F2, F3⟩ := eTab_cells H.out (wTs_get k C m T hT)
  rw [← hq.out] at e1 e2 e3 F1 F2 F3
  dsimp only [wT] at e1 e2 e3 F1 F2 F3
  rw [wI_len] at e1
  rw [wE_len] at e2
  rw [wC_len] at e3
  obtain ⟨kt1, kt2, kt3⟩ := HLS.out T (List.mem_of_getElem? hT)
  have KT3 := Hid.mk' kt3
  have hcc := cC_nn T.cells
  have q0 : 0 ≤ q := by rw [hq.out]; have := cTs_nn (C.take m); omega
  have q9 : q + ((T.cols.length : Int) + 2 * (T.rows.length : Int) + cC T.cells) ≤ 9000000000000000000 := by
   have h1 := cTs_take C m T hT
   have h2 := cTs_takeLe C (m + 1)
   have h3 := K1.out
   have h4 := hq.out
   unfold cT at h1
   omega
  have F1 := Hid.mk' F1
  have F2 := Hid.mk' F2
  have F3 := Hid.mk' F3
  have n1 : ¬ (q + (T.cols.length : Int) < 0) := by omega
  have n2 : ¬ (q + (T.cols.length : Int) + 2 * (T.rows.length : Int) < 0) := by omega
  have n3 : ¬ (q + (T.cols.length : Int) + 2 * (T.rows.length : Int) + cC T.cells < 0) := by omega
  have hq' : Hid (q + (T.cols.length : Int) + 2 * (T.rows.length : Int) + cC T.cells = k + cTs (C.take (m + 1))) := by show _ = _; rw [hq.out, cTs_take C m T hT]; unfold cT; omega
  clear hT kt3; go_wp2_with fail; refine (heldI_o s1 c1 T.cols.length B q _ F1.out kt1 q0 (by omega)).mono ?_
  rintro e w2 ⟨rfl, rfl⟩
  go_wp2_with fail; refine (heldE_o s2 c2 T.rows.length B (q + (T.cols.length : Int)) _ F2.out kt2 (by omega) (by omega)).mono ?_
  rintro e w2 ⟨rfl, rfl⟩
  go_wp2_with fail; refine (heldVV_o s3 c3 T.cells B (q + (T.cols.length : Int) + 2 * (T.rows.length : Int)) _ F3.out KT3.out (by omega) (by omega)).mono ?_
  rintro e w2 ⟨rfl, rfl⟩
  go_wp2_with fail; go_roundw
  case rel => exact ⟨m + 1, _, by omega, by go_num, rfl, hq', trivial⟩
  case measure => simp [intOf]; omega
 have hm' : m = C.length := by omega
 subst hm'
 have e := hq.out
 rw [List.take_length] at e
 subst e
 go_wp2_with fail; go_ret; exact ⟨rfl, rfl⟩
set_option maxHeartbeats 4000000 in
theorem heldEnts_o (s1 : Option Addr) (c1 : Nat) (s2 : Option Addr) (c2 n1 n2 : Nat) (B : Nat) (k : Int) (w : World) (h1 : Els 1 cInt w B s1 (wI k n1)) (h2 : Els 1 cInt w B s2 (wI (k + (n1 : Int)) n2)) (l1 : n1 ≤ 1048576) (l2 : n2 ≤ 1048576) (k0 : 0 ≤ k) (k1 : k ≤ 8000000000000000000) :
  Calls Tryz.prog 45 #[.agg #[.slice s1 n1 c1, .slice s2 n2 c2], .int .i64 k] w fun e w' => e = .returned (.int .i64 (k + (n1 : Int) + (n2 : Int))) ∧ Below w.heap.size w w' := by
 have k0' := Blk.new w #[.slice s1 n1 c1, .slice s2 n2 c2] 36
 have L0 : Below w.heap.size w (w.alloc (.cells #[.slice s1 n1 c1, .slice s2 n2 c2] 36)) := bl_alloc (Below.refl _ _) _
 obtain ⟨x0, x1, x2⟩ := k0'.two
 have t1 : ¬ (k + (n1 : Int) < 0) := by omega
 have t2 : ¬ (k + (n1 : Int) + (n2 : Int) < 0) := by omega
 go_enter Tryz.func45, Tryz.ntmps45
 go_wp2_with fail; refine (heldI_o s1 c1 n1 B k _ (h1.later cInt_keeps L0) l1 k0 (by omega)).mono ?_
 rintro e w2 ⟨rfl, rfl⟩
 go_wp2_with fail; refine (heldI_o s2 c2 n2 B (k + (n1 : Int)) _ (h2.later cInt_keeps L0) l2 (by omega) (by omega)).mono ?_
 rintro e w2 ⟨rfl, rfl⟩
 go_wp2_with fail; go_ret; exact ⟨rfl, L0⟩
set_option maxHeartbeats 4000000 in
theorem heldW_o (B : Nat) (V : WV) (W : Wd) (w : World) (h : OW w B V (wW 1 W)) (hk : kW W) :
  Calls Tryz.prog 19 #[.agg #[V.g, V.f, V.t, V.r], .int .i64 1] w fun e w' => e = .returned (.int .i64 (1 + cW W)) ∧ Below w.heap.size w w' := by
 have hcw := cW_le hk
 obtain ⟨m1, m2, m3, m4⟩ := hk
 have M3 := Hid.mk' m3
 have hct := cTs_nn W.tabs
 obtain ⟨a1, c1, a2, c2, a3, c3, a4, c4, e1, e2, e3, e4, hI⟩ := h.inW
 obtain ⟨Vg, Vf, Vt, Vr, ts⟩ := V
 dsimp only [wW] at e1 e2 e3 e4
 rw [wI_len] at e1 e2
 rw [wTs_len] at e3
 rw [wV_len] at e4
 subst e1 e2 e3 e4
 have e9 : Hid (1 + cW W = 1 + (W.gens.length : Int) + (W.free.length : Int) + cTs W.tabs + 4 * (W.res.length : Int)) := by show _ = _; unfold cW; omega
 have hcw' : 1 + (W.gens.length : Int) + (W.free.length : Int) + cTs W.tabs + 4 * (W.res.length : Int) ≤ 4800000000000000000 := by unfold cW at hcw; omega
 have k0 := Blk.new w #[.slice a1 W.gens.length c1, .slice a2 W.free.length c2, .slice a3 W.tabs.length c3, .slice a4 W.res.length c4] 40
 have L0 : Below w.heap.size w (w.alloc (.cells #[.slice a1 W.gens.length c1, .slice a2 W.free.length c2, .slice a3 W.tabs.length c3, .slice a4 W.res.length c4] 40)) := bl_alloc (Below.refl _ _) _
 have HI := Hid.mk' hI
 clear h hI hcw m3; go_enter Tryz.func19, Tryz.ntmps19
 go_wp2_with fail; generalize hY : w.alloc (.cells #[.slice a1 W.gens.length c1, .slice a2 W.free.length c2, .slice a3 W.tabs.length c3, .slice a4 W.res.length c4] 40) = Y at k0 L0 ⊢
 clear hY; refine (heldEnts_o a1 c1 a2 c2 W.gens.length W.free.length B 1 _ (HI.out.g.later cInt_keeps L0) (HI.out.f.later cInt_keeps L0) m1 m2 (by omega) (by omega)).mono ?_
 rintro e w2 ⟨rfl, hb2⟩
 have L2 := bl_trans L0 hb2
 have K2 := k0.later hb2
 obtain ⟨x0, x1, x2, x3, x4⟩ := K2.four'
 have t1 : ¬ (1 + (W.gens.length : Int) + (W.free.length : Int) < 0) := by omega
 have t2 : ¬ (1 + (W.gens.length : Int) + (W.free.length : Int) + cTs W.tabs < 0) := by omega
 have t3 : ¬ (1 + (W.gens.length : Int) + (W.free.length : Int) + cTs W.tabs + 4 * (W.res.length : Int) < 0) := by omega
 clear k0 hb2; go_wp2_with fail; refine (heldTs_o a3 c3 W.tabs B (1 + (W.gens.length : Int) + (W.free.length : Int)) _ (HI.out.t.later cTab_keeps L2) M3.out (by omega) (by omega)).mono ?_
 rintro e w3 ⟨rfl, rfl⟩
 go_wp2_with fail; refine (heldV_o a4 c4 W.res.length B (1 + (W.gens.length : Int) + (W.free.length : Int) + cTs W.tabs) _ (HI.out.r.later cVal_keeps L2) m4 (by omega) (by omega)).mono ?_
 rintro e w4 ⟨rfl, rfl⟩
 go_wp2_with fail; go_ret; refine ⟨?_, L2⟩
 rw [e9.out]
 rfl
end
end Go.Proofs.YtbgeobpdojmdaaaGreat
