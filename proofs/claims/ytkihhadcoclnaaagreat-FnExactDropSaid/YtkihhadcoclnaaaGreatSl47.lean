import Derived.Test.YtkihhadcoclnaaaGreatSl39
namespace Go.Proofs.YtkihhadcoclnaaaGreat
open Go.RowKit Go.Maps Go.WideMaps
set_option linter.unusedVariables false
set_option linter.unusedSimpArgs false
set_option maxRecDepth 100000
theorem OR.on.later {w w' : World} {B : Nat} {r : OR} (h : r.on w B) (hb : Below w.heap.size w w') : r.on w' B := h.same fun g hg => hb.block g (h.lt g hg).2
theorem rC_nil (w : World) : (rC (.slice (some ⟨w.heap.size, 0, none⟩) 0 0) []).on (w.alloc (.cells #[] 103)) w.heap.size :=
 World.ownsRow_lit (base := w.heap.size) (e := 103) (size := 5) w #[] 0 (by simp) (by unfold maxLen; omega) (by simp)
set_option maxHeartbeats 8000000 in
theorem l4Row_any {Bt : Nat} (g1 g2 g3 g4 : Option Addr) (n1 n2 n4 d1 d2 d3 d4 : Nat) (W : Wd) (i j : Nat) (T : Tab) (w : World) (hW : Els 3 cTab w Bt g3 W.tabs) (hT : W.tabs[i]? = some T) (hc : T.cells.length = T.cols.length) (hl : ∀ M ∈ T.cells, M.length = T.rows.length) (hj : j < T.rows.length) (hk : kTab T) (hkw : W.tabs.length ≤ 1048576) (L : List C5) (hL : L = rowC T j) (lL : L.length ≤ 1000) :
  Calls Tryz.prog 78 #[.agg #[.slice g1 n1 d1, .slice g2 n2 d2, .slice g3 W.tabs.length d3, .slice g4 n4 d4], .int .i64 i, .int .i64 j] w fun r w' => ∃ (s : Option Addr) (c : Nat), r = .returned (.slice s L.length c) ∧ (rC (.slice s L.length c) L).on w' w.heap.size ∧ Below w.heap.size w w' := by
 have hal := alloc_old
 have haf := alloc_oldf
 have hLl : L.length = T.cols.length := by rw [hL]; exact rowC_len hc
 have hlr : T.rows.length ≤ 1048576 := hk.2.1
 have HL := Hid.mk' hL
 have HLS := Hid.mk' hl
 have hbz := bl_alloc (Below.refl w.heap.size w) (.cells #[.slice g1 n1 d1, .slice g2 n2 d2, .slice g3 W.tabs.length d3, .slice g4 n4 d4] 40)
 have hW0 := hW.later cTab_keeps hbz
 have HK0 := Hid.mk' (Blk.new w #[.slice g1 n1 d1, .slice g2 n2 d2, .slice g3 W.tabs.length d3, .slice g4 n4 d4] 40)
 obtain ⟨i9, hi9, hz9, hs9, hb9⟩ := info_parts Tryz.infoCe
 have i0 : (0 : Int) ≤ (i : Int) := by omega
 have i1 : (i : Int) < (W.tabs.length : Int) := by have := (List.getElem?_eq_some_iff.1 hT).1; omega
 go_enter Tryz.func78, Tryz.ntmps78
 go_wp2_with fail
 have hrow0 := rC_nil (w.alloc (.cells #[.slice g1 n1 d1, .slice g2 n2 d2, .slice g3 W.tabs.length d3, .slice g4 n4 d4] 40))
 rw [World.size_alloc] at hrow0
 have hXs : Hid ((w.alloc (.cells #[.slice g1 n1 d1, .slice g2 n2 d2, .slice g3 W.tabs.length d3, .slice g4 n4 d4] 40)).heap.size = w.heap.size + 1) := by show _ = _; simp
 generalize hX0 : w.alloc (.cells #[.slice g1 n1 d1, .slice g2 n2 d2, .slice g3 W.tabs.length d3, .slice g4 n4 d4] 40) = X0 at hbz hW0 HK0 hrow0 hXs ⊢
 clear hX0
 have HBZ := Hid.mk' hbz
 have HWX := Hid.mk' hW0
 have HT := Hid.mk' hT
 have HC := Hid.mk' hc
 have HLL := Hid.mk' hLl
 have HR0 : Hid ((rC (.slice (some ⟨w.heap.size + 1, 0, none⟩) 0 0) []).on (X0.alloc (.cells #[] 103)) X0.heap.size) := by rw [hXs.out]; exact hrow0
 clear hbz hW0 hW hT hL hl hk hc hLl hrow0
 go_loopw [7, 8] (fun u i' wr => ∃ (m : Nat) (s : Option Addr) (c : Nat), m ≤ L.length ∧ i' = .int .i64 m ∧ u = .slice s m c ∧ Hid (Below X0.heap.size X0 wr ∧ (rC (.slice s m c) (L.take m)).on wr X0.heap.size)) (fun _ i' _ => L.length - (intOf i').toNat)
 case atStart => exact ⟨0, _, _, Nat.zero_le _, rfl, rfl, bl_alloc (Below.refl _ _) _, HR0.out⟩
 case round =>
  obtain ⟨m, s, c0, hm, rfl, rfl, hN⟩ := hrel
  obtain ⟨x0, x1, x2, x3, x4⟩ := (HK0.out.later hN.out.1).four'
  obtain ⟨tb, t0, rfl, hBt, hp, s1, e1, s2, e2, s3, e3, t1, t2, t3, E1, E2, E3⟩ := eTab_cells (HWX.out.later cTab_keeps hN.out.1) HT.out
  rw [← HLL.out] at t1
  rw [HC.out, ← HLL.out] at t3
  by_cases hlt : m < L.length
  ·
   obtain ⟨c, hcm⟩ := get_some (L := T.cols) (k := m) (by rw [← HLL.out]; exact hlt)
   obtain ⟨M, hMm⟩ := get_some (L := T.cells) (k := m) (by rw [HC.out, ← HLL.out]; exact hlt)
   have hfj : j < M.length := by rw [HLS.out M (List.mem_of_getElem? hMm)]; exact hj
   obtain ⟨v, hvm⟩ := get_some hfj
   obtain ⟨cb, co, rfl, _, _, y0⟩ := eInt_cells E1 hcm
   obtain ⟨qb, qo, rfl, _, _, sv, cv, y1, EV⟩ := eVals_cells E3 hMm
   obtain ⟨vb, vo, rfl, _, _, okv, v0, v1, v2, v3⟩ := eVal_cells EV hvm
   have HLG : Hid (L[m]? = some (c, v)) := by show _ = _; rw [HL.out]; exact rowC_get hcm hMm hvm
   have HTK : Hid (L.take (m + 1) = L.take m ++ [(c, v)]) := by show _ = _; rw [List.take_add_one, HLG.out]; rfl
   have m0 : (0 : Int) ≤ (m : Int) := by omega
   have m1 : (m : Int) < (L.length : Int) := by omega
   have j0 : (0 : Int) ≤ (j : Int) := by omega
   have j1 : (j : Int) < (M.length : Int) := by omega
   have hbw := bl_alloc (Below.refl wr.heap.size wr) (.cells #[.int .i64 c, .int .i64 v.1, .int .i64 v.2.1, .float .f64 v.2.2.1, .float .f64 v.2.2.2] 103)
   have OY : Hid ((rC (.slice s m c0) (L.take m)).on (wr.alloc (.cells #[.int .i64 c, .int .i64 v.1, .int .i64 v.2.1, .float .f64 v.2.2.1, .float .f64 v.2.2.2] 103)).drew X0.heap.size) := hN.out.2.later (bl_drew hbw)
   have HBY : Hid (X0.heap.size ≤ (wr.alloc (.cells #[.int .i64 c, .int .i64 v.1, .int .i64 v.2.1, .float .f64 v.2.2.1, .float .f64 v.2.2.2] 103)).drew.heap.size) := by have := hN.out.1.size; show _ ≤ _; simp; omega
   have HNW : Hid (∀ (jj : Nat) (u : Value), [.int .i64 c, .int .i64 v.1, .int .i64 v.2.1, .float .f64 v.2.2.1, .float .f64 v.2.2.2][jj]? = some u → (wr.alloc (.cells #[.int .i64 c, .int .i64 v.1, .int .i64 v.2.1, .float .f64 v.2.2.1, .float .f64 v.2.2.2] 103)).drew.cell? ((⟨wr.heap.size, 0, none⟩ : Addr).add jj) = some u) := by
    intro jj u hj
    have hb := Blk.new wr #[.int .i64 c, .int .i64 v.1, .int .i64 v.2.1, .float .f64 v.2.2.1, .float .f64 v.2.2.2] 103
    match jj, hj with
    | 0, hj => simp at hj; subst hj; exact hb.cell 0
    | 1, hj => simp at hj; subst hj; exact hb.cell 1
    | 2, hj => simp at hj; subst hj; exact hb.cell 2
    | 3, hj => simp at hj; subst hj; exact hb.cell 3
    | 4, hj => simp at hj; subst hj; exact hb.cell 4
   have HON1 : Hid (∀ u ∈ [Value.int .i64 c, .int .i64 v.1, .int .i64 v.2.1, .float .f64 v.2.2.1, .float .f64 v.2.2.2], u.oneCell' = true) := by
    intro u hu
    simp only [List.mem_cons, List.not_mem_nil, or_false] at hu
    rcases hu with rfl | rfl | rfl | rfl | rfl <;> rfl
   have htl : Hid ((L.take m).length = m) := by show _ = _; rw [List.length_take]; omega
   have HM1 : Hid ((rC (.slice s m c0) (L.take m)).n + 1 ≤ maxLen) := by show (L.take m).length + 1 ≤ _; rw [htl.out]; unfold maxLen; omega
   have HM2 : Hid (((rC (.slice s m c0) (L.take m)).n + 1) * 40 ≤ 140737488355328) := by show ((L.take m).length + 1) * 40 ≤ _; rw [htl.out]; omega
   have HN1 : Hid ((rC (.slice s m c0) (L.take m)).n + 1 = m + 1) := by show (L.take m).length + 1 = _; rw [htl.out]
   have HFE : Hid (∀ u : Value, (fun u => rC u (L.take (m + 1))) u = ⟨(rC (.slice s m c0) (L.take m)).T, (rC (.slice s m c0) (L.take m)).k, u, m + 1, (rC (.slice s m c0) (L.take m)).cs ++ [.int .i64 c, .int .i64 v.1, .int .i64 v.2.1, .float .f64 v.2.2.1, .float .f64 v.2.2.2]⟩) := by
    intro u
    show rC u (L.take (m + 1)) = _
    rw [HTK.out]
    unfold rC
    rw [List.length_append, List.flatMap_append, htl.out]
    rfl
   have HBW : Hid (Below X0.heap.size X0 (wr.alloc (.cells #[.int .i64 c, .int .i64 v.1, .int .i64 v.2.1, .float .f64 v.2.2.1, .float .f64 v.2.2.2] 103)).drew) := bl_drew (bl_alloc hN.out.1 _)
   clear hcm hMm hvm EV okv hN hbw E1 E2 E3
   go_upto_region 5 with fail
   go_region_law (refine step_appO (r := rC (.slice s m c0) (L.take m)) OY.out HBY.out rfl rfl (.tmp 21) (.tmp 44) 66 40 rfl Tryz.underlying66 hi9 hz9 hs9 hb9 rfl (Nat.zero_lt_succ 4) (by simp [Act.eval, Act.put, rC]) ⟨wr.heap.size, 0, none⟩ 1 1 (by simp [Act.eval, Act.put]) [.int .i64 c, .int .i64 v.1, .int .i64 v.2.1, .float .f64 v.2.2.1, .float .f64 v.2.2.2] rfl HNW.out HON1.out HM1.out HM2.out (m + 1) HN1.out (fun u => rC u (L.take (m + 1))) HFE.out ?_; intro s' c' w5 hO5 hg5 hn5)
   all_goals
    have H5 := Hid.mk' (And.intro (HBW.out.grown hg5 HBW.out.size (fun q h => (OY.out.lt q h).1)) hO5)
    clear hO5 hg5 hn5 x0 x1 x2 x3 x4 t1 t2 t3 y0 y1 v0 v1 v2 v3
    go_wp2_with fail
    go_roundw
    case rel => exact ⟨m + 1, s', c', by omega, by go_num, rfl, H5⟩
    case measure => simp [intOf]; omega
  ·
   have hm' : m = L.length := by omega
   subst hm'
   have HE : Hid (L.take L.length = L) := List.take_length
   have H5 := Hid.mk' hN.out
   rw [HE.out] at H5
   have LW : Hid (Below w.heap.size w wr) := bl_trans HBZ.out hN.out.1
   have HSX : Hid (w.heap.size ≤ X0.heap.size) := HBZ.out.size
   clear hN E1 E2 E3
   go_wp2_with fail
   go_ret
   exact ⟨s, c0, rfl, OR.on.mono H5.out.2 HSX.out, LW.out⟩
end Go.Proofs.YtkihhadcoclnaaaGreat
