import Derived.Test.YtkihhadcoclnaaaGreatSp38
import Derived.Shelf.Spec.SlicesInsertGrow
namespace Go.Proofs.YtkihhadcoclnaaaGreat
set_option linter.unusedVariables false
set_option linter.unusedSimpArgs false
section
open Go.RowKit Go.Maps Go.WideMaps
set_option maxRecDepth 100000
theorem OR.on.later {w w' : World} {B : Nat} {r : OR} (h : r.on w B) (hb : Below w.heap.size w w') : r.on w' B := h.same fun g hg => hb.block g (h.lt g hg).2
theorem rC_nil (w : World) : (rC (.slice (some ⟨w.heap.size, 0, none⟩) 0 0) []).on (w.alloc (.cells #[] 103)) w.heap.size :=
 World.ownsRow_lit (base := w.heap.size) (e := 103) (size := 5) w #[] 0 (by simp) (by unfold maxLen; omega) (by simp)
set_option maxHeartbeats 8000000 in
theorem l4Row_any {Bt : Nat} (g1 g2 g3 g4 : Option Addr) (n1 n2 n4 d1 d2 d3 d4 : Nat) (W : Wd) (i j : Nat) (T : Tab) (w : World) (hW : Els 3 cTab w Bt g3 W.tabs) (hT : W.tabs[i]? = some T) (hc : T.cells.length = T.cols.length) (hl : ∀ M ∈ T.cells, M.length = T.rows.length) (hj : j < T.rows.length) (hk : kTab T) (hkw : W.tabs.length ≤ 1048576) (L : List C5) (hL : L = rowC T j) (lL : L.length ≤ 1000) :
  Calls Tryz.prog 78 #[.agg #[.slice g1 n1 d1, .slice g2 n2 d2, .slice g3 W.tabs.length d3, .slice g4 n4 d4], .int .i64 i, .int .i64 j] w fun r w' => ∃ (s : Option Addr) (c : Nat), r = .returned (.slice s L.length c) ∧ (rC (.slice s L.length c) L).on w' w.heap.size ∧ Below w.heap.size w w' := by
 have hal := alloc_old
 have haf := alloc_oldf
 have hLl : L.length = T.cols.length := by rw [hL]; exact rowC_len hc
 have hlr : T.rows.length ≤ 1048576 := hk.2.1
 have HL := Hid.mk' hL
 have HLS := Hid.mk' hl
 have hbz := bl_alloc (Below.refl w.heap.size w) (.cells #[.slice g1 n1 d1, .slice g2 n2 d2, .slice g3 W.tabs.length d3, .slice g4 n4 d4] 40)
 have hW0 := hW.later cTab_keeps hbz
 have HK0 := Hid.mk' (Blk.new w #[.slice g1 n1 d1, .slice g2 n2 d2, .slice g3 W.tabs.length d3, .slice g4 n4 d4] 40)
 obtain ⟨i9, hi9, hz9, hs9, hb9⟩ := info_parts Tryz.infoCe
 have i0 : (0 : Int) ≤ (i : Int) := by omega
 have i1 : (i : Int) < (W.tabs.length : Int) := by have := (List.getElem?_eq_some_iff.1 hT).1; omega
 go_enter Tryz.func78, Tryz.ntmps78
 go_wp2_with fail; have hrow0 := rC_nil (w.alloc (.cells #[.slice g1 n1 d1, .slice g2 n2 d2, .slice g3 W.tabs.length d3, .slice g4 n4 d4] 40))
 rw [World.size_alloc] at hrow0
 have hXs : Hid ((w.alloc (.cells #[.slice g1 n1 d1, .slice g2 n2 d2, .slice g3 W.tabs.length d3, .slice g4 n4 d4] 40)).heap.size = w.heap.size + 1) := by show _ = _; simp
 generalize hX0 : w.alloc (.cells #[.slice g1 n1 d1, .slice g2 n2 d2, .slice g3 W.tabs.length d3, .slice g4 n4 d4] 40) = X0 at hbz hW0 HK0 hrow0 hXs ⊢
 clear hX0; have HBZ := Hid.mk' hbz
 have HWX := Hid.mk' hW0
 have HT := Hid.mk' hT
 have HC := Hid.mk' hc
 have HLL := Hid.mk' hLl
 have HR0 : Hid ((rC (.slice (some ⟨w.heap.size + 1, 0, none⟩) 0 0) []).on (X0.alloc (.cells #[] 103)) X0.heap.size) := by rw [hXs.out]; exact hrow0
 clear hbz hW0 hW hT hL hl hk hc hLl hrow0; go_loopw [7, 8] (fun u i' wr => ∃ (m : Nat) (s : Option Addr) (c : Nat), m ≤ L.length ∧ i' = .int .i64 m ∧ u = .slice s m c ∧ Hid (Below X0.heap.size X0 wr ∧ (rC (.slice s m c) (L.take m)).on wr X0.heap.size)) (fun _ i' _ => L.length - (intOf i').toNat)
 case atStart => exact ⟨0, _, _, Nat.zero_le _, rfl, rfl, bl_alloc (Below.refl _ _) _, HR0.out⟩
 obtain ⟨m, s, c0, hm, rfl, rfl, hN⟩ := hrel
 obtain ⟨x0, x1, x2, x3, x4⟩ := (HK0.out.later hN.out.1).four'
 obtain ⟨tb, t0, rfl, hBt, hp, s1, e1, s2, e2, s3, e3, t1, t2, t3, E1, E2, E3⟩ := eTab_cells (HWX.out.later cTab_keeps hN.out.1) HT.out
 rw [← HLL.out] at t1
 rw [HC.out, ← HLL.out] at t3
 by_cases hlt : m < L.length
 ·
  obtain ⟨c, hcm⟩ := get_some (L := T.cols) (k := m) (by rw [← HLL.out]; exact hlt)
  obtain ⟨M, hMm⟩ := get_some (L := T.cells) (k := m) (by rw [HC.out, ← HLL.out]; exact hlt)
  have hfj : j < M.length := by rw [HLS.out M (List.mem_of_getElem? hMm)]; exact hj
  obtain ⟨v, hvm⟩ := get_some hfj
  obtain ⟨cb, co, rfl, _, _, y0⟩ := eInt_cells E1 hcm
  obtain ⟨qb, qo, rfl, _, _, sv, cv, y1, EV⟩ := eVals_cells E3 hMm
  obtain ⟨vb, vo, rfl, _, _, okv, v0, v1, v2, v3⟩ := eVal_cells EV hvm
  have HLG : Hid (L[m]? = some (c, v)) := by show _ = _; rw [HL.out]; exact rowC_get hcm hMm hvm
  have HTK : Hid (L.take (m + 1) = L.take m ++ [(c, v)]) := by show _ = _; rw [List.take_add_one, HLG.out]; rfl
  have m0 : (0 : Int) ≤ (m : Int) := by omega
  have m1 : (m : Int) < (L.length : Int) := by omega
  have j0 : (0 : Int) ≤ (j : Int) := by omega
  have j1 : (j : Int) < (M.length : Int) := by omega
  have hbw := bl_alloc (Below.refl wr.heap.size wr) (.cells #[.int .i64 c, .int .i64 v.1, .int .i64 v.2.1, .float .f64 v.2.2.1, .float .f64 v.2.2.2] 103)
  have OY : Hid ((rC (.slice s m c0) (L.take m)).on (wr.alloc (.cells #[.int .i64 c, .int .i64 v.1, .int .i64 v.2.1, .float .f64 v.2.2.1, .float .f64 v.2.2.2] 103)).drew X0.heap.size) := hN.out.2.later (bl_drew hbw)
  have HBY : Hid (X0.heap.size ≤ (wr.alloc (.cells #[.int .i64 c, .int .i64 v.1, .int .i64 v.2.1, .float .f64 v.2.2.1, .float .f64 v.2.2.2] 103)).drew.heap.size) := by have := hN.out.1.size; show _ ≤ _; simp; omega
  have HNW : Hid (∀ (jj : Nat) (u : Value), [.int .i64 c, .int .i64 v.1, .int .i64 v.2.1, .float .f64 v.2.2.1, .float .f64 v.2.2.2][jj]? = some u → (wr.alloc (.cells #[.int .i64 c, .int .i64 v.1, .int .i64 v.2.1, .float .f64 v.2.2.1, .float .f64 v.2.2.2] 103)).drew.cell? ((⟨wr.heap.size, 0, none⟩ : Addr).add jj) = some u) := by
   intro jj u hj
   have hb := Blk.new wr #[.int .i64 c, .int .i64 v.1, .int .i64 v.2.1, .float .f64 v.2.2.1, .float .f64 v.2.2.2] 103
   match jj, hj with
   | 0, hj => simp at hj; subst hj; exact hb.cell 0
   | 1, hj => simp at hj; subst hj; exact hb.cell 1
   | 2, hj => simp at hj; subst hj; exact hb.cell 2
   | 3, hj => simp at hj; subst hj; exact hb.cell 3
   | 4, hj => simp at hj; subst hj; exact hb.cell 4
  have HON1 : Hid (∀ u ∈ [Value.int .i64 c, .int .i64 v.1, .int .i64 v.2.1, .float .f64 v.2.2.1, .float .f64 v.2.2.2], u.oneCell' = true) := by
   intro u hu
   simp only [List.mem_cons, List.not_mem_nil, or_false] at hu
   rcases hu with rfl | rfl | rfl | rfl | rfl <;> rfl
  have htl : Hid ((L.take m).length = m) := by show _ = _; rw [List.length_take]; omega
  have HM1 : Hid ((rC (.slice s m c0) (L.take m)).n + 1 ≤ maxLen) := by show (L.take m).length + 1 ≤ _; rw [htl.out]; unfold maxLen; omega
  have HM2 : Hid (((rC (.slice s m c0) (L.take m)).n + 1) * 40 ≤ 140737488355328) := by show ((L.take m).length + 1) * 40 ≤ _; rw [htl.out]; omega
  have HN1 : Hid ((rC (.slice s m c0) (L.take m)).n + 1 = m + 1) := by show (L.take m).length + 1 = _; rw [htl.out]
  have HFE : Hid (∀ u : Value, (fun u => rC u (L.take (m + 1))) u = ⟨(rC (.slice s m c0) (L.take m)).T, (rC (.slice s m c0) (L.take m)).k, u, m + 1, (rC (.slice s m c0) (L.take m)).cs ++ [.int .i64 c, .int .i64 v.1, .int .i64 v.2.1, .float .f64 v.2.2.1, .float .f64 v.2.2.2]⟩) := by
   intro u
   show rC u (L.take (m + 1)) = _
   rw [HTK.out]
   unfold rC
   rw [List.length_append, List.flatMap_append, htl.out]
   rfl
  have HBW : Hid (Below X0.heap.size X0 (wr.alloc (.cells #[.int .i64 c, .int .i64 v.1, .int .i64 v.2.1, .float .f64 v.2.2.1, .float .f64 v.2.2.2] 103)).drew) := bl_drew (bl_alloc hN.out.1 _)
  clear hcm hMm hvm EV okv hN hbw E1 E2 E3; go_upto_region 5 with fail
  go_region_law (refine step_appO (r := rC (.slice s m c0) (L.take m)) OY.out HBY.out rfl rfl (.tmp 21) (.tmp 44) 66 40 rfl Tryz.underlying66 hi9 hz9 hs9 hb9 rfl (Nat.zero_lt_succ 4) (by simp [Act.eval, Act.put, rC]) ⟨wr.heap.size, 0, none⟩ 1 1 (by simp [Act.eval, Act.put]) [.int .i64 c, .int .i64 v.1, .int .i64 v.2.1, .float .f64 v.2.2.1, .float .f64 v.2.2.2] rfl HNW.out HON1.out HM1.out HM2.out (m + 1) HN1.out (fun u => rC u (L.take (m + 1))) HFE.out ?_; intro s' c' w5 hO5 hg5 hn5)
  all_goals
   have H5 := Hid.mk' (And.intro (HBW.out.grown hg5 HBW.out.size (fun q h => (OY.out.lt q h).1)) hO5)
   clear hO5 hg5 hn5 x0 x1 x2 x3 x4 t1 t2 t3 y0 y1 v0 v1 v2 v3; go_wp2_with fail; go_roundw
   case rel => exact ⟨m + 1, s', c', by omega, by go_num, rfl, H5⟩
   case measure => simp [intOf]; omega
 have hm' : m = L.length := by omega
 subst hm'
 have HE : Hid (L.take L.length = L) := List.take_length
 have H5 := Hid.mk' hN.out
 rw [HE.out] at H5
 have LW : Hid (Below w.heap.size w wr) := bl_trans HBZ.out hN.out.1
 have HSX : Hid (w.heap.size ≤ X0.heap.size) := HBZ.out.size
 clear hN E1 E2 E3; go_wp2_with fail; go_ret; exact ⟨s, c0, rfl, OR.on.mono H5.out.2 HSX.out, LW.out⟩
end
section
open Go.RowKit Go.Maps Go.WideMaps
set_option maxRecDepth 100000
set_option maxHeartbeats 4000000 in
theorem insertC_core (g i n vb N G : Nat) (w w1 w2 w3 : World) (hi : i < n) (hm : n ≤ 1048576) (hG : n + 1 ≤ G) (hG63 : G ≤ 9223372036854775807)
  (hap : ∀ ty, (Builtin.append_ #[66, 3] ty #[.slice (some ⟨g, 0, none⟩) i n, .int .i64 ((n : Int) + 1 - (i : Int))]).run Tryz.prog w = .ok (.slice (some ⟨N, 0, none⟩) (n + 1) G) w1)
  (hc1 : ∀ ty, (Builtin.copy_ #[66, 66] ty #[.slice (some ⟨N, i * 5, none⟩) (n + 1 - i) (G - i), .slice (some ⟨vb, 0, none⟩) 1 1]).run Tryz.prog w1 = .ok (goInt 1) w2)
  (hc2 : ∀ ty, (Builtin.copy_ #[66, 66] ty #[.slice (some ⟨N, (i + 1) * 5, none⟩) (n + 1 - (i + 1)) (G - (i + 1)), .slice (some ⟨g, i * 5, none⟩) (n - i) (n - i)]).run Tryz.prog w2.drew = .ok (goInt ((n - i : Nat) : Int)) w3) :
  Calls Tryz.prog 101 #[.slice (some ⟨g, 0, none⟩) n n, .int .i64 (i : Int), .slice (some ⟨vb, 0, none⟩) 1 1] w fun e w' => e = .returned (.slice (some ⟨N, 0, none⟩) (n + 1) G) ∧ w' = w3 := by
 have hsz : ∀ W, (Go.sizeOf (Tryz.prog.elem 66)).run Tryz.prog W = .ok 5 W := fun W => by kernel_rfl
 have ht : Tryz.prog.underlying 66 = some (.slice (Tryz.prog.elem 66)) := by kernel_rfl
 have mixed : Tryz.prog.follows .mixedOrders = true := by kernel_rfl
 have s0 := slice_from 66 5 ht hsz g n n i (n - i) hi (Nat.le_refl _) rfl
 have s1 := slice_upto 66 5 ht hsz g n n i (by omega)
 have s2 := slice_from 66 5 ht hsz N (n + 1) G i (n + 1 - i) (by omega) hG rfl
 have s3 := slice_from 66 5 ht hsz N (n + 1) G (i + 1) (n + 1 - (i + 1)) (by omega) hG rfl
 have e1 : ((i + 1 : Nat) : Int) = (i : Int) + 1 := by omega
 simp only [e1] at s3
 have tw1 : IntKind.i64.wrap ((n : Int) + 1) = (n : Int) + 1 := by rw [IntKind.wrap_i64]; omega
 have tw2 : IntKind.i64.wrap ((n : Int) + 1 - (i : Int)) = (n : Int) + 1 - (i : Int) := by rw [IntKind.wrap_i64]; omega
 have tw3 : IntKind.i64.wrap ((i : Int) + 1) = (i : Int) + 1 := by rw [IntKind.wrap_i64]; omega
 have hz2 : ¬ ((i : Int) = (n : Int)) := by omega
 have hz3 : (n : Int) < (n : Int) + 1 := by omega
 clear hsz ht e1 hi hm hG hG63; go_enter Tryz.func101, Tryz.ntmps101
 go_wp2_with (first
  | (at_builtin; refine Lib.wpList_append_run _ rfl _ _ _ _ rfl _ _ rfl rfl _ _ (hap _) ?_)
  | (at_builtin; refine wpList_copy_runI _ rfl _ _ 66 66 rfl _ _ rfl rfl (hc1 _) ?_))
 go_region_law_o (refine step_copy_runI rfl _ _ 66 66 rfl (.slice (some ⟨N, (i + 1) * 5, none⟩) (n + 1 - (i + 1)) (G - (i + 1))) (.slice (some ⟨g, i * 5, none⟩) (n - i) (n - i)) (by simp [Act.eval, Act.put]) (by simp [Act.eval, Act.put]) (hc2 3) ?_)
 go_wp2
 go_ret; exact ⟨rfl, rfl⟩
theorem ins_eq (c : C5) : ∀ (L : List C5) (i : Nat), i ≤ L.length → L.insertIdx i c = L.take i ++ c :: L.drop i
 | L, 0, _ => by simp
 | [], i + 1, h => by simp at h
 | a :: L, i + 1, h => by
  rw [List.insertIdx_succ_cons, ins_eq c L i (by simpa using h)]
  rfl
theorem insert_flat (L : List C5) (i : Nat) (c : C5) (hi : i ≤ L.length) : (L.insertIdx i c).flatMap ccells = (L.flatMap ccells).take (i * 5) ++ (ccells c ++ (L.flatMap ccells).drop (i * 5)) := by
 rw [ins_eq c L i hi, List.flatMap_append, List.flatMap_cons, fm_take, fm_drop]
theorem insertC_any (g : Nat) (L : List C5) (i : Nat) (c : C5) (vb B : Nat) (w : World) (h : (rC (.slice (some ⟨g, 0, none⟩) L.length L.length) L).on w B) (hB : B ≤ w.heap.size) (hv : ∀ j u, (ccells c)[j]? = some u → w.cell? ⟨vb, j, none⟩ = some u) (hi : i ≤ L.length) (hl : L.length ≤ 1000000) :
  Calls Tryz.prog 101 #[.slice (some ⟨g, 0, none⟩) L.length L.length, .int .i64 (i : Int), .slice (some ⟨vb, 0, none⟩) 1 1] w fun e w' => ∃ (s' : Option Addr) (c' : Nat), e = .returned (.slice s' (L.length + 1) c') ∧ (rC (.slice s' (L.length + 1) c') (L.insertIdx i c)).on w' B ∧ w.grownBy w' (some g) ∧ ∀ k, (Value.slice s' (L.length + 1) c').ownBlock = some k → k = g ∨ w.heap.size ≤ k := by
 obtain ⟨i0, hi0, hz0, hz1, hz2⟩ := info_parts Tryz.infoCe
 have ho : w.ownsRow B 103 5 (.slice (some ⟨g, 0, none⟩) L.length L.length) L.length (L.flatMap ccells) := h
 have hcl := fm_len L
 have hgw := (h.lt g rfl).2
 have h1c : ∀ u ∈ ccells c, u.oneCell' = true := fun u hu => ccells_one [c] u (by simpa using hu)
 have hlen : (L.insertIdx i c).length = L.length + 1 := List.length_insertIdx_of_le_length hi c
 by_cases he : i = L.length
 ·
  subst he
  obtain ⟨v', w', hrun, h2, h3, _, h5⟩ := run_append_own_at (P := Tryz.prog) w B 66 66 103 i0 _ 5 40 Tryz.underlying66 hi0 hz0 hz1 hz2 rfl (by decide) _ L.length (L.flatMap ccells) ho ⟨vb, 0, none⟩ 1 1 (ccells c) rfl (fun j u hj => by rw [Addr.add_lit, Nat.zero_add]; exact hv j u hj) h1c (by unfold maxLen; omega) (by omega) hB
  obtain ⟨s', c', e'⟩ := OR.on.shape (r := ⟨103, 5, v', L.length + 1, L.flatMap ccells ++ ccells c⟩) h2
  have e' : v' = .slice s' (L.length + 1) c' := e'
  subst e'
  have hsz : ∀ W, (Go.sizeOf (Tryz.prog.elem 66)).run Tryz.prog W = .ok 5 W := fun W => by kernel_rfl
  have ht : Tryz.prog.underlying 66 = some (.slice (Tryz.prog.elem 66)) := by kernel_rfl
  have s0 : ∃ v, ∀ W, (Instr.slice 66 (.slice (some ⟨g, 0, none⟩) L.length L.length) (some (.int .i64 (L.length : Int))) none none).run Tryz.prog W = .ok v W := by
   refine ⟨sliced (some ⟨g, 0, none⟩) L.length L.length L.length 5, fun W => ?_⟩
   rw [run_slice_l (P := Tryz.prog) W 66 (some ⟨g, 0, none⟩) L.length L.length ht .i64 (L.length : Int) (by omega) (by omega), hsz]
   simp [Result.andThen]
  obtain ⟨v0, s0⟩ := s0
  have hfin : Hid ((rC (.slice s' (L.length + 1) c') (L.insertIdx L.length c)).on w' B ∧ w.grownBy w' (some g) ∧ ∀ k, (Value.slice s' (L.length + 1) c').ownBlock = some k → k = g ∨ w.heap.size ≤ k) := by
   refine ⟨?_, h3, fun k hk => ?_⟩
   ·
    show World.ownsRow w' B 103 5 (.slice s' (L.length + 1) c') (L.insertIdx L.length c).length ((L.insertIdx L.length c).flatMap ccells)
    rw [hlen, insert_flat L L.length c hi, List.take_of_length_le (by rw [hcl]; exact Nat.le_refl _), List.drop_eq_nil_of_le (by rw [hcl]; exact Nat.le_refl _), List.append_nil]
    exact h2
   rcases h5 with h5 | h5
   ·
    left
    rw [h5] at hk
    exact (Option.some.inj hk).symm
   right
   rw [h5] at hk
   rw [← Option.some.inj hk]
   exact Nat.le_refl _
  have eI : L.insertIdx L.length c = L ++ [c] := by rw [ins_eq c L L.length hi]; simp
  rw [eI] at hfin
  clear eI hsz ht h2 h3 h5 ho h hv h1c hlen hcl; go_enter Tryz.func101, Tryz.ntmps101
  go_wp2_with (at_builtin; refine Lib.wpList_append_run _ rfl _ _ _ _ rfl _ _ rfl rfl _ _ hrun ?_)
  go_ret; exact ⟨s', c', rfl, hfin.out⟩
 have hin : i < L.length := by omega
 have htI : Tryz.prog.underlying 3 = some (.int .i64) := by kernel_rfl
 have hcs : ∀ j v, (L.flatMap ccells)[j]? = some v → w.cell? ⟨g, j, none⟩ = some v := fun j v hj => by
  have := (List.getElem?_eq_some_iff.1 hj).1
  rw [World.ownsRow.cellAt ho j (by omega)]
  exact hj
 have hold : (Builtin.firstCells i0.size i (.slice (some ⟨g, 0, none⟩) i L.length)).run Tryz.prog w.drew = .ok ((L.flatMap ccells).take (i * 5)).toArray w.drew := by
  rw [hz1]
  exact run_firstCells_some (w := w.drew) 5 i ⟨g, 0, none⟩ i L.length ((L.flatMap ccells).take (i * 5)) (by rw [List.length_take, hcl]; omega) (fun j v hj => by
   rw [Addr.add_lit, Nat.zero_add]
   rw [List.getElem?_take] at hj
   split at hj
   ·
    exact hcs j v hj
   cases hj)
 have hik : i + (L.length + 1 - i) = L.length + 1 := by omega
 obtain ⟨G, hG⟩ : ∃ G, G = grownCap w (L.length + 1) L.length 103 := ⟨_, rfl⟩
 have hGn : L.length + 1 ≤ G := by rw [hG]; exact grownCap_ge w _ _ _
 have hGm : G ≤ maxLen := by rw [hG]; exact grownCap_le_maxLen w (L.length + 1) L.length 103 (by unfold maxLen; omega)
 obtain ⟨cur, hcur⟩ : ∃ cur : Array Value, cur = ((L.flatMap ccells).take (i * 5)).toArray ++ Builtin.zeroCells (Value.agg #[.int .i64 0, .int .i64 0, .int .i64 0, .float .f64 0, .float .f64 0]).cells (L.length + 1 - i) ++ Builtin.zeroCells (Value.agg #[.int .i64 0, .int .i64 0, .int .i64 0, .float .f64 0, .float .f64 0]).cells (G - (L.length + 1)) := ⟨_, rfl⟩
 have hap : ∀ ty, (Builtin.append_ #[66, 3] ty #[.slice (some ⟨g, 0, none⟩) i L.length, .int .i64 ((L.length : Int) + 1 - (i : Int))]).run Tryz.prog w = .ok (.slice (some ⟨w.heap.size, 0, none⟩) (L.length + 1) G) (w.drew.alloc (.cells cur 103)) := fun ty => by
  have h := Lib.run_append_grow_zeros (P := Tryz.prog) w 66 3 ty 103 i0 _ .i64 .i64 Tryz.underlying66 htI hi0 hz0 (some ⟨g, 0, none⟩) i L.length ((L.flatMap ccells).take (i * 5)) hold (L.length + 1 - i) (by omega) (by omega) (by omega) (by omega) (by rw [hz2]; omega) (by rw [hz2, hik]; exact growslice_fits (by omega) (by omega))
  rw [hik, ← hG, ← hcur] at h
  rw [show (L.length : Int) + 1 - (i : Int) = ((L.length + 1 - i : Nat) : Int) by omega]
  exact h
 have hsz : cur.size = G * 5 := by
  rw [hcur, Array.size_append, Array.size_append, size_zeroCells, size_zeroCells, List.size_toArray, List.length_take, hcl]
  show min (i * 5) (L.length * 5) + (L.length + 1 - i) * 5 + (G - (L.length + 1)) * 5 = G * 5
  omega
 have hct : cur.toList.take (i * 5) = (L.flatMap ccells).take (i * 5) := by
  rw [hcur, Array.toList_append, Array.toList_append, List.append_assoc, List.take_left' (by rw [List.length_take, hcl]; omega)]
 have hg1 : (w.drew.alloc (.cells cur 103)).heap[w.heap.size]? = some (.cells cur 103 (0, 0)) := by
  show (w.heap.push _)[w.heap.size]? = _
  simp
 have m1 : Nat.min 1 (L.length + 1 - i) = 1 := by show min 1 (L.length + 1 - i) = 1; omega
 have hc1 : ∀ ty, (Builtin.copy_ #[66, 66] ty #[.slice (some ⟨w.heap.size, i * 5, none⟩) (L.length + 1 - i) (G - i), .slice (some ⟨vb, 0, none⟩) 1 1]).run Tryz.prog (w.drew.alloc (.cells cur 103)) = .ok (goInt 1) ((w.drew.alloc (.cells cur 103)).setRow w.heap.size (cur.toList.take (i * 5) ++ ccells c ++ cur.toList.drop (i * 5 + 5)).toArray) := fun ty => by
  have h := run_copyO (w.drew.alloc (.cells cur 103)) 66 66 ty 103 i0 5 w.heap.size (i * 5) (L.length + 1 - i) (G - i) ⟨vb, 0, none⟩ 1 1 cur _ (ccells c) Tryz.underlying66 hi0 hz1 hg1 (by rw [m1]; rfl) (fun j u hj => by
   rw [Addr.add_lit, Nat.zero_add]
   have h0 := hv j u hj
   exact kcell (bl_alloc (bl_drew (Below.refl _ _)) _) h0) (by rw [hsz]; show i * 5 + 5 ≤ _; omega) h1c
  rw [m1] at h
  exact h
 obtain ⟨cur1, hcur1⟩ : ∃ cur1 : Array Value, cur1 = (cur.toList.take (i * 5) ++ ccells c ++ cur.toList.drop (i * 5 + 5)).toArray := ⟨_, rfl⟩
 rw [← hcur1] at hc1
 have hs1 : cur1.size = G * 5 := by
  rw [hcur1, List.size_toArray, List.length_append, List.length_append, List.length_take, List.length_drop, Array.length_toList, hsz]
  show min (i * 5) (G * 5) + 5 + (G * 5 - (i * 5 + 5)) = _
  omega
 have hg2 := setRow_heap (w.drew.alloc (.cells cur 103)) w.heap.size cur cur1 103 (0, 0) hg1
 have hdl : ((L.flatMap ccells).drop (i * 5)).length = (L.length - i) * 5 := by rw [List.length_drop, hcl, Nat.sub_mul]
 have m2 : Nat.min (L.length - i) (L.length + 1 - (i + 1)) = L.length - i := by show min _ _ = _; omega
 have hgN : ¬ g = w.heap.size := by omega
 have hc2 : ∀ ty, (Builtin.copy_ #[66, 66] ty #[.slice (some ⟨w.heap.size, (i + 1) * 5, none⟩) (L.length + 1 - (i + 1)) (G - (i + 1)), .slice (some ⟨g, i * 5, none⟩) (L.length - i) (L.length - i)]).run Tryz.prog ((w.drew.alloc (.cells cur 103)).setRow w.heap.size cur1).drew = .ok (goInt ((L.length - i : Nat) : Int)) ((((w.drew.alloc (.cells cur 103)).setRow w.heap.size cur1).drew).setRow w.heap.size (cur1.toList.take ((i + 1) * 5) ++ (L.flatMap ccells).drop (i * 5) ++ cur1.toList.drop ((i + 1) * 5 + ((L.flatMap ccells).drop (i * 5)).length)).toArray) := fun ty => by
  have h := run_copyO ((w.drew.alloc (.cells cur 103)).setRow w.heap.size cur1).drew 66 66 ty 103 i0 5 w.heap.size ((i + 1) * 5) (L.length + 1 - (i + 1)) (G - (i + 1)) ⟨g, i * 5, none⟩ (L.length - i) (L.length - i) cur1 103 ((L.flatMap ccells).drop (i * 5)) Tryz.underlying66 hi0 hz1 hg2 (by rw [hdl, m2]) (fun j u hj => by
   rw [Addr.add_lit]
   rw [List.getElem?_drop] at hj
   have h0 := hcs _ u hj
   rw [← h0]
   refine World.cell?_of_block ?_
   show ((w.drew.alloc (.cells cur 103)).setRow w.heap.size cur1).heap[g]? = _
   rw [setRow_other _ _ _ _ hgN]
   exact (bl_alloc (bl_drew (Below.refl w.heap.size w)) (.cells cur 103)).block g hgw) (by rw [hdl, hs1]; omega) (fun u hu => ccells_one L u (List.mem_of_mem_drop hu))
  rw [m2] at h
  exact h
 have hg3 := setRow_heap ((w.drew.alloc (.cells cur 103)).setRow w.heap.size cur1).drew w.heap.size cur1 (cur1.toList.take ((i + 1) * 5) ++ (L.flatMap ccells).drop (i * 5) ++ cur1.toList.drop ((i + 1) * 5 + ((L.flatMap ccells).drop (i * 5)).length)).toArray 103 (0, 0) hg2
 refine (insertC_core g i L.length vb w.heap.size G w _ _ _ hin (by omega) hGn (by unfold maxLen at hGm; omega) hap hc1 hc2).mono ?_
 rintro e w' ⟨rfl, rfl⟩
 refine ⟨_, _, rfl, ?_, ⟨rfl, rfl, rfl, ?_, ?_⟩, ?_⟩
 ·
  show World.ownsRow _ B 103 5 (.slice (some ⟨w.heap.size, 0, none⟩) (L.length + 1) G) (L.insertIdx i c).length ((L.insertIdx i c).flatMap ccells)
  rw [hlen]
  refine ⟨?_, Or.inr ⟨w.heap.size, G, _, rfl, hB, hg3, hGn, hGm, ?_, ?_⟩⟩
  ·
   rw [fm_len, hlen]
  ·
   simp only [List.size_toArray, List.length_append, List.length_take, List.length_drop, Array.length_toList, hs1, hcl]
   omega
  rw [List.toList_toArray, insert_flat L i c hi]
  have e1 : cur1.toList.take ((i + 1) * 5) = (L.flatMap ccells).take (i * 5) ++ ccells c := by
   rw [hcur1, List.toList_toArray, List.take_left' (by rw [List.length_append, List.length_take, Array.length_toList, hsz]; show min (i * 5) (G * 5) + 5 = _; omega), hct]
  rw [e1, List.take_left' (by rw [List.length_append, List.length_append, List.length_take, hdl, hcl]; show min (i * 5) (L.length * 5) + 5 + _ = _; omega), List.append_assoc]
 ·
  rw [setRow_size]
  show w.heap.size ≤ ((w.drew.alloc (.cells cur 103)).setRow w.heap.size cur1).heap.size
  rw [setRow_size]
  show w.heap.size ≤ (w.heap.push _).size
  simp
 ·
  intro q hq hne
  rw [setRow_other _ _ _ _ (by omega)]
  show ((w.drew.alloc (.cells cur 103)).setRow w.heap.size cur1).heap[q]? = _
  rw [setRow_other _ _ _ _ (by omega)]
  exact (bl_alloc (bl_drew (Below.refl w.heap.size w)) (.cells cur 103)).block q hq
 intro k hk
 right
 have : w.heap.size = k := Option.some.inj hk
 omega
end
end Go.Proofs.YtkihhadcoclnaaaGreat
