import Derived.Test.YtigllpegaljkmaaDoorN12j
import Derived.Deep.MidRow
import Derived.Deep.RegionHeld3
namespace Go.Proofs.YtigllpegaljkmaaDoor
open Go.RowKit
set_option linter.unusedVariables false
set_option linter.unusedSimpArgs false

/-! a pool's cells -/
def pl (n : Int) (R : Nat → Nat → Bool) (wk : Int) : Array Value := #[Value.int .i64 n] ++ lk R ++ #[Value.int .i64 wk]
theorem pl_size (n : Int) (R : Nat → Nat → Bool) (wk : Int) : (pl n R wk).size = 18 := by simp [pl, lk_size]
theorem pl_one (n : Int) (R : Nat → Nat → Bool) (wk : Int) : (pl n R wk).all (·.oneCell') = true := by
  rw [Array.all_eq_true_iff_forall_mem]
  intro v hv
  have h2 := lk_one R
  rw [Array.all_eq_true_iff_forall_mem] at h2
  simp only [pl, Array.mem_append] at hv
  rcases hv with (hv | hv) | hv
  · simp at hv; subst hv; rfl
  · exact h2 v hv
  · simp at hv; subst hv; rfl
theorem pl_0 (n : Int) (R : Nat → Nat → Bool) (wk : Int) : (pl n R wk)[0]? = some (.int .i64 n) := by
  unfold pl
  rw [Array.getElem?_append_left (by simp; omega), Array.getElem?_append_left (by simp)]
  simp
theorem pl_17 (n : Int) (R : Nat → Nat → Bool) (wk : Int) : (pl n R wk)[17]? = some (.int .i64 wk) := by
  unfold pl
  rw [Array.getElem?_append_right (by simp [lk_size])]
  simp [lk_size]
theorem pl_mid (n : Int) (R : Nat → Nat → Bool) (wk : Int) (j : Nat) (v : Value) (h : (lk R).toList[j]? = some v) : (pl n R wk)[1 + j]? = some v := by
  have hj : j < 16 := by
    have := (List.getElem?_eq_some_iff.1 h).1
    simpa [lk_size] using this
  unfold pl
  rw [Array.getElem?_append_left (by simp [lk_size]; omega), Array.getElem?_append_right (by simp)]
  simpa using h
theorem Tryd.infoPl : (Tryd.prog.info? 51).map (·.size) = some 18 := by kernel_rfl
theorem load_pl (n : Int) (R : Nat → Nat → Bool) (wk : Int) (w : World) (b : Nat) (h : Blk w b (pl n R wk) 51) : (loadVar 51 ⟨b, 0, none⟩).run Tryd.prog w = .ok (.agg (pl n R wk)) w :=
  run_loadVar_row w b _ _ _ _ _ h Tryd.underlying51 rfl (by rw [Tryd.infoPl, pl_size])
theorem load_plk (n : Int) (R : Nat → Nat → Bool) (wk : Int) (w : World) (b : Nat) (h : Blk w b (pl n R wk) 51) : (loadVar 49 ⟨b, 1, none⟩).run Tryd.prog w = .ok (.agg (lk R)) w := by
  have := run_loadVar_mid (P := Tryd.prog) w b 1 49 (lk R).toList _ (fun j v hv => (h.cell (1 + j)).trans (pl_mid n R wk j v hv)) Tryd.underlying49 rfl (by rw [Tryd.infoLk, Array.length_toList, lk_size])
  simpa using this

theorem running_any (b d : Nat → Bool) (w : World) :
    Calls Tryd.prog 36 #[.agg #[.int .u16 (nb b), .int .u16 (nb d)]] w fun e w' => e = .returned (.int .u16 (nb fun i => b i && !d i)) ∧ Below w.heap.size w w' := by
  have g1 := andNot16 b d
  go_enter Tryd.func36, Tryd.ntmps36
  go_wp2_with fail
  go_ret
  exact ⟨rfl, bl_alloc (Below.refl _ _) _⟩

set_option maxHeartbeats 2000000 in
theorem behind_any (b d : Nat → Bool) (k : Int) (q : Nat) (hq : q < 16) (w : World) :
    Calls Tryd.prog 38 #[.agg #[.int .u16 (nb b), .int .u16 (nb d)], .agg #[.int .i64 k, .int .i64 (q : Int)]] w fun e w' => e = .returned (.agg #[.int .u16 (nb fun i => if k = 2 then b i || decide (i = q) else b i), .int .u16 (nb fun i => if k = 2 then d i else d i || decide (i = q))]) ∧ Below w.heap.size w w' := by
  have g1 := or16 b (fun j => decide (j = q))
  have g2 := or16 d (fun j => decide (j = q))
  by_cases h2 : k = 2
  · subst h2
    have e1 : Hid ((nb fun i => if (2 : Int) = 2 then b i || decide (i = q) else b i) = nb fun i => b i || decide (i = q)) := nb_congr fun i _ => by simp
    have e2 : Hid ((nb fun i => if (2 : Int) = 2 then d i else d i || decide (i = q)) = nb d) := nb_congr fun i _ => by simp
    rw [e1.out, e2.out]
    clear e1 e2
    go_enter Tryd.func38, Tryd.ntmps38
    go_wp2_with fail
    go_region_with (go_at_call 21; refine (bitOf_any _ _ hq).mono ?_; rintro e w' ⟨rfl, rfl⟩)
    all_goals
      go_wp2_with fail
      refine bodyPost_ret (v := .agg #[.int .u16 (nb fun i => b i || decide (i = q)), .int .u16 (nb d)]) (by simp [results, Tryd.results38, go_sem]) rfl ⟨rfl, ?_⟩
      (repeat (first | with_reducible exact Below.refl _ _ | with_reducible refine bl_alloc ?_ _ | with_reducible refine bl_drewN ?_ _ | with_reducible refine bl_drew ?_ | with_reducible refine bl_setCell ?_ (by first | exact Nat.le_refl _ | (dsimp only; omega) | (simp <;> omega)) _ | with_reducible refine bl_trans ?_ (by with_reducible assumption)))
  · have t2 : (k == 2) = false := by simp [h2]
    have e1 : Hid ((nb fun i => if k = 2 then b i || decide (i = q) else b i) = nb b) := nb_congr fun i _ => by simp [h2]
    have e2 : Hid ((nb fun i => if k = 2 then d i else d i || decide (i = q)) = nb fun i => d i || decide (i = q)) := nb_congr fun i _ => by simp [h2]
    rw [e1.out, e2.out]
    clear e1 e2 h2
    go_enter Tryd.func38, Tryd.ntmps38
    go_wp2_with fail
    go_region_with (go_at_call 21; refine (bitOf_any _ _ hq).mono ?_; rintro e w' ⟨rfl, rfl⟩)
    all_goals
      go_wp2_with fail
      refine bodyPost_ret (v := .agg #[.int .u16 (nb b), .int .u16 (nb fun i => d i || decide (i = q))]) (by simp [results, Tryd.results38, go_sem]) rfl ⟨rfl, ?_⟩
      (repeat (first | with_reducible exact Below.refl _ _ | with_reducible refine bl_alloc ?_ _ | with_reducible refine bl_drewN ?_ _ | with_reducible refine bl_drew ?_ | with_reducible refine bl_setCell ?_ (by first | exact Nat.le_refl _ | (dsimp only; omega) | (simp <;> omega)) _ | with_reducible refine bl_trans ?_ (by with_reducible assumption)))

/-- moves onto a list of moves of the call's own. -/
theorem wpList_append_moves (w : World) {ops : Array Oper} {rest : List Oper} {o : Oper} {a : Act} {Q : Exit → Act → World → Prop}
    (hg : o.guard = none) (s x : Operand) (hop : o.op = Op.call { callee := Callee.builtin Builtin.append, args := #[s, x], argTypes := #[27, 27] })
    (B : Nat) (v : Value) (F : List (Int × Int)) (hs : a.eval s = v) (hv : MRow w B v F) (g c : Nat) (M : List (Int × Int)) (hx : a.eval x = .slice (some ⟨g, 0, none⟩) M.length c) (C : Nat) (hM : MRow w C (.slice (some ⟨g, 0, none⟩) M.length c) M) (hl : F.length ≤ 1048576) (hl2 : M.length ≤ 1048576) (hB : B ≤ w.heap.size)
    (hK : ∀ v' w', MRow w' B v' (F ++ M) → w.grownBy w' v.ownBlock → wpList Tryd.prog ops Q rest (a.put o.dst v') w') :
    wpList Tryd.prog ops Q (o :: rest) a w := by
  obtain ⟨ie, hie, he0, he1, he2⟩ := info_parts Tryd.infoMove
  refine wpList_append_own _ hg s x 27 hop B 62 ie (.agg #[.int .i64 0, .int .i64 0]) 2 16 Tryd.underlying27 hie he0 he1 he2 rfl (by decide) v F.length (ecells F) hs hv ⟨g, 0, none⟩ M.length c (ecells M) hx (ecells_len M) ?_ ?_ (by unfold maxLen; omega) (by omega) hB ?_
  · intro j u hj
    have hjl := (List.getElem?_eq_some_iff.1 hj).1
    rw [Addr.add_lit, Nat.zero_add, World.ownsRow.cellAt hM j (by rw [ecells_len] at hjl; omega)]
    exact hj
  · intro u hu
    simp only [ecells, List.mem_flatMap] at hu
    obtain ⟨p, _, hp⟩ := hu
    simp at hp
    rcases hp with rfl | rfl <;> rfl
  · intro v' w' h1 h2 _
    refine hK v' w' ?_ h2
    unfold MRow
    rw [List.length_append, ecells_app]
    exact h1

set_option maxHeartbeats 4000000 in
theorem moves_any (wk : Int) (L : List (Int × Int)) (A : List Int) (w : World) (hT : DbT w) (hA : Thr A) (hn : A.length ≤ 16) (hin : Inn A.length L) :
    Calls Tryd.prog 37 #[.agg (pl A.length (eF L) wk), .agg #[.int .u16 (nb (fB A)), .int .u16 (nb (fD A))]] w fun e w' => (∃ v, e = .returned v ∧ MRow w' w.heap.size v (mvs L wk A)) ∧ Below w.heap.size w w' := by
  have e1 : Hid (mvK 1 (fun i => fB A i && !fD A i) 16 = mvK 1 (run1 A) A.length) := by
    have h1 : mvK 1 (fun i => fB A i && !fD A i) 16 = mvK 1 (run1 A) 16 := mvK_congr 1 fun i _ => run_bits hA i
    have h2 := mv16 1 (f := run1 A) hn (fun i hi => by unfold run1; rw [List.getD_eq_getElem?_getD, List.getElem?_eq_none (by omega)]; rfl)
    exact h1.trans h2
  have e2 : Hid (mvK 2 (fun i => rdy (eF L) A.length (fD A) i && !fB A i) 16 = mvK 2 (rdA L A) A.length) := by
    have h1 : mvK 2 (fun i => rdy (eF L) A.length (fD A) i && !fB A i) 16 = mvK 2 (fun i => decide (i < A.length) && rdA L A i) 16 := mvK_congr 2 fun i _ => rdy_bits hA rfl hin hn i
    have h2 := mv16 2 (f := fun i => decide (i < A.length) && rdA L A i) hn (fun i hi => by simp; intro h; omega)
    have h3 : mvK 2 (fun i => decide (i < A.length) && rdA L A i) A.length = mvK 2 (rdA L A) A.length := mvK_congr 2 fun i hi => by simp [hi]
    exact h1.trans (h2.trans h3)
  have hE : Hid (mvs L wk A = mvK 1 (run1 A) A.length ++ if ((mvK 1 (run1 A) A.length).length : Int) < wk then mvK 2 (rdA L A) A.length else []) := rfl
  have lE := mvK_len 1 (run1 A) A.length
  have lF := mvK_len 2 (rdA L A) A.length
  obtain ⟨E, hEE⟩ : ∃ E, Hid (mvK 1 (run1 A) A.length = E) := ⟨_, rfl⟩
  obtain ⟨F, hFF⟩ : ∃ F, Hid (mvK 2 (rdA L A) A.length = F) := ⟨_, rfl⟩
  rw [hEE.out] at e1 hE lE
  rw [hFF.out] at e2 hE lF
  have kp := (Blk.new w (pl A.length (eF L) wk) 51).alloc (.cells #[.int .u16 (nb (fB A)), .int .u16 (nb (fD A))] 78)
  have kq := Blk.new' (w.alloc (.cells (pl A.length (eF L) wk) 51)) #[.int .u16 (nb (fB A)), .int .u16 (nb (fD A))] 78 (n := w.heap.size + 1) (by simp)
  have lX : Below w.heap.size w ((w.alloc (.cells (pl A.length (eF L) wk) 51)).alloc (.cells #[.int .u16 (nb (fB A)), .int .u16 (nb (fD A))] 78)) := bl_alloc (bl_alloc (Below.refl _ w) _) _
  obtain ⟨X, hX⟩ : ∃ X, (w.alloc (.cells (pl A.length (eF L) wk) 51)).alloc (.cells #[.int .u16 (nb (fB A)), .int .u16 (nb (fD A))] 78) = X := ⟨_, rfl⟩
  rw [hX] at kp kq lX
  have HX : Hid ((w.alloc (.cells (pl A.length (eF L) wk) 51)).alloc (.cells #[.int .u16 (nb (fB A)), .int .u16 (nb (fD A))] 78) = X) := hX
  have KP : Hid (Blk X w.heap.size (pl A.length (eF L) wk) 51) := kp
  have KQ : Hid (Blk X (w.heap.size + 1) #[.int .u16 (nb (fB A)), .int .u16 (nb (fD A))] 78) := kq
  have LX : Hid (Below w.heap.size w X) := lX
  have HT : Hid (DbT w) := hT
  clear kp kq lX hX hA hin hT
  go_enter Tryd.func37, Tryd.ntmps37
  go_wp2_with fail
  rw [HX.out]
  refine (running_any (fB A) (fD A) X).mono ?_
  rintro e w1 ⟨rfl, hb1⟩
  have L1 : Hid (Below w.heap.size w w1) := bl_trans LX.out hb1
  go_wp2_with fail
  refine (movesOf_any 1 _ w1 (HT.out.later L1.out)).mono ?_
  rintro e w2 ⟨⟨g2, c2, rfl, hM2⟩, hb2⟩
  rw [e1.out] at hM2 ⊢
  have b02 : Below X.heap.size X w2 := bl_trans hb1 hb2
  have KP2 : Hid (Blk w2 w.heap.size (pl A.length (eF L) wk) 51) := KP.out.later b02
  have KQ2 : Hid (Blk w2 (w.heap.size + 1) #[.int .u16 (nb (fB A)), .int .u16 (nb (fD A))] 78) := KQ.out.later b02
  have hs1 := L1.out.size
  have M2 : Hid (MRow w2 w.heap.size (.slice (some ⟨g2, 0, none⟩) E.length c2) E) := hM2.mono hs1
  have L2 : Hid (Below w.heap.size w w2) := bl_trans L1.out hb2
  have c17 : w2.cell? ⟨w.heap.size, 17, none⟩ = some (.int .i64 wk) := (KP2.out.cell 17).trans (pl_17 _ _ _)
  clear hb1 hb2 hM2 b02 KP KQ LX L1 e1
  by_cases hw : (E.length : Int) < wk
  · have tw : decide ((E.length : Int) < wk) = true := by simp [hw]
    have hE' : Hid (mvs L wk A = E ++ F) := by rw [hE.out, if_pos hw]; rfl
    have g1 := andNot16 (rdy (eF L) A.length (fD A)) (fB A)
    clear hE
    go_wp2_with fail
    refine wp_region_held_drew (S := fun W => Blk W w.heap.size (pl A.length (eF L) wk) 51 ∧ Blk W (w.heap.size + 1) #[.int .u16 (nb (fB A)), .int .u16 (nb (fD A))] 78) (by kernel_rfl) ?_ (fun hHeld => ?_)
    · exact ⟨KP2.out, KQ2.out⟩
    refine wpAnyH_one (i := 0) (d := 15) (v := ?_) rfl rfl (by kernel_rfl) (by kernel_rfl) (by kernel_rfl) (fun _ _ _ h => h) (by rfl) (by assumption) ?_ ?_
    rotate_left 1
    · intro w hSw; (try dsimp only at hSw); clear hSw; go_simp <;> with_reducible rfl
    simp only [List.foldl, Act.put, List.setIfInBounds_toArray, List.set_cons_zero, List.set_cons_succ]
    refine wpAnyH_one (i := 1) (d := 16) (v := .agg (lk (eF L))) rfl rfl (by kernel_rfl) (by kernel_rfl) (by kernel_rfl) (fun _ _ _ h => h) (by rfl) (by assumption) ?_ ?_
    · intro w hSw; exact run_load rfl rfl (load_plk _ _ _ _ _ hSw.1)
    simp only [List.foldl, Act.put, List.setIfInBounds_toArray, List.set_cons_zero, List.set_cons_succ]
    refine wpAnyH_one (i := 2) (d := 17) (v := ?_) rfl rfl (by kernel_rfl) (by kernel_rfl) (by kernel_rfl) (fun _ _ _ h => h) (by rfl) (by assumption) ?_ ?_
    rotate_left 1
    · intro w hSw; (try dsimp only at hSw); clear hSw; go_simp <;> with_reducible rfl
    simp only [List.foldl, Act.put, List.setIfInBounds_toArray, List.set_cons_zero, List.set_cons_succ]
    refine wpAnyH_one (i := 3) (d := 18) (v := ?_) rfl rfl (by kernel_rfl) (by kernel_rfl) (by kernel_rfl) (fun _ _ _ h => h) (by rfl) (by assumption) ?_ ?_
    rotate_left 1
    · intro w hSw; (try dsimp only at hSw); have c0 := (hSw.1.cell 0).trans (pl_0 _ _ _); clear hSw; go_simp <;> with_reducible rfl
    simp only [List.foldl, Act.put, List.setIfInBounds_toArray, List.set_cons_zero, List.set_cons_succ]
    refine wpAnyH_one (i := 4) (d := 19) (v := ?_) rfl rfl (by kernel_rfl) (by kernel_rfl) (by kernel_rfl) (fun _ _ _ h => h) (by rfl) (by assumption) ?_ ?_
    rotate_left 1
    · intro w hSw; (try dsimp only at hSw); clear hSw; go_simp <;> with_reducible rfl
    simp only [List.foldl, Act.put, List.setIfInBounds_toArray, List.set_cons_zero, List.set_cons_succ]
    refine wpAnyH_one (i := 5) (d := 20) (v := ?_) rfl rfl (by kernel_rfl) (by kernel_rfl) (by kernel_rfl) (fun _ _ _ h => h) (by rfl) (by assumption) ?_ ?_
    rotate_left 1
    · intro w hSw; (try dsimp only at hSw); have c0 := hSw.2.two.2.1; clear hSw; go_simp <;> with_reducible rfl
    simp only [List.foldl, Act.put, List.setIfInBounds_toArray, List.set_cons_zero, List.set_cons_succ]
    refine wpAnyH_one (i := 7) (d := 22) (v := ?_) rfl rfl (by kernel_rfl) (by kernel_rfl) (by kernel_rfl) (fun _ _ _ h => h) (by rfl) (by assumption) ?_ ?_
    rotate_left 1
    · intro w hSw; (try dsimp only at hSw); clear hSw; go_simp <;> with_reducible rfl
    simp only [List.foldl, Act.put, List.setIfInBounds_toArray, List.set_cons_zero, List.set_cons_succ]
    refine wpAnyH_one (i := 8) (d := 23) (v := ?_) rfl rfl (by kernel_rfl) (by kernel_rfl) (by kernel_rfl) (fun _ _ _ h => h) (by rfl) (by assumption) ?_ ?_
    rotate_left 1
    · intro w hSw; (try dsimp only at hSw); have c0 := hSw.2.two.1; clear hSw; go_simp <;> with_reducible rfl
    simp only [List.foldl, Act.put, List.setIfInBounds_toArray, List.set_cons_zero, List.set_cons_succ]
    refine wpAnyH_ready (rs := [6]) (by kernel_rfl) (by simp) ?_
    refine AllReadyH.cons rfl (fun K hK => ?_) AllReadyH.nil
    go_simp
    refine (ready_any (eF L) A.length (fD A) _ hn).mono ?_
    rintro z w3 ⟨rfl, hb3⟩
    have b3 : Below w2.heap.size w2 w3 := bl_trans (bl_drew (Below.refl _ _)) hb3
    refine hK.out _ _ ⟨KP2.out.later b3, KQ2.out.later b3⟩ (fun hHeld => ?_)
    clear hK K
    try simp only [List.foldl, Act.put, List.setIfInBounds_toArray, List.set_cons_zero, List.set_cons_succ]
    refine wpAnyH_one (i := 9) (d := 24) (v := ?_) rfl rfl (by kernel_rfl) (by kernel_rfl) (by kernel_rfl) (fun _ _ _ h => h) (by rfl) (by assumption) ?_ ?_
    rotate_left 1
    · intro w hSw; (try dsimp only at hSw); clear hSw; go_simp <;> with_reducible rfl
    simp only [List.foldl, Act.put, List.setIfInBounds_toArray, List.set_cons_zero, List.set_cons_succ]
    refine wpAnyH_one (i := 10) (d := 6) (v := ?_) rfl rfl (by kernel_rfl) (by kernel_rfl) (by kernel_rfl) (fun _ _ _ h => h) (by rfl) (by assumption) ?_ ?_
    rotate_left 1
    · intro w hSw; (try dsimp only at hSw); clear hSw; go_simp <;> with_reducible rfl
    simp only [List.foldl, Act.put, List.setIfInBounds_toArray, List.set_cons_zero, List.set_cons_succ]
    refine wpAnyH_done (by kernel_rfl) ?_ _
    try simp only [List.foldl, Act.put, List.setIfInBounds_toArray, List.set_cons_zero, List.set_cons_succ]
    have M3 : Hid (MRow w3 w.heap.size (.slice (some ⟨g2, 0, none⟩) E.length c2) E) := M2.out.later b3
    have L3 : Hid (Below w.heap.size w w3) := bl_trans L2.out b3
    clear hb3 b3 KP2 KQ2 M2 L2 c17
    go_wp2_with fail
    refine (movesOf_any 2 _ w3 (HT.out.later L3.out)).mono ?_
    rintro e w4 ⟨⟨g4, c4, rfl, hM4⟩, hb4⟩
    rw [e2.out] at hM4 ⊢
    have M4 : Hid (MRow w4 w.heap.size (.slice (some ⟨g2, 0, none⟩) E.length c2) E) := M3.out.later hb4
    have L4 : Hid (Below w.heap.size w w4) := bl_trans L3.out hb4
    have hs4 := L4.out.size
    have N4 : Hid (MRow w4 w3.heap.size (.slice (some ⟨g4, 0, none⟩) F.length c4) F) := hM4
    clear hM4 hb4 M3 L3
    go_wp2_with (at_builtin; refine wpList_append_moves _ rfl (.tmp 25) (.tmp 27) rfl w.heap.size (.slice (some ⟨g2, 0, none⟩) E.length c2) E rfl M4.out g4 c4 F rfl _ N4.out (by omega) (by omega) hs4 ?_)
    intro v' w5 hv' hg'
    have L5 : Hid (Below w.heap.size w w5) := grown_mr L4.out hs4 M4.out hg'
    go_wp2_with fail
    go_ret
    refine ⟨⟨_, rfl, ?_⟩, L5.out⟩
    rw [hE'.out]
    exact hv'
  · have tw : decide ((E.length : Int) < wk) = false := by simp; omega
    have hE' : Hid (mvs L wk A = E) := by rw [hE.out, if_neg hw, List.append_nil]; rfl
    go_wp2_with fail
    go_ret
    refine ⟨⟨_, rfl, ?_⟩, L2.out⟩
    rw [hE'.out]
    exact M2.out
end Go.Proofs.YtigllpegaljkmaaDoor
