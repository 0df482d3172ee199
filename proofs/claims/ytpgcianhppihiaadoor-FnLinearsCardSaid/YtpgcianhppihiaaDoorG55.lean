import Derived.Test.YtpgcianhppihiaaDoorG54
namespace Go.Proofs.YtpgcianhppihiaaDoor
open Go.RowKit
set_option linter.unusedVariables false
set_option linter.unusedSimpArgs false

theorem lk_lit (R : Nat → Nat → Bool) : lk R = #[.int .u16 (nb (R 0)), .int .u16 (nb (R 1)), .int .u16 (nb (R 2)), .int .u16 (nb (R 3)), .int .u16 (nb (R 4)), .int .u16 (nb (R 5)), .int .u16 (nb (R 6)), .int .u16 (nb (R 7)), .int .u16 (nb (R 8)), .int .u16 (nb (R 9)), .int .u16 (nb (R 10)), .int .u16 (nb (R 11)), .int .u16 (nb (R 12)), .int .u16 (nb (R 13)), .int .u16 (nb (R 14)), .int .u16 (nb (R 15))] := rfl
theorem fill16 (a0 a1 a2 a3 a4 a5 a6 a7 a8 a9 a10 a11 a12 a13 a14 a15 z : Value) : Array.foldl (fun (cs : Array Value) (x : Value × Nat) => cs.setIfInBounds x.snd x.fst) #[z, z, z, z, z, z, z, z, z, z, z, z, z, z, z, z] (#[a0, a1, a2, a3, a4, a5, a6, a7, a8, a9, a10, a11, a12, a13, a14, a15]).zipIdx 0 16 = #[a0, a1, a2, a3, a4, a5, a6, a7, a8, a9, a10, a11, a12, a13, a14, a15] := by kernel_rfl
theorem fill_lk (R : Nat → Nat → Bool) : Array.foldl (fun (cs : Array Value) (x : Value × Nat) => cs.setIfInBounds x.snd x.fst) #[.int .u16 0, .int .u16 0, .int .u16 0, .int .u16 0, .int .u16 0, .int .u16 0, .int .u16 0, .int .u16 0, .int .u16 0, .int .u16 0, .int .u16 0, .int .u16 0, .int .u16 0, .int .u16 0, .int .u16 0, .int .u16 0] (lk R).zipIdx 0 16 = lk R := by
  rw [lk_lit]; exact fill16 _ _ _ _ _ _ _ _ _ _ _ _ _ _ _ _ _
theorem BK.one (w : World) (L : List (Int × Int)) : BK (w.alloc (.cells (lk (eF L)) 51)) w.heap.size (.slice (some ⟨w.heap.size, 0, none⟩) 1 1) L 1 := by
  have := World.ownsRow_lit (base := w.heap.size) (e := 51) (size := 16) w (lk (eF L)) 1 (Nat.le_refl _) (by unfold maxLen; omega) (by rw [lk_size])
  unfold BK
  have e : bkCells L 1 = (lk (eF L)).toList := by rw [bkCells_succ]; simp [bkCells, bk]
  rw [e]; exact this
theorem BK.load {w : World} {L : List (Int × Int)} {D g d : Nat} (hd : d < D) (hc : ∀ d i, d < D → i < 16 → w.cell? ⟨g, d * 16 + i, none⟩ = some (.int .u16 (nb (bk L d i)))) : (loadVar 51 ⟨g, d * 16, none⟩).run Tryd.prog w = .ok (.agg (lk (bk L d))) w := by
  have := run_loadVar_mid (P := Tryd.prog) w g (d * 16) 51 (lk (bk L d)).toList _ (fun i v hv => by
    have hi : i < 16 := by
      have := (List.getElem?_eq_some_iff.1 hv).1
      simpa [lk_size] using this
    rw [hc d i hd hi]
    have := lk_cell (bk L d) hi
    rw [← this]; simpa using hv) Tryd.underlying51 rfl (by rw [Tryd.infoLk]; simp [lk_size])
  simpa using this
theorem Tryd.infoLkz : (Tryd.prog.info? 51).map (fun i => (i.zero, i.size, i.bytes)) = some (some (.agg #[.int .u16 0, .int .u16 0, .int .u16 0, .int .u16 0, .int .u16 0, .int .u16 0, .int .u16 0, .int .u16 0, .int .u16 0, .int .u16 0, .int .u16 0, .int .u16 0, .int .u16 0, .int .u16 0, .int .u16 0, .int .u16 0]), 16, 32) := by kernel_rfl
theorem BK.apart {w : World} {B D : Nat} {v : Value} {L : List (Int × Int)} (h : BK w B v L D) {m : Nat} {c : Array Value} (hb : Blk w m c 51) (hm : m < B) : ¬ v.ownBlock = some m := by
  intro e
  have := (World.ownsRow.lt h m e).1
  omega

theorem add0 (b j : Nat) : (⟨b, 0, none⟩ : Addr).add j = ⟨b, j, none⟩ := by unfold Addr.add; split <;> simp_all
theorem wp_load_run {o : Oper} {a : Act} {w : World} {K : Act → World → Prop} {Q : Exit → Act → World → Prop} (t : TypeId) (x : Operand) (ho : o.op = .load t x) (p : Addr) (hx : a.eval x = .pointer (some p)) (v : Value) (hr : (loadVar t p).run Tryd.prog w = .ok v w) (h : K (a.put o.dst v) w) : o.wp Tryd.prog a w K Q := by
  unfold Oper.wp execOp
  simp only [ho, hx, Instr.loadAt, Instr.sureAddr, Sem.run_bind, Sem.run_pure, Result.andThen_ok, hr]
  exact h

set_option maxRecDepth 100000 in
set_option maxHeartbeats 8000000 in
theorem implCircle_any (n : Int) (s : Option Addr) (c : Nat) (L : List (Int × Int)) (w : World) (hL : Eds w s L) (hl : L.length ≤ 1048576) (hT : DbT w) :
    Calls Tryd.prog 10 #[.int .i64 n, .slice s L.length c] w fun e w' => ∃ so co, e = .returned (.slice so (circB n L).length co) ∧ VRow w' w.heap.size (.slice so (circB n L).length co) (circB n L) ∧ Below w.heap.size w w' := by
  have hal := alloc_old
  have haf := alloc_oldf
  cases hg : gOk n L
  · have hA : Hid (circB n L = []) := circB_no (fun g => by rw [hg] at g; cases g.1)
    go_enter Tryd.func10, Tryd.ntmps10
    go_wp2_with fail
    go_step3
    go_wp2_with (go_at_call 29; refine (implGraphOk_any _ _ _ L _ hL hl).mono ?_; rintro e w' ⟨rfl, hb1⟩; rw [hg])
    rw [Exit.noGoto_ret]
    go_ret
    rw [hA.out]
    exact ⟨_, _, rfl, World.ownsRow_nil _ _ _ _, hb1⟩
  · obtain ⟨m, rfl, hm, hl2, hin, h16⟩ := gOk_open hg
    have HI : Hid (Inn m L) := hin
    have H16 : Hid (In16 L) := h16
    have HG : Hid (gOk m L = true) := hg
    have HT : Hid (DbT w) := hT
    obtain ⟨il, hil, hil0, hil1, hil2⟩ := info_parts Tryd.infoLkz
    go_enter Tryd.func10, Tryd.ntmps10
    go_wp2_with fail
    go_step3
    go_upto_region 4 with (first
      | (go_at_call 29; refine (implGraphOk_any _ _ _ L _ hL hl).mono ?_; rintro e w1 ⟨rfl, hb1⟩; rw [hg])
      | (go_at_call 30; refine (linksOf_any _ _ L _ (hL.later hb1) hl h16).mono ?_; rintro e w2 ⟨rfl, hb2⟩)
      | refine wpList_store_row rfl 51 (.tmp 5) (.tmp 18) rfl w2.heap.size (lk (eR L)) rfl rfl _ _ (blk2 w2 _ _ _ _).1 (by rw [Tryd.infoLk, lk_size]) (by rw [lk_size]; rfl) (lk_one _) ?_
      | refine wpList_store_row rfl 51 (.tmp 6) (.tmp 19) rfl (w2.heap.size + 1) (lk (eF L)) rfl rfl _ _ ((setRow_other _ _ _ _ (by omega)).trans (blk2 w2 _ _ _ _).2) (by rw [Tryd.infoLk, lk_size]) (by rw [lk_size]; rfl) (lk_one _) ?_)
    rw [← lk_zero]
    obtain ⟨k0, k1, l3⟩ := two_lk w2 (eR L) (eF L)
    have L3 : Hid (Below w.heap.size w (twoW w2 (eR L) (eF L))) := bl_trans (bl_trans hb1 hb2) l3
    have hgb : Hid (w.heap.size ≤ w2.heap.size) := (bl_trans hb1 hb2).size
    clear hb1 hb2 l3 hT hL hin h16 hl2 hg
    change Code.wp _ _ _ _ (twoW w2 (eR L) (eF L))
    generalize twoW w2 (eR L) (eF L) = X at k0 k1 L3 ⊢
    generalize w2.heap.size = gb at k0 k1 hgb ⊢
    have hgX : Hid (gb + 1 < X.heap.size) := k1.lt
    have hwX : Hid (w.heap.size ≤ X.heap.size) := L3.out.size
    have hsz := lk_size (eF L)
    go_upto_region 5 with (refine wpList_load_row rfl 51 (.tmp 6) rfl (gb + 1) rfl _ _ _ _ k1 Tryd.underlying51 rfl (by rw [Tryd.infoLk, lk_size]) ?_)
    rw [fill_lk]
    clear hsz
    have hbk : Hid (BK (X.alloc (.cells (lk (eF L)) 51)) X.heap.size (.slice (some ⟨X.heap.size, 0, none⟩) 1 1) L 1) := BK.one X L
    have K0 : Hid (Blk (X.alloc (.cells (lk (eF L)) 51)) gb (lk (eR L)) 51) := k0.alloc _
    have K1 : Hid (Blk (X.alloc (.cells (lk (eF L)) 51)) (gb + 1) (lk (eF L)) 51) := k1.alloc _
    have hb : Hid (Below w.heap.size w (X.alloc (.cells (lk (eF L)) 51))) := bl_alloc L3.out _
    clear k0 k1 L3
    generalize X.alloc (.cells (lk (eF L)) 51) = Y at hbk K0 K1 hb ⊢
    generalize X.heap.size = B at hbk hgX hwX ⊢
    go_wp2_with fail
    go_step3
    go_wp2_with fail
    go_loopg [7, 8, 23] m (fun g bv cv lv wr => ∃ d : Nat, d + g = m ∧ lv = .int .i64 d ∧ cv = .slice none 0 0 ∧ Hid (BK wr B bv L (d + 1)) ∧ Hid (∀ e y, 1 ≤ e → e ≤ d → ¬ wk (eR L) e y y) ∧ Hid (Blk wr gb (lk (eR L)) 51) ∧ Hid (Blk wr (gb + 1) (lk (eF L)) 51) ∧ Hid (Below w.heap.size w wr))
    case atStart => exact ⟨0, by omega, rfl, rfl, hbk, fun e y h1 h2 => by omega, K0, K1, hb⟩
    case round =>
      clear hbk K0 K1 hb
      obtain ⟨d, hdg, rfl, rfl, hbk, hno, K0, K1, hb⟩ := hrel
      cases gk with
      | zero =>
        have hdm : Hid (d = m) := by show _ = _; omega
        have hA : Hid (circB m L = []) := circB_none (fun e x h1 h2 => hno.out e x h1 (by rw [hdm.out]; exact h2))
        have hz : ¬ ((d : Int) < (m : Int)) := by omega
        have hzn : ¬ d < m := by omega
        go_wp2_with fail
        go_ret
        rw [hA.out]
        exact ⟨_, _, rfl, World.ownsRow_nil _ _ _ _, hb.out⟩
      | succ g =>
        have hdm : d < m := by omega
        have hdI : (d : Int) < (m : Int) := by omega
        obtain ⟨gg, cap, hu7, hg1, hcell⟩ := hbk.out.form (by omega)
        subst hu7
        have HC : Hid (∀ e i, e < d + 1 → i < 16 → wr.cell? ⟨gg, e * 16 + i, none⟩ = some (.int .u16 (nb (bk L e i)))) := hcell
        clear hcell
        go_wp2_with fail
        go_loopg [8, 27] m (fun g2 cv xv wy => ∃ x : Nat, x + g2 = m ∧ xv = .int .i64 x ∧ cv = .slice none 0 0 ∧ Hid (∀ y, y < x → ¬ wk (eR L) (d + 1) y y) ∧ wy = wr)
        case atStart => exact ⟨0, by omega, rfl, rfl, fun y hy => absurd hy (by omega), rfl⟩
        case round =>
          obtain ⟨x, hxg, rfl, rfl, hnx, hwr⟩ := hrel
          subst hwr
          cases gk with
          | zero =>
            have hxz : ¬ ((x : Int) < (m : Int)) := by omega
            have hxzn : ¬ x < m := by omega
            go_wp2_with fail
            have hload : ∀ W : World, Below wr.heap.size wr W → (loadVar 51 ⟨gg, d * 16, none⟩).run Tryd.prog W = .ok (.agg (lk (bk L d))) W := fun W hW => BK.load (D := d + 1) (by omega) (fun e i h1 h2 => (hW.cell (p := ⟨gg, e * 16 + i, none⟩) hg1).trans (HC.out e i h1 h2))
            have HLd : Hid (∀ W : World, Below wr.heap.size wr W → (loadVar 51 ⟨gg, d * 16, none⟩).run Tryd.prog W = .ok (.agg (lk (bk L d))) W) := hload
            clear hload
            have hsz := lk_size (thr (eF L) (bk L d))
            have hd1 : (d : Int) < (d : Int) + 1 := by omega
            have hno2 : Hid (∀ e y, 1 ≤ e → e ≤ d + 1 → ¬ wk (eR L) e y y) := by
              intro e y h1 h2 g
              by_cases q : e ≤ d
              · exact hno.out e y h1 q g
              · have eq : e = d + 1 := by omega
                subst eq
                have hy : y < m := by
                  obtain ⟨z, _, hz⟩ := g
                  exact (HI.out.sup z y hz).2
                exact hnx.out y (by omega) g
            refine wp_region_held_drew (S := fun W => Blk W (gb + 1) (lk (eF L)) 51) (by kernel_rfl) ?_ (fun hHeld => ?_)
            · exact K1.out
            refine wpAnyH_one (i := 0) (d := 43) (v := ?_) rfl rfl (by kernel_rfl) (by kernel_rfl) (by kernel_rfl) (fun _ _ _ h => h) (by rfl) (by assumption) ?_ ?_
            rotate_left 1
            · intro w hSw; (try dsimp only at hSw); clear hSw; go_simp <;> with_reducible rfl
            simp only [List.foldl, Act.put, List.setIfInBounds_toArray, List.set_cons_zero, List.set_cons_succ]
            refine wpAnyH_one (i := 1) (d := 44) (v := .agg (lk (eF L))) rfl rfl (by kernel_rfl) (by kernel_rfl) (by kernel_rfl) (fun _ _ _ h => h) (by rfl) (by assumption) ?_ ?_
            · intro w hSw; exact run_load rfl rfl (load_lk _ _ _ hSw)
            simp only [List.foldl, Act.put, List.setIfInBounds_toArray, List.set_cons_zero, List.set_cons_succ]
            refine wpAnyH_one (i := 2) (d := 45) (v := ?_) rfl rfl (by kernel_rfl) (by kernel_rfl) (by kernel_rfl) (fun _ _ _ h => h) (by rfl) (by assumption) ?_ ?_
            rotate_left 1
            · intro w hSw; (try dsimp only at hSw); clear hSw; go_simp <;> with_reducible rfl
            simp only [List.foldl, Act.put, List.setIfInBounds_toArray, List.set_cons_zero, List.set_cons_succ]
            refine wpAnyH_one (i := 3) (d := 46) (v := ?_) rfl rfl (by kernel_rfl) (by kernel_rfl) (by kernel_rfl) (fun _ _ _ h => h) (by rfl) (by assumption) ?_ ?_
            rotate_left 1
            · intro w hSw; (try dsimp only at hSw); clear hSw; go_simp <;> with_reducible rfl
            simp only [List.foldl, Act.put, List.setIfInBounds_toArray, List.set_cons_zero, List.set_cons_succ]
            refine wpAnyH_one (i := 4) (d := 47) (v := ?_) rfl rfl (by kernel_rfl) (by kernel_rfl) (by kernel_rfl) (fun _ _ _ h => h) (by rfl) (by assumption) ?_ ?_
            rotate_left 1
            · intro w hSw; (try dsimp only at hSw); clear hSw; go_simp <;> with_reducible rfl
            simp only [List.foldl, Act.put, List.setIfInBounds_toArray, List.set_cons_zero, List.set_cons_succ]
            refine wpAnyH_ready (rs := [5]) (by kernel_rfl) (by simp) ?_
            refine AllReadyH.cons rfl (fun K hK => ?_) AllReadyH.nil
            refine wp_load_run 51 (.tmp 47) rfl ⟨gg, d * 16, none⟩ rfl (.agg (lk (bk L d))) (HLd.out _ (bl_drew (Below.refl _ _))) ?_
            refine hK.out _ _ K1.out (fun hHeld => ?_)
            clear hK K
            try simp only [List.foldl, Act.put, List.setIfInBounds_toArray, List.set_cons_zero, List.set_cons_succ]
            refine wpAnyH_ready (rs := [6]) (by kernel_rfl) (by simp) ?_
            refine AllReadyH.cons rfl (fun K hK => ?_) AllReadyH.nil
            go_simp
            refine (through_any (eF L) (bk L d) _).mono ?_
            rintro e w3 ⟨rfl, hb3⟩
            have m3 : Hid (Below wr.heap.size wr w3) := bl_trans (bl_drew (Below.refl _ wr)) hb3
            clear hb3
            refine hK.out _ _ (K1.out.later m3.out) (fun hHeld => ?_)
            clear hK K
            try simp only [List.foldl, Act.put, List.setIfInBounds_toArray, List.set_cons_zero, List.set_cons_succ]
            refine wpAnyH_ready (rs := [7]) (by kernel_rfl) (by simp) ?_
            refine AllReadyH.cons rfl (fun K hK => ?_) AllReadyH.nil
            go_simp
            rw [fill_lk]
            have m4 : Hid (Below wr.heap.size wr (w3.alloc (.cells (lk (thr (eF L) (bk L d))) 51))) := bl_alloc m3.out _
            have hnb : Hid (Blk (w3.alloc (.cells (lk (thr (eF L) (bk L d))) 51)) w3.heap.size (lk (thr (eF L) (bk L d))) 51) := Blk.new _ _ _
            refine hK.out _ _ (K1.out.later m4.out) (fun hHeld => ?_)
            clear hK K
            try simp only [List.foldl, Act.put, List.setIfInBounds_toArray, List.set_cons_zero, List.set_cons_succ]
            have hs3 : Hid (wr.heap.size ≤ w3.heap.size) := m3.out.size
            generalize w3.alloc (.cells (lk (thr (eF L) (bk L d))) 51) = Z at m4 hnb hHeld ⊢
            generalize w3.heap.size = nbk at hnb hs3 ⊢
            have hbk4 : BK Z B (.slice (some ⟨gg, 0, none⟩) (d + 1) cap) L (d + 1) := hbk.out.later m4.out
            have hBg : B ≤ gg := (World.ownsRow.lt hbk.out gg rfl).1
            refine wpAnyH_ready (rs := [8]) (by kernel_rfl) (by simp) ?_
            refine AllReadyH.cons rfl (fun K hK => ?_) AllReadyH.nil
            refine wp_append_own Z (.tmp 43) (.tmp 50) 57 rfl B 51 il _ 16 32 Tryd.underlying57 hil hil0 hil1 hil2 rfl (by decide) (.slice (some ⟨gg, 0, none⟩) (d + 1) cap) (d + 1) (bkCells L (d + 1)) rfl hbk4 ⟨nbk, 0, none⟩ 1 1 (lk (thr (eF L) (bk L d))).toList rfl (by simp [lk_size]) (fun j u hj => by rw [add0, hnb.out.cell]; exact (Array.getElem?_toList (xs := lk (thr (eF L) (bk L d)))).symm.trans hj) (fun u hu => by have := lk_one (thr (eF L) (bk L d)); rw [Array.all_eq_true_iff_forall_mem] at this; exact this u (by simpa using hu)) (by unfold maxLen; omega) (by omega) (by have := m4.out.size; omega) ?_
            intro v' w5 hv5 hg5 _
            have hv5 : Hid (BK w5 B v' L (d + 1 + 1)) := by
              show World.ownsRow _ _ _ _ _ _ _
              rw [bkCells_succ]; exact hv5
            have hg5 : Z.grownBy w5 (some gg) := hg5
            have hlt := hgX.out
            have K0' : Hid (Blk w5 gb (lk (eR L)) 51) := (K0.out.later m4.out).kept hg5 (by omega)
            have K1' : Hid (Blk w5 (gb + 1) (lk (eF L)) 51) := (K1.out.later m4.out).kept hg5 (by omega)
            have hbz : Below w.heap.size w Z := bl_trans hb.out m4.out
            have hb5 : Hid (Below w.heap.size w w5) := hbz.trans (grown_below hg5 (by have := hwX.out; omega) hbz.size)
            refine hK.out _ _ K1'.out (fun hHeld => ?_)
            clear hK K
            try simp only [List.foldl, Act.put, List.setIfInBounds_toArray, List.set_cons_zero, List.set_cons_succ]
            refine wpAnyH_one (i := 9) (d := 7) (v := ?_) rfl rfl (by kernel_rfl) (by kernel_rfl) (by kernel_rfl) (fun _ _ _ h => h) (by rfl) (by assumption) ?_ ?_
            rotate_left 1
            · intro w hSw; (try dsimp only at hSw); clear hSw; go_simp <;> with_reducible rfl
            simp only [List.foldl, Act.put, List.setIfInBounds_toArray, List.set_cons_zero, List.set_cons_succ]
            refine wpAnyH_done (by kernel_rfl) ?_ _
            clear hbk4 hbz hg5 hnb m4 m3 hs3 hlt hBg hsz HLd hnx hno
            go_wp2_with fail
            go_roundg g
            case measure => omega
            case rel => exact ⟨d + 1, by omega, by go_num, rfl, hv5, hno2, K0', K1', hb5⟩
          | succ g2 =>
            have hxm : x < m := by omega
            have hxI : (x : Int) < (m : Int) := by omega
            have hx16 : x < 16 := by omega
            have hx16I : (x : Int) < 16 := by omega
            have c1 := HC.out d x (by omega) hx16
            have hd1 : (d : Int) < (d : Int) + 1 := by omega
            cases hq : bk L d x x
            · have hnx' : Hid (∀ y, y < x + 1 → ¬ wk (eR L) (d + 1) y y) := by
                intro y hy g
                by_cases e : y < x
                · exact hnx.out y e g
                · have : y = x := by omega
                  subst this
                  rw [(bk_iff H16.out d y y).2 g] at hq
                  cases hq
              go_wp2_with (go_at_call 34; refine (has_any _ _ _ hx16).mono ?_; rintro e w' ⟨rfl, hq'⟩; subst hq'; rw [hq])
              go_roundg g2
              case measure => omega
              case rel => exact ⟨x + 1, by omega, by go_num, rfl, hnx', rfl⟩
            · have hmin : Hid (MinC (eR L) m (d + 1) x) := ⟨by omega, by omega, hxm, (bk_iff H16.out d x x).1 hq, fun e y h1 h2 => hno.out e y h1 (by omega), hnx.out⟩
              have hA : Hid (circB m L = (cSq (eR L) m (d + 1) x (d + 1 - 1)).1) := circB_is HG.out hmin.out
              go_wp2_with (first
                | (go_at_call 34; refine (has_any _ _ _ hx16).mono ?_; rintro e w' ⟨rfl, hq'⟩; subst hq'; rw [hq])
                | refine wpList_load_row rfl 51 (.tmp 5) rfl gb rfl _ _ _ _ K0.out Tryd.underlying51 rfl (by rw [Tryd.infoLk, lk_size]) ?_
                | (go_at_call 35; refine (circleFrom_any L m (d + 1) x gg cap _ HI.out H16.out hm hmin.out hg1 HC.out (HT.out.later hb.out)).mono ?_; rintro e w3 ⟨so, co, rfl, hv3, hb3⟩; rw [← hA.out] at hv3 ⊢))
              rw [Exit.noGoto_ret]
              go_ret
              exact ⟨so, co, rfl, hv3.mono hb.out.size, bl_trans hb.out hb3⟩
end Go.Proofs.YtpgcianhppihiaaDoor
