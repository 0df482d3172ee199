import Derived.Test.YtnbckfeclfbafaaDoorG51
namespace Go.Proofs.YtnbckfeclfbafaaDoor
open Go.RowKit
set_option linter.unusedVariables false
set_option linter.unusedSimpArgs false

theorem nxC_is {R : Nat → Nat → Bool} {n x left y z : Nat} (hz : z < n) (h : (R y z && rch R n z left x) = true) (h0 : ∀ q, q < z → (R y q && rch R n q left x) = false) : nxC R n x left y = some z := by
  unfold nxC
  rw [List.find?_range_eq_some]
  exact ⟨h, by simpa using hz, fun q hq => by simp [h0 q hq]⟩

theorem VRow.rd {w : World} {B : Nat} {s : Option Addr} {n c : Nat} {G : List Int} (h : VRow w B (.slice s n c) G) : Ints w s G := by
  obtain ⟨s', c', e, hi⟩ := h.slice
  simp only [Value.slice.injEq] at e
  obtain ⟨rfl, -, -⟩ := e
  exact hi

set_option maxRecDepth 100000 in
set_option maxHeartbeats 8000000 in
theorem specCircle_any (n : Int) (s : Option Addr) (c : Nat) (L : List (Int × Int)) (w : World) (hL : Eds w s L) (hl : L.length ≤ 1048576) :
    Calls Tryd.prog 15 #[.int .i64 n, .slice s L.length c] w fun e w' => ∃ so co, e = .returned (.slice so (circB n L).length co) ∧ VRow w' w.heap.size (.slice so (circB n L).length co) (circB n L) ∧ Below w.heap.size w w' := by
  have HL : Hid (Eds w s L) := hL
  clear hL
  have hrow0 : VRow (w.alloc (.cells #[] 3)) w.heap.size (.slice (some ⟨w.heap.size, 0, none⟩) 0 0) [] :=
    World.ownsRow_lit (base := w.heap.size) (e := 3) (size := 1) w #[] 0 (Nat.le_refl _) (by unfold maxLen; omega) (by simp)
  have hbb : Below w.heap.size w (w.alloc (.cells #[] 3)) := bl_alloc (Below.refl _ _) _
  cases hg : gOk n L
  · have hA : Hid (circB n L = []) := circB_no (fun g => by rw [hg] at g; cases g.1)
    go_enter Tryd.func15, Tryd.ntmps15
    go_wp2_with (go_at_call 20; refine (specGraphOk_any _ _ _ L _ (HL.out.later hbb) hl).mono ?_; rintro e w' ⟨rfl, hq⟩; subst hq; rw [hg])
    go_ret
    rw [hA.out]
    exact ⟨_, _, rfl, hrow0, hbb⟩
  · obtain ⟨m, rfl, hm, hl2, hin, h16⟩ := gOk_open hg
    have HI : Hid (Inn m L) := hin
    have HG : Hid (gOk m L = true) := hg
    clear hin h16 hl2
    go_enter Tryd.func15, Tryd.ntmps15
    go_wp2_with (go_at_call 20; refine (specGraphOk_any _ _ _ L _ (HL.out.later hbb) hl).mono ?_; rintro e w' ⟨rfl, hq⟩; subst hq; rw [hg])
    have hrow0 : Hid (VRow (w.alloc (.cells #[] 3)) w.heap.size (.slice (some ⟨w.heap.size, 0, none⟩) 0 0) []) := hrow0
    have hbb : Hid (Below w.heap.size w (w.alloc (.cells #[] 3))) := hbb
    generalize w.alloc (.cells #[] 3) = X at hrow0 hbb ⊢
    generalize hgs : w.heap.size = g0 at hrow0 hbb ⊢
    have HG0 : Hid (w.heap.size = g0) := hgs
    clear hgs hg
    go_loopw [6, 7, 8] (fun bv fv xv wr => ∃ j best first : Nat, j ≤ m ∧ first ≤ 16 ∧ best ≤ 16 ∧ xv = .int .i64 ((j : Int) - 1) ∧ bv = .int .i64 best ∧ fv = .int .i64 first ∧ Hid (Bst (eR L) m j best first) ∧ Hid (VRow wr g0 (.slice (some ⟨g0, 0, none⟩) 0 0) []) ∧ Hid (Below g0 w wr)) (fun _ _ xv _ => (intOf xv + 1).toNat)
    case atStart => exact ⟨m, 0, 0, Nat.le_refl _, by omega, by omega, by go_num, rfl, rfl, Or.inl ⟨rfl, fun y h1 h2 => by omega⟩, hrow0, hbb⟩
    case round =>
      clear hrow0 hbb
      obtain ⟨j, best, first, hj, hf16, hb16, rfl, rfl, rfl, hB, hrow, hb⟩ := hrel
      have hbw : Hid (Below w.heap.size w wr) := by rw [HG0.out]; exact hb
      by_cases hj0 : 0 < j
      · obtain ⟨x, rfl⟩ : ∃ x, j = x + 1 := ⟨j - 1, by omega⟩
        have hx : x < m := by omega
        have e1 : ((x + 1 : Nat) : Int) - 1 = (x : Int) := by omega
        rw [e1]
        have hdle : wayF (eR L) m x x ≤ m := by
          rcases way_cases (eR L) m x x with ⟨q, _⟩ | ⟨d, hd, q, _, _⟩ <;> omega
        obtain ⟨d, hd⟩ : ∃ d, Hid (wayF (eR L) m x x = d) := ⟨_, rfl⟩
        rw [hd.out] at hdle
        have htake : Hid (0 < d → (best = 0 ∨ d ≤ best) → Bst (eR L) m x d x) := fun h1 h2 => by
          have := hB.out.take hx (by rw [hd.out]; exact h1) (by rw [hd.out]; exact h2)
          rwa [hd.out] at this
        have hskip : Hid (d = 0 ∨ (0 < best ∧ best < d) → Bst (eR L) m x best first) := fun h => hB.out.skip (by rw [hd.out]; exact h)
        by_cases hd0 : 0 < d
        · have t1 : decide (0 < d) = true := by simp; omega
          by_cases hbz : best = 0
          · have t2 : ((best : Int) == 0) = true := by simp [hbz]
            have hnew : Hid (Bst (eR L) m x d x) := htake.out hd0 (Or.inl hbz)
            go_upto_region 8 with (go_at_call 29; refine (l14Way_any m x x _ _ L _ (HL.out.later hbw.out) hl HI.out hm hx hx).mono ?_; rintro e w3 ⟨rfl, hb3⟩; rw [hd.out])
            have hrow3 : Hid (VRow w3 g0 (.slice (some ⟨g0, 0, none⟩) 0 0) []) := hrow.out.later hb3
            have hb33 : Hid (Below g0 w w3) := by have := bl_trans hbw.out hb3; rwa [HG0.out] at this
            go_wp2_with fail
            go_roundw
            case rel => exact ⟨x, d, x, by omega, by omega, by omega, by go_num, rfl, rfl, hnew, hrow3, hb33⟩
            case measure => simp [intOf] <;> omega
          · have t2 : ((best : Int) == 0) = false := by simp; omega
            by_cases hle : d ≤ best
            · have t3 : decide ((d : Int) ≤ (best : Int)) = true := by simp; omega
              have hnew : Hid (Bst (eR L) m x d x) := htake.out hd0 (Or.inr hle)
              go_upto_region 8 with (go_at_call 29; refine (l14Way_any m x x _ _ L _ (HL.out.later hbw.out) hl HI.out hm hx hx).mono ?_; rintro e w3 ⟨rfl, hb3⟩; rw [hd.out])
              have hrow3 : Hid (VRow w3 g0 (.slice (some ⟨g0, 0, none⟩) 0 0) []) := hrow.out.later hb3
              have hb33 : Hid (Below g0 w w3) := by have := bl_trans hbw.out hb3; rwa [HG0.out] at this
              go_wp2_with fail
              go_roundw
              case rel => exact ⟨x, d, x, by omega, by omega, by omega, by go_num, rfl, rfl, hnew, hrow3, hb33⟩
              case measure => simp [intOf] <;> omega
            · have t3 : decide ((d : Int) ≤ (best : Int)) = false := by simp; omega
              have hnew : Hid (Bst (eR L) m x best first) := hskip.out (Or.inr ⟨by omega, by omega⟩)
              go_upto_region 8 with (go_at_call 29; refine (l14Way_any m x x _ _ L _ (HL.out.later hbw.out) hl HI.out hm hx hx).mono ?_; rintro e w3 ⟨rfl, hb3⟩; rw [hd.out])
              have hrow3 : Hid (VRow w3 g0 (.slice (some ⟨g0, 0, none⟩) 0 0) []) := hrow.out.later hb3
              have hb33 : Hid (Below g0 w w3) := by have := bl_trans hbw.out hb3; rwa [HG0.out] at this
              go_wp2_with fail
              go_roundw
              case rel => exact ⟨x, best, first, by omega, by omega, by omega, by go_num, rfl, rfl, hnew, hrow3, hb33⟩
              case measure => simp [intOf] <;> omega
        · have t1 : decide (0 < d) = false := by simp; omega
          have hnew : Hid (Bst (eR L) m x best first) := hskip.out (Or.inl (by omega))
          go_upto_region 8 with (go_at_call 29; refine (l14Way_any m x x _ _ L _ (HL.out.later hbw.out) hl HI.out hm hx hx).mono ?_; rintro e w3 ⟨rfl, hb3⟩; rw [hd.out])
          have hrow3 : Hid (VRow w3 g0 (.slice (some ⟨g0, 0, none⟩) 0 0) []) := hrow.out.later hb3
          have hb33 : Hid (Below g0 w w3) := by have := bl_trans hbw.out hb3; rwa [HG0.out] at this
          go_wp2_with fail
          go_roundw
          case rel => exact ⟨x, best, first, by omega, by omega, by omega, by go_num, rfl, rfl, hnew, hrow3, hb33⟩
          case measure => simp [intOf] <;> omega
      · have hj' : j = 0 := by omega
        subst hj'
        by_cases hbz : best = 0
        · subst hbz
          have hA : Hid (circB m L = []) := circB_none (hB.out.no HI.out.sup)
          go_wp2_with fail
          go_ret
          rw [hA.out]
          exact ⟨_, _, rfl, by rw [HG0.out]; exact hrow.out, hbw.out⟩
        · have t2 : ((best : Int) == 0) = false := by simp; omega
          have hmin : Hid (MinC (eR L) m best first) := hB.out.min HI.out.sup (by omega)
          have HA : Hid (circB m L = (cSq (eR L) m best first (best - 1)).1) := circB_is HG.out hmin.out
          have hCI : Hid (CI (eR L) m best first 0 [(first : Int)] first) := CI.start hmin.out
          have hfm : first < m := hmin.out.2.2.1
          clear hB
          go_upto_region 15 with fail
          have hz := (Blk.new wr #[.int .i64 (first : Int)] 3).cell 0
          have Va := hrow.out.later (bl_alloc (Below.refl _ wr) (.cells #[.int .i64 (first : Int)] 3))
          go_wp2_with (at_builtin; refine wpList_append_one _ rfl (.tmp 45) (.tmp 47) rfl g0 (.slice (some ⟨g0, 0, none⟩) 0 0) [] rfl Va wr.heap.size (first : Int) rfl hz (by simp) ?_)
          intro g1 d1 w5 hv5 hg5 ho5 hl5
          have hB : g0 ≤ g1 := by
            rcases ho5 with h | h
            · have := (hrow.out.lt _ h).1; exact this
            · have := hbw.out.size; have := HG0.out; (try simp at h); omega
          have hv5 : Hid (VRow w5 g0 (.slice (some ⟨g1, 0, none⟩) 1 d1) [(first : Int)]) := hv5.up hB
          have hb5 : Hid (Below g0 w w5) := (bl_alloc hbw.out (.cells #[.int .i64 (first : Int)] 3) |> fun h => (by rw [HG0.out] at h; exact h : Below g0 w _)).grown hg5 (by simp; have := hbw.out.size; have := HG0.out; omega) (fun k h => (hrow.out.lt k h).1)
          clear hz Va hg5 ho5 hl5 hB hrow hb hbw
          go_wp2_with fail
          go_loopw [5] (fun ov wr => ∃ (k y : Nat) (O : List Int) (so : Option Addr) (co : Nat), k < best ∧ O.length = k + 1 ∧ ov = .slice so O.length co ∧ Hid (CI (eR L) m best first k O y) ∧ Hid (VRow wr g0 (.slice so O.length co) O) ∧ Hid (Below g0 w wr)) (fun ov _ => best - (match ov with | .slice _ k _ => k | _ => 0))
          case atStart => exact ⟨0, first, [(first : Int)], _, _, by omega, rfl, rfl, hCI, hv5, hb5⟩
          case round =>
            clear hCI hv5 hb5
            obtain ⟨k, y, O, so, co, hk, hOl, rfl, hCI, hrow, hb⟩ := hrel
            have HOl : Hid (O.length = k + 1) := hOl
            clear hOl
            by_cases hlt : k + 1 < best
            · have t0 : O.length < best := by have := HOl.out; omega
              have t3 : IntKind.i64.wrap ((best : Int) - (O.length : Int)) = ((best - 1 - k : Nat) : Int) := by rw [IntKind.wrap_i64]; have := HOl.out; omega
              have t4 : IntKind.i64.wrap ((O.length : Int) - 1) = (k : Int) := by rw [IntKind.wrap_i64]; have := HOl.out; omega
              have hO16 : O.length ≤ 17 := by have := HOl.out; omega
              have hkO : k < O.length := by have := HOl.out; omega
              obtain ⟨left, hleft⟩ : ∃ q, Hid (best - 1 - k = q) := ⟨_, rfl⟩
              rw [hleft.out] at t3
              obtain ⟨zz, hz1, hz2⟩ := hCI.out.2.2.2.next HI.out.sup hlt
              have HN : Hid (nxC (eR L) m first (best - 1 - k) y = some zz) := hz1
              have HOn : Hid (OnC (eR L) m best first (k + 1) zz) := hz2
              have hym : y < m := hCI.out.2.2.2.1
              obtain ⟨pb, po, rfl, hp, hc⟩ := hrow.out.rd.get hkO
              have d1 := hc k hkO
              rw [hCI.out.2.2.1] at d1
              clear hc hz1 hz2
              go_wp2_with fail
              go_loopw [5, 11] (fun ov zv wr => ∃ z : Nat, z ≤ m ∧ ov = .slice (some ⟨pb, po, none⟩) O.length co ∧ zv = .int .i64 z ∧ Hid (∀ q, q < z → (eR L y q && rch (eR L) m q left first) = false) ∧ Hid (VRow wr g0 (.slice (some ⟨pb, po, none⟩) O.length co) O) ∧ Hid (Below g0 w wr) ∧ wr.cell? ⟨pb, po + k, none⟩ = some (.int .i64 y)) (fun _ zv _ => m - (intOf zv).toNat)
              case atStart => exact ⟨0, Nat.zero_le _, rfl, rfl, fun q hq => absurd hq (by omega), hrow, hb, d1⟩
              case round =>
                clear hrow hb d1 hp
                obtain ⟨z, hz, rfl, rfl, hno, hrow, hb, d1⟩ := hrel
                have hbw : Hid (Below w.heap.size w wr) := by rw [HG0.out]; exact hb
                have hzm : z < m := by
                  by_cases e : z < m
                  · exact e
                  · exfalso
                    have := HN.out
                    unfold nxC at this
                    have hq := List.find?_some this
                    have hm' : zz < m := by simpa using List.mem_of_find?_eq_some this
                    rw [hleft.out] at hq
                    have := hno.out zz (by omega)
                    rw [this] at hq; cases hq
                cases hed : eR L y z
                · have hno' : Hid (∀ q, q < z + 1 → (eR L y q && rch (eR L) m q left first) = false) := by
                    intro q hq
                    by_cases e : q < z
                    · exact hno.out q e
                    · have : q = z := by omega
                      subst this; simp [hed]
                  go_wp2_with (go_at_call 30; refine (l14Edge_any _ _ L y z _ (HL.out.later hbw.out) hl).mono ?_; rintro e w3 ⟨rfl, hq3⟩; subst hq3; rw [hed])
                  go_roundw
                  case rel => exact ⟨z + 1, by omega, rfl, by go_num, hno', hrow, hb, d1⟩
                  case measure => simp [intOf]; omega
                · have hwl := way_left HI.out.sup hmin.out hCI.out.2.2.2 hlt hed
                  rw [hleft.out] at hwl
                  obtain ⟨W, hW⟩ : ∃ W, Hid (wayF (eR L) m z first = W) := ⟨_, rfl⟩
                  rw [hW.out] at hwl
                  have tq : ((W : Int) == (left : Int)) = rch (eR L) m z left first := by
                    rw [← hwl, Bool.eq_iff_iff]; simp; omega
                  clear hwl
                  cases hrc : rch (eR L) m z left first
                  · rw [hrc] at tq
                    have hno' : Hid (∀ q, q < z + 1 → (eR L y q && rch (eR L) m q left first) = false) := by
                      intro q hq
                      by_cases e : q < z
                      · exact hno.out q e
                      · have : q = z := by omega
                        subst this; simp [hrc]
                    go_upto_region 20 with (first
                      | (go_at_call 30; refine (l14Edge_any _ _ L y z _ (HL.out.later hbw.out) hl).mono ?_; rintro e w3 ⟨rfl, hq3⟩; subst hq3; rw [hed])
                      | (go_at_call 29; refine (l14Way_any m z first _ _ L _ (HL.out.later hbw.out) hl HI.out hm hzm hfm).mono ?_; rintro e w4 ⟨rfl, hb4⟩; rw [hW.out]))
                    have hrow4 : Hid (VRow w4 g0 (.slice (some ⟨pb, po, none⟩) O.length co) O) := hrow.out.later hb4
                    have hb44 : Hid (Below g0 w w4) := by have := bl_trans hbw.out hb4; rwa [HG0.out] at this
                    have d4 := (hb4.cell (p := ⟨pb, po + k, none⟩) (World.block_lt_of_cell? _ _ d1)).trans d1
                    clear d1 hb4
                    go_wp2_with fail
                    go_roundw
                    case rel => exact ⟨z + 1, by omega, rfl, by go_num, hno', hrow4, hb44, d4⟩
                    case measure => simp [intOf]; omega
                  · rw [hrc] at tq
                    have hnx : Hid (nxC (eR L) m first (best - 1 - k) y = some z) := by rw [hleft.out]; exact nxC_is hzm (by simp [hed, hrc]) hno.out
                    have hez : zz = z := by have := HN.out; rw [hnx.out] at this; simpa using this.symm
                    have hCI' : Hid (CI (eR L) m best first (k + 1) (O ++ [(z : Int)]) z) := hCI.out.step hnx.out (by rw [← hez]; exact HOn.out)
                    clear hez hnx
                    go_upto_region 22 with (first
                      | (go_at_call 30; refine (l14Edge_any _ _ L y z _ (HL.out.later hbw.out) hl).mono ?_; rintro e w3 ⟨rfl, hq3⟩; subst hq3; rw [hed])
                      | (go_at_call 29; refine (l14Way_any m z first _ _ L _ (HL.out.later hbw.out) hl HI.out hm hzm hfm).mono ?_; rintro e w4 ⟨rfl, hb4⟩; rw [hW.out]))
                    have hrow4 : Hid (VRow w4 g0 (.slice (some ⟨pb, po, none⟩) O.length co) O) := hrow.out.later hb4
                    have hb44 : Hid (Below g0 w w4) := by have := bl_trans hbw.out hb4; rwa [HG0.out] at this
                    clear d1 hb4 hrow hb hbw
                    have hz := (Blk.new w4 #[.int .i64 (z : Int)] 3).cell 0
                    have Va := hrow4.out.later (bl_alloc (Below.refl _ w4) (.cells #[.int .i64 (z : Int)] 3))
                    go_wp2_with (at_builtin; refine wpList_append_one _ rfl (.tmp 80) (.tmp 82) rfl g0 (.slice (some ⟨pb, po, none⟩) O.length co) O rfl Va w4.heap.size (z : Int) rfl hz (by omega) ?_)
                    intro g1' d1' w6 hv6 hg6 ho6 hl6
                    have hs4 : g0 ≤ w4.heap.size := by have := hb44.out.size; have := HG0.out; omega
                    have hB : g0 ≤ g1' := by
                      rcases ho6 with h | h
                      · exact (hrow4.out.lt _ h).1
                      · (try simp at h); omega
                    have hv6 : Hid (VRow w6 g0 (.slice (some ⟨g1', 0, none⟩) (O.length + 1) d1') (O ++ [(z : Int)])) := hv6.up hB
                    have hb6 : Hid (Below g0 w w6) := (hb44.out.alloc hs4 _).grown hg6 (by simp; omega) (fun k h => (hrow4.out.lt k h).1)
                    clear hz Va hg6 ho6 hl6 hB hrow4 hb44 hs4
                    obtain ⟨O', hO'⟩ : ∃ O', Hid (O ++ [(z : Int)] = O') := ⟨_, rfl⟩
                    have hlen : Hid (O.length + 1 = O'.length) := by rw [← hO'.out]; simp [Hid]
                    rw [hO'.out] at hv6 hCI'
                    rw [hlen.out] at hv6 ⊢
                    have hO2 : Hid (O'.length = k + 1 + 1) := by have := hlen.out; have := HOl.out; show _ = _; omega
                    have hO3 : best - O'.length < best - O.length := by have := hlen.out; have := HOl.out; omega
                    go_wp2_with fail
                    go_roundw
                    case rel => exact ⟨k + 1, z, O', _, _, hlt, hO2.out, rfl, hCI', hv6, hb6⟩
                    case measure => simp; omega
            · have hkb : k = best - 1 := by omega
              have hA : Hid (circB m L = O) := by
                show _ = _
                rw [HA.out]
                have := hCI.out.1
                rw [hkb] at this
                rw [this]
              have t0 : ¬ O.length < best := by have := HOl.out; omega
              clear hkb
              go_wp2_with fail
              go_ret
              rw [hA.out]
              exact ⟨so, co, rfl, by rw [HG0.out]; exact hrow.out, by have := hb.out; rwa [← HG0.out] at this⟩
end Go.Proofs.YtnbckfeclfbafaaDoor
