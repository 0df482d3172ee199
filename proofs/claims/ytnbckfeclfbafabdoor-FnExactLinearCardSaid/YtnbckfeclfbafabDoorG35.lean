import Derived.Test.YtnbckfeclfbafabDoorG34
namespace Go.Proofs.YtnbckfeclfbafabDoor
open Go.RowKit
set_option linter.unusedVariables false
set_option linter.unusedSimpArgs false

set_option maxHeartbeats 8000000 in
theorem specLinear_any (n kk : Int) (s : Option Addr) (c : Nat) (L : List (Int × Int)) (w : World) (hL : Eds w s L) (hl : L.length ≤ 1048576) :
    Calls Tryd.prog 5 #[.int .i64 n, .slice s L.length c, .int .i64 kk] w fun e w' => CanS w (linrB n L kk) e w' := by
  have HL : Hid (Eds w s L) := hL
  clear hL
  by_cases hk0 : 0 ≤ kk
  · by_cases hk1 : kk < linsB n L
    · obtain ⟨m, rfl, hm, hg, hcnt⟩ := linsB_open (n := n) (L := L) (by omega)
      obtain ⟨k0, rfl⟩ : ∃ k0 : Nat, kk = (k0 : Int) := ⟨kk.toNat, by omega⟩
      have hin : Inn m L := by
        obtain ⟨m', e, _, _, h, _⟩ := gOk_open hg
        have : m = m' := by omega
        subst this; exact h
      have HA : Hid (linrB m L k0 = some (lSq L m k0 m).1) := by
        show _ = _
        unfold linrB
        rw [if_pos ⟨hk0, hk1⟩]; simp
      have HLI : Hid (LI L m [] k0) := LI.start (by rw [hcnt] at hk1; omega)
      have hk0b : k0 ≤ 16777216 := by have := cnt_le L m hm m (fun _ => false); have := pow8 hm; rw [hcnt] at hk1; omega
      have HI : Hid (Inn m L) := hin
      obtain ⟨i0, hi, hz0, hz1, hz2⟩ := info_parts Tryd.infoB
      obtain ⟨B0, hB0⟩ : ∃ v, Hid (linsB m L = v) := ⟨_, rfl⟩
      rw [hB0.out] at hk1 hcnt
      have t1 : decide (B0 ≤ (k0 : Int)) = false := by simp; omega
      clear hin
      have t2 : decide ((k0 : Int) < 0) = false := by simp
      go_enter Tryd.func5, Tryd.ntmps5
      go_wp2_with (first
        | (go_at_call 13; refine (specLinears_any _ _ _ L _ HL.out hl).mono ?_; rintro e w0 ⟨rfl, hb0⟩; rw [hB0.out])
        | (at_make; refine wpList_make_full _ rfl _ _ 35 rfl w.heap.size 4 i0 (.bool false) 1 Tryd.underlying35 hi hz0 hz1 .i64 .i64 _ _ m rfl rfl rfl rfl (by rw [hz2]; omega) (by unfold maxLen; omega) (by have := hb0.size; simp; omega) ?_))
      intro w1 hown hgrow
      have hrow : VRow (w0.alloc (.cells #[] 3)) w.heap.size (.slice (some ⟨w0.heap.size, 0, none⟩) 0 0) [] :=
        World.ownsRow_lit (base := w.heap.size) (e := 3) (size := 1) w0 #[] 0 hb0.size (by unfold maxLen; omega) (by simp)
      have m01 : Below (w0.alloc (.cells #[] 3)).heap.size (w0.alloc (.cells #[] 3)) w1 := (Below.refl _ _).grown hgrow (Nat.le_refl _) (fun k h => by cases h)
      have hrow : Hid (VRow w1 w.heap.size (.slice (some ⟨w0.heap.size, 0, none⟩) 0 0) []) := hrow.later m01
      have hb : Hid (Below w.heap.size w w1) := bl_trans (bl_trans hb0 (bl_alloc (Below.refl _ w0) _)) m01
      obtain ⟨sb, hsb⟩ : ∃ sb, Hid (sb = w0.heap.size + 1) := ⟨_, rfl⟩
      have hf : Hid (Fl w1 w.heap.size sb m (stands [])) := by
        rw [toList_madeCells_one] at hown
        rw [hsb.out]
        exact (Fl.new hown).congr fun i _ => by simp [stands]
      have hsb' := hsb.out
      have hsw : Hid (w.heap.size ≤ sb) := hf.out.lt.1
      clear hown hgrow m01 hi hz0 hz1 hz2 hb0
      go_wp2_with fail
      try rw [← hsb']
      clear hsb' hsb t1 hcnt hk1
      go_loopw [2, 8] (fun kv ov wr => ∃ (O : List Int) (k : Nat) (so : Option Addr) (co : Nat), O.length ≤ m ∧ k ≤ k0 ∧ kv = .int .i64 k ∧ ov = .slice so O.length co ∧ Hid (lSq L m k0 O.length = (O, k)) ∧ Hid (LI L m O k) ∧ Hid (VRow wr w.heap.size (.slice so O.length co) O) ∧ Hid (Fl wr w.heap.size sb m (stands O)) ∧ Hid (Below w.heap.size w wr)) (fun _ ov _ => m - (match ov with | .slice _ k _ => k | _ => 0))
      case atStart => exact ⟨[], k0, _, _, Nat.zero_le _, Nat.le_refl _, rfl, rfl, rfl, HLI, hrow, hf, hb⟩
      case round =>
        clear hrow hf hb HLI
        obtain ⟨O, k, so, co, hO, hkk, rfl, rfl, hseq, hLI, hrow, hf, hb⟩ := hrel
        by_cases hlt : O.length < m
        · have t0 : decide ((O.length : Int) < (m : Int)) = true := by simp; omega
          obtain ⟨l, hl'⟩ : ∃ l, Hid (m - O.length - 1 = l) := ⟨_, rfl⟩
          have hl8 : l ≤ 8 := by have := hl'.out; omega
          have hkn : Hid (k < psum L m l (stands O) m) := by
            have := hLI.out.2.1
            rw [psum_all]
            rwa [show m - O.length = l + 1 by have := hl'.out; omega] at this
          have tl : IntKind.i64.wrap ((m : Int) - (O.length : Int)) = (l : Int) + 1 := by rw [IntKind.wrap_i64]; have := hl'.out; omega
          have hap : ¬ (Value.slice so O.length co).ownBlock = some sb := by
            obtain ⟨cc, fr, hh⟩ := hf.out.blk
            exact hrow.out.apart hh (by decide)
          go_wp2_with fail
          go_loopw [2, 8, 10] (fun kv ov xv wr => ∃ x : Nat, x ≤ m ∧ ov = .slice so O.length co ∧ xv = .int .i64 x ∧ psum L m l (stands O) x ≤ k ∧ kv = .int .i64 ((k - psum L m l (stands O) x : Nat) : Int) ∧ Hid (VRow wr w.heap.size (.slice so O.length co) O) ∧ Hid (Fl wr w.heap.size sb m (stands O)) ∧ Hid (Below w.heap.size w wr)) (fun _ _ xv _ => m - (intOf xv).toNat)
          case atStart => exact ⟨0, Nat.zero_le _, rfl, rfl, by rw [psum_zero]; omega, by rw [psum_zero]; simp, hrow, hf, hb⟩
          case round =>
            clear hrow hf hb
            obtain ⟨x, hx, rfl, rfl, hpx, rfl, hrow, hf, hb⟩ := hrel
            have hxm : x < m := by
              by_cases e : x = m
              · subst e; have := hkn.out; omega
              · omega
            have hre := rdL_eq HI.out (by omega) (stands O) hxm
            have hps := psum_succ L m l (stands O) x
            obtain ⟨p0, hp0⟩ : ∃ p, Hid (psum L m l (stands O) x = p) := ⟨_, rfl⟩
            obtain ⟨p1, hp1⟩ : ∃ p, Hid (psum L m l (stands O) (x + 1) = p) := ⟨_, rfl⟩
            rw [hp0.out, hp1.out] at hps
            rw [hp0.out] at hpx ⊢
            obtain ⟨kc, hkc⟩ : ∃ q, Hid (k - p0 = q) := ⟨_, rfl⟩
            rw [hkc.out]
            cases hr : rdy (eF L) m (stands O) x
            · rw [hr] at hre hps
              have HP : Hid (p1 = p0) := by show _ = _; simpa using hps
              clear hps
              go_wp2_with (go_at_call 14; refine (l14Ready_any _ _ sb w.heap.size m x L (stands O) _ (HL.out.later hb.out) hl HI.out (by omega) hf.out hxm).mono ?_; rintro e w2 ⟨rfl, hq⟩; subst hq; rw [hre])
              go_roundw
              case rel => exact ⟨x + 1, by omega, rfl, by go_num, by rw [hp1.out, HP.out]; exact hpx, by rw [hp1.out, HP.out, hkc.out], hrow, hf, hb⟩
              case measure => simp [intOf]; omega
            · rw [hr] at hre hps
              have HP : Hid (p1 = p0 + cnt L m l (addS (stands O) x)) := by show _ = _; simpa using hps
              clear hps
              obtain ⟨cv, hcv⟩ : ∃ v, Hid (cnt L m l (addS (stands O) x) = v) := ⟨_, rfl⟩
              rw [hcv.out] at HP
              have hfree := rdy_free hr
              obtain ⟨c1, f1⟩ := hf.out.cell hxm
              rw [hfree] at c1
              have hf1 : Hid (Fl (wr.setCell ⟨sb, x, none⟩ (.bool true)) w.heap.size sb m (addS (stands O) x)) := hf.out.set hxm true
              have hgw : wr.grownBy (wr.setCell ⟨sb, x, none⟩ (.bool true)) (some sb) := grown_setCell _ _ _ _
              have hrow1 : Hid (VRow (wr.setCell ⟨sb, x, none⟩ (.bool true)) w.heap.size (.slice so O.length co) O) := World.ownsRow.kept hrow.out hgw (Or.inr hap)
              have hb1 : Hid (Below w.heap.size w (wr.setCell ⟨sb, x, none⟩ (.bool true))) := hb.out.setCell hsw.out _
              by_cases hlast : kc < cv
              · have t5 : decide ((kc : Int) < (cv : Int)) = true := by simp; omega
                have hpk : Hid (pkF L m l (stands O) k = some x) := pk_is hxm (by rw [hp0.out]; exact hpx) (by rw [hp1.out]; have := HP.out; have := hkc.out; omega)
                have hseq' : Hid (lSq L m k0 (O.length + 1) = (O ++ [(x : Int)], kc)) := by
                  have := lSq_step hseq.out (by rw [hl'.out]; exact hpk.out)
                  rwa [hl'.out, hp0.out, hkc.out] at this
                have hLI' : Hid (LI L m (O ++ [(x : Int)]) kc) := by
                  have := hLI.out.step hm hlt hxm (x := x) (by rw [hl'.out, hp0.out]; exact hpx) (by rw [hl'.out, hp1.out]; have := HP.out; have := hkc.out; omega) hr
                  rwa [hl'.out, hp0.out, hkc.out] at this
                clear hgw hpk
                go_upto_region 13 with (first
                  | (go_at_call 14; refine (l14Ready_any _ _ sb w.heap.size m x L (stands O) _ (HL.out.later hb.out) hl HI.out (by omega) hf.out hxm).mono ?_; rintro e w2 ⟨rfl, hq⟩; subst hq; rw [hre])
                  | (go_at_call 15; refine (l14Count_any m _ _ sb L w HL.out hl HI.out hm hsw.out l (addS (stands O) x) _ hl8 hb1.out hf1.out).mono ?_; rintro e w3 ⟨rfl, hf3, hg3⟩; rw [hcv.out]))
                have hf3 : Hid (Fl w3 w.heap.size sb m (stands (O ++ [(x : Int)]))) := by rw [← addS_stands]; exact hf3
                have hrow3 : Hid (VRow w3 w.heap.size (.slice so O.length co) O) := World.ownsRow.kept hrow1.out hg3 (Or.inr hap)
                have hb3 : Hid (Below w.heap.size w w3) := hb1.out.trans (grown_below hg3 hsw.out hb1.out.size)
                clear c1 f1 hrow hf hb hrow1 hf1 hb1 hg3
                have hz := (Blk.new w3 #[.int .i64 (x : Int)] 3).cell 0
                have Va := hrow3.out.later (bl_alloc (Below.refl _ w3) (.cells #[.int .i64 (x : Int)] 3))
                go_wp2_with (at_builtin; refine wpList_append_one _ rfl (.tmp 53) (.tmp 55) rfl w.heap.size (.slice so O.length co) O rfl Va w3.heap.size (x : Int) rfl hz (by omega) ?_)
                intro g1 d1 w5 hv5 hg5 ho5 hl5
                have hf5 : Hid (Fl w5 w.heap.size sb m (stands (O ++ [(x : Int)]))) := (hf3.out.later (bl_alloc (Below.refl _ w3) _)).kept hg5 hap
                have hB : w.heap.size ≤ g1 := by
                  rcases ho5 with h | h
                  · exact (hrow3.out.lt _ h).1
                  · have := hb3.out.size; (try simp at h); omega
                have hv5 : Hid (VRow w5 w.heap.size (.slice (some ⟨g1, 0, none⟩) (O.length + 1) d1) (O ++ [(x : Int)])) := hv5.up hB
                have hb5 : Hid (Below w.heap.size w w5) := (bl_alloc hb3.out _).grown hg5 (by simp; have := hb3.out.size; omega) (fun k h => (hrow3.out.lt k h).1)
                clear hz Va hg5 ho5 hl5 hB hf3 hrow3 hb3
                obtain ⟨O', hO'⟩ : ∃ O', Hid (O ++ [(x : Int)] = O') := ⟨_, rfl⟩
                have hlen : Hid (O.length + 1 = O'.length) := by rw [← hO'.out]; simp [Hid]
                rw [hO'.out] at hv5 hf5 hseq' hLI'
                rw [hlen.out] at hv5 hseq' ⊢
                have hO2 : O'.length ≤ m := by have := hlen.out; omega
                have hO3 : O.length < O'.length := by have := hlen.out; omega
                have hkc2 : kc ≤ k0 := by have := hkc.out; omega
                go_wp2_with fail
                go_roundw
                case rel => exact ⟨O', kc, _, _, hO2, hkc2, rfl, rfl, hseq', hLI', hv5, hf5, hb5⟩
                case measure => simp; omega
              · have t5 : decide ((kc : Int) < (cv : Int)) = false := by simp; omega
                have tw2 : IntKind.i64.wrap ((kc : Int) - (cv : Int)) = ((k - p1 : Nat) : Int) := by rw [IntKind.wrap_i64]; have := HP.out; have := hkc.out; omega
                have hp1k : p1 ≤ k := by have := HP.out; have := hkc.out; omega
                obtain ⟨kd, hkd⟩ : ∃ q, Hid (k - p1 = q) := ⟨_, rfl⟩
                rw [hkd.out] at tw2
                clear hgw
                go_upto_region 14 with (first
                  | (go_at_call 14; refine (l14Ready_any _ _ sb w.heap.size m x L (stands O) _ (HL.out.later hb.out) hl HI.out (by omega) hf.out hxm).mono ?_; rintro e w2 ⟨rfl, hq⟩; subst hq; rw [hre])
                  | (go_at_call 15; refine (l14Count_any m _ _ sb L w HL.out hl HI.out hm hsw.out l (addS (stands O) x) _ hl8 hb1.out hf1.out).mono ?_; rintro e w3 ⟨rfl, hf3, hg3⟩; rw [hcv.out]))
                obtain ⟨c3, f3⟩ := hf3.cell hxm
                rw [show addS (stands O) x x = true by simp [addS]] at c3
                have hf4 : Hid (Fl (w3.setCell ⟨sb, x, none⟩ (.bool false)) w.heap.size sb m (stands O)) := (hf3.set hxm false).congr fun i _ => by
                  by_cases e : i = x
                  · subst e; simp [hfree]
                  · simp [e, addS]
                have hrow3 : VRow w3 w.heap.size (.slice so O.length co) O := World.ownsRow.kept hrow1.out hg3 (Or.inr hap)
                have hrow4 : Hid (VRow (w3.setCell ⟨sb, x, none⟩ (.bool false)) w.heap.size (.slice so O.length co) O) := World.ownsRow.kept hrow3 (grown_setCell _ _ _ _) (Or.inr hap)
                have hb3 : Below w.heap.size w w3 := hb1.out.trans (grown_below hg3 hsw.out hb1.out.size)
                have hb4 : Hid (Below w.heap.size w (w3.setCell ⟨sb, x, none⟩ (.bool false))) := hb3.setCell hsw.out _
                clear c1 f1 hrow hf hb hrow1 hf1 hb1 hg3 hf3 hrow3 hb3
                go_wp2_with fail
                go_roundw
                case rel => exact ⟨x + 1, by omega, rfl, by go_num, by rw [hp1.out]; exact hp1k, by rw [hp1.out, hkd.out], hrow4, hf4, hb4⟩
                case measure => simp [intOf]; omega
        · have hOm : O.length = m := by omega
          have hA : Hid (linrB m L k0 = some O) := by have := hseq.out; rw [hOm] at this; show _ = _; rw [HA.out, this]
          clear hOm
          go_wp2_with fail
          refine bodyPost_ret (v := .tuple #[.slice so O.length co, .bool true]) (by simp [results, Tryd.results5]) rfl ?_
          rw [hA.out]
          exact ⟨so, co, rfl, hrow.out, hb.out⟩
    · have hA : Hid (linrB n L kk = none) := by
        show _ = _
        unfold linrB
        rw [if_neg (by omega)]
      obtain ⟨B0, hB0⟩ : ∃ v, Hid (linsB n L = v) := ⟨_, rfl⟩
      rw [hB0.out] at hk1
      have t1 : decide (B0 ≤ kk) = true := by simp; omega
      go_enter Tryd.func5, Tryd.ntmps5
      go_wp2_with (go_at_call 13; refine (specLinears_any _ _ _ L _ HL.out hl).mono ?_; rintro e w0 ⟨rfl, hb0⟩; rw [hB0.out])
      refine bodyPost_ret (v := .tuple #[.slice none 0 0, .bool false]) (by simp [results, Tryd.results5]) rfl ?_
      rw [hA.out]; exact CanS.none hb0
  · have hA : Hid (linrB n L kk = none) := by
      show _ = _
      unfold linrB
      rw [if_neg (by omega)]
    have t1 : decide (kk < 0) = true := by simp; omega
    go_enter Tryd.func5, Tryd.ntmps5
    go_wp2_with fail
    refine bodyPost_ret (v := .tuple #[.slice none 0 0, .bool false]) (by simp [results, Tryd.results5]) rfl ?_
    rw [hA.out]; exact CanS.none (Below.refl _ _)
end Go.Proofs.YtnbckfeclfbafabDoor
