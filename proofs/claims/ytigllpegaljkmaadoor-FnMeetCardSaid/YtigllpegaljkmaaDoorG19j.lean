import Derived.Test.YtigllpegaljkmaaDoorG18j
namespace Go.Proofs.YtigllpegaljkmaaDoor
open Go.RowKit
set_option linter.unusedVariables false
set_option linter.unusedSimpArgs false

/-- what Canon answers. -/
def CanS (w : World) (r : Option (List Int)) (e : Ending) (w' : World) : Prop :=
  ∃ s c, e = .returned (.tuple #[.slice s (r.getD []).length c, .bool r.isSome]) ∧ VRow w' w.heap.size (.slice s (r.getD []).length c) (r.getD []) ∧ Below w.heap.size w w'
theorem CanS.none {w w' : World} (hb : Below w.heap.size w w') : CanS w none (.returned (.tuple #[.slice none 0 0, .bool false])) w' :=
  ⟨Option.none, 0, rfl, World.ownsRow_nil _ _ _ _, hb⟩

theorem stands_set (O : List Int) (q i : Nat) : (if i = q then true else stands O i) = stands (O ++ [(q : Int)]) i := by
  unfold stands
  by_cases e : i = q
  · subst e; simp
  · rw [if_neg e, Bool.eq_iff_iff]
    simp only [decide_eq_true_eq, List.mem_append, List.mem_singleton]
    constructor
    · exact Or.inl
    · rintro (h | h)
      · exact h
      · omega

set_option maxHeartbeats 4000000 in
theorem specCanon_any (n : Int) (s : Option Addr) (c : Nat) (L : List (Int × Int)) (w : World) (hL : Eds w s L) (hl : L.length ≤ 1048576) :
    Calls Tryd.prog 7 #[.int .i64 n, .slice s L.length c] w fun e w' => CanS w (canB n L) e w' := by
  cases hg : gOk n L
  · have hA : Hid (canB n L = none) := by simp [Hid, canB, hg]
    go_enter Tryd.func7, Tryd.ntmps7
    go_wp2_with (go_at_call 22; refine (specGraphOk_any _ _ _ L _ hL hl).mono ?_; rintro e w' ⟨rfl, hq⟩; subst hq; rw [hg])
    refine bodyPost_ret (v := .tuple #[.slice none 0 0, .bool false]) (by simp [results, Tryd.results7]) rfl ?_
    rw [hA.out]; exact CanS.none (Below.refl _ _)
  · obtain ⟨m, rfl, hm, hl2, hin, h16⟩ := gOk_open hg
    have HA : Hid (canB m L = cSeq L m m) := by simp [Hid, canB, hg]
    have HI : Hid (Inn m L) := hin
    have HL : Hid (Eds w s L) := hL
    obtain ⟨i0, hi, hz0, hz1, hz2⟩ := info_parts Tryd.infoB
    go_enter Tryd.func7, Tryd.ntmps7
    go_wp2_with (first
      | (go_at_call 22; refine (specGraphOk_any _ _ _ L _ hL hl).mono ?_; rintro e w0 ⟨rfl, hq⟩; subst hq; rw [hg])
      | (at_make; refine wpList_make_full _ rfl _ _ 58 rfl w0.heap.size 4 i0 (.bool false) 1 Tryd.underlying58 hi hz0 hz1 .i64 .i64 _ _ m rfl rfl rfl rfl (by rw [hz2]; omega) (by unfold maxLen; omega) (by simp) ?_))
    intro w1 hown hgrow
    have hrow : VRow (w0.alloc (.cells #[] 3)) w0.heap.size (.slice (some ⟨w0.heap.size, 0, none⟩) 0 0) [] :=
      World.ownsRow_lit (base := w0.heap.size) (e := 3) (size := 1) w0 #[] 0 (by simp) (by unfold maxLen; omega) (by simp)
    have m01 : Below (w0.alloc (.cells #[] 3)).heap.size (w0.alloc (.cells #[] 3)) w1 := (Below.refl _ _).grown hgrow (Nat.le_refl _) (fun k h => by cases h)
    have hrow : Hid (VRow w1 w0.heap.size (.slice (some ⟨w0.heap.size, 0, none⟩) 0 0) []) := hrow.later m01
    have hb : Hid (Below w0.heap.size w0 w1) := bl_trans (bl_alloc (Below.refl _ w0) _) m01
    obtain ⟨sb, hsb⟩ : ∃ sb, Hid (sb = w0.heap.size + 1) := ⟨_, rfl⟩
    have hf : Hid (Fl w1 w0.heap.size sb m (stands [])) := by
      rw [toList_madeCells_one] at hown
      rw [hsb.out]
      exact (Fl.new hown).congr fun i _ => by simp [stands]
    have hsb' := hsb.out
    clear hown hgrow m01 hi hz0 hz1 hz2 hL hin
    go_wp2_with fail
    try rw [← hsb']
    clear hsb' hsb
    go_loopw [6] (fun ov wr => ∃ (O : List Int) (so : Option Addr) (co : Nat), O.length ≤ m ∧ ov = .slice so O.length co ∧ Hid (cSeq L m O.length = some O) ∧ Hid (VRow wr w0.heap.size (.slice so O.length co) O) ∧ Hid (Fl wr w0.heap.size sb m (stands O)) ∧ Hid (Below w0.heap.size w0 wr)) (fun ov _ => m - (match ov with | .slice _ k _ => k | _ => 0))
    case atStart => exact ⟨[], _, _, Nat.zero_le _, rfl, rfl, hrow, hf, hb⟩
    case round =>
      clear hrow hf hb
      obtain ⟨O, so, co, hO, rfl, hseq, hrow, hf, hb⟩ := hrel
      by_cases hlt : O.length < m
      · have t0 : decide ((O.length : Int) < (m : Int)) = true := by simp; omega
        go_wp2_with fail
        go_loop [8, 9] (fun nv xv => ∃ j : Nat, j ≤ m ∧ xv = .int .i64 ((j : Int) - 1) ∧ nv = .int .i64 (lsF (fun x => rdy (eF L) m (stands O) x) j (m - j))) (fun _ xv => (intOf xv + 1).toNat)
        case atStart => exact ⟨m, Nat.le_refl _, by go_num, by simp [lsF]⟩
        case round =>
          obtain ⟨j, hj, rfl, rfl⟩ := hrel
          by_cases hj0 : 0 < j
          · obtain ⟨x, rfl⟩ : ∃ x, j = x + 1 := ⟨j - 1, by omega⟩
            have hx : x < m := by omega
            have e1 : ((x + 1 : Nat) : Int) - 1 = (x : Int) := by omega
            rw [e1]
            have hre := rdL_eq HI.out hm (stands O) hx
            cases hr : rdy (eF L) m (stands O) x
            · rw [hr] at hre
              have hls : Hid (lsF (fun x => rdy (eF L) m (stands O) x) (x + 1) (m - (x + 1)) = lsF (fun x => rdy (eF L) m (stands O) x) x (m - x)) := by
                rw [show m - x = (m - (x + 1)) + 1 by omega]
                exact (lsF_miss (fun x => rdy (eF L) m (stands O) x) x _ hr).symm
              generalize lsF (fun x => rdy (eF L) m (stands O) x) (x + 1) (m - (x + 1)) = v1 at hls ⊢
              go_wp2_with (go_at_call 23; refine (l14Ready_any _ _ sb w0.heap.size m x L (stands O) _ (HL.out.later hb.out) hl HI.out hm hf.out hx).mono ?_; rintro e w2 ⟨rfl, hq⟩; subst hq; rw [hre])
              go_round
              case rel => exact ⟨x, by omega, by go_num, by rw [hls.out]⟩
              case measure => simp [intOf] <;> omega
            · rw [hr] at hre
              have hls : Hid (lsF (fun x => rdy (eF L) m (stands O) x) x (m - x) = (x : Int)) := by
                rw [show m - x = (m - (x + 1)) + 1 by omega]
                exact lsF_hit (fun x => rdy (eF L) m (stands O) x) x _ hr
              generalize lsF (fun x => rdy (eF L) m (stands O) x) (x + 1) (m - (x + 1)) = v1
              go_wp2_with (go_at_call 23; refine (l14Ready_any _ _ sb w0.heap.size m x L (stands O) _ (HL.out.later hb.out) hl HI.out hm hf.out hx).mono ?_; rintro e w2 ⟨rfl, hq⟩; subst hq; rw [hre])
              go_round
              case rel => exact ⟨x, by omega, by go_num, by rw [hls.out]⟩
              case measure => simp [intOf] <;> omega
          · have hj' : j = 0 := by omega
            subst hj'
            rw [Nat.sub_zero]
            cases hst : cStep L m O with
            | none =>
              have hls := lsF_none _ _ hst
              rw [hls]
              have hA : Hid (cSeq L m m = none) := by
                have := cSeq_stop hseq.out hst (m - (O.length + 1))
                rwa [show O.length + 1 + (m - (O.length + 1)) = m by omega] at this
              clear hls
              go_wp2_with fail
              refine bodyPost_ret (v := .tuple #[.slice none 0 0, .bool false]) (by simp [results, Tryd.results7]) rfl ?_
              rw [HA.out, hA.out]; exact CanS.none hb.out
            | some q =>
              have hls := lsF_some _ _ _ hst
              rw [hls]
              have hq := (cStep_lt hst).1
              obtain ⟨c1, f1⟩ := hf.out.cell hq
              obtain ⟨bo, hbo⟩ : ∃ z, Hid (stands O q = z) := ⟨_, rfl⟩
              rw [hbo.out] at c1
              have hseq' : Hid (cSeq L m (O.length + 1) = some (O ++ [(q : Int)])) := by simp [Hid, cSeq, hseq.out, hst]
              have hf1 : Hid (Fl (wr.setCell ⟨sb, q, none⟩ (.bool true)) w0.heap.size sb m (stands (O ++ [(q : Int)]))) := (hf.out.set hq true).congr fun i _ => stands_set O q i
              have hgw : wr.grownBy (wr.setCell ⟨sb, q, none⟩ (.bool true)) (some sb) := grown_setCell _ _ _ _
              have hap : ¬ (Value.slice so O.length co).ownBlock = some sb := by
                obtain ⟨cc, fr, hh⟩ := hf.out.blk
                exact hrow.out.apart hh (by decide)
              have hrow1 : Hid (VRow (wr.setCell ⟨sb, q, none⟩ (.bool true)) w0.heap.size (.slice so O.length co) O) := World.ownsRow.kept hrow.out hgw (Or.inr hap)
              have hb1 : Hid (Below w0.heap.size w0 (wr.setCell ⟨sb, q, none⟩ (.bool true))) := hb.out.setCell hf.out.lt.1 _
              clear hls hst hgw hrow hf hb
              go_upto_region 15 with fail
              clear c1 f1 hbo
              generalize wr.setCell ⟨sb, q, none⟩ (.bool true) = X at hf1 hrow1 hb1 ⊢
              have hz := (Blk.new X #[.int .i64 (q : Int)] 3).cell 0
              have Va := hrow1.out.later (bl_alloc (Below.refl _ X) (.cells #[.int .i64 (q : Int)] 3))
              go_wp2_with (at_builtin; refine wpList_append_one _ rfl (.tmp 37) (.tmp 39) rfl w0.heap.size (.slice so O.length co) O rfl Va X.heap.size (q : Int) rfl hz (by omega) ?_)
              intro g1 d1 w5 hv5 hg5 ho5 hl5
              have hf5 : Hid (Fl w5 w0.heap.size sb m (stands (O ++ [(q : Int)]))) := (hf1.out.later (bl_alloc (Below.refl _ X) _)).kept hg5 hap
              have hB : w0.heap.size ≤ g1 := by
                rcases ho5 with h | h
                · exact (hrow1.out.lt _ h).1
                · have := hb1.out.size; (try simp at h); omega
              have hv5 : Hid (VRow w5 w0.heap.size (.slice (some ⟨g1, 0, none⟩) (O.length + 1) d1) (O ++ [(q : Int)])) := hv5.up hB
              have hb5 : Hid (Below w0.heap.size w0 w5) := (bl_alloc hb1.out _).grown hg5 (by simp; have := hb1.out.size; omega) (fun k h => (hrow1.out.lt k h).1)
              clear hz Va hg5 ho5 hl5 hB hf1 hrow1 hb1
              obtain ⟨O', hO'⟩ : ∃ O', Hid (O ++ [(q : Int)] = O') := ⟨_, rfl⟩
              have hlen : Hid (O.length + 1 = O'.length) := by rw [← hO'.out]; simp [Hid]
              rw [hO'.out] at hv5 hf5 hseq'
              rw [hlen.out] at hv5 hseq' ⊢
              have hO2 : O'.length ≤ m := by have := hlen.out; omega
              have hO3 : O.length < O'.length := by have := hlen.out; omega
              go_wp2_with fail
              go_roundw
              case rel => exact ⟨O', _, _, hO2, rfl, hseq', hv5, hf5, hb5⟩
              case measure => simp; omega
      · have hOm : O.length = m := by omega
        have hA : Hid (canB m L = some O) := by have := hseq.out; rw [hOm] at this; rw [HA.out]; exact this
        clear hOm
        go_wp2_with fail
        refine bodyPost_ret (v := .tuple #[.slice so O.length co, .bool true]) (by simp [results, Tryd.results7]) rfl ?_
        rw [hA.out]
        exact ⟨so, co, rfl, hrow.out, hb.out⟩
end Go.Proofs.YtigllpegaljkmaaDoor
