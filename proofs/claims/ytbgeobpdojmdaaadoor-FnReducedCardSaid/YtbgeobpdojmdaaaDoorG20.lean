import Derived.Test.YtbgeobpdojmdaaaDoorG19
namespace Go.Proofs.YtbgeobpdojmdaaaDoor
open Go.RowKit
set_option linter.unusedVariables false
set_option linter.unusedSimpArgs false

theorem cStep_none {L : List (Int × Int)} {n : Nat} {O : List Int} (h : cStep L n O = none) : (nb (rdy (eF L) n (stands O)) == 0) = true := by
  rw [nb_is_zero, List.all_eq_true]
  intro x hx
  unfold cStep at h
  rw [List.find?_eq_none] at h
  by_cases hn : x < n
  · have := h x (by simpa using hn)
    simpa using this
  · simp [rdy, hn]
theorem cStep_least {L : List (Int × Int)} {n q : Nat} {O : List Int} (hn : n ≤ 16) (h : cStep L n O = some q) : Least (rdy (eF L) n (stands O)) q ∧ (nb (rdy (eF L) n (stands O)) == 0) = false := by
  unfold cStep at h
  rw [List.find?_range_eq_some] at h
  obtain ⟨h1, h2, h3⟩ := h
  have h2 : q < n := by simpa using h2
  refine ⟨⟨by omega, h1, fun i hi => by simpa using h3 i hi⟩, ?_⟩
  rw [nb_is_zero, List.all_eq_false]
  exact ⟨q, by simp; omega, by simp [h1]⟩

theorem cSeq_len {L : List (Int × Int)} {n : Nat} : ∀ (k : Nat) {O : List Int}, cSeq L n k = some O → O.length = k
  | 0, O, h => by simp [cSeq] at h; subst h; rfl
  | k + 1, O, h => by
    simp only [cSeq, Option.bind_eq_some_iff, Option.map_eq_some_iff] at h
    obtain ⟨P, h1, q, _, rfl⟩ := h
    simp [cSeq_len k h1]
theorem canB_len (n : Int) (L : List (Int × Int)) : ((canB n L).getD []).length ≤ 1048576 := by
  cases hg : gOk n L
  · simp [canB, hg]
  · obtain ⟨m, rfl, hm, _⟩ := gOk_open hg
    cases h : canB m L with
    | none => simp
    | some O =>
      simp only [canB, hg, if_true, Int.toNat_natCast] at h
      have := cSeq_len m h
      simp; omega

set_option maxHeartbeats 4000000 in
theorem implCanon_any (n : Int) (s : Option Addr) (c : Nat) (L : List (Int × Int)) (w : World) (hL : Eds w s L) (hl : L.length ≤ 1048576) (hT : DbT w) :
    Calls Tryd.prog 15 #[.int .i64 n, .slice s L.length c] w fun e w' => CanS w (canB n L) e w' := by
  have hal := alloc_old
  have haf := alloc_oldf
  cases hg : gOk n L
  · have hA : Hid (canB n L = none) := by simp [Hid, canB, hg]
    go_enter Tryd.func15, Tryd.ntmps15
    go_wp2_with (go_at_call 23; refine (implGraphOk_any _ _ _ L _ hL hl).mono ?_; rintro e w' ⟨rfl, hb1⟩; rw [hg])
    refine bodyPost_ret (v := .tuple #[.slice none 0 0, .bool false]) (by simp [results, Tryd.results15]) rfl ?_
    rw [hA.out]; exact CanS.none hb1
  · obtain ⟨m, rfl, hm, hl2, hin, h16⟩ := gOk_open hg
    have HA : Hid (canB m L = cSeq L m m) := by simp [Hid, canB, hg]
    have HT : Hid (DbT w) := hT
    clear hT hin
    go_enter Tryd.func15, Tryd.ntmps15
    go_upto_region 4 with (first
      | (go_at_call 23; refine (implGraphOk_any _ _ _ L _ hL hl).mono ?_; rintro e w1 ⟨rfl, hb1⟩; rw [hg])
      | (go_at_call 16; refine (linksOf_any _ _ L _ (hL.later hb1) hl h16).mono ?_; rintro e w2 ⟨rfl, hb2⟩)
      | refine wpList_store_row rfl 41 (.tmp 6) (.tmp 19) rfl w2.heap.size (lk (eR L)) rfl rfl _ _ (blk2 w2 _ _ _ _).1 (by rw [Tryd.infoLk, lk_size]) (by rw [lk_size]; rfl) (lk_one _) ?_
      | refine wpList_store_row rfl 41 (.tmp 7) (.tmp 20) rfl (w2.heap.size + 1) (lk (eF L)) rfl rfl _ _ ((setRow_other _ _ _ _ (by omega)).trans (blk2 w2 _ _ _ _).2) (by rw [Tryd.infoLk, lk_size]) (by rw [lk_size]; rfl) (lk_one _) ?_)
    rw [← lk_zero]
    obtain ⟨k0, k1, l3⟩ := two_lk w2 (eR L) (eF L)
    have L3 : Hid (Below w.heap.size w (twoW w2 (eR L) (eF L))) := bl_trans (bl_trans hb1 hb2) l3
    clear hb1 hb2 l3 k0
    change Code.wp _ _ _ _ (twoW w2 (eR L) (eF L))
    generalize twoW w2 (eR L) (eF L) = X at k1 L3 ⊢
    generalize w2.heap.size = gb at k1 ⊢
    have k1 : Hid (Blk X (gb + 1) (lk (eF L)) 41) := k1
    have V0 : Hid (VRow X w.heap.size (.slice none 0 0) []) := World.ownsRow_nil _ _ _ _
    go_wp2_with fail
    go_loopw [8, 9, 22] (fun ov sv iv wr => ∃ (O : List Int) (so : Option Addr) (co : Nat), O.length ≤ m ∧ ov = .slice so O.length co ∧ sv = .int .u16 (nb (stands O)) ∧ iv = .int .i64 O.length ∧ Hid (cSeq L m O.length = some O) ∧ Hid (VRow wr w.heap.size (.slice so O.length co) O) ∧ Hid (Blk wr (gb + 1) (lk (eF L)) 41) ∧ Hid (Below w.heap.size w wr)) (fun _ _ iv _ => m - (intOf iv).toNat)
    case atStart => exact ⟨[], _, _, Nat.zero_le _, rfl, by rw [stands_nil], rfl, rfl, V0, k1, L3⟩
    case round =>
      clear k1 L3 V0
      obtain ⟨O, so, co, hO, rfl, rfl, rfl, hseq, hrow, k1, hb⟩ := hrel
      by_cases hlt : O.length < m
      · have t0 : decide ((O.length : Int) < (m : Int)) = true := by simp; omega
        cases hst : cStep L m O with
        | none =>
          have hz := cStep_none hst
          have hA : Hid (cSeq L m m = none) := by
            have := cSeq_stop hseq.out hst (m - (O.length + 1))
            rwa [show O.length + 1 + (m - (O.length + 1)) = m by omega] at this
          clear hst
          go_wp2_with (first
            | (go_at_call 30; refine (ready_any (eF L) m (stands O) _ hm).mono ?_; rintro e w3 ⟨rfl, hb3⟩)
            | refine wpList_load_row rfl 41 (.tmp 7) rfl (gb + 1) rfl _ _ _ _ k1.out Tryd.underlying41 rfl (by rw [Tryd.infoLk, lk_size]) ?_)
          refine bodyPost_ret (v := .tuple #[.slice none 0 0, .bool false]) (by simp [results, Tryd.results15]) rfl ?_
          rw [HA.out, hA.out]; exact CanS.none (bl_trans hb.out hb3)
        | some q =>
          obtain ⟨hle, hz⟩ := cStep_least hm hst
          have hq := (cStep_lt hst).1
          have hq16 : q < 16 := by omega
          have hseq' : Hid (cSeq L m (O.length + 1) = some (O ++ [(q : Int)])) := by simp [Hid, cSeq, hseq.out, hst]
          have g1 := or16 (stands O) (fun j => decide (j = q))
          rw [stands_snoc] at g1
          have HLe : Hid (Least (rdy (eF L) m (stands O)) q) := hle
          clear hst hle
          go_upto_region 12 with (first
            | (go_at_call 30; refine (ready_any (eF L) m (stands O) _ hm).mono ?_; rintro e w3 ⟨rfl, hb3⟩)
            | (go_at_call 31; refine (least_any _ q _ HLe.out (HT.out.later (bl_trans hb.out hb3))).mono ?_; rintro e w4 ⟨rfl, hq4⟩; subst hq4)
            | refine wpList_load_row rfl 41 (.tmp 7) rfl (gb + 1) rfl _ _ _ _ k1.out Tryd.underlying41 rfl (by rw [Tryd.infoLk, lk_size]) ?_)
          have hb3' := hb3
          have hrow1 : Hid (VRow w4 w.heap.size (.slice so O.length co) O) := hrow.out.later hb3'
          have k1' : Hid (Blk w4 (gb + 1) (lk (eF L)) 41) := k1.out.later hb3'
          have hb1 : Hid (Below w.heap.size w w4) := bl_trans hb.out hb3'
          have hap : ¬ (Value.slice so O.length co).ownBlock = some (gb + 1) := hrow1.out.apart k1'.out (by decide)
          clear hrow k1 hb hb3 hb3'
          have hz4 := (Blk.new w4 #[.int .i64 (q : Int)] 3).cell 0
          have Va := hrow1.out.later (bl_alloc (Below.refl _ w4) (.cells #[.int .i64 (q : Int)] 3))
          go_wp2_with (at_builtin; refine wpList_append_one _ rfl (.tmp 32) (.tmp 34) rfl w.heap.size (.slice so O.length co) O rfl Va w4.heap.size (q : Int) rfl hz4 (by omega) ?_)
          intro g1' d1 w5 hv5 hg5 ho5 hl5
          have k5 : Hid (Blk w5 (gb + 1) (lk (eF L)) 41) := by
            have h0 := k1'.out.alloc (.cells #[.int .i64 (q : Int)] 3)
            show _ = _
            rw [hg5.block (gb + 1) h0.lt (fun e => hap e.symm)]; exact h0
          have hB : w.heap.size ≤ g1' := by
            rcases ho5 with h | h
            · exact (hrow1.out.lt _ h).1
            · have := hb1.out.size; (try simp at h); omega
          have hv5 : Hid (VRow w5 w.heap.size (.slice (some ⟨g1', 0, none⟩) (O.length + 1) d1) (O ++ [(q : Int)])) := hv5.up hB
          have hb5 : Hid (Below w.heap.size w w5) := (bl_alloc hb1.out _).grown hg5 (by simp; have := hb1.out.size; omega) (fun k h => (hrow1.out.lt k h).1)
          clear hz4 Va hg5 ho5 hl5 hB hrow1 hb1 k1'
          obtain ⟨O', hO'⟩ : ∃ O', Hid (O ++ [(q : Int)] = O') := ⟨_, rfl⟩
          have hlen : Hid (O.length + 1 = O'.length) := by rw [← hO'.out]; simp [Hid]
          rw [hO'.out] at hv5 hseq' g1
          rw [hlen.out] at hv5 hseq' ⊢
          have hO2 : O'.length ≤ m := by have := hlen.out; omega
          have hO3 : O.length < O'.length := by have := hlen.out; omega
          have hO4 : Hid (((O.length : Int) + 1) = (O'.length : Int)) := by have := hlen.out; show _ = _; omega
          go_wp2_with (first
            | (go_at_call 32; refine (bitOf_any _ _ hq16).mono ?_; rintro e w6 ⟨rfl, hq⟩; subst hq))
          go_roundw
          case rel => exact ⟨O', _, _, hO2, rfl, rfl, by rw [← hO4.out], hseq', hv5, k5, hb5⟩
          case measure => simp [intOf]; omega
      · have hOm : O.length = m := by omega
        have hA : Hid (canB m L = some O) := by have := hseq.out; rw [hOm] at this; rw [HA.out]; exact this
        clear hOm
        go_wp2_with fail
        refine bodyPost_ret (v := .tuple #[.slice so O.length co, .bool true]) (by simp [results, Tryd.results15]) rfl ?_
        rw [hA.out]
        exact ⟨so, co, rfl, hrow.out, hb.out⟩
end Go.Proofs.YtbgeobpdojmdaaaDoor
