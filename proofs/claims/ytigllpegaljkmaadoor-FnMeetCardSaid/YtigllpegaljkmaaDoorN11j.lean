import Derived.Test.YtigllpegaljkmaaDoorN10j
namespace Go.Proofs.YtigllpegaljkmaaDoor
open Go.RowKit
set_option linter.unusedVariables false
set_option linter.unusedSimpArgs false

/-- what PoolMoves, PoolRun and Meet answer. -/
def PlS (w : World) (r : Option (List (Int × Int))) (e : Ending) (w' : World) : Prop :=
  ∃ v, e = .returned (.tuple #[v, .bool r.isSome]) ∧ MRow w' w.heap.size v (r.getD []) ∧ Below w.heap.size w w'
theorem PlS.none {w w' : World} (hb : Below w.heap.size w w') : PlS w none (.returned (.tuple #[.slice none 0 0, .bool false])) w' :=
  ⟨_, rfl, MRow.nil _ _, hb⟩
theorem wk_l1 (wk : Int) : (decide (1 ≤ wk) && decide (wk ≤ 8)) = wkOk wk := by
  unfold wkOk; rw [Bool.eq_iff_iff]; simp
theorem mem_at {L : List (Int × Int)} {m : Int × Int} {j : Nat} (h : j < L.length) : decide (m ∈ L.take (j + 1)) = (decide (m ∈ L.take j) || decide (L[j]?.getD (0, 0) = m)) := by
  rw [takeE_succ L j h, Bool.eq_iff_iff]
  simp only [List.mem_append, List.mem_singleton, decide_eq_true_eq, Bool.or_eq_true]
  constructor
  · rintro (g | g)
    · exact Or.inl g
    · exact Or.inr g.symm
  · rintro (g | g)
    · exact Or.inl g
    · exact Or.inr g.symm

set_option maxHeartbeats 4000000 in
theorem specPoolMoves_any (n wk : Int) (s : Option Addr) (c : Nat) (L : List (Int × Int)) (sd : Option Addr) (cd : Nat) (D : List (Int × Int)) (w : World) (hL : Eds w s L) (hl : L.length ≤ 1048576) (hD : Eds w sd D) (hd : D.length ≤ 1048576) :
    Calls Tryd.prog 10 #[.int .i64 n, .slice s L.length c, .int .i64 wk, .slice sd D.length cd] w fun e w' => PlS w (plB n L wk D) e w' := by
  cases hg : gOk n L
  · have hA : Hid (plB n L wk D = none) := by simp [Hid, plB, hg]
    go_enter Tryd.func10, Tryd.ntmps10
    go_wp2_with (go_at_call 22; refine (specGraphOk_any _ _ _ L _ hL hl).mono ?_; rintro e w' ⟨rfl, hq⟩; subst hq; rw [hg])
    refine bodyPost_ret (v := .tuple #[.slice none 0 0, .bool false]) (by simp [results, Tryd.results10]) rfl ?_
    rw [hA.out]; exact PlS.none (Below.refl _ _)
  cases hk : wkOk wk
  · have hA : Hid (plB n L wk D = none) := by simp [Hid, plB, hg, hk]
    go_enter Tryd.func10, Tryd.ntmps10
    go_wp2_with (first
      | (go_at_call 22; refine (specGraphOk_any _ _ _ L _ hL hl).mono ?_; rintro e w' ⟨rfl, hq⟩; subst hq; rw [hg])
      | (go_at_call 24; refine (l1In_any _ _ _ _).mono ?_; rintro e w' ⟨rfl, hq⟩; subst hq; rw [wk_l1, hk]))
    refine bodyPost_ret (v := .tuple #[.slice none 0 0, .bool false]) (by simp [results, Tryd.results10]) rfl ?_
    rw [hA.out]; exact PlS.none (Below.refl _ _)
  obtain ⟨m, rfl, hm, hl2, hin, h16⟩ := gOk_open hg
  have HA : Hid (plB m L wk D = plG L wk (List.replicate m 0) D) := by simp [Hid, plB, hg, hk]
  have HI : Hid (Inn m L) := hin
  have HL : Hid (Eds w s L) := hL
  have HD : Hid (Eds w sd D) := hD
  obtain ⟨i0, hi, hz0, hz1, hz2⟩ := info_parts Tryd.infoI
  go_enter Tryd.func10, Tryd.ntmps10
  go_wp2_with (first
    | (go_at_call 22; refine (specGraphOk_any _ _ _ L _ hL hl).mono ?_; rintro e w0 ⟨rfl, hq⟩; subst hq; rw [hg])
    | (go_at_call 24; refine (l1In_any _ _ _ _).mono ?_; rintro e w1 ⟨rfl, hq⟩; subst hq; rw [wk_l1, hk])
    | (at_make; refine wpList_make_full _ rfl _ _ 30 rfl w1.heap.size 3 i0 (.int .i64 0) 1 Tryd.underlying30 hi hz0 hz1 .i64 .i64 _ _ m rfl rfl rfl rfl (by rw [hz2]; omega) (by unfold maxLen; omega) (by simp) ?_))
  intro w2 hown hgrow
  have hrow : Hid (VRow w2 w1.heap.size (.slice (some ⟨w1.heap.size, 0, none⟩) m m) (List.replicate m 0)) := by
    rw [toList_madeCells_one] at hown
    unfold VRow
    rw [List.length_replicate, List.map_replicate]
    exact hown
  have hb : Hid (Below w1.heap.size w1 w2) := (Below.refl _ _).grown hgrow (Nat.le_refl _) (fun k h => by cases h)
  clear hown hgrow hi hz0 hz1 hz2 hL hD hin
  go_wp2_with fail
  go_loopw [10, 11] (fun av iv wr => ∃ (k : Nat) (sa : Option Addr) (ca : Nat) (A : List Int), k ≤ D.length ∧ iv = .int .i64 k ∧ av = .slice sa A.length ca ∧ Hid (Ints wr sa A) ∧ Hid (A.length = m) ∧ Hid (Thr A) ∧ Hid (plG L wk (List.replicate m 0) D = plG L wk A (D.drop k)) ∧ Hid (Below w1.heap.size w1 wr)) (fun _ iv _ => D.length - (intOf iv).toNat)
  case atStart =>
    refine ⟨0, some ⟨w1.heap.size, 0, none⟩, m, List.replicate m 0, Nat.zero_le _, rfl, by rw [List.length_replicate], ?_, by simp [Hid], zeros_thr m, rfl, hb⟩
    obtain ⟨s', c', e, hi⟩ := hrow.out.slice
    simp only [Value.slice.injEq] at e
    obtain ⟨rfl, -, -⟩ := e
    exact hi
  case round =>
    clear hrow hb
    obtain ⟨k, sa, ca, A, hkk, rfl, rfl, hIA, hAl, hT, hP, hb⟩ := hrel
    have hA16 : A.length ≤ 16 := by have := hAl.out; omega
    have HI' : Hid (Inn A.length L) := by rw [hAl.out]; exact HI
    by_cases hlt : k < D.length
    · obtain ⟨b, o, hsd, hp, e1, e2⟩ := (HD.out.later hb.out).get hlt
      obtain ⟨⟨p1, p2⟩, hx⟩ : ∃ x, Hid (D[k]?.getD (0, 0) = x) := ⟨_, rfl⟩
      rw [hx.out] at e1 e2
      have hstep := plG_step (L := L) (wk := wk) (A := A) hlt hx.out
      have HSt : Hid (plG L wk A (D.drop k) = if (p1, p2) ∈ mvs L wk A then plG L wk (doM A (p1, p2)) (D.drop (k + 1)) else none) := hstep
      have HE : Hid (b < wr.heap.size ∧ wr.cell? ⟨b, o + k * 2, none⟩ = some (.int .i64 p1) ∧ wr.cell? ⟨b, o + k * 2 + 1, none⟩ = some (.int .i64 p2)) := ⟨hp, e1, e2⟩
      have t0 : decide ((k : Int) < (D.length : Int)) = true := by simp; omega
      have kI : (k : Int) < (D.length : Int) := by omega
      clear hstep e1 e2 hp
      go_wp2_with fail
      refine (l18Moves_any s c sa ca wk L A _ (HL.out.later hb.out) hl HI'.out hIA.out hA16).mono ?_
      rintro e w3 ⟨⟨v, rfl, hM⟩, hb3⟩
      have hlM := mvs_len L wk A
      obtain ⟨M, hMM⟩ : ∃ M, Hid (mvs L wk A = M) := ⟨_, rfl⟩
      rw [hMM.out] at hM HSt hlM
      obtain ⟨sv, cv, e⟩ := hM.shape
      subst e
      subst hsd
      have hMl : M.length ≤ 64 := by omega
      have he3 : w3.cell? ⟨b, o + k * 2, none⟩ = some (.int .i64 p1) ∧ w3.cell? ⟨b, o + k * 2 + 1, none⟩ = some (.int .i64 p2) := ⟨(hb3.cell (p := ⟨b, o + k * 2, none⟩) HE.out.1).trans HE.out.2.1, (hb3.cell (p := ⟨b, o + k * 2 + 1, none⟩) HE.out.1).trans HE.out.2.2⟩
      have HE3 : Hid (b < w3.heap.size ∧ w3.cell? ⟨b, o + k * 2, none⟩ = some (.int .i64 p1) ∧ w3.cell? ⟨b, o + k * 2 + 1, none⟩ = some (.int .i64 p2)) := ⟨Nat.lt_of_lt_of_le HE.out.1 hb3.size, he3.1, he3.2⟩
      have hME : Hid (Eds w3 sv M) := hM.eds
      have hb' : Hid (Below w1.heap.size w1 w3) := bl_trans hb.out hb3
      have hIA' : Hid (Ints w3 sa A) := hIA.out.later hb3
      clear hM hb3 hIA hb HE he3
      go_wp2_with fail
      go_loopw [13, 14] (fun tv jv wq => ∃ j : Nat, j ≤ M.length ∧ jv = .int .i64 j ∧ (∃ t : Bool, tv = .bool t ∧ Hid (t = decide ((p1, p2) ∈ M.take j))) ∧ Hid (Below w3.heap.size w3 wq)) (fun _ jv _ => M.length - (intOf jv).toNat)
      case atStart => exact ⟨0, Nat.zero_le _, rfl, ⟨false, rfl, by simp [Hid]⟩, Below.refl _ _⟩
      case round =>
        obtain ⟨j, hj, rfl, ⟨t, rfl, ht⟩, hbq⟩ := hrel
        by_cases hjl : j < M.length
        · have tj : decide ((j : Int) < (M.length : Int)) = true := by simp; omega
          have jI : (j : Int) < (M.length : Int) := by omega
          obtain ⟨b2, o2, rfl, hp2, f1, f2⟩ := (hME.out.later hbq.out).get hjl
          obtain ⟨⟨q1, q2⟩, hy⟩ : ∃ x, Hid (M[j]?.getD (0, 0) = x) := ⟨_, rfl⟩
          rw [hy.out] at f1 f2
          have hnx : Hid (decide ((p1, p2) ∈ M.take (j + 1)) = (t || (decide (q1 = p1) && decide (q2 = p2)))) := by
            rw [mem_at hjl, ← ht.out, hy.out]
            simp [Hid]
          have e1 := (hbq.out.cell (p := ⟨b, o + k * 2, none⟩) HE3.out.1).trans HE3.out.2.1
          have e2 := (hbq.out.cell (p := ⟨b, o + k * 2 + 1, none⟩) HE3.out.1).trans HE3.out.2.2
          cases t
          · have hnx' : Hid ((decide (q1 = p1) && decide (q2 = p2)) = decide ((p1, p2) ∈ M.take (j + 1))) := by rw [hnx.out]; simp [Hid]
            clear hnx
            cases h1 : decide (q1 = p1)
            · rw [h1] at hnx'
              have h1' : (q1 == p1) = false := by simpa using h1
              go_wp2_with fail
              go_region
              all_goals
                go_wp2_with fail
                go_roundw
                case rel => exact ⟨j + 1, by omega, by go_num, ⟨false, rfl, hnx'⟩, bl_drewN hbq.out _⟩
                case measure => simp [intOf]; omega
            · have h1' : q1 = p1 := by simpa using h1
              subst h1'
              cases h2 : decide (q2 = p2)
              · rw [h1, h2] at hnx'
                have h2' : (q2 == p2) = false := by simpa using h2
                go_wp2_with fail
                go_region
                all_goals
                  go_wp2_with fail
                  go_roundw
                  case rel => exact ⟨j + 1, by omega, by go_num, ⟨false, rfl, hnx'⟩, bl_drewN hbq.out _⟩
                  case measure => simp [intOf]; omega
              · have h2' : q2 = p2 := by simpa using h2
                subst h2'
                rw [h1, h2] at hnx'
                go_wp2_with fail
                go_region
                all_goals
                  go_wp2_with fail
                  go_roundw
                  case rel => exact ⟨j + 1, by omega, by go_num, ⟨true, rfl, hnx'⟩, bl_drewN hbq.out _⟩
                  case measure => simp [intOf]; omega
          · have hnx' : Hid (true = decide ((p1, p2) ∈ M.take (j + 1))) := by rw [hnx.out]; rfl
            go_wp2_with fail
            go_region
            all_goals
              go_wp2_with fail
              go_roundw
              case rel => exact ⟨j + 1, by omega, by go_num, ⟨true, rfl, hnx'⟩, bl_drewN hbq.out _⟩
              case measure => simp [intOf]; omega
        · have hj' : j = M.length := by omega
          subst hj'
          have tj : decide ((M.length : Int) < (M.length : Int)) = false := by simp
          have ht' := ht.out
          rw [List.take_length] at ht'
          have hbr : Hid (Below w1.heap.size w1 wr) := bl_trans hb'.out hbq.out
          cases t
          · have hnone : Hid (plB m L wk D = none) := by
              have hn : ¬ (p1, p2) ∈ M := by simpa using ht'.symm
              rw [HA.out, hP.out, HSt.out, if_neg hn]; rfl
            clear ht ht'
            go_wp2_with fail
            refine bodyPost_ret (v := .tuple #[.slice none 0 0, .bool false]) (by simp [results, Tryd.results10]) rfl ?_
            rw [hnone.out]; exact PlS.none hbr.out
          · have hmem : (p1, p2) ∈ M := by simpa using ht'.symm
            have hmem2 := hmem
            rw [← hMM.out] at hmem2
            obtain ⟨x, hxl, hcase⟩ := mem_mvs hmem2
            have hp2 : p2 = (x : Int) := by
              rcases hcase with ⟨e, _⟩ | ⟨e, _⟩
              · exact (Prod.mk.inj e).2
              · exact (Prod.mk.inj e).2
            subst hp2
            have hnext : Hid (plG L wk (List.replicate m 0) D = plG L wk (doM A (p1, (x : Int))) (D.drop (k + 1))) := by
              rw [hP.out, HSt.out, if_pos hmem]; rfl
            have e1 := (hbq.out.cell (p := ⟨b, o + k * 2, none⟩) HE3.out.1).trans HE3.out.2.1
            have e2 := (hbq.out.cell (p := ⟨b, o + k * 2 + 1, none⟩) HE3.out.1).trans HE3.out.2.2
            have hT' : Hid (Thr (doM A (p1, (x : Int)))) := doM_thr hT.out _
            have hl' : Hid ((doM A (p1, (x : Int))).length = m) := by rw [doM_len]; exact hAl
            have hIr : Hid (Ints wr sa A) := hIA'.out.later hbq.out
            clear ht ht' hmem hmem2 hcase
            go_wp2_with fail
            refine (l18Do_any sa ca x A p1 _ hIr.out hxl (by omega)).mono ?_
            rintro e w5 ⟨⟨g5, d5, rfl, hV5⟩, hb5⟩
            have hI5 : Hid (Ints w5 (some ⟨g5, 0, none⟩) (doM A (p1, (x : Int)))) := by
              obtain ⟨s', c', e, hi⟩ := hV5.slice
              simp only [Value.slice.injEq] at e
              obtain ⟨rfl, -, -⟩ := e
              exact hi
            have hb6 : Hid (Below w1.heap.size w1 w5) := bl_trans hbr.out hb5
            have eL : Hid (A.length = (doM A (p1, (x : Int))).length) := (doM_len A _).symm
            rw [eL.out]
            go_wp2_with fail
            go_roundw
            case rel => exact ⟨k + 1, some ⟨g5, 0, none⟩, d5, doM A (p1, (x : Int)), by omega, by go_num, rfl, hI5, hl', hT', hnext, hb6⟩
            case measure => simp [intOf]; omega
    · have hk' : k = D.length := by omega
      subst hk'
      have t0 : decide ((D.length : Int) < (D.length : Int)) = false := by simp
      have hfin : Hid (plB m L wk D = some (mvs L wk A)) := by
        rw [HA.out, hP.out, List.drop_length]; rfl
      go_wp2_with fail
      refine (l18Moves_any s c sa ca wk L A _ (HL.out.later hb.out) hl HI'.out hIA.out hA16).mono ?_
      rintro e w3 ⟨⟨v, rfl, hM⟩, hb3⟩
      have hbs := hb.out.size
      go_wp2_with fail
      refine bodyPost_ret (v := .tuple #[v, .bool true]) (by simp [results, Tryd.results10]) rfl ?_
      rw [hfin.out]
      exact ⟨v, rfl, hM.mono hbs, bl_trans hb.out hb3⟩
end Go.Proofs.YtigllpegaljkmaaDoor
