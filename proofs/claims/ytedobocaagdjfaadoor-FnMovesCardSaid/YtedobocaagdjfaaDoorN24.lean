import Derived.Test.YtedobocaagdjfaaDoorN16
import Derived.Test.YtedobocaagdjfaaDoorN21
import Derived.Test.YtedobocaagdjfaaDoorN23
namespace Go.Proofs.YtedobocaagdjfaaDoor
open Go.RowKit
set_option linter.unusedVariables false
set_option linter.unusedSimpArgs false

theorem Eds.takeN {w : World} {s : Option Addr} {M : List (Int × Int)} (h : Eds w s M) (m : Nat) : Eds w s (M.take m) := by
  rcases h with rfl | ⟨b, o, e, h1, h2⟩
  · exact Or.inl (by simp)
  · refine Or.inr ⟨b, o, e, h1, fun j hj => ?_⟩
    have hj' : j < M.length := by simp at hj; omega
    have hjm : j < m := by simp at hj; omega
    have := h2 j hj'
    rw [List.getElem?_take, if_pos hjm]
    exact this
/-- a run, as PoolMoves sees it. -/
theorem prB_run {n : Int} {L : List (Int × Int)} {wk : Int} {P : List Int} {R : List (Int × Int)} (h : prB n L wk P = some R) : R.length ≤ 32 ∧ plB n L wk R = some [] ∧ ∀ i, i < R.length → ∃ M, plB n L wk (R.take i) = some M ∧ R[i]?.getD (0, 0) ∈ M ∧ M.length ≤ 32 := by
  unfold prB at h
  split at h
  · rename_i hc
    simp only [Bool.and_eq_true] at hc
    obtain ⟨⟨hg, hk⟩, _⟩ := hc
    obtain ⟨m, rfl, hm, _⟩ := gOk_open hg
    simp only [Int.toNat_natCast, Option.some.injEq] at h
    have hv := rnG_vld L wk P (2 * m) 0 (List.replicate m 0)
    have hl := rnG_len L wk P (2 * m) 0 (List.replicate m 0)
    have hlast := rnG_last L wk P m
    rw [h] at hv hl hlast
    have hpl : ∀ D, plB m L wk D = plG L wk (List.replicate m 0) D := fun D => by simp [plB, hg, hk]
    refine ⟨by omega, ?_, fun i hi => ⟨mvs L wk (stA (List.replicate m 0) (R.take i)), ?_, vld_at i hv hi, ?_⟩⟩
    · rw [hpl, vld_plG hv, hlast]
    · rw [hpl, vld_plG (vld_take i hv)]
    · have h1 := mvs_len L wk (stA (List.replicate m 0) (R.take i))
      rw [stA_len, List.length_replicate] at h1
      omega
  · cases h

set_option maxHeartbeats 8000000 in
theorem fnMoves_any (sl : Option Addr) (len cap : Nat) (w : World) (hC : Code w sl len) (hT : DbT w) :
    Calls Tryd.prog 3 #[.slice sl len cap] w fun e w' => e = .returned (.bool true) ∧ Below w.heap.size w w' := by
  by_cases hl : len ≤ 1048576
  · have hd : decide (1048576 < (len : Int)) = false := by simp; omega
    have HT : Hid (DbT w) := hT
    clear hT
    go_enter Tryd.func3, Tryd.ntmps3
    go_wp2_with fail
    refine (big_any sl len cap _).mono ?_
    rintro e w0 ⟨rfl, rfl⟩
    rw [hd]
    go_wp2_with fail
    refine (drawPoolRun_any sl len cap _ hl hC).mono ?_
    rintro e w1 ⟨x, s, c, L, wk, sp, cp, P, rfl, hL, hP, hW, hE, hV, hb1⟩
    have HE : Hid (Eds w1 s L) := hE.eds
    have HI : Hid (Ints w1 sp P) := hV.ints'
    have HW : Hid (Wide P) := hW
    have HB : Hid (Below w0.heap.size w0 w1) := hb1
    clear hE hV hW hb1 hC
    go_wp2_with fail
    refine (specPoolRun_any x wk s c L sp cp P _ HE.out (by omega) HI.out (by omega) HW.out).mono ?_
    rintro e w2 ⟨v, rfl, hM, hb2⟩
    have HE2 : Hid (Eds w2 s L) := HE.out.later hb2
    have HB2 : Hid (Below w0.heap.size w0 w2) := bl_trans HB.out hb2
    clear HE HI HW HB hb2
    cases hpr : prB x L wk P with
    | none =>
      rw [hpr] at hM
      obtain ⟨sv, cv, e⟩ := hM.shape
      subst e
      clear hM
      go_wp2_with fail
      refine (implPoolMoves_any x wk s c L none 0 [] _ HE2.out (by omega) (Or.inl rfl) (by simp) (HT.out.later HB2.out)).mono ?_
      rintro e w3 ⟨v3, rfl, hM3, hb3⟩
      go_wp2_with fail
      refine (specPoolMoves_any x wk s c L none 0 [] _ (HE2.out.later hb3) (by omega) (Or.inl rfl) (by simp)).mono ?_
      rintro e w4 ⟨v4, rfl, hM4, hb4⟩
      have HB4 : Hid (Below w0.heap.size w0 w4) := bl_trans (bl_trans HB2.out hb3) hb4
      obtain ⟨F, hF⟩ : ∃ F, (plB x L wk []).isSome = F := ⟨_, rfl⟩
      rw [hF]
      have tF : (F == F) = true := by simp
      go_wp2_with fail
      go_ret
      first
        | exact ⟨rfl, HB4.out⟩
        | (refine ⟨?_, HB4.out⟩; simp)
    | some R =>
      obtain ⟨hRl, hlast, hall⟩ := prB_run hpr
      have HLast : Hid (plB x L wk R = some []) := hlast
      have HAll : Hid (∀ i, i < R.length → ∃ M, plB x L wk (R.take i) = some M ∧ R[i]?.getD (0, 0) ∈ M ∧ M.length ≤ 32) := hall
      rw [hpr] at hM
      have hM : MRow w2 w1.heap.size v R := hM
      obtain ⟨sv, cv, e⟩ := hM.shape
      subst e
      have HR2 : Hid (Eds w2 sv R) := hM.eds
      have hcv : R.length ≤ cv := by
        rcases hM.2 with ⟨h1, h2⟩ | ⟨g, cap', cur, h1, _, _, h3, _⟩
        · omega
        · simp only [Value.slice.injEq] at h1; omega
      have hcv2 : cv ≤ 9223372036854775807 := by
        rcases hM.2 with ⟨h1, h2⟩ | ⟨g, cap', cur, h1, _, _, h3, h4, _⟩
        · simp only [Value.slice.injEq] at h1; omega
        · simp only [Value.slice.injEq] at h1; unfold maxLen at h4; omega
      clear hM hall hlast hpr
      go_wp2_with fail
      go_loopw [13] (fun iv wr => ∃ i : Nat, i ≤ R.length ∧ iv = .int .i64 i ∧ Hid (Eds wr s L) ∧ Hid (Eds wr sv R) ∧ Hid (Below w0.heap.size w0 wr)) (fun iv _ => R.length - (intOf iv).toNat)
      case atStart => exact ⟨0, Nat.zero_le _, rfl, HE2, HR2, HB2⟩
      case round =>
        clear HE2 HR2 HB2
        obtain ⟨i, hi, rfl, HE, HR, HB⟩ := hrel
        by_cases hlt : i < R.length
        · obtain ⟨M, hpl, hmem, hMl⟩ := HAll.out i hlt
          obtain ⟨b, o, rfl, hp, e1, e2⟩ := HR.out.get hlt
          obtain ⟨⟨p1, p2⟩, hx⟩ : ∃ x, Hid (R[i]?.getD (0, 0) = x) := ⟨_, rfl⟩
          rw [hx.out] at e1 e2 hmem
          have HE1 : Hid (b < wr.heap.size ∧ wr.cell? ⟨b, o + i * 2, none⟩ = some (.int .i64 p1) ∧ wr.cell? ⟨b, o + i * 2 + 1, none⟩ = some (.int .i64 p2)) := ⟨hp, e1, e2⟩
          have HMem : Hid ((p1, p2) ∈ M) := hmem
          have HPl : Hid (plB x L wk (R.take i) = some M) := hpl
          have t0 : decide ((i : Int) < (R.length : Int)) = true := by simp; omega
          have iI : (i : Int) < (R.length : Int) := by omega
          have iC : (i : Int) ≤ (cv : Int) := by omega
          have iC2 : i ≤ cv := by omega
          have hlen : (R.take i).length = i := by simp; omega
          have HRt : Hid (Eds wr (some ⟨b, o, none⟩) (R.take i)) := HR.out.takeN i
          clear hpl hmem hp e1 e2
          go_wp2_with fail
          have hcall := implPoolMoves_any x wk s c L (some ⟨b, o, none⟩) cv (R.take i) wr HE.out (by omega) HRt.out (by omega) (HT.out.later HB.out)
          rw [hlen, HPl.out] at hcall
          refine hcall.mono ?_
          rintro e w3 ⟨v3, rfl, hM3, hb3⟩
          have hM3 : MRow w3 wr.heap.size v3 M := hM3
          obtain ⟨s3, c3, e⟩ := hM3.shape
          subst e
          have hME : Hid (Eds w3 s3 M) := hM3.eds
          have HE3 : Hid (b < w3.heap.size ∧ w3.cell? ⟨b, o + i * 2, none⟩ = some (.int .i64 p1) ∧ w3.cell? ⟨b, o + i * 2 + 1, none⟩ = some (.int .i64 p2)) := ⟨Nat.lt_of_lt_of_le HE1.out.1 hb3.size, (hb3.cell (p := ⟨b, o + i * 2, none⟩) HE1.out.1).trans HE1.out.2.1, (hb3.cell (p := ⟨b, o + i * 2 + 1, none⟩) HE1.out.1).trans HE1.out.2.2⟩
          have HEL : Hid (Eds w3 s L) := HE.out.later hb3
          have HRR : Hid (Eds w3 (some ⟨b, o, none⟩) R) := HR.out.later hb3
          have HB3 : Hid (Below w0.heap.size w0 w3) := bl_trans HB.out hb3
          clear hcall hM3 hb3 HE1 HRt HE HR HB HPl
          go_wp2_with fail
          go_loopw [16, 17] (fun tv jv wq => ∃ j : Nat, j ≤ M.length ∧ jv = .int .i64 j ∧ (∃ t : Bool, tv = .bool t ∧ Hid (t = decide ((p1, p2) ∈ M.take j))) ∧ Hid (Below w3.heap.size w3 wq)) (fun _ jv _ => M.length - (intOf jv).toNat)
          case atStart => exact ⟨0, Nat.zero_le _, rfl, ⟨false, rfl, by simp [Hid]⟩, Below.refl _ _⟩
          case round =>
            obtain ⟨j, hj, rfl, ⟨t, rfl, ht⟩, hbq⟩ := hrel
            by_cases hjl : j < M.length
            · have tj : decide ((j : Int) < (M.length : Int)) = true := by simp; omega
              have jI : (j : Int) < (M.length : Int) := by omega
              obtain ⟨b2, o2, rfl, hp2, f1, f2⟩ := (hME.out.later hbq.out).get hjl
              obtain ⟨⟨q1, q2⟩, hy⟩ : ∃ x, Hid (M[j]?.getD (0, 0) = x) := ⟨_, rfl⟩
              rw [hy.out] at f1 f2
              have hnx : Hid (decide ((p1, p2) ∈ M.take (j + 1)) = (t || (decide (q1 = p1) && decide (q2 = p2)))) := by
                rw [mem_at hjl, ← ht.out, hy.out]
                simp [Hid]
              have e1 := (hbq.out.cell (p := ⟨b, o + i * 2, none⟩) HE3.out.1).trans HE3.out.2.1
              have e2 := (hbq.out.cell (p := ⟨b, o + i * 2 + 1, none⟩) HE3.out.1).trans HE3.out.2.2
              cases t
              · have hnx' : Hid ((decide (q1 = p1) && decide (q2 = p2)) = decide ((p1, p2) ∈ M.take (j + 1))) := by rw [hnx.out]; simp [Hid]
                clear hnx
                cases h1 : decide (q1 = p1)
                · rw [h1] at hnx'
                  have h1' : (q1 == p1) = false := by simpa using h1
                  go_wp2_with fail
                  go_region
                  all_goals
                    go_wp2_with fail
                    go_roundw
                    case rel => exact ⟨j + 1, by omega, by go_num, ⟨false, rfl, hnx'⟩, bl_drewN hbq.out _⟩
                    case measure => simp [intOf]; omega
                · have h1' : q1 = p1 := by simpa using h1
                  subst h1'
                  cases h2 : decide (q2 = p2)
                  · rw [h1, h2] at hnx'
                    have h2' : (q2 == p2) = false := by simpa using h2
                    go_wp2_with fail
                    go_region
                    all_goals
                      go_wp2_with fail
                      go_roundw
                      case rel => exact ⟨j + 1, by omega, by go_num, ⟨false, rfl, hnx'⟩, bl_drewN hbq.out _⟩
                      case measure => simp [intOf]; omega
                  · have h2' : q2 = p2 := by simpa using h2
                    subst h2'
                    rw [h1, h2] at hnx'
                    go_wp2_with fail
                    go_region
                    all_goals
                      go_wp2_with fail
                      go_roundw
                      case rel => exact ⟨j + 1, by omega, by go_num, ⟨true, rfl, hnx'⟩, bl_drewN hbq.out _⟩
                      case measure => simp [intOf]; omega
              · have hnx' : Hid (true = decide ((p1, p2) ∈ M.take (j + 1))) := by rw [hnx.out]; rfl
                go_wp2_with fail
                go_region
                all_goals
                  go_wp2_with fail
                  go_roundw
                  case rel => exact ⟨j + 1, by omega, by go_num, ⟨true, rfl, hnx'⟩, bl_drewN hbq.out _⟩
                  case measure => simp [intOf]; omega
            · have hj' : j = M.length := by omega
              subst hj'
              have tj : decide ((M.length : Int) < (M.length : Int)) = false := by simp
              have ht' := ht.out
              rw [List.take_length, decide_eq_true HMem.out] at ht'
              subst ht'
              have HEr : Hid (Eds wr s L) := HEL.out.later hbq.out
              have HRr : Hid (Eds wr (some ⟨b, o, none⟩) R) := HRR.out.later hbq.out
              have HBr : Hid (Below w0.heap.size w0 wr) := bl_trans HB3.out hbq.out
              clear ht
              go_wp2_with fail
              go_roundw
              case rel => exact ⟨i + 1, by omega, by go_num, HEr, HRr, HBr⟩
              case measure => simp [intOf]; omega
        · have hi' : i = R.length := by omega
          subst hi'
          have t0 : decide ((R.length : Int) < (R.length : Int)) = false := by simp
          go_wp2_with fail
          have hcall := implPoolMoves_any x wk s c L sv cv R wr HE.out (by omega) HR.out (by omega) (HT.out.later HB.out)
          rw [HLast.out] at hcall
          refine hcall.mono ?_
          rintro e w3 ⟨v3, rfl, hM3, hb3⟩
          have hM3 : MRow w3 wr.heap.size v3 [] := hM3
          obtain ⟨s3, c3, e⟩ := hM3.shape
          subst e
          have HB3 : Hid (Below w0.heap.size w0 w3) := bl_trans HB.out hb3
          clear hcall hM3 hb3
          go_wp2_with fail
          go_ret
          exact ⟨rfl, HB3.out⟩
  · have hd : decide (1048576 < (len : Int)) = true := by simp; omega
    go_enter Tryd.func3, Tryd.ntmps3
    go_wp2_with fail
    refine (big_any sl len cap _).mono ?_
    rintro e w0 ⟨rfl, rfl⟩
    rw [hd]
    go_wp2_with fail
    go_ret
    exact ⟨rfl, Below.refl _ _⟩
end Go.Proofs.YtedobocaagdjfaaDoor
