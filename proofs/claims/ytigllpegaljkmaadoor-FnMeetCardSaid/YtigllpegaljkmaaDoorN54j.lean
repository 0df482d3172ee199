import Derived.Test.YtigllpegaljkmaaDoorN33j
import Derived.Test.YtigllpegaljkmaaDoorN45j
import Derived.Test.YtigllpegaljkmaaDoorN52j
import Derived.Test.YtigllpegaljkmaaDoorN53j
import Derived.Test.YtigllpegaljkmaaDoorN11j
import Derived.Test.YtigllpegaljkmaaDoorG19j
import Derived.Test.YtigllpegaljkmaaDoorG11sj
namespace Go.Proofs.YtigllpegaljkmaaDoor
open Go.RowKit
set_option linter.unusedVariables false
set_option linter.unusedSimpArgs false

set_option maxHeartbeats 2000000 in
theorem within_any (s : Option Addr) (c : Nat) (A : List Int) (x : Int) (w : World) (hA : Ints w s A) (hl : A.length ≤ 1048576) (hx : x ∈ A) :
    Calls Tryd.prog 12 #[.slice s A.length c, .int .i64 x] w fun e w' => e = .returned (.bool true) ∧ w' = w := by
  have HX : Hid (x ∈ A) := hx
  have HA : Hid (Ints w s A) := hA
  clear hx hA
  go_enter Tryd.func12, Tryd.ntmps12
  go_wp2_with fail
  go_loop [5] (fun i => ∃ k : Nat, k ≤ A.length ∧ i = .int .i64 k ∧ Hid (x ∈ A.drop k)) (fun i => A.length - (intOf i).toNat)
  case atStart => exact ⟨0, Nat.zero_le _, rfl, HX⟩
  case round =>
    obtain ⟨k, hk, rfl, hin⟩ := hrel
    by_cases hlt : k < A.length
    · obtain ⟨pb, po, rfl, hp, hc⟩ := HA.out.get hlt
      obtain ⟨y, hy⟩ : ∃ y, Hid (A[k]?.getD 0 = y) := ⟨_, rfl⟩
      have d1 : w.cell? ⟨pb, po + k, none⟩ = some (.int .i64 y) := by rw [← hy.out]; exact hc k hlt
      have hkI : (k : Int) < (A.length : Int) := by omega
      clear hc
      by_cases e : y = x
      · have hxx : (y == x) = true := by simpa using e
        go_wp2_with fail
        go_ret
        exact ⟨rfl, rfl⟩
      · have hxx : (y == x) = false := by simpa using e
        have hin2 : Hid (x ∈ A.drop (k + 1)) := by
          have := hin.out
          rw [List.drop_eq_getElem_cons hlt, List.mem_cons] at this
          rcases this with q | q
          · exact absurd (by rw [q, ← hy.out]; simp [hlt]) e
          · exact q
        go_wp2_with fail
        go_round
        case rel => exact ⟨k + 1, by omega, by go_num, hin2⟩
        case measure => simp [intOf]; omega
    · have := hin.out
      rw [List.drop_eq_nil_of_le (by omega)] at this
      simp at this
theorem canB_open {x : Int} {L : List (Int × Int)} (h : (canB x L).isSome = true) : gOk x L = true ∧ ∃ O, cSeq L x.toNat x.toNat = some O := by
  unfold canB at h
  split at h
  · rename_i hg
    exact ⟨hg, Option.isSome_iff_exists.1 h⟩
  · simp at h
/-- what is asked of what Meet tells. -/
theorem meet_law {x : Int} {L : List (Int × Int)} {wk a b : Int} (hF : (canB x L).isSome = true) (q1 : decide (wk < 2) = false) (q2 : decide (8 < wk) = false) (q3 : decide (6 < x) = false) (q4 : (a == b) = false) (q5 : decide (a < 0) = false) (q6 : decide (b < 0) = false) (q7 : decide (x ≤ a) = false) (q8 : decide (x ≤ b) = false) :
    (meB x L wk a b).isSome = (!aheadB x L a b && !aheadB x L b a) ∧ ∀ M, meB x L wk a b = some M → (plB x L wk M).isSome = true ∧ a ∈ runB M ∧ b ∈ runB M ∧ 2 ≤ M.length ∧ M.length ≤ 12 := by
  obtain ⟨hg, O, hO⟩ := canB_open hF
  obtain ⟨m, rfl, hm, hl2, hin, h16⟩ := gOk_open hg
  simp only [Int.toNat_natCast] at hO
  simp only [decide_eq_false_iff_not, beq_eq_false_iff_ne, ne_eq] at q1 q2 q3 q4 q5 q6 q7 q8
  obtain ⟨u, rfl⟩ : ∃ u : Nat, a = (u : Int) := ⟨a.toNat, by omega⟩
  obtain ⟨v, rfl⟩ : ∃ v : Nat, b = (v : Int) := ⟨b.toNat, by omega⟩
  have hu : u < m := by omega
  have hv : v < m := by omega
  have huv : ¬ u = v := by omega
  have hk : wkOk wk = true := by unfold wkOk; simp; omega
  have hok : meOk m L wk u v = true := by
    unfold meOk
    simp only [hg, hk, Bool.true_and, Bool.and_eq_true, decide_eq_true_eq]
    refine ⟨⟨⟨by omega, q4⟩, by omega⟩, by omega⟩
  have hme : meB m L wk u v = bfs L wk u v 1000 [(List.replicate m 0, [])] 0 := by simp [meB, hok]
  have hah : ∀ i j : Nat, i < m → j < m → aheadB m L i j = clo (eR L) 16 i j := fun i j hi hj => by simp [aheadB, hg, hi, hj]
  rw [hme, hah u v hu hv, hah v u hv hu]
  refine ⟨meet_iff h16 hin.sup (by omega) (by omega) hO hu hv huv, fun M hM => ?_⟩
  obtain ⟨hvl, hr⟩ := bfs_yes 1000 _ 0 M (wys_one L wk m) hM
  simp only [run1, Bool.and_eq_true, decide_eq_true_eq] at hr
  have hs := vld_sum hvl
  have hf := (sum_full (stA_thr M (zeros_thr m))).1
  rw [stA_len, List.length_replicate] at hf
  have hz : (List.replicate m (0 : Int)).sum = 0 := by simp
  rw [hz] at hs
  have hlen : M.length ≤ 12 := by omega
  have hrn : runB M = rnL M := by unfold runB; rw [if_pos (by omega)]
  have h2 : 2 ≤ M.length := by
    apply Classical.byContradiction
    intro h
    match M, hvl, hr, h with
    | [], _, hr, _ => have := hr.1; simp only [stA, List.foldl_nil] at this; rw [zeros_at] at this; omega
    | [p], hvl, hr, _ =>
      obtain ⟨z, hz1, hc⟩ := mem_mvs hvl.1
      have h1 := hr.1
      have h3 := hr.2
      simp only [stA, List.foldl_cons, List.foldl_nil] at h1 h3
      rcases hc with ⟨rfl, _⟩ | ⟨rfl, _⟩
      · rw [doM_at hz1, zeros_at] at h1 h3
        split at h1 <;> split at h3 <;> omega
      · rw [doM_at hz1, zeros_at] at h1 h3
        split at h1 <;> split at h3 <;> omega
    | _ :: _ :: _, _, _, h => simp at h
  refine ⟨?_, ?_, ?_, h2, hlen⟩
  · have : plB m L wk M = plG L wk (List.replicate m 0) M := by simp [plB, hg, hk]
    rw [this, vld_plG hvl]; rfl
  · rw [hrn]; exact (rnL_state hvl hu).2 hr.1
  · rw [hrn]; exact (rnL_state hvl hv).2 hr.2

set_option maxHeartbeats 8000000 in
theorem fnMeet_any (sl : Option Addr) (len cap : Nat) (w : World) (hC : Code w sl len) (hT : DbT w) :
    Calls Tryd.prog 3 #[.slice sl len cap] w fun e w' => e = .returned (.bool true) ∧ Below w.heap.size w w' := by
  by_cases hl : len ≤ 1048576
  · have hd : decide (1048576 < (len : Int)) = false := by simp; omega
    have HT : Hid (DbT w) := hT
    clear hT
    go_enter Tryd.func3, Tryd.ntmps3
    go_wp2_with fail
    refine (big_any sl len cap _).mono ?_
    rintro e w0 ⟨rfl, rfl⟩
    rw [hd]
    go_wp2_with fail
    refine (drawMeet_any sl len cap _ hl hC).mono ?_
    rintro e w1 ⟨x, s, c, L, wk, a, b, rfl, hL, hE, hb1⟩
    have HE : Hid (Eds w1 s L) := hE.eds
    have HB : Hid (Below w0.heap.size w0 w1) := hb1
    clear hE hb1 hC hd
    go_wp2_with fail
    refine (implMeet_any x wk a b _ _ L _ HE.out (by omega) (HT.out.later HB.out)).mono ?_
    rintro e w2 ⟨vM, rfl, hM2, hb2⟩
    obtain ⟨sm, cm, e⟩ := hM2.shape
    subst e
    have HM2 : Hid (MRow w2 w1.heap.size (.slice sm ((meB x L wk a b).getD []).length cm) ((meB x L wk a b).getD [])) := hM2
    have B2 : Hid (Below w1.heap.size w1 w2) := hb2
    clear hM2 hb2
    go_wp2_with fail
    refine (specCanon_any x _ _ L _ (HE.out.later B2.out) (by omega)).mono ?_
    rintro e w3 ⟨sO, cO, rfl, hO3, hb3⟩
    have B3 : Hid (Below w1.heap.size w1 w3) := bl_trans B2.out hb3
    have HM3 : Hid (MRow w3 w1.heap.size (.slice sm ((meB x L wk a b).getD []).length cm) ((meB x L wk a b).getD [])) := HM2.out.later hb3
    clear hO3 hb3 HM2 B2
    obtain ⟨F, HFd⟩ : ∃ F, Hid ((meB x L wk a b).isSome = F) := ⟨_, rfl⟩
    rw [HFd.out]
    have hlaw := @meet_law x L wk a b
    have HLaw : Hid _ := hlaw
    clear hlaw
    cases hF : (canB x L).isSome
    · go_wp2_with fail
      refine (specMeet_any x wk a b _ _ L _ (HE.out.later B3.out) (by omega)).mono ?_
      rintro e w5 ⟨vW, rfl, hW5, hb5⟩
      rw [HFd.out]
      have tF : (F == F) = true := by simp
      go_wp2_with fail
      go_ret
      exact ⟨rfl, bl_trans (bl_trans HB.out B3.out) hb5⟩
    · skip
      cases q1 : decide (wk < 2)
      rotate_left 1
      · go_wp2_with fail
        refine (specMeet_any x wk a b _ _ L _ (HE.out.later B3.out) (by omega)).mono ?_
        rintro e w5 ⟨vW, rfl, hW5, hb5⟩
        rw [HFd.out]
        have tF : (F == F) = true := by simp
        go_wp2_with fail
        go_ret
        exact ⟨rfl, bl_trans (bl_trans HB.out B3.out) hb5⟩
      cases q2 : decide (8 < wk)
      rotate_left 1
      · go_wp2_with fail
        refine (specMeet_any x wk a b _ _ L _ (HE.out.later B3.out) (by omega)).mono ?_
        rintro e w5 ⟨vW, rfl, hW5, hb5⟩
        rw [HFd.out]
        have tF : (F == F) = true := by simp
        go_wp2_with fail
        go_ret
        exact ⟨rfl, bl_trans (bl_trans HB.out B3.out) hb5⟩
      cases q3 : decide (6 < x)
      rotate_left 1
      · go_wp2_with fail
        refine (specMeet_any x wk a b _ _ L _ (HE.out.later B3.out) (by omega)).mono ?_
        rintro e w5 ⟨vW, rfl, hW5, hb5⟩
        rw [HFd.out]
        have tF : (F == F) = true := by simp
        go_wp2_with fail
        go_ret
        exact ⟨rfl, bl_trans (bl_trans HB.out B3.out) hb5⟩
      cases q4 : (a == b)
      rotate_left 1
      · go_wp2_with fail
        refine (specMeet_any x wk a b _ _ L _ (HE.out.later B3.out) (by omega)).mono ?_
        rintro e w5 ⟨vW, rfl, hW5, hb5⟩
        rw [HFd.out]
        have tF : (F == F) = true := by simp
        go_wp2_with fail
        go_ret
        exact ⟨rfl, bl_trans (bl_trans HB.out B3.out) hb5⟩
      cases q5 : decide (a < 0)
      rotate_left 1
      · go_wp2_with fail
        refine (specMeet_any x wk a b _ _ L _ (HE.out.later B3.out) (by omega)).mono ?_
        rintro e w5 ⟨vW, rfl, hW5, hb5⟩
        rw [HFd.out]
        have tF : (F == F) = true := by simp
        go_wp2_with fail
        go_ret
        exact ⟨rfl, bl_trans (bl_trans HB.out B3.out) hb5⟩
      cases q6 : decide (b < 0)
      rotate_left 1
      · go_wp2_with fail
        refine (specMeet_any x wk a b _ _ L _ (HE.out.later B3.out) (by omega)).mono ?_
        rintro e w5 ⟨vW, rfl, hW5, hb5⟩
        rw [HFd.out]
        have tF : (F == F) = true := by simp
        go_wp2_with fail
        go_ret
        exact ⟨rfl, bl_trans (bl_trans HB.out B3.out) hb5⟩
      cases q7 : decide (x ≤ a)
      rotate_left 1
      · go_wp2_with fail
        refine (specMeet_any x wk a b _ _ L _ (HE.out.later B3.out) (by omega)).mono ?_
        rintro e w5 ⟨vW, rfl, hW5, hb5⟩
        rw [HFd.out]
        have tF : (F == F) = true := by simp
        go_wp2_with fail
        go_ret
        exact ⟨rfl, bl_trans (bl_trans HB.out B3.out) hb5⟩
      cases q8 : decide (x ≤ b)
      rotate_left 1
      · go_wp2_with fail
        refine (specMeet_any x wk a b _ _ L _ (HE.out.later B3.out) (by omega)).mono ?_
        rintro e w5 ⟨vW, rfl, hW5, hb5⟩
        rw [HFd.out]
        have tF : (F == F) = true := by simp
        go_wp2_with fail
        go_ret
        exact ⟨rfl, bl_trans (bl_trans HB.out B3.out) hb5⟩
      obtain ⟨g1, g2⟩ := HLaw.out hF q1 q2 q3 q4 q5 q6 q7 q8
      have G1 : Hid _ := g1
      have G2 : Hid _ := g2
      clear g1 g2 HLaw
      obtain ⟨o1, ho1⟩ : ∃ o, Hid (aheadB x L a b = o) := ⟨_, rfl⟩
      obtain ⟨o2, ho2⟩ : ∃ o, Hid (aheadB x L b a = o) := ⟨_, rfl⟩
      have HF2 : Hid (F = (!o1 && !o2)) := by have := G1.out; rw [HFd.out, ho1.out, ho2.out] at this; exact this
      go_wp2_with fail
      refine (specAhead_any x a b _ _ L _ (HE.out.later B3.out) (by omega)).mono ?_
      rintro e w5 ⟨rfl, hb5⟩
      rw [ho1.out]
      have B5 : Hid (Below w1.heap.size w1 w5) := bl_trans B3.out hb5
      have HM5 : Hid (MRow w5 w1.heap.size (.slice sm ((meB x L wk a b).getD []).length cm) ((meB x L wk a b).getD [])) := HM3.out.later hb5
      clear hb5 B3 HM3
      cases hF3 : F
      · have e0 : Hid ((meB x L wk a b).getD [] = []) := by
          have := HFd.out
          rw [hF3] at this
          show _ = _
          cases hm : meB x L wk a b with
          | none => rfl
          | some M => rw [hm] at this; simp at this
        rw [e0.out]
        have hz : (([] : List (Int × Int)).length : Int) = 0 := rfl
        cases o1
        · have ho : o2 = true := by have := HF2.out; rw [hF3] at this; simpa using this.symm
          rw [ho] at ho2
          go_wp2_with fail
          refine (specAhead_any x b a _ _ L _ (HE.out.later B5.out) (by omega)).mono ?_
          rintro e w6 ⟨rfl, hb6⟩
          rw [ho2.out]
          go_wp2_with fail
          go_ret
          exact ⟨rfl, bl_trans (bl_trans HB.out B5.out) hb6⟩
        · go_wp2_with fail
          go_ret
          exact ⟨rfl, bl_trans HB.out B5.out⟩
      · obtain ⟨M, hM⟩ : ∃ M, meB x L wk a b = some M := Option.isSome_iff_exists.1 (by rw [HFd.out, hF3])
        obtain ⟨r1, r2, r3, r4, r5⟩ := G2.out M hM
        have e0 : Hid ((meB x L wk a b).getD [] = M) := by show _ = _; rw [hM]; rfl
        rw [e0.out] at HM5 ⊢
        have R2 : Hid (a ∈ runB M) := r2
        have R3 : Hid (b ∈ runB M) := r3
        obtain ⟨ho1f, ho2f⟩ : o1 = false ∧ o2 = false := by have := HF2.out; rw [hF3] at this; simpa using this.symm
        rw [ho1f]
        rw [ho2f] at ho2
        have HR1 : Hid ((plB x L wk M).isSome = true) := r1
        clear r1 r2 r3 hM G1 G2
        go_wp2_with fail
        refine (specAhead_any x b a _ _ L _ (HE.out.later B5.out) (by omega)).mono ?_
        rintro e w6 ⟨rfl, hb6⟩
        rw [ho2.out]
        have B6 : Hid (Below w1.heap.size w1 w6) := bl_trans B5.out hb6
        have HM6 : Hid (MRow w6 w1.heap.size (.slice sm M.length cm) M) := HM5.out.later hb6
        clear hb6 B5 HM5
        have t2 : decide ((2 : Int) ≤ (M.length : Int)) = true := by simp; omega
        go_wp2_with fail
        refine (specPoolMoves_any x wk _ _ L _ _ M _ (HE.out.later B6.out) (by omega) HM6.out.eds (by omega)).mono ?_
        rintro e w7 ⟨vP, rfl, hP7, hb7⟩
        rw [HR1.out]
        have B7 : Hid (Below w1.heap.size w1 w7) := bl_trans B6.out hb7
        have HM7 : Hid (MRow w7 w1.heap.size (.slice sm M.length cm) M) := HM6.out.later hb7
        clear hb7 B6 HM6 hP7
        go_wp2_with fail
        refine (specRunning_any _ _ M _ HM7.out.eds (by omega)).mono ?_
        rintro e w8 ⟨⟨sr, cr, rfl, hO8⟩, hb8⟩
        have B8 : Hid (Below w1.heap.size w1 w8) := bl_trans B7.out hb8
        have HI8 : Hid (Ints w8 sr (runB M)) := hO8.els.ints
        have hrl := runB_len M
        clear hb8 hO8 B7 HM7
        obtain ⟨RB, hRB⟩ : ∃ RB, Hid (runB M = RB) := ⟨_, rfl⟩
        rw [hRB.out] at HI8 R2 R3 hrl ⊢
        go_wp2_with fail
        refine (within_any sr cr RB a _ HI8.out (by omega) R2.out).mono ?_
        rintro e w9 ⟨rfl, hq⟩
        rw [hq]
        clear hq w9
        go_wp2_with fail
        refine (within_any sr cr RB b _ HI8.out (by omega) R3.out).mono ?_
        rintro e w9 ⟨rfl, hq⟩
        rw [hq]
        clear hq w9
        go_wp2_with fail
        go_ret
        exact ⟨rfl, bl_trans HB.out B8.out⟩
  · have hd : decide (1048576 < (len : Int)) = true := by simp; omega
    go_enter Tryd.func3, Tryd.ntmps3
    go_wp2_with fail
    refine (big_any sl len cap _).mono ?_
    rintro e w0 ⟨rfl, rfl⟩
    rw [hd]
    go_wp2_with fail
    go_ret
    exact ⟨rfl, Below.refl _ _⟩
end Go.Proofs.YtigllpegaljkmaaDoor
