import Derived.Test.YtpgcianhppihiaaDoorG13
namespace Go.Proofs.YtpgcianhppihiaaDoor
open Go.RowKit
set_option linter.unusedVariables false
set_option linter.unusedSimpArgs false

set_option maxHeartbeats 4000000 in
theorem specLinearOk_any (n : Int) (s so : Option Addr) (c co : Nat) (L : List (Int × Int)) (O : List Int) (w : World) (hL : Eds w s L) (hl : L.length ≤ 1048576) (hO : Ints w so O) (hlo : O.length ≤ 1048576) :
    Calls Tryd.prog 25 #[.int .i64 n, .slice s L.length c, .slice so O.length co] w fun e w' => e = .returned (.bool (linB n L O)) ∧ Below w.heap.size w w' := by
  cases hg : gOk n L
  · have hA : Hid (linB n L O = false) := by simp [Hid, linB, hg]
    go_enter Tryd.func25, Tryd.ntmps25
    go_wp2_with (go_at_call 13; refine (specGraphOk_any _ _ _ L _ hL hl).mono ?_; rintro e w' ⟨rfl, hq⟩; subst hq; rw [hg])
    go_ret
    exact ⟨ret_bool' hA.out.symm, Below.refl _ _⟩
  · obtain ⟨m, rfl, hm, hl2, hin, h16⟩ := gOk_open hg
    by_cases hn : O.length = m
    · subst hn
      obtain ⟨N, hN⟩ : ∃ N, Hid (N = O.length) := ⟨_, rfl⟩
      have HI : Hid (Inn O.length L) := hin
      have hm' : O.length ≤ 16 := hm
      clear hin
      obtain ⟨i0, hi, hz0, hz1, hz2⟩ := info_parts Tryd.infoI
      go_enter Tryd.func25, Tryd.ntmps25
      go_wp2_with (first
        | (go_at_call 13; refine (specGraphOk_any _ _ _ L _ hL hl).mono ?_; rintro e w' ⟨rfl, hq⟩; subst hq; rw [hg])
        | (at_make; refine wpList_make_full _ rfl _ _ 27 rfl w'.heap.size 3 i0 (.int .i64 0) 1 Tryd.underlying27 hi hz0 hz1 .i64 .i64 _ _ O.length rfl rfl rfl rfl (by rw [hz2]; omega) (by unfold maxLen; omega) (Nat.le_refl _) ?_))
      intro w1 hown hgrow
      have hr : Hid (Rw w1 w'.heap.size w'.heap.size O.length fun i => if i < 0 then -1 else 0) := by
        show World.ownsRow _ _ _ _ _ _ _
        rw [toList_madeCells_one] at hown
        rw [show ((List.range O.length).map fun i => if i < 0 then (-1 : Int) else 0).map (Value.int .i64) = List.replicate O.length (Value.int .i64 0) by
          apply List.ext_getElem?
          intro j
          by_cases hj : j < O.length <;> simp [hj]]
        exact hown
      have hb : Hid (Below w'.heap.size w' w1) := (Below.refl _ w').grown hgrow (Nat.le_refl _) (fun k h => by cases h)
      clear hown hgrow hi hz0 hz1 hz2
      go_wp2_with fail
      go_loopw [8] (fun i wr => ∃ k : Nat, k ≤ O.length ∧ i = .int .i64 k ∧ Hid (Rw wr w'.heap.size w'.heap.size O.length fun i => if i < k then -1 else 0) ∧ Hid (Below w'.heap.size w' wr)) (fun i _ => O.length - (intOf i).toNat)
      case atStart => exact ⟨0, Nat.zero_le _, rfl, hr, hb⟩
      case round =>
        clear hr hb
        obtain ⟨k, hk, rfl, hr, hb⟩ := hrel
        by_cases hlt : k < O.length
        · obtain ⟨c1, f1⟩ := hr.out.cell hlt
          obtain ⟨z, hz⟩ : ∃ z : Int, Hid ((if k < k then (-1 : Int) else 0) = z) := ⟨_, rfl⟩
          rw [hz.out] at c1
          have hr' : Hid (Rw (wr.setCell ⟨w'.heap.size, k, none⟩ (.int .i64 (-1))) w'.heap.size w'.heap.size O.length fun i => if i < k + 1 then -1 else 0) := (hr.out.set hlt (-1)).congr fun i _ => by
            by_cases e : i = k
            · subst e; simp
            · by_cases e2 : i < k
              · simp [e, e2, show i < k + 1 by omega]
              · simp [e, e2, show ¬ i < k + 1 by omega]
          have hb' : Hid (Below w'.heap.size w' (wr.setCell ⟨w'.heap.size, k, none⟩ (.int .i64 (-1)))) := hb.out.setCell (Nat.le_refl _) _
          go_wp2_with fail
          go_roundw
          case rel => exact ⟨k + 1, by omega, by go_num, hr', hb'⟩
          case measure => simp [intOf]; omega
        · have hr : Hid (Rw wr w'.heap.size w'.heap.size O.length fun _ => -1) := hr.out.congr fun i hi => by simp [show i < k by omega]
          go_wp2_with fail
          go_loopw [9] (fun i wr => ∃ k : Nat, k ≤ O.length ∧ i = .int .i64 k ∧ (∃ f, Hid (Rw wr w'.heap.size w'.heap.size O.length f) ∧ Hid (Pl O k f)) ∧ Hid (diff O.length O k) ∧ Hid (Below w'.heap.size w' wr)) (fun i _ => O.length - (intOf i).toNat)
          case atStart => exact ⟨0, Nat.zero_le _, rfl, ⟨_, hr, Pl.start O⟩, fun i hi => absurd hi (by omega), hb⟩
          case round =>
            clear hr hb hlt hk
            obtain ⟨k, hk, rfl, ⟨f, hr, hpl⟩, hd, hb⟩ := hrel
            by_cases hlt : k < O.length
            · obtain ⟨pb, po, rfl, hp, hc⟩ := (hO.later hb.out).get hlt
              obtain ⟨x, hx⟩ : ∃ x, Hid (O[k]?.getD 0 = x) := ⟨_, rfl⟩
              have d1 := hc k hlt
              rw [hx.out] at d1
              clear hc
              cases hin : (decide (0 ≤ x) && decide (x ≤ (O.length : Int) - 1))
              · have hA : Hid (linB O.length L O = false) := linB_bad hlt (fun g => by
                  rw [hx.out] at g
                  rw [below_l1] at hin
                  exact of_decide_eq_false hin g.1)
                go_wp2_with (go_at_call 38; refine (l1In_any _ _ _ _).mono ?_; rintro e w'' ⟨rfl, hq⟩; subst hq; rw [hin])
                go_ret
                exact ⟨ret_bool' hA.out.symm, hb.out⟩
              · have hi' := hin
                rw [below_l1] at hi'
                simp only [decide_eq_true_eq] at hi'
                obtain ⟨q, rfl⟩ : ∃ q : Nat, x = (q : Int) := ⟨x.toNat, by omega⟩
                have hq : q < O.length := by omega
                obtain ⟨c1, f1⟩ := hr.out.cell hq
                have hng := hpl.out.neg q
                obtain ⟨z, hz⟩ : ∃ z : Int, Hid (f q = z) := ⟨_, rfl⟩
                rw [hz.out] at c1 hng
                cases hmem : decide ((q : Int) ∈ O.take k)
                · rw [hmem] at hng
                  have hr' : Hid (Rw (wr.setCell ⟨w'.heap.size, q, none⟩ (.int .i64 k)) w'.heap.size w'.heap.size O.length fun i => if i = q then (k : Int) else f i) := hr.out.set hq _
                  have hpl' : Hid (Pl O (k + 1) fun i => if i = q then (k : Int) else f i) := hpl.out.step hlt hx.out
                  have hd' : Hid (diff O.length O (k + 1)) := by
                    intro i hi
                    by_cases e : i < k
                    · exact hd.out i e
                    · have : i = k := by omega
                      subst this
                      rw [hx.out]
                      exact ⟨hi', of_decide_eq_false hmem⟩
                  have hb' : Hid (Below w'.heap.size w' (wr.setCell ⟨w'.heap.size, q, none⟩ (.int .i64 k))) := hb.out.setCell (Nat.le_refl _) _
                  clear hi' hmem
                  go_wp2_with (go_at_call 38; refine (l1In_any _ _ _ _).mono ?_; rintro e w'' ⟨rfl, hq⟩; subst hq; rw [hin])
                  go_roundw
                  case rel => exact ⟨k + 1, by omega, by go_num, ⟨_, hr', hpl'⟩, hd', hb'⟩
                  case measure => simp [intOf]; omega
                · rw [hmem] at hng
                  have hA : Hid (linB O.length L O = false) := linB_bad hlt (fun g => by
                    rw [hx.out] at g
                    exact g.2.1 (of_decide_eq_true hmem))
                  clear hi' hmem
                  go_wp2_with (go_at_call 38; refine (l1In_any _ _ _ _).mono ?_; rintro e w'' ⟨rfl, hq⟩; subst hq; rw [hin])
                  go_ret
                  exact ⟨ret_bool' hA.out.symm, hb.out⟩
            · have hk' : k = O.length := by omega
              rw [hk'] at hd hpl
              have hsame : Hid (stepOk O.length L O O.length ↔ ∀ e ∈ L, f e.1.toNat < f e.2.toNat) := lin_same HI.out hd.out hpl.out
              clear hk' hd hpl
              go_wp2_with fail
              clear hk hlt
              go_loopw [10] (fun i wr => ∃ k : Nat, k ≤ L.length ∧ i = .int .i64 k ∧ Hid (∀ e ∈ L.take k, f e.1.toNat < f e.2.toNat) ∧ Hid (Rw wr w'.heap.size w'.heap.size O.length f) ∧ Hid (Below w'.heap.size w' wr)) (fun i _ => L.length - (intOf i).toNat)
              case atStart => exact ⟨0, Nat.zero_le _, rfl, by simp [Hid], hr, hb⟩
              case round =>
                clear hr hb
                obtain ⟨m, hml, rfl, hall, hr, hb⟩ := hrel
                by_cases hlt : m < L.length
                · obtain ⟨gb, o, rfl, hp, e1, e2⟩ := (hL.later hb.out).get hlt
                  obtain ⟨⟨p1, p2⟩, hx⟩ : ∃ x, Hid (L[m]?.getD (0, 0) = x) := ⟨_, rfl⟩
                  have hi' := HI.out _ (memE hlt)
                  rw [hx.out] at e1 e2 hi'
                  obtain ⟨⟨i1, i2⟩, i3, i4⟩ := hi'
                  obtain ⟨q1, rfl⟩ : ∃ q : Nat, p1 = (q : Int) := ⟨p1.toNat, by simp at i1; omega⟩
                  obtain ⟨q2, rfl⟩ : ∃ q : Nat, p2 = (q : Int) := ⟨p2.toNat, by simp at i3; omega⟩
                  have h1 : q1 < O.length := by simp at i2; omega
                  have h2 : q2 < O.length := by simp at i4; omega
                  clear i1 i2 i3 i4
                  obtain ⟨c1, f1⟩ := hr.out.cell h1
                  obtain ⟨c2, f2⟩ := hr.out.cell h2
                  obtain ⟨z1, hz1⟩ : ∃ z : Int, Hid (f q1 = z) := ⟨_, rfl⟩
                  obtain ⟨z2, hz2⟩ : ∃ z : Int, Hid (f q2 = z) := ⟨_, rfl⟩
                  rw [hz1.out] at c1
                  rw [hz2.out] at c2
                  have g1 : (q1 : Int) < (O.length : Int) := by omega
                  have g2 : (q2 : Int) < (O.length : Int) := by omega
                  cases hd : decide (z2 ≤ z1)
                  · have hall' : Hid (∀ e ∈ L.take (m + 1), f e.1.toNat < f e.2.toNat) := by
                      intro g hg
                      rw [takeE_succ L m hlt, List.mem_append] at hg
                      rcases hg with hg | hg
                      · exact hall.out g hg
                      · simp at hg; subst hg; rw [hx.out]; simp only [Int.toNat_natCast]; rw [hz1.out, hz2.out]
                        have := of_decide_eq_false hd; omega
                    have hb' : Hid (Below w'.heap.size w' wr.drew) := bl_drew hb.out
                    have hr' : Hid (Rw wr.drew w'.heap.size w'.heap.size O.length f) := hr
                    go_wp2_with fail
                    go_region
                    all_goals
                      go_wp2_with fail
                      go_roundw
                      case rel => exact ⟨m + 1, by omega, by go_num, hall', hr', hb'⟩
                      case measure => simp [intOf]; omega
                  · have hA : Hid (linB O.length L O = false) := linB_no fun g => by
                      have := hsame.out.1 (by simpa using g.2) _ (memE hlt)
                      rw [hx.out] at this
                      simp only [Int.toNat_natCast] at this
                      rw [hz1.out, hz2.out] at this
                      have := of_decide_eq_true hd; omega
                    go_wp2_with fail
                    go_region
                    all_goals
                      go_wp2_with fail
                      go_ret
                      exact ⟨ret_bool' hA.out.symm, bl_drew hb.out⟩
                · have hA : Hid (linB O.length L O = true) := by
                    have := hall.out
                    rw [List.take_of_length_le (by omega)] at this
                    exact (linB_iff _ _ _).2 ⟨hg, rfl, by simpa using hsame.out.2 this⟩
                  go_wp2_with fail
                  go_ret
                  exact ⟨ret_bool' hA.out.symm, hb.out⟩
    · have hA : Hid (linB m L O = false) := linB_no fun g => hn (by omega)
      have t0 : ((O.length : Int) != (m : Int)) = true := by simp; omega
      go_enter Tryd.func25, Tryd.ntmps25
      go_wp2_with (go_at_call 13; refine (specGraphOk_any _ _ _ L _ hL hl).mono ?_; rintro e w' ⟨rfl, hq⟩; subst hq; rw [hg])
      go_ret
      exact ⟨ret_bool' hA.out.symm, Below.refl _ _⟩
end Go.Proofs.YtpgcianhppihiaaDoor
