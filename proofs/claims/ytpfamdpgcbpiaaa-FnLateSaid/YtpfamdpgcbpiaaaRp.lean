import Derived.Test.YtpfamdpgcbpiaaaRo
namespace Go.Proofs.Ytpfamdpgcbpiaaa
open Go.RowKit
set_option linter.unusedVariables false
set_option linter.unusedSimpArgs false

/-- a drawn stream and a cursor. -/
def DrawnU (w : World) (e : Ending) (w' : World) : Prop :=
  ∃ (f cur : Int) (s1 : Option Addr) (c1 : Nat) (s2 : Option Addr) (c2 : Nat) (O N : List V4), e = .returned (.tuple #[.agg #[.int .i64 f, .slice s1 O.length c1, .slice s2 N.length c2], .int .i64 cur]) ∧ OV w' w.heap.size (.slice s1 O.length c1) O ∧ OV w' w.heap.size (.slice s2 N.length c2) N ∧ (∀ v ∈ O, okV v) ∧ (∀ v ∈ N, okV v) ∧ O.length ≤ 100000 ∧ N.length ≤ 100000 ∧ (-9223372036854775808 ≤ f ∧ f ≤ 9223372036854775807) ∧ (-9223372036854775808 ≤ cur ∧ cur ≤ 9223372036854775807) ∧ Below w.heap.size w w'

theorem unL_len (cur f : Int) (O N : List V4) : (unL cur f O N).length ≤ O.length + N.length := by
  unfold unL; split
  · simp <;> omega
  · simp
theorem late_sum {cur f : Int} {O N : List V4} (h0 : 0 ≤ f) (h1 : f ≤ 1000000000000) (h2 : 0 ≤ cur) (h3 : cur ≤ unN f O N) : cur + unM cur f + ((unL cur f O N).length : Int) = unN f O N := by
  have hok : okF f = true := by simp [okF]; omega
  unfold unN at h3 ⊢
  unfold unM unL
  rw [if_pos hok] at h3
  rw [if_pos hok, if_pos hok, if_pos hok]
  by_cases e : f < cur
  · rw [mis2 (by omega) e]; simp; omega
  · rw [mis3 (by omega) e]; simp; omega

set_option maxRecDepth 100000 in
set_option maxHeartbeats 8000000 in
/-- FnLate answers true, if what DrawUnread draws is a stream. -/
theorem late_of (sl : Option Addr) (len cap : Nat) (w : World) (hC : Code w sl len) (hD : len ≤ 1048576 → Calls Try.prog 9 #[.slice sl len cap] w fun e w' => DrawnU w e w') :
    Calls Try.prog 3 #[.slice sl len cap] w fun e w' => e = .returned (.bool true) ∧ Below w.heap.size w w' := by
  have hal := alloc_old
  have haf := alloc_oldf
  go_enter Try.func3, Try.ntmps3
  go_wp2_with fail
  refine (big_any sl len cap _).mono ?_
  rintro e w0 ⟨rfl, hw0⟩
  rw [hw0]
  clear hw0 w0
  by_cases hbig : 1048576 < (len : Int)
  · have t0 : decide (1048576 < (len : Int)) = true := by simpa using hbig
    rw [t0]
    go_wp2_with fail
    go_ret
    exact ⟨rfl, Below.refl _ _⟩
  have t0 : decide (1048576 < (len : Int)) = false := by simpa using hbig
  rw [t0]
  clear t0
  have hlen : len ≤ 1048576 := by omega
  go_wp2_with fail
  refine (hD hlen).mono ?_
  rintro e w1 ⟨f, cur, s1, c1, s2, c2, O, N, rfl, oO, oN, okO, okN, lO, lN, bf, bc, hb1⟩
  have KS := Blk.new w1 #[.int .i64 f, .slice s1 O.length c1, .slice s2 N.length c2] 26
  have L : Below w.heap.size w (w1.alloc (.cells #[.int .i64 f, .slice s1 O.length c1, .slice s2 N.length c2] 26)) := bl_alloc hb1 _
  replace oO := oO.alloc (.cells #[.int .i64 f, .slice s1 O.length c1, .slice s2 N.length c2] 26)
  replace oN := oN.alloc (.cells #[.int .i64 f, .slice s1 O.length c1, .slice s2 N.length c2] 26)
  obtain ⟨x0, x1, x2, x3⟩ := KS.three'
  have OKO : Hid (∀ v ∈ O, okV v) := okO
  have OKN : Hid (∀ v ∈ N, okV v) := okN
  clear okO okN hD hC hbig hb1
  obtain ⟨U, hU⟩ : ∃ U : List V4, Hid (U = unL cur f O N) := ⟨_, rfl⟩
  have okU : Hid (∀ v ∈ U, okV v) := by
    intro v hv
    rw [hU.out] at hv
    unfold unL at hv
    split at hv
    · exact (List.mem_append.1 (List.mem_of_mem_drop hv)).elim (OKO.out v) (OKN.out v)
    · simp at hv
  have lU : U.length ≤ O.length + N.length := by rw [hU.out]; exact unL_len _ _ _ _
  obtain ⟨nx, hnx⟩ : ∃ nx, Hid (nx = unN f O N) := ⟨_, rfl⟩
  obtain ⟨ms, hms⟩ : ∃ ms, Hid (ms = unM cur f) := ⟨_, rfl⟩
  go_wp2_with fail
  generalize hX : w1.alloc (.cells #[.int .i64 f, .slice s1 O.length c1, .slice s2 N.length c2] 26) = X at KS L oO oN x0 x1 x2 x3 ⊢
  clear hX
  refine (implUnread_any cur f s1 s2 c1 c2 O N _ _ (oO.els OKO.out) (oN.els OKN.out) (by omega) (by omega) bc).mono ?_
  rintro e w2 ⟨v2, rfl, O2, hb2⟩
  rw [← hU.out] at O2
  rw [← hnx.out, ← hms.out]
  obtain ⟨u2, d2, rfl⟩ := O2.shape
  replace KS := KS.later hb2
  replace L := bl_trans L hb2
  replace oO := oO.later hb2
  replace oN := oN.later hb2
  clear hb2 x0 x1 x2 x3
  obtain ⟨x0, x1, x2, x3⟩ := KS.three'
  go_wp2_with fail
  refine (specUnread_opt cur f s1 s2 c1 c2 O N _ _ oO oN OKO.out OKN.out (by omega) (by omega) bc).mono ?_
  rintro e w3 ⟨v3, rfl, O3, hb3⟩
  rw [← hU.out] at O3
  rw [← hnx.out, ← hms.out]
  obtain ⟨u3, d3, rfl⟩ := O3.shape
  replace KS := KS.later hb3
  replace L := bl_trans L hb3
  replace O2 := O2.later hb3
  clear hb3 x0 x1 x2 x3 oO oN
  go_wp2_with fail
  refine (sameVals_self u2 u3 d2 d3 U _ _ _ (O2.els okU.out) (O3.els okU.out) (by omega)).mono ?_
  rintro e w4 ⟨rfl, hb4⟩
  replace KS := KS.later hb4
  replace L := bl_trans L hb4
  clear hb4 O2 O3
  obtain ⟨x0, x1, x2, x3⟩ := KS.three'
  have tle : (U.length : Int) ≤ (O.length : Int) + (N.length : Int) := by omega
  have tw : IntKind.i64.wrap ((O.length : Int) + (N.length : Int)) = (O.length : Int) + (N.length : Int) := by rw [IntKind.wrap_i64]; omega
  by_cases h0 : f < 0
  · go_wp2_with fail
    go_ret
    exact ⟨rfl, L⟩
  · by_cases h1 : 1000000000000 < f
    · go_wp2_with fail
      go_ret
      exact ⟨rfl, L⟩
    · by_cases h2 : cur < 0
      · go_wp2_with fail
        go_ret
        exact ⟨rfl, L⟩
      · by_cases h3 : nx < cur
        · go_wp2_with fail
          go_ret
          exact ⟨rfl, L⟩
        · have hs : cur + ms + (U.length : Int) = nx := by
            rw [hms.out, hU.out, hnx.out]
            exact late_sum (by omega) (by omega) (by omega) (by rw [← hnx.out]; omega)
          have hn : nx ≤ 1000000200000 := by
            have hok : okF f = true := by simp [okF]; omega
            rw [hnx.out]; unfold unN; rw [if_pos hok]; omega
          have hm : 0 ≤ ms := by
            rw [hms.out]; unfold unM missedOf
            split
            · split <;> omega
            · omega
          have tw1 : IntKind.i64.wrap (cur + ms) = cur + ms := by rw [IntKind.wrap_i64]; omega
          have tw2 : IntKind.i64.wrap (cur + ms + (U.length : Int)) = nx := by rw [hs, IntKind.wrap_i64]; omega
          clear hs
          go_wp2_with fail
          go_ret
          exact ⟨rfl, L⟩
end Go.Proofs.Ytpfamdpgcbpiaaa
