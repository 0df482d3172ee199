import Derived.Test.YtnbckfeclfbafaaDoorG50
namespace Go.Proofs.YtnbckfeclfbafaaDoor
open Go.RowKit
set_option linter.unusedVariables false
set_option linter.unusedSimpArgs false

set_option maxHeartbeats 2000000 in
theorem l14Edge_any (s : Option Addr) (c : Nat) (L : List (Int × Int)) (a b : Nat) (w : World) (hL : Eds w s L) (hl : L.length ≤ 1048576) :
    Calls Tryd.prog 30 #[.slice s L.length c, .int .i64 a, .int .i64 b] w fun e w' => e = .returned (.bool (eR L a b)) ∧ w' = w := by
  go_enter Tryd.func30, Tryd.ntmps30
  go_wp2_with fail
  go_loop [7] (fun i => ∃ k : Nat, k ≤ L.length ∧ i = .int .i64 k ∧ Hid (¬ ((a : Int), (b : Int)) ∈ L.take k)) (fun i => L.length - (intOf i).toNat)
  case atStart => exact ⟨0, Nat.zero_le _, rfl, by simp [Hid]⟩
  case round =>
    obtain ⟨k, hk, rfl, hall⟩ := hrel
    by_cases hlt : k < L.length
    · obtain ⟨gb, o, rfl, hp, e1, e2⟩ := hL.get hlt
      obtain ⟨⟨p1, p2⟩, hx⟩ : ∃ x, Hid (L[k]?.getD (0, 0) = x) := ⟨_, rfl⟩
      rw [hx.out] at e1 e2
      have hst : Hid (¬ (p1 = (a : Int) ∧ p2 = (b : Int)) → ¬ ((a : Int), (b : Int)) ∈ L.take (k + 1)) := by
        intro hne g
        rw [takeE_succ L k hlt, List.mem_append, hx.out] at g
        rcases g with g | g
        · exact hall.out g
        · simp at g; exact hne ⟨g.1.symm, g.2.symm⟩
      by_cases q1 : p1 = (a : Int)
      · have t1 : (p1 == (a : Int)) = true := by simp [q1]
        by_cases q2 : p2 = (b : Int)
        · have t2 : (p2 == (b : Int)) = true := by simp [q2]
          have hA : Hid (eR L a b = true) := by
            have := memE hlt
            rw [hx.out, q1, q2] at this
            simp [Hid, eR, this]
          clear q1 q2
          go_wp2_with fail
          go_ret
          exact ⟨ret_bool' hA.out.symm, rfl⟩
        · have t2 : (p2 == (b : Int)) = false := by simp [q2]
          have hst' : Hid (¬ ((a : Int), (b : Int)) ∈ L.take (k + 1)) := hst.out (fun g => q2 g.2)
          clear q1 q2
          go_wp2_with fail
          go_round
          case rel => exact ⟨k + 1, by omega, by go_num, hst'⟩
          case measure => simp [intOf]; omega
      · have t1 : (p1 == (a : Int)) = false := by simp [q1]
        have hst' : Hid (¬ ((a : Int), (b : Int)) ∈ L.take (k + 1)) := hst.out (fun g => q1 g.1)
        clear q1
        go_wp2_with fail
        go_round
        case rel => exact ⟨k + 1, by omega, by go_num, hst'⟩
        case measure => simp [intOf]; omega
    · have hA : Hid (eR L a b = false) := by
        have := hall.out
        rw [List.take_of_length_le (by omega)] at this
        simp [Hid, eR, this]
      go_wp2_with fail
      go_ret
      exact ⟨ret_bool' hA.out.symm, rfl⟩

/-- the best of the numbers from j on. -/
def Bst (R : Nat → Nat → Bool) (n j best first : Nat) : Prop :=
  (best = 0 ∧ ∀ y, j ≤ y → y < n → wayF R n y y = 0) ∨ (0 < best ∧ j ≤ first ∧ first < n ∧ wayF R n first first = best ∧ (∀ y, j ≤ y → y < n → wayF R n y y = 0 ∨ best ≤ wayF R n y y) ∧ ∀ y, j ≤ y → y < first → ¬ wayF R n y y = best)
theorem Bst.take {R : Nat → Nat → Bool} {n j best first : Nat} (h : Bst R n (j + 1) best first) (hj : j < n) (h0 : 0 < wayF R n j j) (hb : best = 0 ∨ wayF R n j j ≤ best) : Bst R n j (wayF R n j j) j := by
  refine Or.inr ⟨h0, Nat.le_refl _, hj, rfl, fun y h1 h2 => ?_, fun y h1 h2 => by omega⟩
  by_cases e : y = j
  · subst e; exact Or.inr (Nat.le_refl _)
  · rcases h with ⟨_, g⟩ | ⟨g0, _, _, _, g, _⟩
    · exact Or.inl (g y (by omega) h2)
    · rcases g y (by omega) h2 with q | q
      · exact Or.inl q
      · exact Or.inr (by omega)
theorem Bst.skip {R : Nat → Nat → Bool} {n j best first : Nat} (h : Bst R n (j + 1) best first) (hb : wayF R n j j = 0 ∨ (0 < best ∧ best < wayF R n j j)) : Bst R n j best first := by
  rcases h with ⟨g0, g⟩ | ⟨g0, g1, g2, g3, g4, g5⟩
  · refine Or.inl ⟨g0, fun y h1 h2 => ?_⟩
    by_cases e : y = j
    · subst e; omega
    · exact g y (by omega) h2
  · refine Or.inr ⟨g0, by omega, g2, g3, fun y h1 h2 => ?_, fun y h1 h2 => ?_⟩
    · by_cases e : y = j
      · subst e; omega
      · exact g4 y (by omega) h2
    · by_cases e : y = j
      · subst e; omega
      · exact g5 y (by omega) h2
theorem way_no {R : Nat → Nat → Bool} {n y : Nat} (hR : Sup R n) (h : wayF R n y y = 0) {d : Nat} (h1 : 1 ≤ d) (h2 : d ≤ n) : ¬ wk R d y y := by
  intro g
  rcases way_cases R n y y with ⟨_, q⟩ | ⟨e, _, q, _, _⟩
  · have := q (d - 1) (by omega)
    rw [show d - 1 + 1 = d by omega, (rch_iff hR d y).2 g] at this
    cases this
  · omega
theorem way_min {R : Nat → Nat → Bool} {n y : Nat} (hR : Sup R n) {d : Nat} (h1 : 1 ≤ d) (h2 : d ≤ n) (hd : d < wayF R n y y) : ¬ wk R d y y := by
  intro g
  rcases way_cases R n y y with ⟨q, _⟩ | ⟨e, _, q, _, q2⟩
  · omega
  · have := q2 (d - 1) (by omega)
    rw [show d - 1 + 1 = d by omega, (rch_iff hR d y).2 g] at this
    cases this
theorem Bst.no {R : Nat → Nat → Bool} {n first : Nat} (hR : Sup R n) (h : Bst R n 0 0 first) : NoC R n := by
  rcases h with ⟨_, g⟩ | ⟨g, _⟩
  · intro d x h1 h2 w
    obtain ⟨q, rfl⟩ : ∃ q, d = q + 1 := ⟨d - 1, by omega⟩
    obtain ⟨m, _, hm⟩ := w
    have hx := (hR m x hm).2
    exact way_no hR (g x (Nat.zero_le _) hx) h1 h2 ⟨m, by assumption, hm⟩
  · omega
theorem Bst.min {R : Nat → Nat → Bool} {n best first : Nat} (hR : Sup R n) (h : Bst R n 0 best first) (hb : 0 < best) : MinC R n best first := by
  rcases h with ⟨g, _⟩ | ⟨_, _, g2, g3, g4, g5⟩
  · omega
  · have hw : best ≤ n ∧ wk R best first first := by
      rcases way_cases R n first first with ⟨q, _⟩ | ⟨e, he, q, q1, _⟩
      · omega
      · rw [g3] at q
        exact ⟨by omega, by rw [q]; exact (rch_iff hR (e + 1) first).1 q1⟩
    refine ⟨hb, hw.1, g2, hw.2, fun d y h1 h2 w => ?_, fun y hy w => ?_⟩
    · have hy : y < n := by
        obtain ⟨q, rfl⟩ : ∃ q, d = q + 1 := ⟨d - 1, by omega⟩
        obtain ⟨m, _, hm⟩ := w
        exact (hR m y hm).2
      rcases g4 y (Nat.zero_le _) hy with q | q
      · exact way_no hR q h1 (by omega) w
      · exact way_min hR h1 (by omega) (by omega) w
    · have hy2 : y < n := by omega
      rcases g4 y (Nat.zero_le _) hy2 with q | q
      · exact way_no hR q hb hw.1 w
      · by_cases e : best = wayF R n y y
        · exact g5 y (Nat.zero_le _) hy e.symm
        · exact way_min hR hb hw.1 (by omega) w
theorem cSq_step {R : Nat → Nat → Bool} {n D x k y z : Nat} {O : List Int} (h : cSq R n D x k = (O, y)) (hz : nxC R n x (D - 1 - k) y = some z) : cSq R n D x (k + 1) = (O ++ [(z : Int)], z) := by
  simp only [cSq, h, hz]
/-- what stands behind k steps. -/
def CI (R : Nat → Nat → Bool) (n D x k : Nat) (O : List Int) (y : Nat) : Prop := cSq R n D x k = (O, y) ∧ O.length = k + 1 ∧ O[k]?.getD 0 = (y : Int) ∧ OnC R n D x k y
theorem CI.start {R : Nat → Nat → Bool} {n D x : Nat} (h : MinC R n D x) : CI R n D x 0 [(x : Int)] x := ⟨rfl, rfl, rfl, OnC.start h⟩
theorem CI.step {R : Nat → Nat → Bool} {n D x k y z : Nat} {O : List Int} (h : CI R n D x k O y) (hz : nxC R n x (D - 1 - k) y = some z) (ho : OnC R n D x (k + 1) z) : CI R n D x (k + 1) (O ++ [(z : Int)]) z := by
  obtain ⟨a, b, c, d⟩ := h
  refine ⟨cSq_step a hz, by simp [b], ?_, ho⟩
  rw [List.getElem?_append_right (by omega), b, Nat.sub_self]; simp
end Go.Proofs.YtnbckfeclfbafaaDoor
