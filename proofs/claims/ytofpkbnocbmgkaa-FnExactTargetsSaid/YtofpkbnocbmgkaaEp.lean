import Derived.Test.YtofpkbnocbmgkaaEo
import Derived.Deep.QuietTactic
import Derived.BigQuiet
namespace Go.Proofs.Ytofpkbnocbmgkaa
open Go.RowKit
set_option linter.unusedVariables false

/-- a list of things, as it can be read: cells two by two. -/
def EList (w : World) (v : Value) (L : List (Int × Int)) : Prop :=
  (∃ s c, v = .slice s 0 c ∧ L = []) ∨ ∃ g c, v = .slice (some ⟨g, 0, none⟩) L.length c ∧ g < w.heap.size ∧ ∀ j, j < L.length → w.cell? ⟨g, j * 2, none⟩ = some (.int .i64 (L[j]?.getD (0, 0)).1) ∧ w.cell? ⟨g, j * 2 + 1, none⟩ = some (.int .i64 (L[j]?.getD (0, 0)).2)
theorem EList.later {w w' : World} {v : Value} {L : List (Int × Int)} (h : EList w v L) (hb : Below w.heap.size w w') : EList w' v L := by
  rcases h with h0 | ⟨g, c, rfl, h1, h2⟩
  · exact Or.inl h0
  · exact Or.inr ⟨g, c, rfl, Nat.lt_of_lt_of_le h1 hb.size, fun j hj => ⟨(hb.cell (p := ⟨g, j * 2, none⟩) h1).trans (h2 j hj).1, (hb.cell (p := ⟨g, j * 2 + 1, none⟩) h1).trans (h2 j hj).2⟩⟩
theorem ERow.list {w : World} {B : Nat} {v : Value} {L : List (Int × Int)} (h : ERow w B v L) : EList w v L := by
  rcases h.form with ⟨rfl, rfl⟩ | ⟨g, cap, rfl, h1, h2, h3⟩
  · exact Or.inl ⟨none, 0, rfl, rfl⟩
  · refine Or.inr ⟨g, cap, rfl, h2, fun j hj => ?_⟩
    obtain ⟨a, b, _, _⟩ := h3 j (L[j]?.getD (0, 0)) (by simp [hj])
    rw [Nat.mul_comm j 2]
    exact ⟨a, b⟩

set_option maxHeartbeats 1000000 in
theorem eqEnt_any (a b c d : Int) (w : World) :
    Calls Try.prog 52 #[.agg #[.int .i64 a, .int .i64 b], .agg #[.int .i64 c, .int .i64 d]] w fun e w' => e = .returned (.bool (a == c && b == d)) ∧ Below w.heap.size w w' := by
  have hal := alloc_old
  have haf := alloc_oldf
  cases h1 : ((a == c) : Bool)
  · have g1 : (a != c) = true := by simp [bne, h1]
    go_enter Try.func52, Try.ntmps52
    go_wp2_with fail
    go_ret
    refine ⟨rfl, ?_⟩
    (repeat (first | with_reducible exact Below.refl _ _ | with_reducible refine bl_alloc ?_ _ | with_reducible refine bl_drewN ?_ _ | with_reducible refine bl_drew ?_ | with_reducible refine bl_setCell ?_ (by first | exact Nat.le_refl _ | (dsimp only; omega) | (simp <;> omega)) _ | with_reducible refine bl_trans ?_ (by with_reducible assumption)))
  · have g1 : (a != c) = false := by simp [bne, h1]
    cases h2 : ((b == d) : Bool)
    · have g2 : (b != d) = true := by simp [bne, h2]
      go_enter Try.func52, Try.ntmps52
      go_wp2_with fail
      go_ret
      refine ⟨rfl, ?_⟩
      (repeat (first | with_reducible exact Below.refl _ _ | with_reducible refine bl_alloc ?_ _ | with_reducible refine bl_drewN ?_ _ | with_reducible refine bl_drew ?_ | with_reducible refine bl_setCell ?_ (by first | exact Nat.le_refl _ | (dsimp only; omega) | (simp <;> omega)) _ | with_reducible refine bl_trans ?_ (by with_reducible assumption)))
    · have g2 : (b != d) = false := by simp [bne, h2]
      go_enter Try.func52, Try.ntmps52
      go_wp2_with fail
      go_ret
      refine ⟨rfl, ?_⟩
      (repeat (first | with_reducible exact Below.refl _ _ | with_reducible refine bl_alloc ?_ _ | with_reducible refine bl_drewN ?_ _ | with_reducible refine bl_drew ?_ | with_reducible refine bl_setCell ?_ (by first | exact Nat.le_refl _ | (dsimp only; omega) | (simp <;> omega)) _ | with_reducible refine bl_trans ?_ (by with_reducible assumption)))

set_option maxHeartbeats 2000000 in
theorem markEntS_any (B g cap : Nat) (L : List (Int × Int)) (w : World) (h : ERow w B (.slice (some ⟨g, 0, none⟩) L.length cap) L) (hl : L.length ≤ 1048576) :
    Calls Try.prog 23 #[.slice (some ⟨g, 0, none⟩) L.length cap, .int .i64 1] w fun e w' => e = .returned (.int .i64 (1 + 2 * L.length)) ∧ ERow w' B (.slice (some ⟨g, 0, none⟩) L.length cap) (emarks 1 L.length) ∧ w.grownBy w' (some g) := by
  go_enter Try.func23, Try.ntmps23
  go_wp2_with fail
  go_loopw [1, 5] (fun c i wr => ∃ m : Nat, m ≤ L.length ∧ i = .int .i64 m ∧ c = .int .i64 (1 + 2 * m) ∧ ERow wr B (.slice (some ⟨g, 0, none⟩) L.length cap) (emarks 1 m ++ L.drop m) ∧ w.grownBy wr (some g)) (fun _ i _ => L.length - (intOf i).toNat)
  case atStart => exact ⟨0, Nat.zero_le _, rfl, by simp, by simpa [emarks] using h, grown_refl _ _⟩
  case round =>
    obtain ⟨m, hm, rfl, rfl, hr, hg⟩ := hrel
    by_cases hlt : m < L.length
    · have hlen : (emarks 1 m ++ L.drop m).length = L.length := by simp [emarks_len]; omega
      have hcut : emarks 1 m ++ L.drop m = emarks 1 m ++ L[m] :: L.drop (m + 1) := by rw [List.drop_eq_getElem_cons hlt]
      have hp := ERow.put (L := emarks 1 m ++ L.drop m) (cap := cap) (g := g) (B := B) (w := wr) (by rw [hlen]; exact hr) hcut (1 + 2 * (m : Int)) (1 + 2 * (m : Int) + 1)
      rw [hlen, emarks_len, Nat.mul_comm 2 m] at hp
      rw [show emarks 1 m ++ (1 + 2 * (m : Int), 1 + 2 * (m : Int) + 1) :: L.drop (m + 1) = emarks 1 (m + 1) ++ L.drop (m + 1) by simp [emarks]] at hp
      have hform := hr.form
      rcases hform with ⟨hv, hL⟩ | ⟨g', cap', hv, h1, h2, h3⟩
      · simp at hv
      simp only [Value.slice.injEq, Option.some.injEq, Addr.mk.injEq, and_true] at hv
      obtain ⟨rfl, -, -⟩ := hv
      obtain ⟨p, q, r, t⟩ := h3 m L[m] (by rw [hcut, List.getElem?_append_right (by rw [emarks_len]; omega), emarks_len]; simp)
      rw [Nat.mul_comm 2 m] at p q r t
      obtain ⟨a1, ha1⟩ : ∃ a, L[m].1 = a := ⟨_, rfl⟩
      obtain ⟨a2, ha2⟩ : ∃ a, L[m].2 = a := ⟨_, rfl⟩
      rw [ha1] at p
      rw [ha2] at q
      clear h3 hcut h1 h2 hlen h ha1 ha2
      go_wp2_with fail
      go_roundw
      case rel => exact ⟨m + 1, by omega, by go_num, by go_num, hp.1, grown_trans hg hp.2⟩
      case measure => simp [intOf]; omega
    · have hm' : m = L.length := by omega
      subst hm'
      go_wp2_with fail
      go_ret
      exact ⟨rfl, by simpa using hr, hg⟩

/-- .. of whatever list, a nil one too. -/
theorem markEntS_all (B : Nat) (v : Value) (L : List (Int × Int)) (w : World) (h : ERow w B v L) (hl : L.length ≤ 1048576) :
    Calls Try.prog 23 #[v, .int .i64 1] w fun e w' => e = .returned (.int .i64 (1 + 2 * L.length)) ∧ ERow w' B v (emarks 1 L.length) ∧ w.grownBy w' v.ownBlock := by
  rcases h.form with ⟨rfl, rfl⟩ | ⟨g, cap, rfl, h1, h2, h3⟩
  · go_enter Try.func23, Try.ntmps23
    go_wp2_with fail
    refine wp_loop_rounds 1 ?_
    rw [rounds_succ]
    go_wp2_with fail
    go_ret
    exact ⟨rfl, ERow.nil _ _, grown_refl _ _⟩
  · exact markEntS_any B g cap L w h hl

set_option maxHeartbeats 2000000 in
theorem heldEntS_any (g cap n : Nat) (w : World) (h : EList w (.slice (some ⟨g, 0, none⟩) n cap) (emarks 1 n)) (hl : n ≤ 1048576) :
    Calls Try.prog 24 #[.slice (some ⟨g, 0, none⟩) n cap, .int .i64 1] w fun e w' => e = .returned (.int .i64 (1 + 2 * n)) ∧ Below w.heap.size w w' := by
  have hc : 0 < n → ∀ j, j < n → w.cell? ⟨g, j * 2, none⟩ = some (.int .i64 (1 + 2 * (j : Int))) ∧ w.cell? ⟨g, j * 2 + 1, none⟩ = some (.int .i64 (1 + 2 * (j : Int) + 1)) := by
    intro h0
    rcases h with ⟨s, c, hv, hL⟩ | ⟨g', c, hv, h1, h2⟩
    · have := congrArg List.length hL; rw [emarks_len] at this; simp at this; omega
    · simp only [Value.slice.injEq, Option.some.injEq, Addr.mk.injEq, and_true] at hv
      obtain ⟨rfl, -, -⟩ := hv
      intro j hj
      have := h2 j (by rw [emarks_len]; exact hj)
      rw [emarks_get 1 n j hj] at this
      exact this
  clear h
  go_enter Try.func24, Try.ntmps24
  go_wp2_with fail
  go_loop [1, 5] (fun c i => ∃ m : Nat, m ≤ n ∧ i = .int .i64 m ∧ c = .int .i64 (1 + 2 * m)) (fun _ i => n - (intOf i).toNat)
  case atStart => exact ⟨0, Nat.zero_le _, rfl, by simp⟩
  case round =>
    obtain ⟨m, hm, rfl, rfl⟩ := hrel
    by_cases hlt : m < n
    · obtain ⟨p, q⟩ := hc (by omega) m hlt
      clear hc
      go_wp2_with fail
      go_round
      case rel => exact ⟨m + 1, by omega, by go_num, by go_num⟩
      case measure => simp [intOf]; omega
    · have hm' : m = n := by omega
      subst hm'
      clear hc
      go_wp2_with fail
      go_ret
      exact ⟨rfl, Below.refl _ _⟩

theorem heldEntS_all (B : Nat) (v : Value) (L : List (Int × Int)) (n : Nat) (w : World) (h : ERow w B v L) (hL : L = emarks 1 n) (hl : n ≤ 1048576) :
    Calls Try.prog 24 #[v, .int .i64 1] w fun e w' => e = .returned (.int .i64 (1 + 2 * n)) ∧ Below w.heap.size w w' := by
  subst hL
  have hi := h.list
  rcases h.form with ⟨rfl, h0⟩ | ⟨g, cap, rfl, h1, h2, h3⟩
  · have h0' : n = 0 := by have := congrArg List.length h0; rw [emarks_len] at this; simpa using this
    subst h0'
    go_enter Try.func24, Try.ntmps24
    go_wp2_with fail
    refine wp_loop_rounds 1 ?_
    rw [rounds_succ]
    go_wp2_with fail
    go_ret
    exact ⟨rfl, Below.refl _ _⟩
  · rw [emarks_len] at hi ⊢
    exact heldEntS_any g cap n w hi hl

theorem EList.get {w : World} {v : Value} {L : List (Int × Int)} (h : EList w v L) {k : Nat} (hk : k < L.length) :
    ∃ g c, v = .slice (some ⟨g, 0, none⟩) L.length c ∧ ∀ w', Below w.heap.size w w' → w'.cell? ⟨g, k * 2, none⟩ = some (.int .i64 (L[k]?.getD (0, 0)).1) ∧ w'.cell? ⟨g, k * 2 + 1, none⟩ = some (.int .i64 (L[k]?.getD (0, 0)).2) := by
  rcases h with ⟨s, c, _, rfl⟩ | ⟨g, c, rfl, h1, h2⟩
  · simp at hk
  · exact ⟨g, c, rfl, fun w' hb => ⟨(hb.cell (p := ⟨g, k * 2, none⟩) h1).trans (h2 k hk).1, (hb.cell (p := ⟨g, k * 2 + 1, none⟩) h1).trans (h2 k hk).2⟩⟩
theorem EList.shape {w : World} {v : Value} {L : List (Int × Int)} (h : EList w v L) : ∃ s c, v = .slice s L.length c := by
  rcases h with ⟨s, c, rfl, rfl⟩ | ⟨g, c, rfl, _⟩
  · exact ⟨s, c, rfl⟩
  · exact ⟨_, c, rfl⟩

set_option maxHeartbeats 4000000 in
theorem eqEntS_any (v u : Value) (L : List (Int × Int)) (w : World) (hL : EList w v L) (hM : EList w u L) (hl : L.length ≤ 1048576) :
    Calls Try.prog 19 #[v, u] w fun e w' => e = .returned (.bool true) ∧ Below w.heap.size w w' := by
  have hal := alloc_old
  have haf := alloc_oldf
  obtain ⟨s, c, rfl⟩ := hL.shape
  obtain ⟨s', c', rfl⟩ := hM.shape
  go_enter Try.func19, Try.ntmps19
  go_wp2_with fail
  go_loopw [5] (fun i wr => ∃ m : Nat, m ≤ L.length ∧ i = .int .i64 m ∧ Below w.heap.size w wr) (fun i _ => L.length - (intOf i).toNat)
  case atStart => exact ⟨0, Nat.zero_le _, rfl, Below.refl _ _⟩
  case round =>
    obtain ⟨m, hm, rfl, hbel⟩ := hrel
    by_cases hlt : m < L.length
    · obtain ⟨g, c1, hv, hcg⟩ := hL.get hlt
      obtain ⟨h, c2, hu, hch⟩ := hM.get hlt
      simp only [Value.slice.injEq, true_and] at hv hu
      obtain ⟨rfl, rfl⟩ := hv
      obtain ⟨rfl, rfl⟩ := hu
      obtain ⟨a, ha⟩ : ∃ a, (L[m]?.getD (0, 0)).1 = a := ⟨_, rfl⟩
      obtain ⟨b, hb⟩ : ∃ a, (L[m]?.getD (0, 0)).2 = a := ⟨_, rfl⟩
      rw [ha, hb] at hcg hch
      obtain ⟨p1, p2⟩ := hcg wr hbel
      obtain ⟨q1, q2⟩ := hch wr hbel
      have hlt' : (m : Int) < (L.length : Int) := by omega
      clear hcg hch ha hb hL hM
      go_wp2_with fail
      go_region_with (first
        | (go_at_call 52; refine (eqEnt_any a b a b _).mono ?_; rintro e w2 ⟨rfl, hb2⟩; rw [show (a == a && b == b) = true by simp]))
      all_goals
        go_wp2_with fail
        go_roundw
        case rel =>
          refine ⟨m + 1, by omega, by go_num, ?_⟩
          (repeat (first | with_reducible exact Below.refl _ _ | with_reducible refine bl_alloc ?_ _ | with_reducible refine bl_drewN ?_ _ | with_reducible refine bl_drew ?_ | with_reducible refine bl_setCell ?_ (by first | exact Nat.le_refl _ | (dsimp only; omega) | (simp <;> omega)) _ | with_reducible refine bl_trans ?_ (by with_reducible assumption)))
        case measure => simp [intOf]; omega
    · have hm' : m = L.length := by omega
      clear hm'
      go_wp2_with fail
      go_ret
      exact ⟨rfl, hbel⟩
end Go.Proofs.Ytofpkbnocbmgkaa
