import Derived.Test.YtmoohgafljepdaaDoorG16
import Derived.Deep.QuietTactic
import Derived.BigQuiet
namespace Go.Proofs.YtmoohgafljepdaaDoor
open Go.RowKit
set_option linter.unusedVariables false
set_option linter.unusedSimpArgs false
/-- a list of moves of the call's own. -/
def MRow (w : World) (B : Nat) (v : Value) (L : List (Int × Int)) : Prop := w.ownsRow B 38 2 v L.length (ecells L)
theorem MRow.nil (w : World) (B : Nat) : MRow w B (.slice none 0 0) [] := World.ownsRow_nil _ _ _ _
theorem MRow.form {w : World} {B : Nat} {v : Value} {L : List (Int × Int)} (h : MRow w B v L) :
    (v = .slice none 0 0 ∧ L = []) ∨ ∃ g cap, v = .slice (some ⟨g, 0, none⟩) L.length cap ∧ B ≤ g ∧ g < w.heap.size ∧ ∀ j p, L[j]? = some p → w.cell? ⟨g, 2 * j, none⟩ = some (.int .i64 p.1) ∧ w.cell? ⟨g, 2 * j + 1, none⟩ = some (.int .i64 p.2) ∧ w.frozen? ⟨g, 2 * j, none⟩ = false ∧ w.frozen? ⟨g, 2 * j + 1, none⟩ = false := by
  rcases h.2 with ⟨h1, h2⟩ | ⟨g, cap, cur, rfl, hb, hg, r⟩
  · exact Or.inl ⟨h1, List.length_eq_zero_iff.1 h2⟩
  · refine Or.inr ⟨g, cap, rfl, hb, (Array.getElem?_eq_some_iff.1 hg).1, fun j p hp => ?_⟩
    have hj : j < L.length := (List.getElem?_eq_some_iff.1 hp).1
    obtain ⟨e1, e2⟩ := ecells_get L j p hp
    exact ⟨by rw [World.ownsRow.cellAt h (2 * j) (by omega), e1], by rw [World.ownsRow.cellAt h (2 * j + 1) (by omega), e2], World.ownsRow.frozenAt h _, World.ownsRow.frozenAt h _⟩
theorem MRow.mono {w : World} {B B' : Nat} {v : Value} {L : List (Int × Int)} (h : MRow w B v L) (hB : B' ≤ B) : MRow w B' v L := by
  refine ⟨h.1, ?_⟩
  rcases h.2 with h' | ⟨g, cap', cur, h', hb, r⟩
  · exact Or.inl h'
  · exact Or.inr ⟨g, cap', cur, h', Nat.le_trans hB hb, r⟩
theorem MRow.later {w w' : World} {B : Nat} {v : Value} {L : List (Int × Int)} (h : MRow w B v L) (hb : Below w.heap.size w w') : MRow w' B v L := by
  refine World.ownsRow.kept h (grown_of_below hb) ?_
  cases v.ownBlock with
  | none => exact Or.inl rfl
  | some b => exact Or.inr (by simp)
theorem MRow.lt {w : World} {B : Nat} {v : Value} {L : List (Int × Int)} (h : MRow w B v L) : ∀ k, v.ownBlock = some k → B ≤ k ∧ k < w.heap.size := World.ownsRow.lt h
theorem MRow.kept {w w' : World} {B b : Nat} {v : Value} {L : List (Int × Int)} (h : MRow w B v L) (hg : w.grownBy w' (some b)) (hn : ¬ v.ownBlock = some b) : MRow w' B v L := World.ownsRow.kept h hg (Or.inr hn)
theorem MRow.put {w : World} {B g cap : Nat} {L : List (Int × Int)} {A : List (Int × Int)} {p : Int × Int} {C : List (Int × Int)} (h : MRow w B (.slice (some ⟨g, 0, none⟩) L.length cap) L) (hL : L = A ++ p :: C) (a b : Int) :
    MRow ((w.setCell ⟨g, 2 * A.length, none⟩ (.int .i64 a)).setCell ⟨g, 2 * A.length + 1, none⟩ (.int .i64 b)) B (.slice (some ⟨g, 0, none⟩) L.length cap) (A ++ (a, b) :: C) ∧
    w.grownBy ((w.setCell ⟨g, 2 * A.length, none⟩ (.int .i64 a)).setCell ⟨g, 2 * A.length + 1, none⟩ (.int .i64 b)) (some g) := by
  obtain ⟨h1, g1⟩ := World.ownsRow.stored h (2 * A.length) (.int .i64 a)
  obtain ⟨h2, g2⟩ := World.ownsRow.stored h1 (2 * A.length + 1) (.int .i64 b)
  refine ⟨?_, grown_trans g1 g2⟩
  have e : (A ++ (a, b) :: C).length = L.length := by rw [hL]; simp
  unfold MRow
  rw [e, ← ecells_set A p C a b, ← hL]
  exact h2
theorem MRow.list {w : World} {B : Nat} {v : Value} {L : List (Int × Int)} (h : MRow w B v L) : EList w v L := by
  rcases h.form with ⟨rfl, rfl⟩ | ⟨g, cap, rfl, h1, h2, h3⟩
  · exact Or.inl ⟨none, 0, rfl, rfl⟩
  · refine Or.inr ⟨g, cap, rfl, h2, fun j hj => ?_⟩
    obtain ⟨a, b, _, _⟩ := h3 j (L[j]?.getD (0, 0)) (by simp [hj])
    rw [Nat.mul_comm j 2]
    exact ⟨a, b⟩
set_option maxHeartbeats 1000000 in
theorem eqMove_any (a b c d : Int) (w : World) :
    Calls Tryd.prog 23 #[.agg #[.int .i64 a, .int .i64 b], .agg #[.int .i64 c, .int .i64 d]] w fun e w' => e = .returned (.bool (a == c && b == d)) ∧ Below w.heap.size w w' := by
  have hal := alloc_old
  have haf := alloc_oldf
  cases h1 : ((a == c) : Bool)
  · have g1 : (a != c) = true := by simp [bne, h1]
    go_enter Tryd.func23, Tryd.ntmps23
    go_wp2_with fail
    go_ret
    refine ⟨rfl, ?_⟩
    (repeat (first | with_reducible exact Below.refl _ _ | with_reducible refine bl_alloc ?_ _ | with_reducible refine bl_drewN ?_ _ | with_reducible refine bl_drew ?_ | with_reducible refine bl_setCell ?_ (by first | exact Nat.le_refl _ | (dsimp only; omega) | (simp <;> omega)) _ | with_reducible refine bl_trans ?_ (by with_reducible assumption)))
  · have g1 : (a != c) = false := by simp [bne, h1]
    cases h2 : ((b == d) : Bool)
    · have g2 : (b != d) = true := by simp [bne, h2]
      go_enter Tryd.func23, Tryd.ntmps23
      go_wp2_with fail
      go_ret
      refine ⟨rfl, ?_⟩
      (repeat (first | with_reducible exact Below.refl _ _ | with_reducible refine bl_alloc ?_ _ | with_reducible refine bl_drewN ?_ _ | with_reducible refine bl_drew ?_ | with_reducible refine bl_setCell ?_ (by first | exact Nat.le_refl _ | (dsimp only; omega) | (simp <;> omega)) _ | with_reducible refine bl_trans ?_ (by with_reducible assumption)))
    · have g2 : (b != d) = false := by simp [bne, h2]
      go_enter Tryd.func23, Tryd.ntmps23
      go_wp2_with fail
      go_ret
      refine ⟨rfl, ?_⟩
      (repeat (first | with_reducible exact Below.refl _ _ | with_reducible refine bl_alloc ?_ _ | with_reducible refine bl_drewN ?_ _ | with_reducible refine bl_drew ?_ | with_reducible refine bl_setCell ?_ (by first | exact Nat.le_refl _ | (dsimp only; omega) | (simp <;> omega)) _ | with_reducible refine bl_trans ?_ (by with_reducible assumption)))
set_option maxHeartbeats 2000000 in
theorem markMoveS_any (B g cap : Nat) (L : List (Int × Int)) (w : World) (h : MRow w B (.slice (some ⟨g, 0, none⟩) L.length cap) L) (hl : L.length ≤ 1048576) :
    Calls Tryd.prog 11 #[.slice (some ⟨g, 0, none⟩) L.length cap, .int .i64 1] w fun e w' => e = .returned (.int .i64 (1 + 2 * L.length)) ∧ MRow w' B (.slice (some ⟨g, 0, none⟩) L.length cap) (emarks 1 L.length) ∧ w.grownBy w' (some g) := by
  go_enter Tryd.func11, Tryd.ntmps11
  go_wp2_with fail
  go_loopw [1, 5] (fun c i wr => ∃ m : Nat, m ≤ L.length ∧ i = .int .i64 m ∧ c = .int .i64 (1 + 2 * m) ∧ MRow wr B (.slice (some ⟨g, 0, none⟩) L.length cap) (emarks 1 m ++ L.drop m) ∧ w.grownBy wr (some g)) (fun _ i _ => L.length - (intOf i).toNat)
  case atStart => exact ⟨0, Nat.zero_le _, rfl, by simp, by simpa [emarks] using h, grown_refl _ _⟩
  case round =>
    obtain ⟨m, hm, rfl, rfl, hr, hg⟩ := hrel
    by_cases hlt : m < L.length
    · have hlen : (emarks 1 m ++ L.drop m).length = L.length := by simp [emarks_len]; omega
      have hcut : emarks 1 m ++ L.drop m = emarks 1 m ++ L[m] :: L.drop (m + 1) := by rw [List.drop_eq_getElem_cons hlt]
      have hp := MRow.put (L := emarks 1 m ++ L.drop m) (cap := cap) (g := g) (B := B) (w := wr) (by rw [hlen]; exact hr) hcut (1 + 2 * (m : Int)) (1 + 2 * (m : Int) + 1)
      rw [hlen, emarks_len, Nat.mul_comm 2 m] at hp
      rw [show emarks 1 m ++ (1 + 2 * (m : Int), 1 + 2 * (m : Int) + 1) :: L.drop (m + 1) = emarks 1 (m + 1) ++ L.drop (m + 1) by simp [emarks]] at hp
      have hform := hr.form
      rcases hform with ⟨hv, hL⟩ | ⟨g', cap', hv, h1, h2, h3⟩
      · simp at hv
      simp only [Value.slice.injEq, Option.some.injEq, Addr.mk.injEq, and_true] at hv
      obtain ⟨rfl, -, -⟩ := hv
      obtain ⟨p, q, r, t⟩ := h3 m L[m] (by rw [hcut, List.getElem?_append_right (by rw [emarks_len]; omega), emarks_len]; simp)
      rw [Nat.mul_comm 2 m] at p q r t
      obtain ⟨a1, ha1⟩ : ∃ a, L[m].1 = a := ⟨_, rfl⟩
      obtain ⟨a2, ha2⟩ : ∃ a, L[m].2 = a := ⟨_, rfl⟩
      rw [ha1] at p
      rw [ha2] at q
      clear h3 hcut h1 h2 hlen h ha1 ha2
      go_wp2_with fail
      go_roundw
      case rel => exact ⟨m + 1, by omega, by go_num, by go_num, hp.1, grown_trans hg hp.2⟩
      case measure => simp [intOf]; omega
    · have hm' : m = L.length := by omega
      subst hm'
      go_wp2_with fail
      go_ret
      exact ⟨rfl, by simpa using hr, hg⟩
/-- .. of whatever list, a nil one too. -/
theorem markMoveS_all (B : Nat) (v : Value) (L : List (Int × Int)) (w : World) (h : MRow w B v L) (hl : L.length ≤ 1048576) :
    Calls Tryd.prog 11 #[v, .int .i64 1] w fun e w' => e = .returned (.int .i64 (1 + 2 * L.length)) ∧ MRow w' B v (emarks 1 L.length) ∧ w.grownBy w' v.ownBlock := by
  rcases h.form with ⟨rfl, rfl⟩ | ⟨g, cap, rfl, h1, h2, h3⟩
  · go_enter Tryd.func11, Tryd.ntmps11
    go_wp2_with fail
    refine wp_loop_rounds 1 ?_
    rw [rounds_succ]
    go_wp2_with fail
    go_ret
    exact ⟨rfl, MRow.nil _ _, grown_refl _ _⟩
  · exact markMoveS_any B g cap L w h hl
set_option maxHeartbeats 2000000 in
theorem heldMoveS_any (g cap n : Nat) (w : World) (h : EList w (.slice (some ⟨g, 0, none⟩) n cap) (emarks 1 n)) (hl : n ≤ 1048576) :
    Calls Tryd.prog 12 #[.slice (some ⟨g, 0, none⟩) n cap, .int .i64 1] w fun e w' => e = .returned (.int .i64 (1 + 2 * n)) ∧ Below w.heap.size w w' := by
  have hc : 0 < n → ∀ j, j < n → w.cell? ⟨g, j * 2, none⟩ = some (.int .i64 (1 + 2 * (j : Int))) ∧ w.cell? ⟨g, j * 2 + 1, none⟩ = some (.int .i64 (1 + 2 * (j : Int) + 1)) := by
    intro h0
    rcases h with ⟨s, c, hv, hL⟩ | ⟨g', c, hv, h1, h2⟩
    · have := congrArg List.length hL; rw [emarks_len] at this; simp at this; omega
    · simp only [Value.slice.injEq, Option.some.injEq, Addr.mk.injEq, and_true] at hv
      obtain ⟨rfl, -, -⟩ := hv
      intro j hj
      have := h2 j (by rw [emarks_len]; exact hj)
      rw [emarks_get 1 n j hj] at this
      exact this
  clear h
  go_enter Tryd.func12, Tryd.ntmps12
  go_wp2_with fail
  go_loop [1, 5] (fun c i => ∃ m : Nat, m ≤ n ∧ i = .int .i64 m ∧ c = .int .i64 (1 + 2 * m)) (fun _ i => n - (intOf i).toNat)
  case atStart => exact ⟨0, Nat.zero_le _, rfl, by simp⟩
  case round =>
    obtain ⟨m, hm, rfl, rfl⟩ := hrel
    by_cases hlt : m < n
    · obtain ⟨p, q⟩ := hc (by omega) m hlt
      clear hc
      go_wp2_with fail
      go_round
      case rel => exact ⟨m + 1, by omega, by go_num, by go_num⟩
      case measure => simp [intOf]; omega
    · have hm' : m = n := by omega
      subst hm'
      clear hc
      go_wp2_with fail
      go_ret
      exact ⟨rfl, Below.refl _ _⟩
theorem heldMoveS_all (B : Nat) (v : Value) (L : List (Int × Int)) (n : Nat) (w : World) (h : MRow w B v L) (hL : L = emarks 1 n) (hl : n ≤ 1048576) :
    Calls Tryd.prog 12 #[v, .int .i64 1] w fun e w' => e = .returned (.int .i64 (1 + 2 * n)) ∧ Below w.heap.size w w' := by
  subst hL
  have hi := h.list
  rcases h.form with ⟨rfl, h0⟩ | ⟨g, cap, rfl, h1, h2, h3⟩
  · have h0' : n = 0 := by have := congrArg List.length h0; rw [emarks_len] at this; simpa using this
    subst h0'
    go_enter Tryd.func12, Tryd.ntmps12
    go_wp2_with fail
    refine wp_loop_rounds 1 ?_
    rw [rounds_succ]
    go_wp2_with fail
    go_ret
    exact ⟨rfl, Below.refl _ _⟩
  · rw [emarks_len] at hi ⊢
    exact heldMoveS_any g cap n w hi hl
set_option maxHeartbeats 4000000 in
theorem eqMoveS_any (v u : Value) (L : List (Int × Int)) (w : World) (hL : EList w v L) (hM : EList w u L) (hl : L.length ≤ 1048576) :
    Calls Tryd.prog 8 #[v, u] w fun e w' => e = .returned (.bool true) ∧ Below w.heap.size w w' := by
  have hal := alloc_old
  have haf := alloc_oldf
  obtain ⟨s, c, rfl⟩ := hL.shape
  obtain ⟨s', c', rfl⟩ := hM.shape
  go_enter Tryd.func8, Tryd.ntmps8
  go_wp2_with fail
  go_loopw [5] (fun i wr => ∃ m : Nat, m ≤ L.length ∧ i = .int .i64 m ∧ Below w.heap.size w wr) (fun i _ => L.length - (intOf i).toNat)
  case atStart => exact ⟨0, Nat.zero_le _, rfl, Below.refl _ _⟩
  case round =>
    obtain ⟨m, hm, rfl, hbel⟩ := hrel
    by_cases hlt : m < L.length
    · obtain ⟨g, c1, hv, hcg⟩ := hL.get hlt
      obtain ⟨h, c2, hu, hch⟩ := hM.get hlt
      simp only [Value.slice.injEq, true_and] at hv hu
      obtain ⟨rfl, rfl⟩ := hv
      obtain ⟨rfl, rfl⟩ := hu
      obtain ⟨a, ha⟩ : ∃ a, (L[m]?.getD (0, 0)).1 = a := ⟨_, rfl⟩
      obtain ⟨b, hb⟩ : ∃ a, (L[m]?.getD (0, 0)).2 = a := ⟨_, rfl⟩
      rw [ha, hb] at hcg hch
      obtain ⟨p1, p2⟩ := hcg wr hbel
      obtain ⟨q1, q2⟩ := hch wr hbel
      have hlt' : (m : Int) < (L.length : Int) := by omega
      clear hcg hch ha hb hL hM
      go_wp2_with fail
      go_region_with (first
        | (go_at_call 23; refine (eqMove_any a b a b _).mono ?_; rintro e w2 ⟨rfl, hb2⟩; rw [show (a == a && b == b) = true by simp]))
      all_goals
        go_wp2_with fail
        go_roundw
        case rel =>
          refine ⟨m + 1, by omega, by go_num, ?_⟩
          (repeat (first | with_reducible exact Below.refl _ _ | with_reducible refine bl_alloc ?_ _ | with_reducible refine bl_drewN ?_ _ | with_reducible refine bl_drew ?_ | with_reducible refine bl_setCell ?_ (by first | exact Nat.le_refl _ | (dsimp only; omega) | (simp <;> omega)) _ | with_reducible refine bl_trans ?_ (by with_reducible assumption)))
        case measure => simp [intOf]; omega
    · have hm' : m = L.length := by omega
      clear hm'
      go_wp2_with fail
      go_ret
      exact ⟨rfl, hbel⟩
theorem MRow.eds {w : World} {B : Nat} {s : Option Addr} {n c : Nat} {L : List (Int × Int)} (h : MRow w B (.slice s n c) L) : Eds w s L := by
  rcases h.list with ⟨s', c', e, rfl⟩ | ⟨g, c', e, h1, h2⟩
  · exact Or.inl rfl
  · simp only [Value.slice.injEq] at e
    obtain ⟨rfl, -, -⟩ := e
    refine Or.inr ⟨g, 0, rfl, h1, fun j hj => ?_⟩
    rw [Nat.zero_add]; exact h2 j hj
theorem Tryd.infoMove : (Tryd.prog.info? 38).map (fun i => (i.zero, i.size, i.bytes)) = some (some (.agg #[.int .i64 0, .int .i64 0]), 2, 16) := by kernel_rfl
/-- a move more onto a list of moves of the call's own. -/
theorem wpList_append_move (w : World) {ops : Array Oper} {rest : List Oper} {o : Oper} {a : Act} {Q : Exit → Act → World → Prop}
    (hg : o.guard = none) (s x : Operand) (hop : o.op = Op.call { callee := Callee.builtin Builtin.append, args := #[s, x], argTypes := #[24, 24] })
    (B : Nat) (v : Value) (F : List (Int × Int)) (hs : a.eval s = v) (hv : MRow w B v F) (sb : Nat) (p q : Int) (hx : a.eval x = .slice (some ⟨sb, 0, none⟩) 1 1) (hz0 : w.cell? ⟨sb, 0, none⟩ = some (.int .i64 p)) (hz1 : w.cell? ⟨sb, 1, none⟩ = some (.int .i64 q)) (hl : F.length ≤ 1048576) (hB : B ≤ w.heap.size)
    (hK : ∀ v' w', MRow w' B v' (F ++ [(p, q)]) → w.grownBy w' v.ownBlock → wpList Tryd.prog ops Q rest (a.put o.dst v') w') :
    wpList Tryd.prog ops Q (o :: rest) a w := by
  obtain ⟨ie, hie, he0, he1, he2⟩ := info_parts Tryd.infoMove
  refine wpList_append_own _ hg s x 24 hop B 38 ie (.agg #[.int .i64 0, .int .i64 0]) 2 16 Tryd.underlying24 hie he0 he1 he2 rfl (by decide) v F.length (ecells F) hs hv ⟨sb, 0, none⟩ 1 1 [.int .i64 p, .int .i64 q] hx rfl ?_ ?_ (by unfold maxLen; omega) (by omega) hB ?_
  · intro j u hj
    match j, hj with
    | 0, hj => simp at hj; subst hj; simpa [Addr.add] using hz0
    | 1, hj => simp at hj; subst hj; simpa [Addr.add] using hz1
  · intro u hu
    simp at hu
    rcases hu with rfl | rfl <;> rfl
  · intro v' w' h1 h2 _
    refine hK v' w' ?_ h2
    unfold MRow
    rw [List.length_append, List.length_singleton, ecells_app]
    exact h1
theorem MRow.keptO {w w' : World} {B : Nat} {v : Value} {G : List (Int × Int)} {r : Option Nat} (h : MRow w B v G) (hg : w.grownBy w' r) (hr : ∀ k, v.ownBlock = some k → ¬ r = some k) : MRow w' B v G := by
  cases hv : v.ownBlock with
  | none => exact World.ownsRow.kept h hg (Or.inl hv)
  | some k => exact World.ownsRow.kept h hg (Or.inr (by rw [hv]; exact fun e => hr k hv e.symm))


end Go.Proofs.YtmoohgafljepdaaDoor
