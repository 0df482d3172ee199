import Derived.Test.YtgfchpbdoebmbaaQh
import Derived.Test.YtgfchpbdoebmbaaBa
import Derived.Deep.QuietTactic
import Derived.BigQuiet
namespace Go.Proofs.Ytgfchpbdoebmbaa
open Go.RowKit
set_option linter.unusedVariables false
set_option linter.unusedSimpArgs false

theorem Try.infoClash : (Try.prog.info? 42).map (fun i => (i.zero, i.size, i.bytes)) = some (some (.agg #[.int .i64 0, .int .i64 0]), 2, 16) := by kernel_rfl
/-- a list of clashes of the call's own. -/
def KRow (w : World) (B : Nat) (v : Value) (L : List (Int × Int)) : Prop := w.ownsRow B 42 2 v L.length (ecells L)
theorem KRow.nil (w : World) (B : Nat) : KRow w B (.slice none 0 0) [] := World.ownsRow_nil _ _ _ _
theorem KRow.form {w : World} {B : Nat} {v : Value} {L : List (Int × Int)} (h : KRow w B v L) :
    (v = .slice none 0 0 ∧ L = []) ∨ ∃ g cap, v = .slice (some ⟨g, 0, none⟩) L.length cap ∧ B ≤ g ∧ g < w.heap.size ∧ ∀ j p, L[j]? = some p → w.cell? ⟨g, 2 * j, none⟩ = some (.int .i64 p.1) ∧ w.cell? ⟨g, 2 * j + 1, none⟩ = some (.int .i64 p.2) ∧ w.frozen? ⟨g, 2 * j, none⟩ = false ∧ w.frozen? ⟨g, 2 * j + 1, none⟩ = false := by
  rcases h.2 with ⟨h1, h2⟩ | ⟨g, cap, cur, rfl, hb, hg, r⟩
  · exact Or.inl ⟨h1, List.length_eq_zero_iff.1 h2⟩
  · refine Or.inr ⟨g, cap, rfl, hb, (Array.getElem?_eq_some_iff.1 hg).1, fun j p hp => ?_⟩
    have hj : j < L.length := (List.getElem?_eq_some_iff.1 hp).1
    obtain ⟨e1, e2⟩ := ecells_get L j p hp
    exact ⟨by rw [World.ownsRow.cellAt h (2 * j) (by omega), e1], by rw [World.ownsRow.cellAt h (2 * j + 1) (by omega), e2], World.ownsRow.frozenAt h _, World.ownsRow.frozenAt h _⟩
theorem KRow.mono {w : World} {B B' : Nat} {v : Value} {L : List (Int × Int)} (h : KRow w B v L) (hB : B' ≤ B) : KRow w B' v L := by
  refine ⟨h.1, ?_⟩
  rcases h.2 with h' | ⟨g, cap', cur, h', hb, r⟩
  · exact Or.inl h'
  · exact Or.inr ⟨g, cap', cur, h', Nat.le_trans hB hb, r⟩
theorem KRow.later {w w' : World} {B : Nat} {v : Value} {L : List (Int × Int)} (h : KRow w B v L) (hb : Below w.heap.size w w') : KRow w' B v L := by
  refine World.ownsRow.kept h (grown_of_below hb) ?_
  cases v.ownBlock with
  | none => exact Or.inl rfl
  | some b => exact Or.inr (by simp)
theorem KRow.lt {w : World} {B : Nat} {v : Value} {L : List (Int × Int)} (h : KRow w B v L) : ∀ k, v.ownBlock = some k → B ≤ k ∧ k < w.heap.size := World.ownsRow.lt h
theorem KRow.kept {w w' : World} {B b : Nat} {v : Value} {L : List (Int × Int)} (h : KRow w B v L) (hg : w.grownBy w' (some b)) (hn : ¬ v.ownBlock = some b) : KRow w' B v L := World.ownsRow.kept h hg (Or.inr hn)
theorem KRow.put {w : World} {B g cap : Nat} {L : List (Int × Int)} {A : List (Int × Int)} {p : Int × Int} {C : List (Int × Int)} (h : KRow w B (.slice (some ⟨g, 0, none⟩) L.length cap) L) (hL : L = A ++ p :: C) (a b : Int) :
    KRow ((w.setCell ⟨g, 2 * A.length, none⟩ (.int .i64 a)).setCell ⟨g, 2 * A.length + 1, none⟩ (.int .i64 b)) B (.slice (some ⟨g, 0, none⟩) L.length cap) (A ++ (a, b) :: C) ∧
    w.grownBy ((w.setCell ⟨g, 2 * A.length, none⟩ (.int .i64 a)).setCell ⟨g, 2 * A.length + 1, none⟩ (.int .i64 b)) (some g) := by
  obtain ⟨h1, g1⟩ := World.ownsRow.stored h (2 * A.length) (.int .i64 a)
  obtain ⟨h2, g2⟩ := World.ownsRow.stored h1 (2 * A.length + 1) (.int .i64 b)
  refine ⟨?_, grown_trans g1 g2⟩
  have e : (A ++ (a, b) :: C).length = L.length := by rw [hL]; simp
  unfold KRow
  rw [e, ← ecells_set A p C a b, ← hL]
  exact h2
theorem KRow.list {w : World} {B : Nat} {v : Value} {L : List (Int × Int)} (h : KRow w B v L) : EList w v L := by
  rcases h.form with ⟨rfl, rfl⟩ | ⟨g, cap, rfl, h1, h2, h3⟩
  · exact Or.inl ⟨none, 0, rfl, rfl⟩
  · refine Or.inr ⟨g, cap, rfl, h2, fun j hj => ?_⟩
    obtain ⟨a, b, _, _⟩ := h3 j (L[j]?.getD (0, 0)) (by simp [hj])
    rw [Nat.mul_comm j 2]
    exact ⟨a, b⟩
set_option maxHeartbeats 1000000 in
theorem eqClash_any (a b c d : Int) (w : World) :
    Calls Try.prog 29 #[.agg #[.int .i64 a, .int .i64 b], .agg #[.int .i64 c, .int .i64 d]] w fun e w' => e = .returned (.bool (a == c && b == d)) ∧ Below w.heap.size w w' := by
  have hal := alloc_old
  have haf := alloc_oldf
  cases h1 : ((a == c) : Bool)
  · have g1 : (a != c) = true := by simp [bne, h1]
    go_enter Try.func29, Try.ntmps29
    go_wp2_with fail
    go_ret
    refine ⟨rfl, ?_⟩
    (repeat (first | with_reducible exact Below.refl _ _ | with_reducible refine bl_alloc ?_ _ | with_reducible refine bl_drewN ?_ _ | with_reducible refine bl_drew ?_ | with_reducible refine bl_setCell ?_ (by first | exact Nat.le_refl _ | (dsimp only; omega) | (simp <;> omega)) _ | with_reducible refine bl_trans ?_ (by with_reducible assumption)))
  · have g1 : (a != c) = false := by simp [bne, h1]
    cases h2 : ((b == d) : Bool)
    · have g2 : (b != d) = true := by simp [bne, h2]
      go_enter Try.func29, Try.ntmps29
      go_wp2_with fail
      go_ret
      refine ⟨rfl, ?_⟩
      (repeat (first | with_reducible exact Below.refl _ _ | with_reducible refine bl_alloc ?_ _ | with_reducible refine bl_drewN ?_ _ | with_reducible refine bl_drew ?_ | with_reducible refine bl_setCell ?_ (by first | exact Nat.le_refl _ | (dsimp only; omega) | (simp <;> omega)) _ | with_reducible refine bl_trans ?_ (by with_reducible assumption)))
    · have g2 : (b != d) = false := by simp [bne, h2]
      go_enter Try.func29, Try.ntmps29
      go_wp2_with fail
      go_ret
      refine ⟨rfl, ?_⟩
      (repeat (first | with_reducible exact Below.refl _ _ | with_reducible refine bl_alloc ?_ _ | with_reducible refine bl_drewN ?_ _ | with_reducible refine bl_drew ?_ | with_reducible refine bl_setCell ?_ (by first | exact Nat.le_refl _ | (dsimp only; omega) | (simp <;> omega)) _ | with_reducible refine bl_trans ?_ (by with_reducible assumption)))
set_option maxHeartbeats 2000000 in
theorem markClashS_any (B g cap : Nat) (L : List (Int × Int)) (w : World) (h : KRow w B (.slice (some ⟨g, 0, none⟩) L.length cap) L) (hl : L.length ≤ 1073741824) :
    Calls Try.prog 14 #[.slice (some ⟨g, 0, none⟩) L.length cap, .int .i64 1] w fun e w' => e = .returned (.int .i64 (1 + 2 * L.length)) ∧ KRow w' B (.slice (some ⟨g, 0, none⟩) L.length cap) (emarks 1 L.length) ∧ w.grownBy w' (some g) := by
  go_enter Try.func14, Try.ntmps14
  go_wp2_with fail
  go_loopw [1, 5] (fun c i wr => ∃ m : Nat, m ≤ L.length ∧ i = .int .i64 m ∧ c = .int .i64 (1 + 2 * m) ∧ KRow wr B (.slice (some ⟨g, 0, none⟩) L.length cap) (emarks 1 m ++ L.drop m) ∧ w.grownBy wr (some g)) (fun _ i _ => L.length - (intOf i).toNat)
  case atStart => exact ⟨0, Nat.zero_le _, rfl, by simp, by simpa [emarks] using h, grown_refl _ _⟩
  case round =>
    obtain ⟨m, hm, rfl, rfl, hr, hg⟩ := hrel
    by_cases hlt : m < L.length
    · have hlen : (emarks 1 m ++ L.drop m).length = L.length := by simp [emarks_len]; omega
      have hcut : emarks 1 m ++ L.drop m = emarks 1 m ++ L[m] :: L.drop (m + 1) := by rw [List.drop_eq_getElem_cons hlt]
      have hp := KRow.put (L := emarks 1 m ++ L.drop m) (cap := cap) (g := g) (B := B) (w := wr) (by rw [hlen]; exact hr) hcut (1 + 2 * (m : Int)) (1 + 2 * (m : Int) + 1)
      rw [hlen, emarks_len, Nat.mul_comm 2 m] at hp
      rw [show emarks 1 m ++ (1 + 2 * (m : Int), 1 + 2 * (m : Int) + 1) :: L.drop (m + 1) = emarks 1 (m + 1) ++ L.drop (m + 1) by simp [emarks]] at hp
      have hform := hr.form
      rcases hform with ⟨hv, hL⟩ | ⟨g', cap', hv, h1, h2, h3⟩
      · simp at hv
      simp only [Value.slice.injEq, Option.some.injEq, Addr.mk.injEq, and_true] at hv
      obtain ⟨rfl, -, -⟩ := hv
      obtain ⟨p, q, r, t⟩ := h3 m L[m] (by rw [hcut, List.getElem?_append_right (by rw [emarks_len]; omega), emarks_len]; simp)
      rw [Nat.mul_comm 2 m] at p q r t
      obtain ⟨a1, ha1⟩ : ∃ a, L[m].1 = a := ⟨_, rfl⟩
      obtain ⟨a2, ha2⟩ : ∃ a, L[m].2 = a := ⟨_, rfl⟩
      rw [ha1] at p
      rw [ha2] at q
      clear h3 hcut h1 h2 hlen h ha1 ha2
      go_wp2_with fail
      go_roundw
      case rel => exact ⟨m + 1, by omega, by go_num, by go_num, hp.1, grown_trans hg hp.2⟩
      case measure => simp [intOf]; omega
    · have hm' : m = L.length := by omega
      subst hm'
      go_wp2_with fail
      go_ret
      exact ⟨rfl, by simpa using hr, hg⟩
/-- .. of whatever list, a nil one too. -/
theorem markClashS_all (B : Nat) (v : Value) (L : List (Int × Int)) (w : World) (h : KRow w B v L) (hl : L.length ≤ 1073741824) :
    Calls Try.prog 14 #[v, .int .i64 1] w fun e w' => e = .returned (.int .i64 (1 + 2 * L.length)) ∧ KRow w' B v (emarks 1 L.length) ∧ w.grownBy w' v.ownBlock := by
  rcases h.form with ⟨rfl, rfl⟩ | ⟨g, cap, rfl, h1, h2, h3⟩
  · go_enter Try.func14, Try.ntmps14
    go_wp2_with fail
    refine wp_loop_rounds 1 ?_
    rw [rounds_succ]
    go_wp2_with fail
    go_ret
    exact ⟨rfl, KRow.nil _ _, grown_refl _ _⟩
  · exact markClashS_any B g cap L w h hl
set_option maxHeartbeats 2000000 in
theorem heldClashS_any (g cap n : Nat) (w : World) (h : EList w (.slice (some ⟨g, 0, none⟩) n cap) (emarks 1 n)) (hl : n ≤ 1073741824) :
    Calls Try.prog 15 #[.slice (some ⟨g, 0, none⟩) n cap, .int .i64 1] w fun e w' => e = .returned (.int .i64 (1 + 2 * n)) ∧ Below w.heap.size w w' := by
  have hc : 0 < n → ∀ j, j < n → w.cell? ⟨g, j * 2, none⟩ = some (.int .i64 (1 + 2 * (j : Int))) ∧ w.cell? ⟨g, j * 2 + 1, none⟩ = some (.int .i64 (1 + 2 * (j : Int) + 1)) := by
    intro h0
    rcases h with ⟨s, c, hv, hL⟩ | ⟨g', c, hv, h1, h2⟩
    · have := congrArg List.length hL; rw [emarks_len] at this; simp at this; omega
    · simp only [Value.slice.injEq, Option.some.injEq, Addr.mk.injEq, and_true] at hv
      obtain ⟨rfl, -, -⟩ := hv
      intro j hj
      have := h2 j (by rw [emarks_len]; exact hj)
      rw [emarks_get 1 n j hj] at this
      exact this
  clear h
  go_enter Try.func15, Try.ntmps15
  go_wp2_with fail
  go_loop [1, 5] (fun c i => ∃ m : Nat, m ≤ n ∧ i = .int .i64 m ∧ c = .int .i64 (1 + 2 * m)) (fun _ i => n - (intOf i).toNat)
  case atStart => exact ⟨0, Nat.zero_le _, rfl, by simp⟩
  case round =>
    obtain ⟨m, hm, rfl, rfl⟩ := hrel
    by_cases hlt : m < n
    · obtain ⟨p, q⟩ := hc (by omega) m hlt
      clear hc
      go_wp2_with fail
      go_round
      case rel => exact ⟨m + 1, by omega, by go_num, by go_num⟩
      case measure => simp [intOf]; omega
    · have hm' : m = n := by omega
      subst hm'
      clear hc
      go_wp2_with fail
      go_ret
      exact ⟨rfl, Below.refl _ _⟩
theorem heldClashS_all (B : Nat) (v : Value) (L : List (Int × Int)) (n : Nat) (w : World) (h : KRow w B v L) (hL : L = emarks 1 n) (hl : n ≤ 1073741824) :
    Calls Try.prog 15 #[v, .int .i64 1] w fun e w' => e = .returned (.int .i64 (1 + 2 * n)) ∧ Below w.heap.size w w' := by
  subst hL
  have hi := h.list
  rcases h.form with ⟨rfl, h0⟩ | ⟨g, cap, rfl, h1, h2, h3⟩
  · have h0' : n = 0 := by have := congrArg List.length h0; rw [emarks_len] at this; simpa using this
    subst h0'
    go_enter Try.func15, Try.ntmps15
    go_wp2_with fail
    refine wp_loop_rounds 1 ?_
    rw [rounds_succ]
    go_wp2_with fail
    go_ret
    exact ⟨rfl, Below.refl _ _⟩
  · rw [emarks_len] at hi ⊢
    exact heldClashS_any g cap n w hi hl
set_option maxHeartbeats 4000000 in
theorem eqClashS_any (v u : Value) (L : List (Int × Int)) (w : World) (hL : EList w v L) (hM : EList w u L) (hl : L.length ≤ 1073741824) :
    Calls Try.prog 11 #[v, u] w fun e w' => e = .returned (.bool true) ∧ Below w.heap.size w w' := by
  have hal := alloc_old
  have haf := alloc_oldf
  obtain ⟨s, c, rfl⟩ := hL.shape
  obtain ⟨s', c', rfl⟩ := hM.shape
  go_enter Try.func11, Try.ntmps11
  go_wp2_with fail
  go_loopw [5] (fun i wr => ∃ m : Nat, m ≤ L.length ∧ i = .int .i64 m ∧ Below w.heap.size w wr) (fun i _ => L.length - (intOf i).toNat)
  case atStart => exact ⟨0, Nat.zero_le _, rfl, Below.refl _ _⟩
  case round =>
    obtain ⟨m, hm, rfl, hbel⟩ := hrel
    by_cases hlt : m < L.length
    · obtain ⟨g, c1, hv, hcg⟩ := hL.get hlt
      obtain ⟨h, c2, hu, hch⟩ := hM.get hlt
      simp only [Value.slice.injEq, true_and] at hv hu
      obtain ⟨rfl, rfl⟩ := hv
      obtain ⟨rfl, rfl⟩ := hu
      obtain ⟨a, ha⟩ : ∃ a, (L[m]?.getD (0, 0)).1 = a := ⟨_, rfl⟩
      obtain ⟨b, hb⟩ : ∃ a, (L[m]?.getD (0, 0)).2 = a := ⟨_, rfl⟩
      rw [ha, hb] at hcg hch
      obtain ⟨p1, p2⟩ := hcg wr hbel
      obtain ⟨q1, q2⟩ := hch wr hbel
      have hlt' : (m : Int) < (L.length : Int) := by omega
      clear hcg hch ha hb hL hM
      go_wp2_with fail
      go_region_with (first
        | (go_at_call 29; refine (eqClash_any a b a b _).mono ?_; rintro e w2 ⟨rfl, hb2⟩; rw [show (a == a && b == b) = true by simp]))
      all_goals
        go_wp2_with fail
        go_roundw
        case rel =>
          refine ⟨m + 1, by omega, by go_num, ?_⟩
          (repeat (first | with_reducible exact Below.refl _ _ | with_reducible refine bl_alloc ?_ _ | with_reducible refine bl_drewN ?_ _ | with_reducible refine bl_drew ?_ | with_reducible refine bl_setCell ?_ (by first | exact Nat.le_refl _ | (dsimp only; omega) | (simp <;> omega)) _ | with_reducible refine bl_trans ?_ (by with_reducible assumption)))
        case measure => simp [intOf]; omega
    · have hm' : m = L.length := by omega
      clear hm'
      go_wp2_with fail
      go_ret
      exact ⟨rfl, hbel⟩
/-- a clash more onto a list of clashes of the call's own. -/
theorem wpList_append_clash (w : World) {ops : Array Oper} {rest : List Oper} {o : Oper} {a : Act} {Q : Exit → Act → World → Prop}
    (hg : o.guard = none) (s x : Operand) (hop : o.op = Op.call { callee := Callee.builtin Builtin.append, args := #[s, x], argTypes := #[26, 26] })
    (B : Nat) (v : Value) (F : List (Int × Int)) (hs : a.eval s = v) (hv : KRow w B v F) (sb : Nat) (p q : Int) (hx : a.eval x = .slice (some ⟨sb, 0, none⟩) 1 1) (hz0 : w.cell? ⟨sb, 0, none⟩ = some (.int .i64 p)) (hz1 : w.cell? ⟨sb, 1, none⟩ = some (.int .i64 q)) (hl : F.length ≤ 1073741824) (hB : B ≤ w.heap.size)
    (hK : ∀ v' w', KRow w' B v' (F ++ [(p, q)]) → w.grownBy w' v.ownBlock → wpList Try.prog ops Q rest (a.put o.dst v') w') :
    wpList Try.prog ops Q (o :: rest) a w := by
  obtain ⟨ie, hie, he0, he1, he2⟩ := info_parts Try.infoClash
  refine wpList_append_own _ hg s x 26 hop B 42 ie (.agg #[.int .i64 0, .int .i64 0]) 2 16 Try.underlying26 hie he0 he1 he2 rfl (by decide) v F.length (ecells F) hs hv ⟨sb, 0, none⟩ 1 1 [.int .i64 p, .int .i64 q] hx rfl ?_ ?_ (by unfold maxLen; omega) (by omega) hB ?_
  · intro j u hj
    match j, hj with
    | 0, hj => simp at hj; subst hj; simpa [Addr.add] using hz0
    | 1, hj => simp at hj; subst hj; simpa [Addr.add] using hz1
  · intro u hu
    simp at hu
    rcases hu with rfl | rfl <;> rfl
  · intro v' w' h1 h2 _
    refine hK v' w' ?_ h2
    unfold KRow
    rw [List.length_append, List.length_singleton, ecells_app]
    exact h1
theorem KRow.keptO {w w' : World} {B : Nat} {v : Value} {G : List (Int × Int)} {r : Option Nat} (h : KRow w B v G) (hg : w.grownBy w' r) (hr : ∀ k, v.ownBlock = some k → ¬ r = some k) : KRow w' B v G := by
  cases hv : v.ownBlock with
  | none => exact World.ownsRow.kept h hg (Or.inl hv)
  | some k => exact World.ownsRow.kept h hg (Or.inr (by rw [hv]; exact fun e => hr k hv e.symm))


/-! what clashes -/
/-- what one changes and the other one changes or asks for. -/
def hitP (aw ar bw br : List Int) (x : Int) : Prop := (x ∈ aw ∧ (x ∈ bw ∨ x ∈ br)) ∨ (x ∈ bw ∧ (x ∈ aw ∨ x ∈ ar))
/-- told ascending, each once. -/
def Hits (aw ar bw br R : List Int) : Prop := Asc R ∧ (∀ x, x ∈ R ↔ hitP aw ar bw br x) ∧ R.length ≤ 2 * aw.length + 2 * bw.length
def hts (aw ar bw br : List Int) : List Int := Lib.compact ((aw.filter (fun x => decide (x ∈ bw ∨ x ∈ br)) ++ bw.filter (fun x => decide (x ∈ aw ∨ x ∈ ar))).mergeSort fun x y => decide (x ≤ y))
theorem hts_hits (aw ar bw br : List Int) : Hits aw ar bw br (hts aw ar bw br) := by
  obtain ⟨h1, h2, h3⟩ := srt_compact (aw.filter (fun x => decide (x ∈ bw ∨ x ∈ br)) ++ bw.filter (fun x => decide (x ∈ aw ∨ x ∈ ar)))
  refine ⟨h1, fun x => ?_, ?_⟩
  · unfold hts
    rw [h2 x]
    simp [hitP]
  · unfold hts
    have e1 := List.length_filter_le (fun x => decide (x ∈ bw ∨ x ∈ br)) aw
    have e2 := List.length_filter_le (fun x => decide (x ∈ aw ∨ x ∈ ar)) bw
    rw [List.length_append] at h3
    omega
theorem Hits.is {aw ar bw br R : List Int} (h : Hits aw ar bw br R) : R = hts aw ar bw br := asc_unique h.1 (hts_hits aw ar bw br).1 (fun x => (h.2.1 x).trans ((hts_hits aw ar bw br).2.1 x).symm)
theorem hts_len (aw ar bw br : List Int) : (hts aw ar bw br).length ≤ 2 * aw.length + 2 * bw.length := (hts_hits aw ar bw br).2.2
/-- it does not hang on the order or on repetitions of the lists. -/
theorem hts_congr {aw ar bw br aw' ar' bw' br' : List Int} (h1 : ∀ x, x ∈ aw ↔ x ∈ aw') (h2 : ∀ x, x ∈ ar ↔ x ∈ ar') (h3 : ∀ x, x ∈ bw ↔ x ∈ bw') (h4 : ∀ x, x ∈ br ↔ x ∈ br') : hts aw ar bw br = hts aw' ar' bw' br' := by
  refine asc_unique (hts_hits _ _ _ _).1 (hts_hits _ _ _ _).1 fun x => ?_
  rw [(hts_hits _ _ _ _).2.1, (hts_hits _ _ _ _).2.1]
  simp only [hitP, h1, h2, h3, h4]
theorem hts_turn (aw ar bw br : List Int) : hts bw br aw ar = hts aw ar bw br := by
  refine asc_unique (hts_hits _ _ _ _).1 (hts_hits _ _ _ _).1 fun x => ?_
  rw [(hts_hits _ _ _ _).2.1, (hts_hits _ _ _ _).2.1]
  exact Or.comm
theorem hts_none (ar br : List Int) : hts [] ar [] br = [] := by
  have := hts_len [] ar [] br
  exact List.length_eq_zero_iff.1 (by simpa using this)
/-- clashes of a sort. -/
def ofSort (k : Int) (L : List Int) : List (Int × Int) := L.map fun x => (k, x)
theorem ofSort_len (k : Int) (L : List Int) : (ofSort k L).length = L.length := by simp [ofSort]
def clB (V U : Ef) : List (Int × Int) := ofSort 1 (hts V.l1 V.l0 U.l1 U.l0) ++ (ofSort 2 (hts V.l4 V.l3 U.l4 U.l3) ++ ofSort 3 (hts V.l5 V.l6 U.l5 U.l6))
/-- the columns from 0 on. -/
def cols : Nat → List Int
  | 0 => []
  | n + 1 => cols n ++ [(n : Int)]
theorem cols_len : ∀ n, (cols n).length = n
  | 0 => rfl
  | n + 1 => by simp [cols, cols_len n]
def tgL (e : Ef) (n : Int) : List Int := e.l7 ++ if e.kl then cols n.toNat else []
def askL (e : Ef) : List Int := e.l0 ++ (e.l1 ++ e.l2)
def cmB (V U : Ef) (n : Int) : List Int := hts (tgL V n) (askL V) (tgL U n) (askL U)
def stB (V U : Ef) (n : Int) : List (Int × Int) := if 0 ≤ n ∧ n ≤ 12 then clB V U ++ ofSort 4 (cmB V U n) else []
theorem tgL_len (e : Ef) (n : Int) : (tgL e n).length ≤ e.l7.length + n.toNat := by
  unfold tgL
  rw [List.length_append]
  split
  · rw [cols_len]; omega
  · simp
theorem clB_len (V U : Ef) (kV : kEf V) (kU : kEf U) : (clB V U).length ≤ 20000000 := by
  obtain ⟨m0, m1, m2, m3, m4, m5, m6, m7⟩ := kV
  obtain ⟨n0, n1, n2, n3, n4, n5, n6, n7⟩ := kU
  have h1 := hts_len V.l1 V.l0 U.l1 U.l0
  have h2 := hts_len V.l4 V.l3 U.l4 U.l3
  have h3 := hts_len V.l5 V.l6 U.l5 U.l6
  simp only [clB, List.length_append, ofSort_len]
  omega
theorem stB_len (V U : Ef) (n : Int) (kV : kEf V) (kU : kEf U) : (stB V U n).length ≤ 30000000 := by
  have h0 := clB_len V U kV kU
  obtain ⟨m0, m1, m2, m3, m4, m5, m6, m7⟩ := kV
  obtain ⟨n0, n1, n2, n3, n4, n5, n6, n7⟩ := kU
  unfold stB
  split
  · have h1 := hts_len (tgL V n) (askL V) (tgL U n) (askL U)
    have h2 := tgL_len V n
    have h3 := tgL_len U n
    have h4 : (cmB V U n).length ≤ 2 * (tgL V n).length + 2 * (tgL U n).length := h1
    rw [List.length_append, ofSort_len]
    omega
  · simp
theorem clB_turn (V U : Ef) : clB U V = clB V U := by
  unfold clB
  rw [hts_turn V.l1, hts_turn V.l4, hts_turn V.l5]
theorem stB_turn (V U : Ef) (n : Int) : stB U V n = stB V U n := by
  unfold stB cmB
  rw [clB_turn, hts_turn (tgL V n)]
theorem l_snoc {L : List Int} {k : Nat} {x : Int} (h : L[k]? = some x) (s : Int) : ofSort s (L.take (k + 1)) = ofSort s (L.take k) ++ [(s, x)] := by
  rw [List.take_add_one, h]; simp [ofSort]
end Go.Proofs.Ytgfchpbdoebmbaa
