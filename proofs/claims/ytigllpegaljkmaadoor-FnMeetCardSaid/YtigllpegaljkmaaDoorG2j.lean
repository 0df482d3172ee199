import Derived.Test.YtigllpegaljkmaaDoorG1j
namespace Go.Proofs.YtigllpegaljkmaaDoor
open Go.RowKit
set_option linter.unusedVariables false

/-- a list of edges, as it can be read. -/
def Eds (w : World) (s : Option Addr) (L : List (Int × Int)) : Prop :=
  L = [] ∨ ∃ b o, s = some ⟨b, o, none⟩ ∧ b < w.heap.size ∧ ∀ j, j < L.length → w.cell? ⟨b, o + j * 2, none⟩ = some (.int .i64 (L[j]?.getD (0, 0)).1) ∧ w.cell? ⟨b, o + j * 2 + 1, none⟩ = some (.int .i64 (L[j]?.getD (0, 0)).2)
theorem Eds.later {w w' : World} {s : Option Addr} {L : List (Int × Int)} (h : Eds w s L) (hb : Below w.heap.size w w') : Eds w' s L := by
  rcases h with h0 | ⟨b, o, h0, h1, h2⟩
  · exact Or.inl h0
  · exact Or.inr ⟨b, o, h0, Nat.lt_of_lt_of_le h1 hb.size, fun j hj => ⟨(hb.cell (p := ⟨b, o + j * 2, none⟩) h1).trans (h2 j hj).1, (hb.cell (p := ⟨b, o + j * 2 + 1, none⟩) h1).trans (h2 j hj).2⟩⟩
theorem Eds.get {w : World} {s : Option Addr} {L : List (Int × Int)} (h : Eds w s L) {k : Nat} (hk : k < L.length) :
    ∃ b o, s = some ⟨b, o, none⟩ ∧ b < w.heap.size ∧ w.cell? ⟨b, o + k * 2, none⟩ = some (.int .i64 (L[k]?.getD (0, 0)).1) ∧ w.cell? ⟨b, o + k * 2 + 1, none⟩ = some (.int .i64 (L[k]?.getD (0, 0)).2) := by
  rcases h with h0 | ⟨b, o, h0, h1, h2⟩
  · subst h0; simp at hk
  · exact ⟨b, o, h0, h1, (h2 k hk).1, (h2 k hk).2⟩
theorem ERow.eds {w : World} {B : Nat} {s : Option Addr} {n c : Nat} {L : List (Int × Int)} (h : ERow w B (.slice s n c) L) : Eds w s L := by
  rcases h.list with ⟨s', c', e, rfl⟩ | ⟨g, c', e, h1, h2⟩
  · exact Or.inl rfl
  · simp only [Value.slice.injEq] at e
    obtain ⟨rfl, -, -⟩ := e
    refine Or.inr ⟨g, 0, rfl, h1, fun j hj => ?_⟩
    rw [Nat.zero_add]; exact h2 j hj

theorem Tryd.infoEdge : (Tryd.prog.info? 45).map (fun i => (i.zero, i.size, i.bytes)) = some (some (.agg #[.int .i64 0, .int .i64 0]), 2, 16) := by kernel_rfl

/-- the first k of L, noughts behind them. -/
def partE (L : List (Int × Int)) (k : Nat) : List (Int × Int) := L.take k ++ List.replicate (L.length - k) (0, 0)
theorem partE_all (L : List (Int × Int)) : partE L L.length = L := by simp [partE]
theorem partE_len (L : List (Int × Int)) (k : Nat) (h : k ≤ L.length) : (partE L k).length = L.length := by simp [partE]; omega
theorem takeE_succ (L : List (Int × Int)) (k : Nat) (h : k < L.length) : L.take (k + 1) = L.take k ++ [L[k]?.getD (0, 0)] := by
  rw [List.take_add_one, List.getElem?_eq_getElem h]; rfl
theorem partE_cut (L : List (Int × Int)) (k : Nat) (h : k < L.length) : partE L k = L.take k ++ (0, 0) :: List.replicate (L.length - (k + 1)) (0, 0) ∧ partE L (k + 1) = L.take k ++ (L[k]?.getD (0, 0)) :: List.replicate (L.length - (k + 1)) (0, 0) := by
  constructor
  · unfold partE
    rw [show L.length - k = (L.length - (k + 1)) + 1 by omega, List.replicate_succ]
  · unfold partE
    rw [takeE_succ L k h]; simp

theorem made_edges (n : Nat) : (madeCells #[Value.int .i64 0, Value.int .i64 0] (n * 2)).toList = ecells (List.replicate n (0, 0)) := by
  apply List.ext_getElem?
  intro j
  by_cases hj : j < n * 2
  · have h1 : j / 2 < n := by omega
    obtain ⟨e1, e2⟩ := ecells_get (List.replicate n (0, 0)) (j / 2) (0, 0) (by simp [h1])
    have hm : j % 2 = 0 ∨ j % 2 = 1 := by omega
    rcases hm with hm | hm
    · rw [show 2 * (j / 2) = j by omega] at e1
      rw [e1]; simp [madeCells, hj, hm]
    · rw [show 2 * (j / 2) + 1 = j by omega] at e2
      rw [e2]; simp [madeCells, hj, hm]
  · rw [List.getElem?_eq_none (by simp [madeCells]; omega), List.getElem?_eq_none (by rw [ecells_len]; simp; omega)]

/-- a graph. -/
def gOk (n : Int) (L : List (Int × Int)) : Bool := decide (0 ≤ n ∧ n ≤ 16 ∧ L.length ≤ 200 ∧ ∀ e ∈ L, (0 ≤ e.1 ∧ e.1 < n) ∧ 0 ≤ e.2 ∧ e.2 < n)

set_option maxHeartbeats 1000000 in
theorem isBelow_any (x n : Int) (w : World) :
    Calls Tryd.prog 19 #[.int .i64 x, .int .i64 n] w fun e w' => e = .returned (.bool (decide (0 ≤ x ∧ x < n))) ∧ w' = w := by
  by_cases h1 : 0 ≤ x
  · go_enter Tryd.func19, Tryd.ntmps19
    go_wp2
    go_ret
    exact ⟨ret_bool' (by simp [h1]), rfl⟩
  · go_enter Tryd.func19, Tryd.ntmps19
    go_wp2
    go_ret
    exact ⟨ret_bool' (by simp; omega), rfl⟩

theorem memE {L : List (Int × Int)} {k : Nat} (h : k < L.length) : L[k]?.getD (0, 0) ∈ L := by
  rw [List.getElem?_eq_getElem h]; exact List.getElem_mem h
theorem gOk_bad {n : Int} {L : List (Int × Int)} {k : Nat} (hk : k < L.length) {a b : Int} (hx : L[k]?.getD (0, 0) = (a, b)) (h : ¬ ((0 ≤ a ∧ a < n) ∧ 0 ≤ b ∧ b < n)) : gOk n L = false := by
  simp only [gOk, decide_eq_false_iff_not]
  intro g
  have := g.2.2.2 _ (memE hk)
  rw [hx] at this
  exact h this

set_option maxHeartbeats 2000000 in
theorem implGraphOk_any (n : Int) (s : Option Addr) (c : Nat) (L : List (Int × Int)) (w : World) (hL : Eds w s L) (hl : L.length ≤ 1048576) :
    Calls Tryd.prog 34 #[.int .i64 n, .slice s L.length c] w fun e w' => e = .returned (.bool (gOk n L)) ∧ Below w.heap.size w w' := by
  have hal := alloc_old
  have haf := alloc_oldf
  by_cases h0 : 0 ≤ n
  · by_cases h1 : n ≤ 16
    · by_cases h2 : L.length ≤ 200
      · have t0 : decide (n < 0) = false := by simp; omega
        have t1 : decide (16 < n) = false := by simp; omega
        have t2 : decide (200 < (L.length : Int)) = false := by simp; omega
        go_enter Tryd.func34, Tryd.ntmps34
        go_wp2_with fail
        go_loopw [20] (fun i wr => ∃ k : Nat, k ≤ L.length ∧ i = .int .i64 k ∧ Hid (∀ e ∈ L.take k, (0 ≤ e.1 ∧ e.1 < n) ∧ 0 ≤ e.2 ∧ e.2 < n) ∧ Hid (Below w.heap.size w wr)) (fun i _ => L.length - (intOf i).toNat)
        case atStart => exact ⟨0, Nat.zero_le _, rfl, by simp [Hid], Below.refl _ _⟩
        case round =>
          obtain ⟨k, hk, rfl, hall, hbel⟩ := hrel
          by_cases hlt : k < L.length
          · obtain ⟨b, o, rfl, hp, e1, e2⟩ := (hL.later hbel.out).get hlt
            obtain ⟨⟨p1, p2⟩, hx⟩ : ∃ x, Hid (L[k]?.getD (0, 0) = x) := ⟨_, rfl⟩
            rw [hx.out] at e1 e2
            clear hL
            cases i1 : decide (0 ≤ p1 ∧ p1 < n)
            · have hbad : Hid (gOk n L = false) := gOk_bad hlt hx.out (fun h => of_decide_eq_false i1 h.1)
              go_wp2_with (go_at_call 19; refine (isBelow_any _ _ _).mono ?_; rintro e w' ⟨rfl, rfl⟩; rw [i1])
              go_ret
              refine ⟨ret_bool' hbad.out.symm, ?_⟩
              have hb' := hbel.out
              (repeat (first | with_reducible exact Below.refl _ _ | with_reducible refine bl_alloc ?_ _ | with_reducible refine bl_drewN ?_ _ | with_reducible refine bl_drew ?_ | with_reducible refine bl_setCell ?_ (by first | exact Nat.le_refl _ | (dsimp only; omega) | (simp <;> omega)) _ | with_reducible refine bl_trans ?_ (by with_reducible assumption)))
            · cases i2 : decide (0 ≤ p2 ∧ p2 < n)
              · have hbad : Hid (gOk n L = false) := gOk_bad hlt hx.out (fun h => of_decide_eq_false i2 h.2)
                go_wp2_with (go_at_call 19; refine (isBelow_any _ _ _).mono ?_; rintro e w' ⟨rfl, rfl⟩; (first | rw [i1] | rw [i2]))
                go_ret
                refine ⟨ret_bool' hbad.out.symm, ?_⟩
                have hb' := hbel.out
                (repeat (first | with_reducible exact Below.refl _ _ | with_reducible refine bl_alloc ?_ _ | with_reducible refine bl_drewN ?_ _ | with_reducible refine bl_drew ?_ | with_reducible refine bl_setCell ?_ (by first | exact Nat.le_refl _ | (dsimp only; omega) | (simp <;> omega)) _ | with_reducible refine bl_trans ?_ (by with_reducible assumption)))
              · have hstep : Hid (∀ e ∈ L.take (k + 1), (0 ≤ e.1 ∧ e.1 < n) ∧ 0 ≤ e.2 ∧ e.2 < n) := by
                  intro g hg
                  rw [takeE_succ L k hlt, List.mem_append] at hg
                  rcases hg with hg | hg
                  · exact hall.out g hg
                  · simp at hg; subst hg; rw [hx.out]; exact ⟨of_decide_eq_true i1, of_decide_eq_true i2⟩
                go_wp2_with (go_at_call 19; refine (isBelow_any _ _ _).mono ?_; rintro e w' ⟨rfl, rfl⟩; (first | rw [i1] | rw [i2]))
                go_roundw
                case rel =>
                  refine ⟨k + 1, by omega, by go_num, hstep, ?_⟩
                  have hb' := hbel.out
                  show Below _ _ _
                  (repeat (first | with_reducible exact Below.refl _ _ | with_reducible refine bl_alloc ?_ _ | with_reducible refine bl_drewN ?_ _ | with_reducible refine bl_drew ?_ | with_reducible refine bl_setCell ?_ (by first | exact Nat.le_refl _ | (dsimp only; omega) | (simp <;> omega)) _ | with_reducible refine bl_trans ?_ (by with_reducible assumption)))
                case measure => simp [intOf]; omega
          · have hgood : Hid (gOk n L = true) := by
              have := hall.out
              rw [List.take_of_length_le (by omega)] at this
              simp only [Hid, gOk, decide_eq_true_eq]
              exact ⟨h0, h1, h2, this⟩
            go_wp2_with fail
            go_ret
            exact ⟨ret_bool' hgood.out.symm, hbel.out⟩
      · have hbad : Hid (gOk n L = false) := by simp only [Hid, gOk, decide_eq_false_iff_not]; omega
        have t0 : decide (n < 0) = false := by simp; omega
        have t1 : decide (16 < n) = false := by simp; omega
        have t2 : decide (200 < (L.length : Int)) = true := by simp; omega
        go_enter Tryd.func34, Tryd.ntmps34
        go_wp2_with fail
        go_ret
        exact ⟨ret_bool' hbad.out.symm, Below.refl _ _⟩
    · have hbad : Hid (gOk n L = false) := by simp only [Hid, gOk, decide_eq_false_iff_not]; omega
      have t0 : decide (n < 0) = false := by simp; omega
      have t1 : decide (16 < n) = true := by simp; omega
      go_enter Tryd.func34, Tryd.ntmps34
      go_wp2_with fail
      go_ret
      exact ⟨ret_bool' hbad.out.symm, Below.refl _ _⟩
  · have hbad : Hid (gOk n L = false) := by simp only [Hid, gOk, decide_eq_false_iff_not]; omega
    have t0 : decide (n < 0) = true := by simp; omega
    go_enter Tryd.func34, Tryd.ntmps34
    go_wp2_with fail
    go_ret
    exact ⟨ret_bool' hbad.out.symm, Below.refl _ _⟩

set_option maxHeartbeats 2000000 in
theorem specGraphOk_any (n : Int) (s : Option Addr) (c : Nat) (L : List (Int × Int)) (w : World) (hL : Eds w s L) (hl : L.length ≤ 1048576) :
    Calls Tryd.prog 22 #[.int .i64 n, .slice s L.length c] w fun e w' => e = .returned (.bool (gOk n L)) ∧ w' = w := by
  by_cases h0 : 0 ≤ n ∧ n ≤ 16
  · obtain ⟨h0, h1⟩ := h0
    have t0 : (decide (0 ≤ n) && decide (n ≤ 16)) = true := by simp; omega
    by_cases h2 : L.length ≤ 200
    · have t2 : decide (200 < (L.length : Int)) = false := by simp; omega
      go_enter Tryd.func22, Tryd.ntmps22
      go_wp2_with (go_at_call 24; refine (l1In_any _ _ _ _).mono ?_; rintro e w' ⟨rfl, rfl⟩; rw [t0])
      go_loop [5] (fun i => ∃ k : Nat, k ≤ L.length ∧ i = .int .i64 k ∧ Hid (∀ e ∈ L.take k, (0 ≤ e.1 ∧ e.1 < n) ∧ 0 ≤ e.2 ∧ e.2 < n)) (fun i => L.length - (intOf i).toNat)
      case atStart => exact ⟨0, Nat.zero_le _, rfl, by simp [Hid]⟩
      case round =>
        obtain ⟨k, hk, rfl, hall⟩ := hrel
        by_cases hlt : k < L.length
        · obtain ⟨b, o, rfl, hp, e1, e2⟩ := hL.get hlt
          obtain ⟨⟨p1, p2⟩, hx⟩ : ∃ x, Hid (L[k]?.getD (0, 0) = x) := ⟨_, rfl⟩
          rw [hx.out] at e1 e2
          clear hL
          cases i1 : (decide (0 ≤ p1) && decide (p1 ≤ n - 1))
          · have hbad : Hid (gOk n L = false) := gOk_bad hlt hx.out (fun h => by simp at i1; omega)
            go_wp2_with (go_at_call 24; refine (l1In_any _ _ _ _).mono ?_; rintro e w' ⟨rfl, rfl⟩; rw [i1])
            go_ret
            exact ⟨ret_bool' hbad.out.symm, rfl⟩
          · cases i2 : (decide (0 ≤ p2) && decide (p2 ≤ n - 1))
            · have hbad : Hid (gOk n L = false) := gOk_bad hlt hx.out (fun h => by simp at i2; omega)
              go_wp2_with (go_at_call 24; refine (l1In_any _ _ _ _).mono ?_; rintro e w' ⟨rfl, rfl⟩; (first | rw [i1] | rw [i2]))
              go_ret
              exact ⟨ret_bool' hbad.out.symm, rfl⟩
            · have hstep : Hid (∀ e ∈ L.take (k + 1), (0 ≤ e.1 ∧ e.1 < n) ∧ 0 ≤ e.2 ∧ e.2 < n) := by
                intro g hg
                rw [takeE_succ L k hlt, List.mem_append] at hg
                rcases hg with hg | hg
                · exact hall.out g hg
                · simp at hg; subst hg; rw [hx.out]; simp at i1 i2; exact ⟨⟨i1.1, by omega⟩, i2.1, by omega⟩
              go_wp2_with (go_at_call 24; refine (l1In_any _ _ _ _).mono ?_; rintro e w' ⟨rfl, rfl⟩; (first | rw [i1] | rw [i2]))
              go_round
              case rel => exact ⟨k + 1, by omega, by go_num, hstep⟩
              case measure => simp [intOf]; omega
        · have hgood : Hid (gOk n L = true) := by
            have := hall.out
            rw [List.take_of_length_le (by omega)] at this
            simp only [Hid, gOk, decide_eq_true_eq]
            exact ⟨h0, h1, h2, this⟩
          go_wp2_with fail
          go_ret
          exact ⟨ret_bool' hgood.out.symm, rfl⟩
    · have hbad : Hid (gOk n L = false) := by simp only [Hid, gOk, decide_eq_false_iff_not]; omega
      have t2 : decide (200 < (L.length : Int)) = true := by simp; omega
      go_enter Tryd.func22, Tryd.ntmps22
      go_wp2_with (go_at_call 24; refine (l1In_any _ _ _ _).mono ?_; rintro e w' ⟨rfl, rfl⟩; rw [t0])
      go_ret
      exact ⟨ret_bool' hbad.out.symm, rfl⟩
  · have hbad : Hid (gOk n L = false) := by simp only [Hid, gOk, decide_eq_false_iff_not]; omega
    have t0 : (decide (0 ≤ n) && decide (n ≤ 16)) = false := by simp; omega
    go_enter Tryd.func22, Tryd.ntmps22
    go_wp2_with (go_at_call 24; refine (l1In_any _ _ _ _).mono ?_; rintro e w' ⟨rfl, rfl⟩; rw [t0])
    go_ret
    exact ⟨ret_bool' hbad.out.symm, rfl⟩
end Go.Proofs.YtigllpegaljkmaaDoor
