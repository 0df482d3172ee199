import Derived.Test.YtmoohgafljepdaaDoorG1
namespace Go.Proofs.YtmoohgafljepdaaDoor
open Go.RowKit
set_option linter.unusedVariables false

/-- a list of edges, as it can be read. -/
def Eds (w : World) (s : Option Addr) (L : List (Int × Int)) : Prop :=
  L = [] ∨ ∃ b o, s = some ⟨b, o, none⟩ ∧ b < w.heap.size ∧ ∀ j, j < L.length → w.cell? ⟨b, o + j * 2, none⟩ = some (.int .i64 (L[j]?.getD (0, 0)).1) ∧ w.cell? ⟨b, o + j * 2 + 1, none⟩ = some (.int .i64 (L[j]?.getD (0, 0)).2)
theorem Eds.later {w w' : World} {s : Option Addr} {L : List (Int × Int)} (h : Eds w s L) (hb : Below w.heap.size w w') : Eds w' s L := by
  rcases h with h0 | ⟨b, o, h0, h1, h2⟩
  · exact Or.inl h0
  · exact Or.inr ⟨b, o, h0, Nat.lt_of_lt_of_le h1 hb.size, fun j hj => ⟨(hb.cell (p := ⟨b, o + j * 2, none⟩) h1).trans (h2 j hj).1, (hb.cell (p := ⟨b, o + j * 2 + 1, none⟩) h1).trans (h2 j hj).2⟩⟩
theorem Eds.get {w : World} {s : Option Addr} {L : List (Int × Int)} (h : Eds w s L) {k : Nat} (hk : k < L.length) :
    ∃ b o, s = some ⟨b, o, none⟩ ∧ b < w.heap.size ∧ w.cell? ⟨b, o + k * 2, none⟩ = some (.int .i64 (L[k]?.getD (0, 0)).1) ∧ w.cell? ⟨b, o + k * 2 + 1, none⟩ = some (.int .i64 (L[k]?.getD (0, 0)).2) := by
  rcases h with h0 | ⟨b, o, h0, h1, h2⟩
  · subst h0; simp at hk
  · exact ⟨b, o, h0, h1, (h2 k hk).1, (h2 k hk).2⟩
theorem ERow.eds {w : World} {B : Nat} {s : Option Addr} {n c : Nat} {L : List (Int × Int)} (h : ERow w B (.slice s n c) L) : Eds w s L := by
  rcases h.list with ⟨s', c', e, rfl⟩ | ⟨g, c', e, h1, h2⟩
  · exact Or.inl rfl
  · simp only [Value.slice.injEq] at e
    obtain ⟨rfl, -, -⟩ := e
    refine Or.inr ⟨g, 0, rfl, h1, fun j hj => ?_⟩
    rw [Nat.zero_add]; exact h2 j hj

set_option maxHeartbeats 1000000 in
theorem szEdge_neg (s : Option Addr) (n c : Nat) (w : World) (hn : n ≤ 9223372036854775807) (h : ¬ n ≤ 1048576) :
    Calls Tryd.prog 4 #[.slice s n c, .int .i64 1048576] w fun e w' => e = .returned (.int .i64 (-1)) ∧ w' = w := by
  have h' : (1048576 : Int) < n := by omega
  go_enter Tryd.func4, Tryd.ntmps4
  go_wp2
  go_ret
  exact ⟨rfl, rfl⟩
set_option maxHeartbeats 1000000 in
theorem szEdge_pos (s : Option Addr) (n c : Nat) (w : World) (h : n ≤ 1048576) :
    Calls Tryd.prog 4 #[.slice s n c, .int .i64 1048576] w fun e w' => (∃ r : Int, e = .returned (.int .i64 r) ∧ 0 ≤ r) ∧ w' = w := by
  go_enter Tryd.func4, Tryd.ntmps4
  go_wp2
  go_ret
  exact ⟨⟨_, rfl, by omega⟩, rfl⟩

theorem toEdge_any (a g : Int) (w : World) :
    Calls Tryd.prog 18 #[.agg #[.int .i64 a, .int .i64 g]] w fun e w' => e = .returned (.agg #[.int .i64 a, .int .i64 g]) ∧ Below w.heap.size w w' := by
  go_enter Tryd.func18, Tryd.ntmps18
  go_wp2_with fail
  refine bodyPost_ret (v := .agg #[.int .i64 a, .int .i64 g]) (by simp [results, Tryd.results18, go_sem]) rfl ⟨rfl, ?_⟩
  (repeat (first | with_reducible exact Below.refl _ _ | with_reducible refine bl_alloc ?_ _ | with_reducible refine bl_drewN ?_ _ | with_reducible refine bl_drew ?_ | with_reducible refine bl_setCell ?_ (by first | exact Nat.le_refl _ | (dsimp only; omega) | (simp <;> omega)) _ | with_reducible refine bl_trans ?_ (by with_reducible assumption)))

theorem Tryd.infoEdge : (Tryd.prog.info? 46).map (fun i => (i.zero, i.size, i.bytes)) = some (some (.agg #[.int .i64 0, .int .i64 0]), 2, 16) := by kernel_rfl

/-- the first k of L, noughts behind them. -/
def partE (L : List (Int × Int)) (k : Nat) : List (Int × Int) := L.take k ++ List.replicate (L.length - k) (0, 0)
theorem partE_all (L : List (Int × Int)) : partE L L.length = L := by simp [partE]
theorem partE_len (L : List (Int × Int)) (k : Nat) (h : k ≤ L.length) : (partE L k).length = L.length := by simp [partE]; omega
theorem takeE_succ (L : List (Int × Int)) (k : Nat) (h : k < L.length) : L.take (k + 1) = L.take k ++ [L[k]?.getD (0, 0)] := by
  rw [List.take_add_one, List.getElem?_eq_getElem h]; rfl
theorem partE_cut (L : List (Int × Int)) (k : Nat) (h : k < L.length) : partE L k = L.take k ++ (0, 0) :: List.replicate (L.length - (k + 1)) (0, 0) ∧ partE L (k + 1) = L.take k ++ (L[k]?.getD (0, 0)) :: List.replicate (L.length - (k + 1)) (0, 0) := by
  constructor
  · unfold partE
    rw [show L.length - k = (L.length - (k + 1)) + 1 by omega, List.replicate_succ]
  · unfold partE
    rw [takeE_succ L k h]; simp

theorem made_edges (n : Nat) : (madeCells #[Value.int .i64 0, Value.int .i64 0] (n * 2)).toList = ecells (List.replicate n (0, 0)) := by
  apply List.ext_getElem?
  intro j
  by_cases hj : j < n * 2
  · have h1 : j / 2 < n := by omega
    obtain ⟨e1, e2⟩ := ecells_get (List.replicate n (0, 0)) (j / 2) (0, 0) (by simp [h1])
    have hm : j % 2 = 0 ∨ j % 2 = 1 := by omega
    rcases hm with hm | hm
    · rw [show 2 * (j / 2) = j by omega] at e1
      rw [e1]; simp [madeCells, hj, hm]
    · rw [show 2 * (j / 2) + 1 = j by omega] at e2
      rw [e2]; simp [madeCells, hj, hm]
  · rw [List.getElem?_eq_none (by simp [madeCells]; omega), List.getElem?_eq_none (by rw [ecells_len]; simp; omega)]

set_option maxHeartbeats 2000000 in
theorem toEdgeS_any (s : Option Addr) (c : Nat) (L : List (Int × Int)) (w : World) (hL : Eds w s L) (hl : L.length ≤ 1048576) :
    Calls Tryd.prog 6 #[.slice s L.length c] w fun e w' => e = .returned (.slice (some ⟨w.heap.size, 0, none⟩) L.length L.length) ∧ ERow w' w.heap.size (.slice (some ⟨w.heap.size, 0, none⟩) L.length L.length) L ∧ Below w.heap.size w w' := by
  obtain ⟨i0, hi, hz0, hz1, hz2⟩ := info_parts Tryd.infoEdge
  go_enter Tryd.func6, Tryd.ntmps6
  go_wp2_with (at_make; refine wpList_make_full _ rfl _ _ 27 rfl w.heap.size 46 i0 (.agg #[.int .i64 0, .int .i64 0]) 2 Tryd.underlying27 hi hz0 hz1 .i64 .i64 _ _ L.length rfl rfl rfl rfl (by rw [hz2]; omega) (by unfold maxLen; omega) (Nat.le_refl _) ?_)
  intro w1 hown hgrow
  have hrow : Hid (ERow w1 w.heap.size (.slice (some ⟨w.heap.size, 0, none⟩) L.length L.length) (partE L 0)) := by
    show World.ownsRow _ _ _ _ _ _ _
    rw [partE_len L 0 (Nat.zero_le _)]
    have e : ecells (partE L 0) = (madeCells #[Value.int .i64 0, Value.int .i64 0] (L.length * 2)).toList := by rw [made_edges]; simp [partE]
    rw [e]
    exact hown
  have hbel : Hid (Below w.heap.size w w1) := (Below.refl _ w).grown hgrow (Nat.le_refl _) (fun k h => by cases h)
  clear hown hgrow hi hz0 hz1 hz2
  go_wp2_with fail
  go_loopw [4] (fun i wr => ∃ k : Nat, k ≤ L.length ∧ i = .int .i64 k ∧ Hid (ERow wr w.heap.size (.slice (some ⟨w.heap.size, 0, none⟩) L.length L.length) (partE L k)) ∧ Hid (Below w.heap.size w wr)) (fun i _ => L.length - (intOf i).toNat)
  case atStart => exact ⟨0, Nat.zero_le _, rfl, hrow, hbel⟩
  case round =>
    obtain ⟨k, hk, rfl, hrow, hbel⟩ := hrel
    by_cases hlt : k < L.length
    · obtain ⟨b, o, rfl, hp, e1, e2⟩ := (hL.later hbel.out).get hlt
      obtain ⟨⟨p1, p2⟩, hx⟩ : ∃ x, Hid (L[k]?.getD (0, 0) = x) := ⟨_, rfl⟩
      rw [hx.out] at e1 e2
      clear hL
      go_wp2_with fail
      refine (toEdge_any p1 p2 _).mono ?_
      rintro e w2 ⟨rfl, hb2⟩
      have hr2 := hrow.out.later hb2
      have L2 : Hid (Below w.heap.size w w2) := bl_trans hbel.out hb2
      obtain ⟨c0, c1⟩ := partE_cut L k hlt
      have tl : (L.take k).length = k := by simp; omega
      have hput : Hid (ERow ((w2.setCell ⟨w.heap.size, k * 2, none⟩ (.int .i64 p1)).setCell ⟨w.heap.size, k * 2 + 1, none⟩ (.int .i64 p2)) w.heap.size (.slice (some ⟨w.heap.size, 0, none⟩) L.length L.length) (partE L (k + 1))) := by
        have h0 := hr2
        rw [show (.slice (some ⟨w.heap.size, 0, none⟩) L.length L.length : Value) = .slice (some ⟨w.heap.size, 0, none⟩) (partE L k).length L.length by rw [partE_len L k hk]] at h0
        have := (ERow.put h0 c0 p1 p2).1
        rw [tl, partE_len L k hk, Nat.mul_comm 2 k] at this
        rw [c1, hx.out]
        exact this
      have hcells : ∃ y1 y2, w2.cell? ⟨w.heap.size, k * 2, none⟩ = some (.int .i64 y1) ∧ w2.cell? ⟨w.heap.size, k * 2 + 1, none⟩ = some (.int .i64 y2) ∧ w2.frozen? ⟨w.heap.size, k * 2, none⟩ = false ∧ w2.frozen? ⟨w.heap.size, k * 2 + 1, none⟩ = false := by
        rcases hr2.form with ⟨hv, hL⟩ | ⟨g', cap', hv, h1, h2, h3⟩
        · simp at hv
        simp only [Value.slice.injEq, Option.some.injEq, Addr.mk.injEq, and_true] at hv
        obtain ⟨rfl, -, -⟩ := hv
        obtain ⟨a1, a2, a3, a4⟩ := h3 k (0, 0) (by rw [c0, List.getElem?_append_right (by omega), tl]; simp)
        rw [Nat.mul_comm 2 k] at a1 a2 a3 a4
        exact ⟨0, 0, a1, a2, a3, a4⟩
      obtain ⟨y1, y2, g1, g2, g3, g4⟩ := hcells
      clear hr2 hrow c0 c1 tl hx
      go_wp2_with fail
      go_roundw
      case rel => exact ⟨k + 1, by omega, by go_num, hput, (L2.out.setCell (Nat.le_refl _) _).setCell (Nat.le_refl _) _⟩
      case measure => simp [intOf]; omega
    · have hm' : k = L.length := by omega
      subst hm'
      go_wp2_with fail
      go_ret
      have := hrow.out
      rw [partE_all] at this
      exact ⟨rfl, this, hbel.out⟩

/-- a graph. -/
def gOk (n : Int) (L : List (Int × Int)) : Bool := decide (0 ≤ n ∧ n ≤ 16 ∧ L.length ≤ 200 ∧ ∀ e ∈ L, (0 ≤ e.1 ∧ e.1 < n) ∧ 0 ≤ e.2 ∧ e.2 < n)

set_option maxHeartbeats 1000000 in
theorem isBelow_any (x n : Int) (w : World) :
    Calls Tryd.prog 20 #[.int .i64 x, .int .i64 n] w fun e w' => e = .returned (.bool (decide (0 ≤ x ∧ x < n))) ∧ w' = w := by
  by_cases h1 : 0 ≤ x
  · go_enter Tryd.func20, Tryd.ntmps20
    go_wp2
    go_ret
    exact ⟨ret_bool' (by simp [h1]), rfl⟩
  · go_enter Tryd.func20, Tryd.ntmps20
    go_wp2
    go_ret
    exact ⟨ret_bool' (by simp; omega), rfl⟩

theorem memE {L : List (Int × Int)} {k : Nat} (h : k < L.length) : L[k]?.getD (0, 0) ∈ L := by
  rw [List.getElem?_eq_getElem h]; exact List.getElem_mem h
theorem gOk_bad {n : Int} {L : List (Int × Int)} {k : Nat} (hk : k < L.length) {a b : Int} (hx : L[k]?.getD (0, 0) = (a, b)) (h : ¬ ((0 ≤ a ∧ a < n) ∧ 0 ≤ b ∧ b < n)) : gOk n L = false := by
  simp only [gOk, decide_eq_false_iff_not]
  intro g
  have := g.2.2.2 _ (memE hk)
  rw [hx] at this
  exact h this

set_option maxHeartbeats 2000000 in
theorem implGraphOk_any (n : Int) (s : Option Addr) (c : Nat) (L : List (Int × Int)) (w : World) (hL : Eds w s L) (hl : L.length ≤ 1048576) :
    Calls Tryd.prog 26 #[.int .i64 n, .slice s L.length c] w fun e w' => e = .returned (.bool (gOk n L)) ∧ Below w.heap.size w w' := by
  have hal := alloc_old
  have haf := alloc_oldf
  by_cases h0 : 0 ≤ n
  · by_cases h1 : n ≤ 16
    · by_cases h2 : L.length ≤ 200
      · have t0 : decide (n < 0) = false := by simp; omega
        have t1 : decide (16 < n) = false := by simp; omega
        have t2 : decide (200 < (L.length : Int)) = false := by simp; omega
        go_enter Tryd.func26, Tryd.ntmps26
        go_wp2_with fail
        go_loopw [20] (fun i wr => ∃ k : Nat, k ≤ L.length ∧ i = .int .i64 k ∧ Hid (∀ e ∈ L.take k, (0 ≤ e.1 ∧ e.1 < n) ∧ 0 ≤ e.2 ∧ e.2 < n) ∧ Hid (Below w.heap.size w wr)) (fun i _ => L.length - (intOf i).toNat)
        case atStart => exact ⟨0, Nat.zero_le _, rfl, by simp [Hid], Below.refl _ _⟩
        case round =>
          obtain ⟨k, hk, rfl, hall, hbel⟩ := hrel
          by_cases hlt : k < L.length
          · obtain ⟨b, o, rfl, hp, e1, e2⟩ := (hL.later hbel.out).get hlt
            obtain ⟨⟨p1, p2⟩, hx⟩ : ∃ x, Hid (L[k]?.getD (0, 0) = x) := ⟨_, rfl⟩
            rw [hx.out] at e1 e2
            clear hL
            cases i1 : decide (0 ≤ p1 ∧ p1 < n)
            · have hbad : Hid (gOk n L = false) := gOk_bad hlt hx.out (fun h => of_decide_eq_false i1 h.1)
              go_wp2_with (go_at_call 20; refine (isBelow_any _ _ _).mono ?_; rintro e w' ⟨rfl, rfl⟩; rw [i1])
              go_ret
              refine ⟨ret_bool' hbad.out.symm, ?_⟩
              have hb' := hbel.out
              (repeat (first | with_reducible exact Below.refl _ _ | with_reducible refine bl_alloc ?_ _ | with_reducible refine bl_drewN ?_ _ | with_reducible refine bl_drew ?_ | with_reducible refine bl_setCell ?_ (by first | exact Nat.le_refl _ | (dsimp only; omega) | (simp <;> omega)) _ | with_reducible refine bl_trans ?_ (by with_reducible assumption)))
            · cases i2 : decide (0 ≤ p2 ∧ p2 < n)
              · have hbad : Hid (gOk n L = false) := gOk_bad hlt hx.out (fun h => of_decide_eq_false i2 h.2)
                go_wp2_with (go_at_call 20; refine (isBelow_any _ _ _).mono ?_; rintro e w' ⟨rfl, rfl⟩; (first | rw [i1] | rw [i2]))
                go_ret
                refine ⟨ret_bool' hbad.out.symm, ?_⟩
                have hb' := hbel.out
                (repeat (first | with_reducible exact Below.refl _ _ | with_reducible refine bl_alloc ?_ _ | with_reducible refine bl_drewN ?_ _ | with_reducible refine bl_drew ?_ | with_reducible refine bl_setCell ?_ (by first | exact Nat.le_refl _ | (dsimp only; omega) | (simp <;> omega)) _ | with_reducible refine bl_trans ?_ (by with_reducible assumption)))
              · have hstep : Hid (∀ e ∈ L.take (k + 1), (0 ≤ e.1 ∧ e.1 < n) ∧ 0 ≤ e.2 ∧ e.2 < n) := by
                  intro g hg
                  rw [takeE_succ L k hlt, List.mem_append] at hg
                  rcases hg with hg | hg
                  · exact hall.out g hg
                  · simp at hg; subst hg; rw [hx.out]; exact ⟨of_decide_eq_true i1, of_decide_eq_true i2⟩
                go_wp2_with (go_at_call 20; refine (isBelow_any _ _ _).mono ?_; rintro e w' ⟨rfl, rfl⟩; (first | rw [i1] | rw [i2]))
                go_roundw
                case rel =>
                  refine ⟨k + 1, by omega, by go_num, hstep, ?_⟩
                  have hb' := hbel.out
                  show Below _ _ _
                  (repeat (first | with_reducible exact Below.refl _ _ | with_reducible refine bl_alloc ?_ _ | with_reducible refine bl_drewN ?_ _ | with_reducible refine bl_drew ?_ | with_reducible refine bl_setCell ?_ (by first | exact Nat.le_refl _ | (dsimp only; omega) | (simp <;> omega)) _ | with_reducible refine bl_trans ?_ (by with_reducible assumption)))
                case measure => simp [intOf]; omega
          · have hgood : Hid (gOk n L = true) := by
              have := hall.out
              rw [List.take_of_length_le (by omega)] at this
              simp only [Hid, gOk, decide_eq_true_eq]
              exact ⟨h0, h1, h2, this⟩
            go_wp2_with fail
            go_ret
            exact ⟨ret_bool' hgood.out.symm, hbel.out⟩
      · have hbad : Hid (gOk n L = false) := by simp only [Hid, gOk, decide_eq_false_iff_not]; omega
        have t0 : decide (n < 0) = false := by simp; omega
        have t1 : decide (16 < n) = false := by simp; omega
        have t2 : decide (200 < (L.length : Int)) = true := by simp; omega
        go_enter Tryd.func26, Tryd.ntmps26
        go_wp2_with fail
        go_ret
        exact ⟨ret_bool' hbad.out.symm, Below.refl _ _⟩
    · have hbad : Hid (gOk n L = false) := by simp only [Hid, gOk, decide_eq_false_iff_not]; omega
      have t0 : decide (n < 0) = false := by simp; omega
      have t1 : decide (16 < n) = true := by simp; omega
      go_enter Tryd.func26, Tryd.ntmps26
      go_wp2_with fail
      go_ret
      exact ⟨ret_bool' hbad.out.symm, Below.refl _ _⟩
  · have hbad : Hid (gOk n L = false) := by simp only [Hid, gOk, decide_eq_false_iff_not]; omega
    have t0 : decide (n < 0) = true := by simp; omega
    go_enter Tryd.func26, Tryd.ntmps26
    go_wp2_with fail
    go_ret
    exact ⟨ret_bool' hbad.out.symm, Below.refl _ _⟩

set_option maxHeartbeats 2000000 in
theorem specGraphOk_any (n : Int) (s : Option Addr) (c : Nat) (L : List (Int × Int)) (w : World) (hL : Eds w s L) (hl : L.length ≤ 1048576) :
    Calls Tryd.prog 13 #[.int .i64 n, .slice s L.length c] w fun e w' => e = .returned (.bool (gOk n L)) ∧ w' = w := by
  by_cases h0 : 0 ≤ n ∧ n ≤ 16
  · obtain ⟨h0, h1⟩ := h0
    have t0 : (decide (0 ≤ n) && decide (n ≤ 16)) = true := by simp; omega
    by_cases h2 : L.length ≤ 200
    · have t2 : decide (200 < (L.length : Int)) = false := by simp; omega
      go_enter Tryd.func13, Tryd.ntmps13
      go_wp2_with (go_at_call 14; refine (l1In_any _ _ _ _).mono ?_; rintro e w' ⟨rfl, rfl⟩; rw [t0])
      go_loop [5] (fun i => ∃ k : Nat, k ≤ L.length ∧ i = .int .i64 k ∧ Hid (∀ e ∈ L.take k, (0 ≤ e.1 ∧ e.1 < n) ∧ 0 ≤ e.2 ∧ e.2 < n)) (fun i => L.length - (intOf i).toNat)
      case atStart => exact ⟨0, Nat.zero_le _, rfl, by simp [Hid]⟩
      case round =>
        obtain ⟨k, hk, rfl, hall⟩ := hrel
        by_cases hlt : k < L.length
        · obtain ⟨b, o, rfl, hp, e1, e2⟩ := hL.get hlt
          obtain ⟨⟨p1, p2⟩, hx⟩ : ∃ x, Hid (L[k]?.getD (0, 0) = x) := ⟨_, rfl⟩
          rw [hx.out] at e1 e2
          clear hL
          cases i1 : (decide (0 ≤ p1) && decide (p1 ≤ n - 1))
          · have hbad : Hid (gOk n L = false) := gOk_bad hlt hx.out (fun h => by simp at i1; omega)
            go_wp2_with (go_at_call 14; refine (l1In_any _ _ _ _).mono ?_; rintro e w' ⟨rfl, rfl⟩; rw [i1])
            go_ret
            exact ⟨ret_bool' hbad.out.symm, rfl⟩
          · cases i2 : (decide (0 ≤ p2) && decide (p2 ≤ n - 1))
            · have hbad : Hid (gOk n L = false) := gOk_bad hlt hx.out (fun h => by simp at i2; omega)
              go_wp2_with (go_at_call 14; refine (l1In_any _ _ _ _).mono ?_; rintro e w' ⟨rfl, rfl⟩; (first | rw [i1] | rw [i2]))
              go_ret
              exact ⟨ret_bool' hbad.out.symm, rfl⟩
            · have hstep : Hid (∀ e ∈ L.take (k + 1), (0 ≤ e.1 ∧ e.1 < n) ∧ 0 ≤ e.2 ∧ e.2 < n) := by
                intro g hg
                rw [takeE_succ L k hlt, List.mem_append] at hg
                rcases hg with hg | hg
                · exact hall.out g hg
                · simp at hg; subst hg; rw [hx.out]; simp at i1 i2; exact ⟨⟨i1.1, by omega⟩, i2.1, by omega⟩
              go_wp2_with (go_at_call 14; refine (l1In_any _ _ _ _).mono ?_; rintro e w' ⟨rfl, rfl⟩; (first | rw [i1] | rw [i2]))
              go_round
              case rel => exact ⟨k + 1, by omega, by go_num, hstep⟩
              case measure => simp [intOf]; omega
        · have hgood : Hid (gOk n L = true) := by
            have := hall.out
            rw [List.take_of_length_le (by omega)] at this
            simp only [Hid, gOk, decide_eq_true_eq]
            exact ⟨h0, h1, h2, this⟩
          go_wp2_with fail
          go_ret
          exact ⟨ret_bool' hgood.out.symm, rfl⟩
    · have hbad : Hid (gOk n L = false) := by simp only [Hid, gOk, decide_eq_false_iff_not]; omega
      have t2 : decide (200 < (L.length : Int)) = true := by simp; omega
      go_enter Tryd.func13, Tryd.ntmps13
      go_wp2_with (go_at_call 14; refine (l1In_any _ _ _ _).mono ?_; rintro e w' ⟨rfl, rfl⟩; rw [t0])
      go_ret
      exact ⟨ret_bool' hbad.out.symm, rfl⟩
  · have hbad : Hid (gOk n L = false) := by simp only [Hid, gOk, decide_eq_false_iff_not]; omega
    have t0 : (decide (0 ≤ n) && decide (n ≤ 16)) = false := by simp; omega
    go_enter Tryd.func13, Tryd.ntmps13
    go_wp2_with (go_at_call 14; refine (l1In_any _ _ _ _).mono ?_; rintro e w' ⟨rfl, rfl⟩; rw [t0])
    go_ret
    exact ⟨ret_bool' hbad.out.symm, rfl⟩
end Go.Proofs.YtmoohgafljepdaaDoor
