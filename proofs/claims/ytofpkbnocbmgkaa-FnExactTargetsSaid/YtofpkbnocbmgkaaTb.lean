import Derived.Test.YtofpkbnocbmgkaaTa
namespace Go.Proofs.Ytofpkbnocbmgkaa
open Go.RowKit
set_option linter.unusedVariables false
set_option linter.unusedSimpArgs false

/-- what a look at sizes tells. -/
def Szd (left : Int) (p : Prop) (e : Ending) : Prop := ∃ r : Int, e = .returned (.int .i64 r) ∧ (r = -1 ∨ (0 ≤ r ∧ r ≤ left ∧ p))

theorem szInts_gen (s : Option Addr) (n c : Nat) (left : Int) (w : World) (h0 : 0 ≤ left) (h1 : left ≤ 1048576) (hn : n ≤ 9223372036854775807) :
    Calls Try.prog 66 #[.slice s n c, .int .i64 left] w fun e w' => Szd left (n ≤ 1048576) e ∧ w' = w := by
  by_cases h : left < n
  · exact (szInts_neg s n c left w h0 h1 hn h).mono fun e w' ⟨he, hw⟩ => ⟨⟨_, he, Or.inl rfl⟩, hw⟩
  · exact (szInts_pos s n c left w h0 h1 hn h).mono fun e w' ⟨he, hw⟩ => ⟨⟨_, he, Or.inr ⟨by omega, by omega, by omega⟩⟩, hw⟩

set_option maxHeartbeats 1000000 in
theorem szEntS_gen (s : Option Addr) (n c : Nat) (left : Int) (w : World) (h0 : 0 ≤ left) (h1 : left ≤ 1048576) (hn : n ≤ 9223372036854775807) :
    Calls Try.prog 97 #[.slice s n c, .int .i64 left] w fun e w' => Szd left (n ≤ 1048576) e ∧ w' = w := by
  by_cases h : left < n
  · go_enter Try.func97, Try.ntmps97
    go_wp2
    go_ret
    exact ⟨⟨_, rfl, Or.inl rfl⟩, rfl⟩
  · go_enter Try.func97, Try.ntmps97
    go_wp2
    go_ret
    exact ⟨⟨_, rfl, Or.inr ⟨by omega, by omega, by omega⟩⟩, rfl⟩

set_option maxHeartbeats 1000000 in
theorem szValS_gen (s : Option Addr) (n c : Nat) (left : Int) (w : World) (h0 : 0 ≤ left) (h1 : left ≤ 1048576) (hn : n ≤ 9223372036854775807) :
    Calls Try.prog 35 #[.slice s n c, .int .i64 left] w fun e w' => Szd left (n ≤ 1048576) e ∧ w' = w := by
  by_cases h : left < n
  · go_enter Try.func35, Try.ntmps35
    go_wp2
    go_ret
    exact ⟨⟨_, rfl, Or.inl rfl⟩, rfl⟩
  · go_enter Try.func35, Try.ntmps35
    go_wp2
    go_ret
    exact ⟨⟨_, rfl, Or.inr ⟨by omega, by omega, by omega⟩⟩, rfl⟩

set_option maxHeartbeats 1000000 in
theorem szEnts_gen (s1 s2 : Option Addr) (n1 n2 c1 c2 : Nat) (left : Int) (w : World) (h0 : 0 ≤ left) (h9 : left ≤ 1048576) (h1 : n1 ≤ 9223372036854775807) (h2 : n2 ≤ 9223372036854775807) :
    Calls Try.prog 33 #[.agg #[.slice s1 n1 c1, .slice s2 n2 c2], .int .i64 left] w fun e w' => Szd left (n1 ≤ 1048576 ∧ n2 ≤ 1048576) e ∧ Below w.heap.size w w' := by
  go_enter Try.func33, Try.ntmps33
  go_wp2_with fail
  refine (szInts_gen s1 n1 c1 left _ h0 h9 h1).mono ?_
  rintro e w' ⟨⟨r, rfl, hr⟩, rfl⟩
  rcases hr with rfl | ⟨r0, r1, rn⟩
  · go_wp2_with fail
    go_ret
    refine ⟨⟨_, rfl, Or.inl rfl⟩, ?_⟩
    (repeat (first | with_reducible exact Below.refl _ _ | with_reducible refine bl_alloc ?_ _ | with_reducible refine bl_drewN ?_ _ | with_reducible refine bl_drew ?_ | with_reducible refine bl_setCell ?_ (by first | exact Nat.le_refl _ | (dsimp only; omega) | (simp <;> omega)) _ | with_reducible refine bl_trans ?_ (by with_reducible assumption)))
  · have t1 : decide (r < 0) = false := by simp; omega
    go_wp2_with fail
    refine (szInts_gen s2 n2 c2 r _ r0 (by omega) h2).mono ?_
    rintro e w' ⟨⟨q, rfl, hq⟩, rfl⟩
    rcases hq with rfl | ⟨q0, q1, qn⟩
    · go_wp2_with fail
      go_ret
      refine ⟨⟨_, rfl, Or.inl rfl⟩, ?_⟩
      (repeat (first | with_reducible exact Below.refl _ _ | with_reducible refine bl_alloc ?_ _ | with_reducible refine bl_drewN ?_ _ | with_reducible refine bl_drew ?_ | with_reducible refine bl_setCell ?_ (by first | exact Nat.le_refl _ | (dsimp only; omega) | (simp <;> omega)) _ | with_reducible refine bl_trans ?_ (by with_reducible assumption)))
    · have t2 : decide (q < 0) = false := by simp; omega
      go_wp2_with fail
      go_ret
      refine ⟨⟨_, rfl, Or.inr ⟨q0, by omega, rn, qn⟩⟩, ?_⟩
      (repeat (first | with_reducible exact Below.refl _ _ | with_reducible refine bl_alloc ?_ _ | with_reducible refine bl_drewN ?_ _ | with_reducible refine bl_drew ?_ | with_reducible refine bl_setCell ?_ (by first | exact Nat.le_refl _ | (dsimp only; omega) | (simp <;> omega)) _ | with_reducible refine bl_trans ?_ (by with_reducible assumption)))

/-- how long lists are. -/
def mLL (L : List (List V4)) : Prop := L.length ≤ 9223372036854775807 ∧ ∀ l ∈ L, l.length ≤ 9223372036854775807
def mTab (t : Tab) : Prop := t.cols.length ≤ 9223372036854775807 ∧ t.rows.length ≤ 9223372036854775807 ∧ mLL t.cells
def mTabs (L : List Tab) : Prop := L.length ≤ 9223372036854775807 ∧ ∀ t ∈ L, mTab t
def kLL (L : List (List V4)) : Prop := L.length ≤ 1048576 ∧ ∀ l ∈ L, l.length ≤ 1048576
def kTab (t : Tab) : Prop := t.cols.length ≤ 1048576 ∧ t.rows.length ≤ 1048576 ∧ kLL t.cells
def kTabs (L : List Tab) : Prop := L.length ≤ 1048576 ∧ ∀ t ∈ L, kTab t
def mW (W : Wd) : Prop := W.gens.length ≤ 9223372036854775807 ∧ W.free.length ≤ 9223372036854775807 ∧ mTabs W.tabs ∧ W.res.length ≤ 9223372036854775807
def kW (W : Wd) : Prop := W.gens.length ≤ 1048576 ∧ W.free.length ≤ 1048576 ∧ kTabs W.tabs ∧ W.res.length ≤ 1048576
theorem get_some {α : Type} {L : List α} {k : Nat} (h : k < L.length) : ∃ a, L[k]? = some a := ⟨L[k], by simp [h]⟩

set_option maxHeartbeats 2000000 in
theorem szValSS_gen (s : Option Addr) (c : Nat) (L : List (List V4)) (B : Nat) (left : Int) (w : World) (hL : Els 1 cVals w B s L) (hm : mLL L) (h0 : 0 ≤ left) (h1 : left ≤ 1048576) :
    Calls Try.prog 98 #[.slice s L.length c, .int .i64 left] w fun e w' => Szd left (kLL L) e ∧ Below w.heap.size w w' := by
  have tw : IntKind.i64.wrap (left - (L.length : Int)) = left - (L.length : Int) := by have := hm.1; rw [IntKind.wrap_i64]; omega
  by_cases h : (L.length : Int) ≤ left
  · have t1 : decide (left - (L.length : Int) < 0) = false := by simp; omega
    have hl : L.length ≤ 1048576 := by omega
    go_enter Try.func98, Try.ntmps98
    go_wp2_with fail
    clear tw t1
    go_loopw [1, 5] (fun x i wr => ∃ (k : Nat) (r : Int), k ≤ L.length ∧ i = .int .i64 k ∧ x = .int .i64 r ∧ 0 ≤ r ∧ r ≤ left ∧ (∀ j l, j < k → L[j]? = some l → l.length ≤ 1048576) ∧ Below w.heap.size w wr) (fun _ i _ => L.length - (intOf i).toNat)
    case atStart => exact ⟨0, _, Nat.zero_le _, rfl, rfl, by omega, by omega, fun j l hj => by omega, Below.refl _ _⟩
    case round =>
      obtain ⟨k, r, hk, rfl, rfl, r0, r1, hq, hb⟩ := hrel
      have HQ : Hid (∀ j l, j < k → L[j]? = some l → l.length ≤ 1048576) := hq
      clear hq
      by_cases hlt : k < L.length
      · obtain ⟨l, hl0⟩ := get_some hlt
        obtain ⟨b, o, rfl, hB, hp, s', c', e1, e2⟩ := eVals_cells (hL.later cVals_keeps hb) hl0
        have hn := hm.2 l (List.mem_of_getElem? hl0)
        have HL : Hid (L[k]? = some l) := hl0
        clear hL hm hl0
        go_wp2_with fail
        refine (szValS_gen s' l.length c' r _ r0 (by omega) hn).mono ?_
        rintro e w2 ⟨⟨q, rfl, hq⟩, rfl⟩
        rcases hq with rfl | ⟨q0, q1, qn⟩
        · go_wp2_with fail
          go_ret
          exact ⟨⟨_, rfl, Or.inl rfl⟩, hb⟩
        · have t2 : decide (q < 0) = false := by simp; omega
          go_wp2_with fail
          go_roundw
          case rel =>
            refine ⟨k + 1, q, by omega, by go_num, rfl, q0, by omega, fun j l' hj hl' => ?_, hb⟩
            by_cases e : j = k
            · subst e
              have := HL.out
              rw [this] at hl'
              cases hl'
              exact qn
            · exact HQ.out j l' (by omega) hl'
          case measure => simp [intOf]; omega
      · go_wp2_with fail
        go_ret
        refine ⟨⟨_, rfl, Or.inr ⟨r0, r1, hl, fun l hl' => ?_⟩⟩, hb⟩
        obtain ⟨j, hj, rfl⟩ := List.getElem_of_mem hl'
        exact HQ.out j _ (by omega) (by simp [hj])
  · have t1 : decide (left - (L.length : Int) < 0) = true := by simp; omega
    go_enter Try.func98, Try.ntmps98
    go_wp2_with fail
    go_ret
    exact ⟨⟨_, rfl, Or.inl rfl⟩, Below.refl _ _⟩

set_option maxHeartbeats 2000000 in
theorem szTable_gen (s1 s2 s3 : Option Addr) (c1 c2 c3 : Nat) (t : Tab) (B : Nat) (left : Int) (w : World) (h3 : Els 1 cVals w B s3 t.cells) (hm : mTab t) (h0 : 0 ≤ left) (h1 : left ≤ 1048576) :
    Calls Try.prog 67 #[.agg #[.slice s1 t.cols.length c1, .slice s2 t.rows.length c2, .slice s3 t.cells.length c3], .int .i64 left] w fun e w' => Szd left (kTab t) e ∧ Below w.heap.size w w' := by
  obtain ⟨m1, m2, m3⟩ := hm
  have k0 := Blk.new w #[.slice s1 t.cols.length c1, .slice s2 t.rows.length c2, .slice s3 t.cells.length c3] 133
  have L0 : Below w.heap.size w (w.alloc (.cells #[.slice s1 t.cols.length c1, .slice s2 t.rows.length c2, .slice s3 t.cells.length c3] 133)) := bl_alloc (Below.refl _ _) _
  have x0 := k0.cell 0
  have x1 := k0.cell 1
  have x2 := k0.cell 2
  go_enter Try.func67, Try.ntmps67
  go_wp2_with fail
  refine (szInts_gen s1 _ c1 left _ h0 h1 m1).mono ?_
  rintro e w' ⟨⟨r, rfl, hr⟩, rfl⟩
  rcases hr with rfl | ⟨r0, r1, rn⟩
  · go_wp2_with fail
    go_ret
    exact ⟨⟨_, rfl, Or.inl rfl⟩, L0⟩
  · have t1 : decide (r < 0) = false := by simp; omega
    go_wp2_with fail
    refine (szEntS_gen s2 _ c2 r _ r0 (by omega) m2).mono ?_
    rintro e w' ⟨⟨q, rfl, hq⟩, rfl⟩
    rcases hq with rfl | ⟨q0, q1, qn⟩
    · go_wp2_with fail
      go_ret
      exact ⟨⟨_, rfl, Or.inl rfl⟩, L0⟩
    · have t2 : decide (q < 0) = false := by simp; omega
      go_wp2_with fail
      refine (szValSS_gen s3 c3 t.cells B q _ (h3.later cVals_keeps L0) m3 q0 (by omega)).mono ?_
      rintro e w2 ⟨⟨p, rfl, hp⟩, hb2⟩
      rcases hp with rfl | ⟨p0, p1, pn⟩
      · go_wp2_with fail
        go_ret
        exact ⟨⟨_, rfl, Or.inl rfl⟩, bl_trans L0 hb2⟩
      · have t3 : decide (p < 0) = false := by simp; omega
        go_wp2_with fail
        go_ret
        exact ⟨⟨_, rfl, Or.inr ⟨p0, by omega, rn, qn, pn⟩⟩, bl_trans L0 hb2⟩

set_option maxHeartbeats 2000000 in
theorem szTableS_gen (s : Option Addr) (c : Nat) (L : List Tab) (B : Nat) (left : Int) (w : World) (hL : Els 3 cTab w B s L) (hm : mTabs L) (h0 : 0 ≤ left) (h1 : left ≤ 1048576) :
    Calls Try.prog 34 #[.slice s L.length c, .int .i64 left] w fun e w' => Szd left (kTabs L) e ∧ Below w.heap.size w w' := by
  have tw : IntKind.i64.wrap (left - (L.length : Int)) = left - (L.length : Int) := by have := hm.1; rw [IntKind.wrap_i64]; omega
  by_cases h : (L.length : Int) ≤ left
  · have t1 : decide (left - (L.length : Int) < 0) = false := by simp; omega
    have hl : L.length ≤ 1048576 := by omega
    go_enter Try.func34, Try.ntmps34
    go_wp2_with fail
    clear tw t1
    go_loopw [1, 5] (fun x i wr => ∃ (k : Nat) (r : Int), k ≤ L.length ∧ i = .int .i64 k ∧ x = .int .i64 r ∧ 0 ≤ r ∧ r ≤ left ∧ (∀ j l, j < k → L[j]? = some l → kTab l) ∧ Below w.heap.size w wr) (fun _ i _ => L.length - (intOf i).toNat)
    case atStart => exact ⟨0, _, Nat.zero_le _, rfl, rfl, by omega, by omega, fun j l hj => by omega, Below.refl _ _⟩
    case round =>
      obtain ⟨k, r, hk, rfl, rfl, r0, r1, hq, hb⟩ := hrel
      have HQ : Hid (∀ j l, j < k → L[j]? = some l → kTab l) := hq
      clear hq
      by_cases hlt : k < L.length
      · obtain ⟨t, hl0⟩ := get_some hlt
        obtain ⟨b, o, rfl, hB, hp, s1, c1, s2, c2, s3, c3, e1, e2, e3, f1, f2, f3⟩ := eTab_cells (hL.later cTab_keeps hb) hl0
        have hn := hm.2 t (List.mem_of_getElem? hl0)
        have HL : Hid (L[k]? = some t) := hl0
        clear hL hm hl0
        go_wp2_with fail
        refine (szTable_gen s1 s2 s3 c1 c2 c3 t B r _ f3 hn r0 (by omega)).mono ?_
        rintro e w2 ⟨⟨q, rfl, hq⟩, hb2⟩
        rcases hq with rfl | ⟨q0, q1, qn⟩
        · go_wp2_with fail
          go_ret
          exact ⟨⟨_, rfl, Or.inl rfl⟩, bl_trans hb hb2⟩
        · have t2 : decide (q < 0) = false := by simp; omega
          go_wp2_with fail
          go_roundw
          case rel =>
            refine ⟨k + 1, q, by omega, by go_num, rfl, q0, by omega, fun j l' hj hl' => ?_, bl_trans hb hb2⟩
            by_cases e : j = k
            · subst e
              have := HL.out
              rw [this] at hl'
              cases hl'
              exact qn
            · exact HQ.out j l' (by omega) hl'
          case measure => simp [intOf]; omega
      · go_wp2_with fail
        go_ret
        refine ⟨⟨_, rfl, Or.inr ⟨r0, r1, hl, fun l hl' => ?_⟩⟩, hb⟩
        obtain ⟨j, hj, rfl⟩ := List.getElem_of_mem hl'
        exact HQ.out j _ (by omega) (by simp [hj])
  · have t1 : decide (left - (L.length : Int) < 0) = true := by simp; omega
    go_enter Try.func34, Try.ntmps34
    go_wp2_with fail
    go_ret
    exact ⟨⟨_, rfl, Or.inl rfl⟩, Below.refl _ _⟩

/-- a world in memory: its value, and what it reads. -/
def wv (a1 a2 a3 a4 : Option Addr) (c1 c2 c3 c4 : Nat) (W : Wd) : Array Value := #[.slice a1 W.gens.length c1, .slice a2 W.free.length c2, .slice a3 W.tabs.length c3, .slice a4 W.res.length c4]
structure InW (w : World) (B : Nat) (a1 a2 a3 a4 : Option Addr) (W : Wd) : Prop where
  g : Els 1 cInt w B a1 W.gens
  f : Els 1 cInt w B a2 W.free
  t : Els 3 cTab w B a3 W.tabs
  r : Els 4 cVal w B a4 W.res
theorem InW.kept {w w' : World} {B : Nat} {a1 a2 a3 a4 : Option Addr} {W : Wd} (h : InW w B a1 a2 a3 a4 W) (hk : Kept B w w') : InW w' B a1 a2 a3 a4 W :=
  ⟨h.g.kept cInt_keeps hk, h.f.kept cInt_keeps hk, h.t.kept cTab_keeps hk, h.r.kept cVal_keeps hk⟩
theorem InW.later {w w' : World} {B : Nat} {a1 a2 a3 a4 : Option Addr} {W : Wd} (h : InW w B a1 a2 a3 a4 W) (hb : Below w.heap.size w w') : InW w' B a1 a2 a3 a4 W := h.kept (Kept.of hb B)
theorem InW.drop {w : World} {B B' : Nat} {a1 a2 a3 a4 : Option Addr} {W : Wd} (h : InW w B a1 a2 a3 a4 W) (hB : B' ≤ B) : InW w B' a1 a2 a3 a4 W :=
  ⟨h.g.drop cInt_drops hB, h.f.drop cInt_drops hB, h.t.drop cTab_drops hB, h.r.drop cVal_drops hB⟩

set_option maxHeartbeats 2000000 in
theorem szWorld_gen (a1 a2 a3 a4 : Option Addr) (c1 c2 c3 c4 : Nat) (W : Wd) (B : Nat) (left : Int) (w : World) (hW : InW w B a1 a2 a3 a4 W) (hm : mW W) (h0 : 0 ≤ left) (h1 : left ≤ 1048576) :
    Calls Try.prog 7 #[.agg #[.slice a1 W.gens.length c1, .slice a2 W.free.length c2, .slice a3 W.tabs.length c3, .slice a4 W.res.length c4], .int .i64 left] w fun e w' => Szd left (kW W) e ∧ Below w.heap.size w w' := by
  obtain ⟨m1, m2, m3, m4⟩ := hm
  have k0 := Blk.new w #[.slice a1 W.gens.length c1, .slice a2 W.free.length c2, .slice a3 W.tabs.length c3, .slice a4 W.res.length c4] 31
  have L0 : Below w.heap.size w (w.alloc (.cells #[.slice a1 W.gens.length c1, .slice a2 W.free.length c2, .slice a3 W.tabs.length c3, .slice a4 W.res.length c4] 31)) := bl_alloc (Below.refl _ _) _
  have x0 := k0.cell 0
  have x1 := k0.cell 1
  have x2 := k0.cell 2
  have x3 := k0.cell 3
  go_enter Try.func7, Try.ntmps7
  go_wp2_with fail
  refine (szEnts_gen a1 a2 _ _ c1 c2 left _ h0 h1 m1 m2).mono ?_
  rintro e w1 ⟨⟨r, rfl, hr⟩, hb1⟩
  have L1 := bl_trans L0 hb1
  have K1 := k0.later hb1
  clear k0 x0 x1 x2 x3
  have x0 := K1.cell 0
  have x1 := K1.cell 1
  have x2 := K1.cell 2
  have x3 := K1.cell 3
  rcases hr with rfl | ⟨r0, r1, rn, rm⟩
  · go_wp2_with fail
    go_ret
    exact ⟨⟨_, rfl, Or.inl rfl⟩, L1⟩
  · have t1 : decide (r < 0) = false := by simp; omega
    go_wp2_with fail
    refine (szTableS_gen a3 c3 W.tabs B r _ (hW.t.later cTab_keeps L1) m3 r0 (by omega)).mono ?_
    rintro e w2 ⟨⟨q, rfl, hq⟩, hb2⟩
    have L2 := bl_trans L1 hb2
    have K2 := K1.later hb2
    clear K1 x0 x1 x2 x3
    have x0 := K2.cell 0
    have x1 := K2.cell 1
    have x2 := K2.cell 2
    have x3 := K2.cell 3
    rcases hq with rfl | ⟨q0, q1, qn⟩
    · go_wp2_with fail
      go_ret
      exact ⟨⟨_, rfl, Or.inl rfl⟩, L2⟩
    · have t2 : decide (q < 0) = false := by simp; omega
      go_wp2_with fail
      refine (szValS_gen a4 _ c4 q _ q0 (by omega) m4).mono ?_
      rintro e w3 ⟨⟨p, rfl, hp⟩, rfl⟩
      rcases hp with rfl | ⟨p0, p1, pn⟩
      · go_wp2_with fail
        go_ret
        exact ⟨⟨_, rfl, Or.inl rfl⟩, L2⟩
      · have t3 : decide (p < 0) = false := by simp; omega
        go_wp2_with fail
        go_ret
        exact ⟨⟨_, rfl, Or.inr ⟨p0, by omega, rn, rm, qn, pn⟩⟩, L2⟩
end Go.Proofs.Ytofpkbnocbmgkaa
