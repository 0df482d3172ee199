import Derived.Test.YtknallkcengbbaaGreatDoorTc
import Derived.Test.YtknallkcengbbaaGreatDoorTe
namespace Go.Proofs.YtknallkcengbbaaGreatDoor
open Go.RowKit
set_option linter.unusedVariables false
set_option linter.unusedSimpArgs false

/-- a node. -/
structure Nd where
  kind : Int
  text : ByteArray
  num : Int
  kids : List Int
/-- a tree. -/
structure Tre where
  nodes : List Nd
  tops : List Int
def okI (n : Int) : Prop := -9223372036854775808 ≤ n ∧ n ≤ 9223372036854775807
def cNode (w : World) (B : Nat) (cs : List Value) (n : Nd) : Prop := ∃ s c, cs = [.int .i64 n.kind, .string n.text, .int .i64 n.num, .slice s n.kids.length c] ∧ Els 1 cInt w B s n.kids
theorem cNode_keeps : KeepsE cNode := fun _ _ _ _ _ hk ⟨s, c, e, h⟩ => ⟨s, c, e, h.kept cInt_keeps hk⟩
theorem cNode_drops : DropsE cNode := fun _ _ _ _ _ hB ⟨s, c, e, h⟩ => ⟨s, c, e, h.drop cInt_drops hB⟩
theorem eNode_cells {w : World} {B : Nat} {s : Option Addr} {L : List Nd} (h : Els 4 cNode w B s L) {j : Nat} {n : Nd} (ha : L[j]? = some n) :
    ∃ b o, s = some ⟨b, o, none⟩ ∧ B ≤ b ∧ b < w.heap.size ∧ ∃ s' c', w.cell? ⟨b, o + j * 4, none⟩ = some (.int .i64 n.kind) ∧ w.cell? ⟨b, o + j * 4 + 1, none⟩ = some (.string n.text) ∧ w.cell? ⟨b, o + j * 4 + 2, none⟩ = some (.int .i64 n.num) ∧ w.cell? ⟨b, o + j * 4 + 3, none⟩ = some (.slice s' n.kids.length c') ∧ Els 1 cInt w B s' n.kids := by
  rcases h with rfl | ⟨b, o, rfl, h1, h2, h3, hz⟩
  · simp at ha
  · obtain ⟨cs, e1, e2, s', c', rfl, e5⟩ := h3 j n ha
    exact ⟨b, o, rfl, h1, h2, s', c', e2 0 _ rfl, e2 1 _ rfl, e2 2 _ rfl, e2 3 _ rfl, e5⟩
/-- a tree in memory. -/
structure InT (w : World) (B : Nat) (s1 s2 : Option Addr) (t : Tre) : Prop where
  n : Els 4 cNode w B s1 t.nodes
  t : Els 1 cInt w B s2 t.tops
theorem InT.later {w w' : World} {B : Nat} {s1 s2 : Option Addr} {t : Tre} (h : InT w B s1 s2 t) (hb : Below w.heap.size w w') : InT w' B s1 s2 t := ⟨h.n.later cNode_keeps hb, h.t.later cInt_keeps hb⟩
theorem InT.kept {w w' : World} {B : Nat} {s1 s2 : Option Addr} {t : Tre} (h : InT w B s1 s2 t) (hb : Kept B w w') : InT w' B s1 s2 t := ⟨h.n.kept cNode_keeps hb, h.t.kept cInt_keeps hb⟩
theorem InT.drop {w : World} {B B' : Nat} {s1 s2 : Option Addr} {t : Tre} (h : InT w B s1 s2 t) (hB : B' ≤ B) : InT w B' s1 s2 t := ⟨h.n.drop cNode_drops hB, h.t.drop cInt_drops hB⟩
/-- what comes in. -/
def mNode (n : Nd) : Prop := (okI n.kind ∧ okI n.num) ∧ n.text.size ≤ 9223372036854775807 ∧ n.kids.length ≤ 9223372036854775807 ∧ ∀ k ∈ n.kids, okI k
def mTre (t : Tre) : Prop := t.nodes.length ≤ 9223372036854775807 ∧ (∀ n ∈ t.nodes, mNode n) ∧ t.tops.length ≤ 9223372036854775807 ∧ ∀ k ∈ t.tops, okI k
/-- what a look at sizes lets by. -/
def kNode (n : Nd) : Prop := n.text.size ≤ 1048576 ∧ n.kids.length ≤ 1048576
def kTre (t : Tre) : Prop := (t.nodes.length ≤ 1048576 ∧ ∀ n ∈ t.nodes, kNode n) ∧ t.tops.length ≤ 1048576

set_option maxHeartbeats 2000000 in
theorem szNode_gen (s : Option Addr) (cap : Nat) (n : Nd) (left : Int) (w : World) (h0 : 0 ≤ left) (h1 : left ≤ 1048576) (hn : mNode n) :
    Calls Tryz.prog 30 #[.agg #[.int .i64 n.kind, .string n.text, .int .i64 n.num, .slice s n.kids.length cap], .int .i64 left] w fun e w' => Szd left (kNode n) e ∧ Below w.heap.size w w' := by
  obtain ⟨_, ht, hk, _⟩ := hn
  have k0 := Blk.new w #[.int .i64 n.kind, .string n.text, .int .i64 n.num, .slice s n.kids.length cap] 53
  have L0 : Below w.heap.size w (w.alloc (.cells #[.int .i64 n.kind, .string n.text, .int .i64 n.num, .slice s n.kids.length cap] 53)) := bl_alloc (Below.refl _ _) _
  have x1 := k0.cell 1
  have x3 := k0.cell 3
  have tw : IntKind.i64.wrap (left - (n.text.size : Int)) = left - (n.text.size : Int) := by rw [IntKind.wrap_i64]; omega
  by_cases h : (n.text.size : Int) ≤ left
  · have t1 : decide (left - (n.text.size : Int) < 0) = false := by simp; omega
    go_enter Tryz.func30, Tryz.ntmps30
    go_wp2_with fail
    refine (szInts_gen s _ cap (left - (n.text.size : Int)) _ (by omega) (by omega) hk).mono ?_
    rintro e w' ⟨⟨r, rfl, hr⟩, rfl⟩
    rcases hr with rfl | ⟨r0, r1, rn⟩
    · go_wp2_with fail
      go_ret
      exact ⟨⟨_, rfl, Or.inl rfl⟩, L0⟩
    · have t1 : decide (r < 0) = false := by simp; omega
      go_wp2_with fail
      go_ret
      exact ⟨⟨_, rfl, Or.inr ⟨r0, by omega, by omega, rn⟩⟩, L0⟩
  · have t1 : decide (left - (n.text.size : Int) < 0) = true := by simp; omega
    go_enter Tryz.func30, Tryz.ntmps30
    go_wp2_with fail
    go_ret
    exact ⟨⟨_, rfl, Or.inl rfl⟩, L0⟩

set_option maxHeartbeats 2000000 in
theorem szNodeS_gen (s : Option Addr) (c : Nat) (L : List Nd) (B : Nat) (left : Int) (w : World) (hL : Els 4 cNode w B s L) (hz : L.length ≤ 9223372036854775807) (hm : ∀ n ∈ L, mNode n) (h0 : 0 ≤ left) (h1 : left ≤ 1048576) :
    Calls Tryz.prog 17 #[.slice s L.length c, .int .i64 left] w fun e w' => Szd left (L.length ≤ 1048576 ∧ ∀ n ∈ L, kNode n) e ∧ Below w.heap.size w w' := by
  have HM : Hid (∀ n ∈ L, mNode n) := hm
  clear hm
  have tw : IntKind.i64.wrap (left - (L.length : Int)) = left - (L.length : Int) := by rw [IntKind.wrap_i64]; omega
  by_cases h : (L.length : Int) ≤ left
  · have t1 : decide (left - (L.length : Int) < 0) = false := by simp; omega
    have hl : L.length ≤ 1048576 := by omega
    go_enter Tryz.func17, Tryz.ntmps17
    go_wp2_with fail
    clear tw t1
    go_loopw [1, 5] (fun x i wr => ∃ (k : Nat) (r : Int), k ≤ L.length ∧ i = .int .i64 k ∧ x = .int .i64 r ∧ 0 ≤ r ∧ r ≤ left ∧ Hid (∀ j l, j < k → L[j]? = some l → kNode l) ∧ Below w.heap.size w wr) (fun _ i _ => L.length - (intOf i).toNat)
    case atStart => exact ⟨0, _, Nat.zero_le _, rfl, rfl, by omega, by omega, fun j l hj => by omega, Below.refl _ _⟩
    case round =>
      obtain ⟨k, r, hk, rfl, rfl, r0, r1, HQ, hb⟩ := hrel
      by_cases hlt : k < L.length
      · obtain ⟨t, hl0⟩ := get_some hlt
        obtain ⟨b, o, rfl, hB, hp, s', c', e0, e1, e2, e3, f⟩ := eNode_cells (hL.later cNode_keeps hb) hl0
        have hn := HM.out t (List.mem_of_getElem? hl0)
        have HL : Hid (L[k]? = some t) := hl0
        clear hL hl0 f
        go_wp2_with fail
        refine (szNode_gen s' c' t r _ r0 (by omega) hn).mono ?_
        rintro e w2 ⟨⟨q, rfl, hq⟩, hb2⟩
        rcases hq with rfl | ⟨q0, q1, qn⟩
        · go_wp2_with fail
          go_ret
          exact ⟨⟨_, rfl, Or.inl rfl⟩, bl_trans hb hb2⟩
        · have t2 : decide (q < 0) = false := by simp; omega
          have QN : Hid (kNode t) := qn
          clear qn hn
          go_wp2_with fail
          go_roundw
          case rel =>
            refine ⟨k + 1, q, by omega, by go_num, rfl, q0, by omega, fun j l' hj hl' => ?_, bl_trans hb hb2⟩
            by_cases e : j = k
            · subst e
              have := HL.out
              rw [this] at hl'
              cases hl'
              exact QN.out
            · exact HQ.out j l' (by omega) hl'
          case measure => simp [intOf]; omega
      · go_wp2_with fail
        go_ret
        refine ⟨⟨_, rfl, Or.inr ⟨r0, r1, hl, fun l hl' => ?_⟩⟩, hb⟩
        obtain ⟨j, hj, rfl⟩ := List.getElem_of_mem hl'
        exact HQ.out j _ (by omega) (by simp [hj])
  · have t1 : decide (left - (L.length : Int) < 0) = true := by simp; omega
    go_enter Tryz.func17, Tryz.ntmps17
    go_wp2_with fail
    go_ret
    exact ⟨⟨_, rfl, Or.inl rfl⟩, Below.refl _ _⟩

set_option maxHeartbeats 2000000 in
theorem szTree_gen (s1 s2 : Option Addr) (c1 c2 : Nat) (t : Tre) (B : Nat) (left : Int) (w : World) (hT : InT w B s1 s2 t) (hm : mTre t) (h0 : 0 ≤ left) (h1 : left ≤ 1048576) :
    Calls Tryz.prog 5 #[.agg #[.slice s1 t.nodes.length c1, .slice s2 t.tops.length c2], .int .i64 left] w fun e w' => Szd left (kTre t) e ∧ Below w.heap.size w w' := by
  obtain ⟨m1, m2, m3, m4⟩ := hm
  have k0 := Blk.new w #[.slice s1 t.nodes.length c1, .slice s2 t.tops.length c2] 25
  have L0 : Below w.heap.size w (w.alloc (.cells #[.slice s1 t.nodes.length c1, .slice s2 t.tops.length c2] 25)) := bl_alloc (Below.refl _ _) _
  obtain ⟨x0, x1, x2⟩ := k0.two
  go_enter Tryz.func5, Tryz.ntmps5
  go_wp2_with fail
  refine (szNodeS_gen s1 c1 t.nodes B left _ (hT.n.later cNode_keeps L0) m1 m2 h0 h1).mono ?_
  rintro e w1 ⟨⟨r, rfl, hr⟩, hb1⟩
  have L1 := bl_trans L0 hb1
  have k1 := k0.later hb1
  clear x0 x1 x2 k0 L0 hb1 m2 m4
  rcases hr with rfl | ⟨r0, r1, rn⟩
  · go_wp2_with fail
    go_ret
    exact ⟨⟨_, rfl, Or.inl rfl⟩, L1⟩
  · have RN : Hid (t.nodes.length ≤ 1048576 ∧ ∀ n ∈ t.nodes, kNode n) := rn
    clear rn
    obtain ⟨x0, x1, x2⟩ := k1.two
    have t1 : decide (r < 0) = false := by simp; omega
    go_wp2_with fail
    refine (szInts_gen s2 _ c2 r _ r0 (by omega) m3).mono ?_
    rintro e w' ⟨⟨q, rfl, hq⟩, rfl⟩
    rcases hq with rfl | ⟨q0, q1, qn⟩
    · go_wp2_with fail
      go_ret
      exact ⟨⟨_, rfl, Or.inl rfl⟩, L1⟩
    · have t2 : decide (q < 0) = false := by simp; omega
      go_wp2_with fail
      go_ret
      exact ⟨⟨_, rfl, Or.inr ⟨q0, by omega, RN.out, qn⟩⟩, L1⟩
end Go.Proofs.YtknallkcengbbaaGreatDoor
