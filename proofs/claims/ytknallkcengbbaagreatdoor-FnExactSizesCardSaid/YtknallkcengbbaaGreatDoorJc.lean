import Derived.Test.YtknallkcengbbaaGreatDoorJb
namespace Go.Proofs.YtknallkcengbbaaGreatDoor
open Go.RowKit
set_option linter.unusedVariables false
set_option linter.unusedSimpArgs false

theorem blkTwo (w : World) (c d : Array Value) (t u : TypeId) : Blk ((w.alloc (.cells c t)).alloc (.cells d u)) w.heap.size c t ∧ Blk ((w.alloc (.cells c t)).alloc (.cells d u)) (w.heap.size + 1) d u ∧ Below w.heap.size w ((w.alloc (.cells c t)).alloc (.cells d u)) :=
  ⟨(Blk.new w c t).alloc _, Blk.new' _ d u (by simp), bl_alloc (bl_alloc (Below.refl _ _) _) _⟩
set_option maxHeartbeats 4000000 in
theorem eqNode_self (s t : Option Addr) (cs ct : Nat) (n : Nd) (B C : Nat) (w : World) (hs : Els 1 cInt w B s n.kids) (ht : Els 1 cInt w C t n.kids) (hk : kNode n) :
    Calls Tryz.prog 45 #[.agg #[.int .i64 n.kind, .string n.text, .int .i64 n.num, .slice s n.kids.length cs], .agg #[.int .i64 n.kind, .string n.text, .int .i64 n.num, .slice t n.kids.length ct]] w fun e w' => e = .returned (.bool true) ∧ Below w.heap.size w w' := by
  have q0 : (n.kind != n.kind) = false := by simp
  have q1 : (n.num != n.num) = false := by simp
  have q2 : (n.text.toList == n.text.toList) = true := by simp
  obtain ⟨k0, k1, L0⟩ := blkTwo w #[.int .i64 n.kind, .string n.text, .int .i64 n.num, .slice s n.kids.length cs] #[.int .i64 n.kind, .string n.text, .int .i64 n.num, .slice t n.kids.length ct] 57 57
  obtain ⟨x0, x1, x2, x3, x4⟩ := k0.four'
  obtain ⟨y0, y1, y2, y3, y4⟩ := k1.four'
  go_enter Tryz.func45, Tryz.ntmps45
  go_wp2_with fail
  refine (eqInts_any s t cs ct n.kids n.kids _ (hs.later cInt_keeps L0).ints (ht.later cInt_keeps L0).ints hk.2).mono ?_
  rintro e w3 ⟨rfl, hb3⟩
  rw [show decide (n.kids = n.kids) = true by simp]
  go_wp2_with fail
  go_ret
  exact ⟨rfl, bl_trans L0 hb3⟩

set_option maxHeartbeats 4000000 in
theorem eqNodeS_self (s t : Option Addr) (c d : Nat) (L : List Nd) (B C : Nat) (w : World) (hs : Els 4 cNode w B s L) (ht : Els 4 cNode w C t L) (hl : L.length ≤ 1048576) (hk : ∀ n ∈ L, kNode n) :
    Calls Tryz.prog 27 #[.slice s L.length c, .slice t L.length d] w fun e w' => e = .returned (.bool true) ∧ Below w.heap.size w w' := by
  have hal := alloc_old
  have haf := alloc_oldf
  have HK : Hid (∀ n ∈ L, kNode n) := hk
  clear hk
  go_enter Tryz.func27, Tryz.ntmps27
  go_wp2_with fail
  go_loopw [5] (fun i wr => ∃ k : Nat, k ≤ L.length ∧ i = .int .i64 k ∧ Below w.heap.size w wr) (fun i _ => L.length - (intOf i).toNat)
  case atStart => exact ⟨0, Nat.zero_le _, rfl, Below.refl _ _⟩
  case round =>
    obtain ⟨k, hk, rfl, hb⟩ := hrel
    by_cases hlt : k < L.length
    · obtain ⟨a, ha⟩ := get_some hlt
      obtain ⟨b, o, rfl, _, hp, s', c', e0, e1, e2, e3, f⟩ := eNode_cells (hs.later cNode_keeps hb) ha
      obtain ⟨b', o', rfl, _, hp', t', d', f0, f1, f2, f3, g⟩ := eNode_cells (ht.later cNode_keeps hb) ha
      have hka : Hid (kNode a) := HK.out a (List.mem_of_getElem? ha)
      have PH : Hid (Els 1 cInt wr B s' a.kids ∧ Els 1 cInt wr C t' a.kids) := ⟨f, g⟩
      clear hs ht ha f g
      go_wp2_with fail
      go_region_with (first
        | (go_at_call 45; refine (eqNode_self s' t' c' d' a B C _ (PH.out.1.later cInt_keeps (bl_drew (Below.refl _ _))) (PH.out.2.later cInt_keeps (bl_drew (Below.refl _ _))) hka.out).mono ?_; rintro e w2 ⟨rfl, hb2⟩))
      all_goals
        go_wp2_with fail
        go_roundw
        case rel =>
          refine ⟨k + 1, by omega, by go_num, ?_⟩
          (repeat (first | with_reducible exact Below.refl _ _ | with_reducible refine bl_alloc ?_ _ | with_reducible refine bl_drewN ?_ _ | with_reducible refine bl_drew ?_ | with_reducible refine bl_setCell ?_ (by first | exact Nat.le_refl _ | (dsimp only; omega) | (simp <;> omega)) _ | with_reducible refine bl_trans ?_ (by with_reducible assumption)))
        case measure => simp [intOf]; omega
    · go_wp2_with fail
      go_ret
      exact ⟨rfl, hb⟩

set_option maxHeartbeats 4000000 in
theorem eqTree_self (s1 s2 t1 t2 : Option Addr) (c1 c2 d1 d2 : Nat) (t : Tre) (B C : Nat) (w : World) (hs : InT w B s1 s2 t) (ht : InT w C t1 t2 t) (hk : kTre t) :
    Calls Tryz.prog 9 #[.agg #[.slice s1 t.nodes.length c1, .slice s2 t.tops.length c2], .agg #[.slice t1 t.nodes.length d1, .slice t2 t.tops.length d2]] w fun e w' => e = .returned (.bool true) ∧ Below w.heap.size w w' := by
  obtain ⟨⟨m1, m2⟩, m3⟩ := hk
  obtain ⟨k0, k1, L0⟩ := blkTwo w #[.slice s1 t.nodes.length c1, .slice s2 t.tops.length c2] #[.slice t1 t.nodes.length d1, .slice t2 t.tops.length d2] 29 29
  obtain ⟨x0, x1, x2⟩ := k0.two
  obtain ⟨y0, y1, y2⟩ := k1.two
  go_enter Tryz.func9, Tryz.ntmps9
  go_wp2_with fail
  refine (eqNodeS_self s1 t1 c1 d1 t.nodes B C _ (hs.n.later cNode_keeps L0) (ht.n.later cNode_keeps L0) m1 m2).mono ?_
  rintro e w1 ⟨rfl, hb1⟩
  have L1 := bl_trans L0 hb1
  have k0 := k0.later hb1
  have k1 := k1.later hb1
  clear x0 x1 x2 y0 y1 y2 hb1 L0 m2
  obtain ⟨x0, x1, x2⟩ := k0.two
  obtain ⟨y0, y1, y2⟩ := k1.two
  go_wp2_with fail
  refine (eqInts_any s2 t2 c2 d2 t.tops t.tops _ (hs.t.later cInt_keeps L1).ints (ht.t.later cInt_keeps L1).ints m3).mono ?_
  rintro e w3 ⟨rfl, hb3⟩
  rw [show decide (t.tops = t.tops) = true by simp]
  go_wp2_with fail
  go_ret
  exact ⟨rfl, bl_trans L1 hb3⟩
end Go.Proofs.YtknallkcengbbaaGreatDoor
