import Derived.Test.YtgcfhoojjgcpiaaBc
import Derived.Test.YtgcfhoojjgcpiaaQa
namespace Go.Proofs.Ytgcfhoojjgcpiaa
open Go.RowKit
set_option linter.unusedVariables false
set_option linter.unusedSimpArgs false
def ims (k : Int) : Nat → List Int
  | 0 => []
  | n + 1 => ims k n ++ [k + n]
theorem ims_len (k : Int) : ∀ n, (ims k n).length = n
  | 0 => rfl
  | n + 1 => by simp [ims, ims_len k n]
theorem ims_get (k : Int) : ∀ (n j : Nat), j < n → (ims k n)[j]? = some (k + j)
  | n + 1, j, h => by
    by_cases e : j < n
    · rw [ims, List.getElem?_append_left (by rw [ims_len]; exact e), ims_get k n j e]
    · have : j = n := by omega
      subst this
      rw [ims, List.getElem?_append_right (by rw [ims_len]; omega), ims_len]; simp
theorem ims_step (G : List Int) (k : Int) (m : Nat) (h : m < G.length) : (ims k m ++ G.drop m).set m (k + m) = ims k (m + 1) ++ G.drop (m + 1) := by
  rw [List.set_append_right _ _ (by rw [ims_len]; omega), ims_len, Nat.sub_self, List.drop_eq_getElem_cons h, List.set_cons_zero, ims]
  simp
theorem grown_setI (w : World) (g m : Nat) (u : Value) : w.grownBy (w.setCell ⟨g, m, none⟩ u) (some g) := ⟨rfl, rfl, rfl, by simp [World.setCell], fun k hk hr => Below.heap_setCell w ⟨g, m, none⟩ u k (fun e => hr (by rw [e]))⟩
theorem OI.setN {w : World} {B g n cap : Nat} {L : List Int} (hn : L.length = n) (h : OI w B (.slice (some ⟨g, 0, none⟩) n cap) L) (m : Nat) (x : Int) : OI (w.setCell ⟨g, m, none⟩ (.int .i64 x)) B (.slice (some ⟨g, 0, none⟩) n cap) (L.set m x) := by
  subst hn
  obtain ⟨h1, h2⟩ := h
  rcases h2 with ⟨h2, _⟩ | ⟨g', cap', cur, e, hb, hg, hc, hx, hs, ht⟩
  · cases h2
  · cases e
    unfold OI
    rw [List.length_set]
    refine ⟨by simp, Or.inr ⟨g, cap, cur.setIfInBounds m (.int .i64 x), rfl, hb, heap_setCell_same w g m cur _ _ hg, hc, hx, by simpa using hs, ?_⟩⟩
    rw [Array.toList_setIfInBounds, List.take_set, ht, List.map_set]
theorem OI.at {w : World} {B g n cap : Nat} {L : List Int} (h : OI w B (.slice (some ⟨g, 0, none⟩) n cap) L) {j : Nat} {x : Int} (hj : L[j]? = some x) : w.cell? ⟨g, j, none⟩ = some (.int .i64 x) ∧ w.frozen? ⟨g, j, none⟩ = false := by
  obtain ⟨h1, h2⟩ := h
  rcases h2 with ⟨h2, _⟩ | ⟨g', cap', cur, e, hb, hg, hc, hx, hs, ht⟩
  · cases h2
  · have e' := e
    simp only [Value.slice.injEq, Option.some.injEq, Addr.mk.injEq, true_and, and_true] at e'
    obtain ⟨rfl, e2, rfl⟩ := e'
    refine ⟨?_, frozen_of_row w g j cur _ hg⟩
    rw [cell_of_row w g j cur _ (0, 0) hg]
    have hl : j < L.length := (List.getElem?_eq_some_iff.1 hj).1
    have := congrArg (fun l => l[j]?) ht
    simp only [List.getElem?_take, List.getElem?_map, hj] at this
    rw [if_pos (by omega)] at this
    simpa using this
set_option maxHeartbeats 2000000 in
theorem markI_k (B : Nat) (s : Option Addr) (c : Nat) (G : List Int) (k : Int) (w : World) (h : OI w B (.slice s G.length c) G) (hl : G.length ≤ 4398046511104) (k0 : 0 ≤ k) (k1 : k ≤ 1000000000000000) :
    Calls Try.prog 32 #[.slice s G.length c, .int .i64 k] w fun e w' => e = .returned (.int .i64 (k + (G.length : Int))) ∧ OI w' B (.slice s G.length c) (ims k G.length) ∧ w.grownBy w' (Value.slice s G.length c).ownBlock := by
  rcases h.form with ⟨hv, rfl⟩ | ⟨g, cap, hv, _, _, _⟩
  · simp only [Value.slice.injEq] at hv
    obtain ⟨rfl, -, rfl⟩ := hv
    go_enter Try.func32, Try.ntmps32
    go_wp2_with fail
    refine wp_loop_rounds 1 ?_
    rw [rounds_succ]
    go_wp2_with fail
    go_ret
    exact ⟨by simp, OI.nil _ _, grown_refl _ _⟩
  · simp only [Value.slice.injEq, true_and] at hv
    obtain ⟨rfl, rfl⟩ := hv
    go_enter Try.func32, Try.ntmps32
    go_wp2_with fail
    go_loopw [1, 5] (fun cv i wr => ∃ m : Nat, m ≤ G.length ∧ i = .int .i64 m ∧ cv = .int .i64 (k + (m : Int)) ∧ Hid (OI wr B (.slice (some ⟨g, 0, none⟩) G.length c) (ims k m ++ G.drop m)) ∧ Hid (w.grownBy wr (some g))) (fun _ i _ => G.length - (intOf i).toNat)
    case atStart => exact ⟨0, Nat.zero_le _, rfl, by simp, by simpa [ims, Hid] using h, grown_refl _ _⟩
    case round =>
      obtain ⟨m, hm, rfl, rfl, hr, hg⟩ := hrel
      by_cases hlt : m < G.length
      · obtain ⟨y, hy⟩ : ∃ y, (ims k m ++ G.drop m)[m]? = some y := get_some (by simp [ims_len]; omega)
        obtain ⟨x0, x1⟩ := hr.out.at hy
        have hr' : Hid (OI (wr.setCell ⟨g, m, none⟩ (.int .i64 (k + (m : Int)))) B (.slice (some ⟨g, 0, none⟩) G.length c) (ims k (m + 1) ++ G.drop (m + 1))) := by
          have := hr.out.setN (by simp [ims_len]; omega) m (k + (m : Int))
          rw [ims_step G k m hlt] at this
          exact this
        have hg' : Hid (w.grownBy (wr.setCell ⟨g, m, none⟩ (.int .i64 (k + (m : Int)))) (some g)) := grown_trans hg.out (grown_setI wr g m (.int .i64 (k + (m : Int))))
        clear h hr hg hy
        go_wp2_with fail
        go_roundw
        case rel => exact ⟨m + 1, by omega, by go_num, by go_num, hr', hg'⟩
        case measure => simp [intOf]; omega
      · have hm' : m = G.length := by omega
        subst hm'
        have hE : Hid (OI wr B (.slice (some ⟨g, 0, none⟩) G.length c) (ims k G.length)) := by have := hr.out; simpa [Hid] using this
        clear h hr
        go_wp2_with fail
        go_ret
        exact ⟨rfl, hE.out, hg.out⟩
set_option maxHeartbeats 2000000 in
theorem heldI_k (B : Nat) (s : Option Addr) (n c : Nat) (k : Int) (w : World) (h : Els 1 cInt w B s (ims k n)) (hl : n ≤ 4398046511104) (k0 : 0 ≤ k) (k1 : k ≤ 1000000000000000) :
    Calls Try.prog 33 #[.slice s n c, .int .i64 k] w fun e w' => e = .returned (.int .i64 (k + (n : Int))) ∧ Below w.heap.size w w' := by
  have H : Hid (Els 1 cInt w B s (ims k n)) := h
  clear h
  go_enter Try.func33, Try.ntmps33
  go_wp2_with fail
  go_loop [1, 5] (fun cv i => ∃ m : Nat, m ≤ n ∧ i = .int .i64 m ∧ cv = .int .i64 (k + (m : Int))) (fun _ i => n - (intOf i).toNat)
  case atStart => exact ⟨0, Nat.zero_le _, rfl, by simp⟩
  case round =>
    obtain ⟨m, hm, rfl, rfl⟩ := hrel
    by_cases hlt : m < n
    · obtain ⟨b, o, rfl, _, hb, e0⟩ := eInt_cells H.out (ims_get k n m hlt)
      go_wp2_with fail
      go_round
      case rel => exact ⟨m + 1, by omega, by go_num, by go_num⟩
      case measure => simp [intOf]; omega
    · have hm' : m = n := by omega
      subst hm'
      go_wp2_with fail
      go_ret
      exact ⟨rfl, Below.refl _ _⟩
theorem Mr.bo {lo : Nat} {W1 w0 w : World} (h : Mr lo W1 w0 w) {b o : Nat} {x : Bool} (hb : lo ≤ b) (hl : b < W1.heap.size) (hc : W1.cell? ⟨b, o, none⟩ = some (.bool x)) : w.cell? ⟨b, o, none⟩ = some (.bool x) := by
  obtain ⟨v, hv, ha⟩ := h.al b o _ hb hl hc
  rcases ha with rfl | ⟨_, j, e, _⟩ | ⟨_, j, e, _⟩
  · exact hv
  · cases e
  · cases e
theorem Ch.same2 {w w' : World} {lo : Nat} {P : Nat → Option Addr} {Cp N : Nat → Nat} {R : Nat → List Int} {k : Nat} (h : Ch w lo P Cp N R k) (hs : ∀ g, lo ≤ g → g < w.heap.size → w'.heap[g]? = w.heap[g]?) (hz : N k ≤ w'.heap.size) : Ch w' lo P Cp N R k :=
  ⟨h.1, h.2.1, fun j hj => ⟨(h.2.2.1 j hj).1.same (fun g hg => hs g (by have := ((h.2.2.1 j hj).1.lt g hg).1; have := h.mono_N j 0 (by omega) (by omega); have := h.1; omega) ((h.2.2.1 j hj).1.lt g hg).2), (h.2.2.1 j hj).2⟩, hz⟩
theorem OE.later {w w' : World} {B : Nat} {p0 p1 p2 p3 p4 p5 p6 p7 : Option Addr} {n0 n1 n2 n3 n4 n5 n6 n7 : Nat} {J : Ef} (h : OE w B p0 p1 p2 p3 p4 p5 p6 p7 n0 n1 n2 n3 n4 n5 n6 n7 J) (hb : Below w.heap.size w w') : OE w' B p0 p1 p2 p3 p4 p5 p6 p7 n0 n1 n2 n3 n4 n5 n6 n7 J := ⟨h.o0.later hb, h.o1.later hb, h.o2.later hb, h.o3.later hb, h.o4.later hb, h.o5.later hb, h.o6.later hb, h.o7.later hb⟩
theorem OE.drop {w : World} {B B' : Nat} {p0 p1 p2 p3 p4 p5 p6 p7 : Option Addr} {n0 n1 n2 n3 n4 n5 n6 n7 : Nat} {J : Ef} (h : OE w B p0 p1 p2 p3 p4 p5 p6 p7 n0 n1 n2 n3 n4 n5 n6 n7 J) (hB : B' ≤ B) : OE w B' p0 p1 p2 p3 p4 p5 p6 p7 n0 n1 n2 n3 n4 n5 n6 n7 J := ⟨h.o0.mono hB, h.o1.mono hB, h.o2.mono hB, h.o3.mono hB, h.o4.mono hB, h.o5.mono hB, h.o6.mono hB, h.o7.mono hB⟩
theorem OE.inE {w : World} {B : Nat} {p0 p1 p2 p3 p4 p5 p6 p7 : Option Addr} {n0 n1 n2 n3 n4 n5 n6 n7 : Nat} {J : Ef} (h : OE w B p0 p1 p2 p3 p4 p5 p6 p7 n0 n1 n2 n3 n4 n5 n6 n7 J) : InE w B p0 p1 p2 p3 p4 p5 p6 p7 J := ⟨h.o0.els, h.o1.els, h.o2.els, h.o3.els, h.o4.els, h.o5.els, h.o6.els, h.o7.els⟩
theorem OE.same {w w' : World} {B : Nat} {p0 p1 p2 p3 p4 p5 p6 p7 : Option Addr} {n0 n1 n2 n3 n4 n5 n6 n7 : Nat} {J : Ef} (h : OE w B p0 p1 p2 p3 p4 p5 p6 p7 n0 n1 n2 n3 n4 n5 n6 n7 J) (hs : ∀ g, g < w.heap.size → w'.heap[g]? = w.heap[g]?) : OE w' B p0 p1 p2 p3 p4 p5 p6 p7 n0 n1 n2 n3 n4 n5 n6 n7 J := ⟨h.o0.same (fun g hg => hs g (h.o0.lt g hg).2), h.o1.same (fun g hg => hs g (h.o1.lt g hg).2), h.o2.same (fun g hg => hs g (h.o2.lt g hg).2), h.o3.same (fun g hg => hs g (h.o3.lt g hg).2), h.o4.same (fun g hg => hs g (h.o4.lt g hg).2), h.o5.same (fun g hg => hs g (h.o5.lt g hg).2), h.o6.same (fun g hg => hs g (h.o6.lt g hg).2), h.o7.same (fun g hg => hs g (h.o7.lt g hg).2)⟩
/-- no list in that block. -/
def NoB (kz : Nat) (p0 p1 p2 p3 p4 p5 p6 p7 : Option Addr) (n0 n1 n2 n3 n4 n5 n6 n7 : Nat) (J : Ef) : Prop := (∀ g, (Value.slice p0 J.l0.length n0).ownBlock = some g → ¬ g = kz) ∧ (∀ g, (Value.slice p1 J.l1.length n1).ownBlock = some g → ¬ g = kz) ∧ (∀ g, (Value.slice p2 J.l2.length n2).ownBlock = some g → ¬ g = kz) ∧ (∀ g, (Value.slice p3 J.l3.length n3).ownBlock = some g → ¬ g = kz) ∧ (∀ g, (Value.slice p4 J.l4.length n4).ownBlock = some g → ¬ g = kz) ∧ (∀ g, (Value.slice p5 J.l5.length n5).ownBlock = some g → ¬ g = kz) ∧ (∀ g, (Value.slice p6 J.l6.length n6).ownBlock = some g → ¬ g = kz) ∧ (∀ g, (Value.slice p7 J.l7.length n7).ownBlock = some g → ¬ g = kz)
theorem OE.no_lt {w : World} {B kz : Nat} {p0 p1 p2 p3 p4 p5 p6 p7 : Option Addr} {n0 n1 n2 n3 n4 n5 n6 n7 : Nat} {J : Ef} (h : OE w B p0 p1 p2 p3 p4 p5 p6 p7 n0 n1 n2 n3 n4 n5 n6 n7 J) (hk : kz < B) : NoB kz p0 p1 p2 p3 p4 p5 p6 p7 n0 n1 n2 n3 n4 n5 n6 n7 J := ⟨fun g hg e => by have := (h.o0.lt g hg).1; omega, fun g hg e => by have := (h.o1.lt g hg).1; omega, fun g hg e => by have := (h.o2.lt g hg).1; omega, fun g hg e => by have := (h.o3.lt g hg).1; omega, fun g hg e => by have := (h.o4.lt g hg).1; omega, fun g hg e => by have := (h.o5.lt g hg).1; omega, fun g hg e => by have := (h.o6.lt g hg).1; omega, fun g hg e => by have := (h.o7.lt g hg).1; omega⟩
theorem OE.no_ge {w : World} {B kz : Nat} {p0 p1 p2 p3 p4 p5 p6 p7 : Option Addr} {n0 n1 n2 n3 n4 n5 n6 n7 : Nat} {J : Ef} (h : OE w B p0 p1 p2 p3 p4 p5 p6 p7 n0 n1 n2 n3 n4 n5 n6 n7 J) (hk : w.heap.size ≤ kz) : NoB kz p0 p1 p2 p3 p4 p5 p6 p7 n0 n1 n2 n3 n4 n5 n6 n7 J := ⟨fun g hg e => by have := (h.o0.lt g hg).2; omega, fun g hg e => by have := (h.o1.lt g hg).2; omega, fun g hg e => by have := (h.o2.lt g hg).2; omega, fun g hg e => by have := (h.o3.lt g hg).2; omega, fun g hg e => by have := (h.o4.lt g hg).2; omega, fun g hg e => by have := (h.o5.lt g hg).2; omega, fun g hg e => by have := (h.o6.lt g hg).2; omega, fun g hg e => by have := (h.o7.lt g hg).2; omega⟩
theorem OE.row {w : World} {B kz : Nat} {p0 p1 p2 p3 p4 p5 p6 p7 : Option Addr} {n0 n1 n2 n3 n4 n5 n6 n7 : Nat} {J : Ef} (h : OE w B p0 p1 p2 p3 p4 p5 p6 p7 n0 n1 n2 n3 n4 n5 n6 n7 J) (no : NoB kz p0 p1 p2 p3 p4 p5 p6 p7 n0 n1 n2 n3 n4 n5 n6 n7 J) (cs : Array Value) : OE (w.setRow kz cs) B p0 p1 p2 p3 p4 p5 p6 p7 n0 n1 n2 n3 n4 n5 n6 n7 J := by
  obtain ⟨q0, q1, q2, q3, q4, q5, q6, q7⟩ := no
  exact ⟨h.o0.same (fun g hg => setRow_other _ _ _ _ (q0 g hg)), h.o1.same (fun g hg => setRow_other _ _ _ _ (q1 g hg)), h.o2.same (fun g hg => setRow_other _ _ _ _ (q2 g hg)), h.o3.same (fun g hg => setRow_other _ _ _ _ (q3 g hg)), h.o4.same (fun g hg => setRow_other _ _ _ _ (q4 g hg)), h.o5.same (fun g hg => setRow_other _ _ _ _ (q5 g hg)), h.o6.same (fun g hg => setRow_other _ _ _ _ (q6 g hg)), h.o7.same (fun g hg => setRow_other _ _ _ _ (q7 g hg))⟩
theorem Ch.oe {w : World} {lo : Nat} {P : Nat → Option Addr} {Cp N : Nat → Nat} {J : Ef} (h : Ch w lo P Cp N J.lst 8) : OE w lo (P 0) (P 1) (P 2) (P 3) (P 4) (P 5) (P 6) (P 7) (Cp 0) (Cp 1) (Cp 2) (Cp 3) (Cp 4) (Cp 5) (Cp 6) (Cp 7) J := ⟨((h.2.2.1 0 (by omega)).1).mono (Nat.le_trans h.1 (h.mono_N 0 0 (by omega) (by omega))), ((h.2.2.1 1 (by omega)).1).mono (Nat.le_trans h.1 (h.mono_N 1 0 (by omega) (by omega))), ((h.2.2.1 2 (by omega)).1).mono (Nat.le_trans h.1 (h.mono_N 2 0 (by omega) (by omega))), ((h.2.2.1 3 (by omega)).1).mono (Nat.le_trans h.1 (h.mono_N 3 0 (by omega) (by omega))), ((h.2.2.1 4 (by omega)).1).mono (Nat.le_trans h.1 (h.mono_N 4 0 (by omega) (by omega))), ((h.2.2.1 5 (by omega)).1).mono (Nat.le_trans h.1 (h.mono_N 5 0 (by omega) (by omega))), ((h.2.2.1 6 (by omega)).1).mono (Nat.le_trans h.1 (h.mono_N 6 0 (by omega) (by omega))), ((h.2.2.1 7 (by omega)).1).mono (Nat.le_trans h.1 (h.mono_N 7 0 (by omega) (by omega)))⟩
theorem JoinIs.same {V U J J' : Ef} (h : JoinIs V U J) (g : JoinIs V U J') : J' = J := by
  obtain ⟨h0, h1, h2, h3, h4, h5, h6, h7, h8, h9⟩ := h
  obtain ⟨g0, g1, g2, g3, g4, g5, g6, g7, g8, g9⟩ := g
  obtain ⟨x0, x1, x2, x3, x4, x5, x6, x7, x8, x9⟩ := J
  obtain ⟨y0, y1, y2, y3, y4, y5, y6, y7, y8, y9⟩ := J'
  simp only at *
  rw [g0.same h0, g1.same h1, g2.same h2, g3.same h3, g4.same h4, g5.same h5, g6.same h6, g7.same h7, g8, g9, h8, h9]
theorem JoinIs.len {V U J : Ef} (h : JoinIs V U J) (kV : kEf V) (kU : kEf U) (i : Nat) : (J.lst i).length ≤ 2097152 := by
  have a := Ef.lst_len kV i
  have b := Ef.lst_len kU i
  match i with
  | 0 => have c := h.s0.2.2; rw [List.length_append] at c; exact Nat.le_trans c (by have a : V.l0.length ≤ 1048576 := a; have b : U.l0.length ≤ 1048576 := b; omega)
  | 1 => have c := h.s1.2.2; rw [List.length_append] at c; exact Nat.le_trans c (by have a : V.l1.length ≤ 1048576 := a; have b : U.l1.length ≤ 1048576 := b; omega)
  | 2 => have c := h.s2.2.2; rw [List.length_append] at c; exact Nat.le_trans c (by have a : V.l2.length ≤ 1048576 := a; have b : U.l2.length ≤ 1048576 := b; omega)
  | 3 => have c := h.s3.2.2; rw [List.length_append] at c; exact Nat.le_trans c (by have a : V.l3.length ≤ 1048576 := a; have b : U.l3.length ≤ 1048576 := b; omega)
  | 4 => have c := h.s4.2.2; rw [List.length_append] at c; exact Nat.le_trans c (by have a : V.l4.length ≤ 1048576 := a; have b : U.l4.length ≤ 1048576 := b; omega)
  | 5 => have c := h.s5.2.2; rw [List.length_append] at c; exact Nat.le_trans c (by have a : V.l5.length ≤ 1048576 := a; have b : U.l5.length ≤ 1048576 := b; omega)
  | 6 => have c := h.s6.2.2; rw [List.length_append] at c; exact Nat.le_trans c (by have a : V.l6.length ≤ 1048576 := a; have b : U.l6.length ≤ 1048576 := b; omega)
  | 7 => have c := h.s7.2.2; rw [List.length_append] at c; exact Nat.le_trans c (by have a : V.l7.length ≤ 1048576 := a; have b : U.l7.length ≤ 1048576 := b; omega)
  | n + 8 => simp [Ef.lst]
set_option maxRecDepth 100000 in
set_option maxHeartbeats 8000000 in
theorem markEffect_w (lo : Nat) (W1 w0 : World) (s0 s1 s2 s3 s4 s5 s6 s7 : Option Addr) (c0 c1 c2 c3 c4 c5 c6 c7 : Nat) (e : Ef) (k : Int) (w : World) (hE : InE W1 lo s0 s1 s2 s3 s4 s5 s6 s7 e) (hp : 0 < lo) (hlo : lo ≤ w0.heap.size) (h : Mr lo W1 w0 w) (hk : kEf e) (k0 : 0 ≤ k) (k1 : k ≤ 1000000000) :
    Calls Try.prog 16 #[.agg #[.slice s0 e.l0.length c0, .slice s1 e.l1.length c1, .slice s2 e.l2.length c2, .slice s3 e.l3.length c3, .slice s4 e.l4.length c4, .slice s5 e.l5.length c5, .slice s6 e.l6.length c6, .slice s7 e.l7.length c7, .bool e.sp, .bool e.kl], .int .i64 k] w fun z w' => (∃ q : Int, z = .returned (.int .i64 q) ∧ 0 ≤ q ∧ q ≤ k + 8388608) ∧ Mr lo W1 w0 w' := by
  obtain ⟨m0, m1, m2, m3, m4, m5, m6, m7⟩ := hk
  have K0 : Hid (Blk (w.alloc (.cells #[.slice s0 e.l0.length c0, .slice s1 e.l1.length c1, .slice s2 e.l2.length c2, .slice s3 e.l3.length c3, .slice s4 e.l4.length c4, .slice s5 e.l5.length c5, .slice s6 e.l6.length c6, .slice s7 e.l7.length c7, .bool e.sp, .bool e.kl] 27)) w.heap.size #[.slice s0 e.l0.length c0, .slice s1 e.l1.length c1, .slice s2 e.l2.length c2, .slice s3 e.l3.length c3, .slice s4 e.l4.length c4, .slice s5 e.l5.length c5, .slice s6 e.l6.length c6, .slice s7 e.l7.length c7, .bool e.sp, .bool e.kl] 27) := Blk.new w _ _
  have HM : Hid (Mr lo W1 w0 (w.alloc (.cells #[.slice s0 e.l0.length c0, .slice s1 e.l1.length c1, .slice s2 e.l2.length c2, .slice s3 e.l3.length c3, .slice s4 e.l4.length c4, .slice s5 e.l5.length c5, .slice s6 e.l6.length c6, .slice s7 e.l7.length c7, .bool e.sp, .bool e.kl] 27))) := h.alloc hlo _
  have HR : Hid (Mr lo W1 (w.alloc (.cells #[.slice s0 e.l0.length c0, .slice s1 e.l1.length c1, .slice s2 e.l2.length c2, .slice s3 e.l3.length c3, .slice s4 e.l4.length c4, .slice s5 e.l5.length c5, .slice s6 e.l6.length c6, .slice s7 e.l7.length c7, .bool e.sp, .bool e.kl] 27)) (w.alloc (.cells #[.slice s0 e.l0.length c0, .slice s1 e.l1.length c1, .slice s2 e.l2.length c2, .slice s3 e.l3.length c3, .slice s4 e.l4.length c4, .slice s5 e.l5.length c5, .slice s6 e.l6.length c6, .slice s7 e.l7.length c7, .bool e.sp, .bool e.kl] 27))) := HM.out.re
  have hn : Hid (W1.heap.size ≤ w.heap.size) := h.s1
  have HE : Hid (InE W1 lo s0 s1 s2 s3 s4 s5 s6 s7 e) := hE
  clear hE h
  obtain ⟨x0, x1, x2, x3, x4, x5, x6, x7, x8, x9, xf⟩ := K0.out.ten
  go_enter Try.func16, Try.ntmps16
  go_wp2_with fail
  generalize hX : w.alloc (.cells #[.slice s0 e.l0.length c0, .slice s1 e.l1.length c1, .slice s2 e.l2.length c2, .slice s3 e.l3.length c3, .slice s4 e.l4.length c4, .slice s5 e.l5.length c5, .slice s6 e.l6.length c6, .slice s7 e.l7.length c7, .bool e.sp, .bool e.kl] 27) = X at K0 HM HR ⊢
  clear hX
  refine (markI_w lo W1 X s0 c0 e.l0 k _ HE.out.p0 hp HR.out m0 (by omega) (by omega)).mono ?_
  rintro z w1 ⟨rfl, hr⟩
  clear HR
  have HR : Hid (Mr lo W1 X w1) := hr
  have K1 := Hid.mk' (hr.blk hn.out K0.out)
  clear hr x0 x1 x2 x3 x4 x5 x6 x7 x8 x9 xf
  obtain ⟨x0, x1, x2, x3, x4, x5, x6, x7, x8, x9, xf⟩ := K1.out.ten
  go_wp2_with fail
  refine (markI_w lo W1 X s1 c1 e.l1 (k + (e.l0.length : Int)) _ HE.out.p1 hp HR.out m1 (by omega) (by omega)).mono ?_
  rintro z w2 ⟨rfl, hr⟩
  clear HR
  have HR : Hid (Mr lo W1 X w2) := hr
  have K2 := Hid.mk' (hr.blk hn.out K0.out)
  clear hr x0 x1 x2 x3 x4 x5 x6 x7 x8 x9 xf
  obtain ⟨x0, x1, x2, x3, x4, x5, x6, x7, x8, x9, xf⟩ := K2.out.ten
  go_wp2_with fail
  refine (markI_w lo W1 X s2 c2 e.l2 ((k + (e.l0.length : Int)) + (e.l1.length : Int)) _ HE.out.p2 hp HR.out m2 (by omega) (by omega)).mono ?_
  rintro z w3 ⟨rfl, hr⟩
  clear HR
  have HR : Hid (Mr lo W1 X w3) := hr
  have K3 := Hid.mk' (hr.blk hn.out K0.out)
  clear hr x0 x1 x2 x3 x4 x5 x6 x7 x8 x9 xf
  obtain ⟨x0, x1, x2, x3, x4, x5, x6, x7, x8, x9, xf⟩ := K3.out.ten
  go_wp2_with fail
  refine (markI_w lo W1 X s3 c3 e.l3 (((k + (e.l0.length : Int)) + (e.l1.length : Int)) + (e.l2.length : Int)) _ HE.out.p3 hp HR.out m3 (by omega) (by omega)).mono ?_
  rintro z w4 ⟨rfl, hr⟩
  clear HR
  have HR : Hid (Mr lo W1 X w4) := hr
  have K4 := Hid.mk' (hr.blk hn.out K0.out)
  clear hr x0 x1 x2 x3 x4 x5 x6 x7 x8 x9 xf
  obtain ⟨x0, x1, x2, x3, x4, x5, x6, x7, x8, x9, xf⟩ := K4.out.ten
  go_wp2_with fail
  refine (markI_w lo W1 X s4 c4 e.l4 ((((k + (e.l0.length : Int)) + (e.l1.length : Int)) + (e.l2.length : Int)) + (e.l3.length : Int)) _ HE.out.p4 hp HR.out m4 (by omega) (by omega)).mono ?_
  rintro z w5 ⟨rfl, hr⟩
  clear HR
  have HR : Hid (Mr lo W1 X w5) := hr
  have K5 := Hid.mk' (hr.blk hn.out K0.out)
  clear hr x0 x1 x2 x3 x4 x5 x6 x7 x8 x9 xf
  obtain ⟨x0, x1, x2, x3, x4, x5, x6, x7, x8, x9, xf⟩ := K5.out.ten
  go_wp2_with fail
  refine (markI_w lo W1 X s5 c5 e.l5 (((((k + (e.l0.length : Int)) + (e.l1.length : Int)) + (e.l2.length : Int)) + (e.l3.length : Int)) + (e.l4.length : Int)) _ HE.out.p5 hp HR.out m5 (by omega) (by omega)).mono ?_
  rintro z w6 ⟨rfl, hr⟩
  clear HR
  have HR : Hid (Mr lo W1 X w6) := hr
  have K6 := Hid.mk' (hr.blk hn.out K0.out)
  clear hr x0 x1 x2 x3 x4 x5 x6 x7 x8 x9 xf
  obtain ⟨x0, x1, x2, x3, x4, x5, x6, x7, x8, x9, xf⟩ := K6.out.ten
  go_wp2_with fail
  refine (markI_w lo W1 X s6 c6 e.l6 ((((((k + (e.l0.length : Int)) + (e.l1.length : Int)) + (e.l2.length : Int)) + (e.l3.length : Int)) + (e.l4.length : Int)) + (e.l5.length : Int)) _ HE.out.p6 hp HR.out m6 (by omega) (by omega)).mono ?_
  rintro z w7 ⟨rfl, hr⟩
  clear HR
  have HR : Hid (Mr lo W1 X w7) := hr
  have K7 := Hid.mk' (hr.blk hn.out K0.out)
  clear hr x0 x1 x2 x3 x4 x5 x6 x7 x8 x9 xf
  obtain ⟨x0, x1, x2, x3, x4, x5, x6, x7, x8, x9, xf⟩ := K7.out.ten
  go_wp2_with fail
  refine (markI_w lo W1 X s7 c7 e.l7 (((((((k + (e.l0.length : Int)) + (e.l1.length : Int)) + (e.l2.length : Int)) + (e.l3.length : Int)) + (e.l4.length : Int)) + (e.l5.length : Int)) + (e.l6.length : Int)) _ HE.out.p7 hp HR.out m7 (by omega) (by omega)).mono ?_
  rintro z w8 ⟨rfl, hr⟩
  clear HR
  have HR : Hid (Mr lo W1 X w8) := hr
  have K8 := Hid.mk' (hr.blk hn.out K0.out)
  clear hr x0 x1 x2 x3 x4 x5 x6 x7 x8 x9 xf
  obtain ⟨x0, x1, x2, x3, x4, x5, x6, x7, x8, x9, xf⟩ := K8.out.ten
  go_wp2_with fail
  go_ret
  exact ⟨⟨((((((((k + (e.l0.length : Int)) + (e.l1.length : Int)) + (e.l2.length : Int)) + (e.l3.length : Int)) + (e.l4.length : Int)) + (e.l5.length : Int)) + (e.l6.length : Int)) + (e.l7.length : Int)), rfl, by omega, by omega⟩, HM.out.join HR.out⟩
theorem Ch.mark {w w' : World} {lo : Nat} {P : Nat → Option Addr} {Cp N : Nat → Nat} {RR : Nat → List Int} {K i : Nat} (h : Ch w lo P Cp N RR K) (hi : i < K) {L' : List Int} (hl : L'.length = (RR i).length) (o : OI w' (N i) (.slice (P i) (RR i).length (Cp i)) L') (hg : w.grownBy w' (Value.slice (P i) (RR i).length (Cp i)).ownBlock) : Ch w' lo P Cp N (upd RR i L') K := by
  have hz : w.heap.size ≤ w'.heap.size := hg.size
  refine ⟨h.1, h.2.1, fun j hj => ?_, Nat.le_trans h.2.2.2 hz⟩
  by_cases e : j = i
  · subst e
    rw [upd_at, hl]
    exact ⟨o, (h.2.2.1 j hj).2⟩
  · rw [upd_off _ _ e]
    refine ⟨(h.2.2.1 j hj).1.same (fun g hgj => hg.block g ((h.2.2.1 j hj).1.lt g hgj).2 (fun q => ?_)), (h.2.2.1 j hj).2⟩
    replace q := q.symm
    have a1 := ((h.2.2.1 j hj).1.lt g hgj).1
    have a2 := (h.2.2.1 j hj).2 g hgj
    have b1 := ((h.2.2.1 i hi).1.lt g q).1
    have b2 := (h.2.2.1 i hi).2 g q
    by_cases hlt : j < i
    · have := h.mono_N i (j + 1) (by omega) (by omega); omega
    · have := h.mono_N j (i + 1) (by omega) (by omega); omega
theorem Ch.mark_below {w w' : World} {lo : Nat} {P : Nat → Option Addr} {Cp N : Nat → Nat} {RR : Nat → List Int} {K i : Nat} (h : Ch w lo P Cp N RR K) (hi : i < K) (hw : lo ≤ w.heap.size) (hg : w.grownBy w' (Value.slice (P i) (RR i).length (Cp i)).ownBlock) : Below lo w w' :=
  (Below.refl _ _).grown hg hw (fun g q => by have := ((h.2.2.1 i hi).1.lt g q).1; have := h.mono_N i 0 (by omega) (by omega); have := h.1; omega)
theorem Ch.mark_blk {w w' : World} {lo : Nat} {P : Nat → Option Addr} {Cp N : Nat → Nat} {RR : Nat → List Int} {K i n : Nat} {c : Array Value} {t : TypeId} (h : Ch w lo P Cp N RR K) (hi : i < K) (hg : w.grownBy w' (Value.slice (P i) (RR i).length (Cp i)).ownBlock) (hb : Blk w n c t) (hn : N K ≤ n) : Blk w' n c t :=
  hb.same' (hg.block n hb.lt (fun q => by have := (h.2.2.1 i hi).2 n q.symm; have := h.mono_N K (i + 1) (by omega) (by omega); omega))
/-- all lists marked. -/
def mks (J : Ef) : Nat → List Int
  | 0 => ims (1 : Int) J.l0.length
  | 1 => ims ((1 : Int) + (J.l0.length : Int)) J.l1.length
  | 2 => ims (((1 : Int) + (J.l0.length : Int)) + (J.l1.length : Int)) J.l2.length
  | 3 => ims ((((1 : Int) + (J.l0.length : Int)) + (J.l1.length : Int)) + (J.l2.length : Int)) J.l3.length
  | 4 => ims (((((1 : Int) + (J.l0.length : Int)) + (J.l1.length : Int)) + (J.l2.length : Int)) + (J.l3.length : Int)) J.l4.length
  | 5 => ims ((((((1 : Int) + (J.l0.length : Int)) + (J.l1.length : Int)) + (J.l2.length : Int)) + (J.l3.length : Int)) + (J.l4.length : Int)) J.l5.length
  | 6 => ims (((((((1 : Int) + (J.l0.length : Int)) + (J.l1.length : Int)) + (J.l2.length : Int)) + (J.l3.length : Int)) + (J.l4.length : Int)) + (J.l5.length : Int)) J.l6.length
  | 7 => ims ((((((((1 : Int) + (J.l0.length : Int)) + (J.l1.length : Int)) + (J.l2.length : Int)) + (J.l3.length : Int)) + (J.l4.length : Int)) + (J.l5.length : Int)) + (J.l6.length : Int)) J.l7.length
  | _ => []
set_option maxRecDepth 100000 in
set_option maxHeartbeats 8000000 in
theorem markEffect_own (P : Nat → Option Addr) (Cp N : Nat → Nat) (J : Ef) (lo : Nat) (w : World) (h : Ch w lo P Cp N J.lst 8) (hw : lo ≤ w.heap.size) (hk : ∀ i, (J.lst i).length ≤ 1000000000) :
    Calls Try.prog 16 #[.agg #[.slice (P 0) J.l0.length (Cp 0), .slice (P 1) J.l1.length (Cp 1), .slice (P 2) J.l2.length (Cp 2), .slice (P 3) J.l3.length (Cp 3), .slice (P 4) J.l4.length (Cp 4), .slice (P 5) J.l5.length (Cp 5), .slice (P 6) J.l6.length (Cp 6), .slice (P 7) J.l7.length (Cp 7), .bool J.sp, .bool J.kl], .int .i64 1] w fun z w' => z = .returned (.int .i64 (((((((((1 : Int) + (J.l0.length : Int)) + (J.l1.length : Int)) + (J.l2.length : Int)) + (J.l3.length : Int)) + (J.l4.length : Int)) + (J.l5.length : Int)) + (J.l6.length : Int)) + (J.l7.length : Int))) ∧ Ch w' lo P Cp N (mks J) 8 ∧ Below lo w w' ∧ (∀ (n : Nat) (c : Array Value) (t : TypeId), N 8 ≤ n → Blk w n c t → Blk w' n c t) := by
  have hN : N 8 ≤ w.heap.size := h.2.2.2
  have l0 : J.l0.length ≤ 1000000000 := hk 0
  have l1 : J.l1.length ≤ 1000000000 := hk 1
  have l2 : J.l2.length ≤ 1000000000 := hk 2
  have l3 : J.l3.length ≤ 1000000000 := hk 3
  have l4 : J.l4.length ≤ 1000000000 := hk 4
  have l5 : J.l5.length ≤ 1000000000 := hk 5
  have l6 : J.l6.length ≤ 1000000000 := hk 6
  have l7 : J.l7.length ≤ 1000000000 := hk 7
  have L0 : Hid (Below lo w (w.alloc (.cells #[.slice (P 0) J.l0.length (Cp 0), .slice (P 1) J.l1.length (Cp 1), .slice (P 2) J.l2.length (Cp 2), .slice (P 3) J.l3.length (Cp 3), .slice (P 4) J.l4.length (Cp 4), .slice (P 5) J.l5.length (Cp 5), .slice (P 6) J.l6.length (Cp 6), .slice (P 7) J.l7.length (Cp 7), .bool J.sp, .bool J.kl] 27))) := (bl_alloc (Below.refl _ w) _).mono hw
  have K0 : Hid (Blk (w.alloc (.cells #[.slice (P 0) J.l0.length (Cp 0), .slice (P 1) J.l1.length (Cp 1), .slice (P 2) J.l2.length (Cp 2), .slice (P 3) J.l3.length (Cp 3), .slice (P 4) J.l4.length (Cp 4), .slice (P 5) J.l5.length (Cp 5), .slice (P 6) J.l6.length (Cp 6), .slice (P 7) J.l7.length (Cp 7), .bool J.sp, .bool J.kl] 27)) w.heap.size #[.slice (P 0) J.l0.length (Cp 0), .slice (P 1) J.l1.length (Cp 1), .slice (P 2) J.l2.length (Cp 2), .slice (P 3) J.l3.length (Cp 3), .slice (P 4) J.l4.length (Cp 4), .slice (P 5) J.l5.length (Cp 5), .slice (P 6) J.l6.length (Cp 6), .slice (P 7) J.l7.length (Cp 7), .bool J.sp, .bool J.kl] 27) := Blk.new w _ _
  have C0 : Hid (Ch (w.alloc (.cells #[.slice (P 0) J.l0.length (Cp 0), .slice (P 1) J.l1.length (Cp 1), .slice (P 2) J.l2.length (Cp 2), .slice (P 3) J.l3.length (Cp 3), .slice (P 4) J.l4.length (Cp 4), .slice (P 5) J.l5.length (Cp 5), .slice (P 6) J.l6.length (Cp 6), .slice (P 7) J.l7.length (Cp 7), .bool J.sp, .bool J.kl] 27)) lo P Cp N J.lst 8) := h.later (bl_alloc (Below.refl _ _) _)
  have hw0 : lo ≤ (w.alloc (.cells #[.slice (P 0) J.l0.length (Cp 0), .slice (P 1) J.l1.length (Cp 1), .slice (P 2) J.l2.length (Cp 2), .slice (P 3) J.l3.length (Cp 3), .slice (P 4) J.l4.length (Cp 4), .slice (P 5) J.l5.length (Cp 5), .slice (P 6) J.l6.length (Cp 6), .slice (P 7) J.l7.length (Cp 7), .bool J.sp, .bool J.kl] 27)).heap.size := by simp; omega
  have B0 : Hid (∀ (n : Nat) (c : Array Value) (t : TypeId), N 8 ≤ n → Blk w n c t → Blk (w.alloc (.cells #[.slice (P 0) J.l0.length (Cp 0), .slice (P 1) J.l1.length (Cp 1), .slice (P 2) J.l2.length (Cp 2), .slice (P 3) J.l3.length (Cp 3), .slice (P 4) J.l4.length (Cp 4), .slice (P 5) J.l5.length (Cp 5), .slice (P 6) J.l6.length (Cp 6), .slice (P 7) J.l7.length (Cp 7), .bool J.sp, .bool J.kl] 27)) n c t) := fun n c t _ hb => hb.alloc _
  clear h
  obtain ⟨x0, x1, x2, x3, x4, x5, x6, x7, x8, x9, xf⟩ := K0.out.ten
  go_enter Try.func16, Try.ntmps16
  go_wp2_with fail
  generalize hX : w.alloc (.cells #[.slice (P 0) J.l0.length (Cp 0), .slice (P 1) J.l1.length (Cp 1), .slice (P 2) J.l2.length (Cp 2), .slice (P 3) J.l3.length (Cp 3), .slice (P 4) J.l4.length (Cp 4), .slice (P 5) J.l5.length (Cp 5), .slice (P 6) J.l6.length (Cp 6), .slice (P 7) J.l7.length (Cp 7), .bool J.sp, .bool J.kl] 27) = X0 at K0 C0 L0 hw0 B0 ⊢
  clear hX
  refine (markI_k (N 0) (P 0) (Cp 0) J.l0 (1 : Int) _ (C0.out.2.2.1 0 (by omega)).1 (by omega) (by omega) (by omega)).mono ?_
  rintro z X1 ⟨rfl, o1, g1⟩
  have C1 : Hid (Ch X1 lo P Cp N (upd J.lst 0 (ims (1 : Int) J.l0.length)) 8) := C0.out.mark (i := 0) (by omega) (by rw [ims_len]; rfl) o1 g1
  have K1 := Hid.mk' (C0.out.mark_blk (i := 0) (by omega) g1 K0.out hN)
  have B1 : Hid (∀ (n : Nat) (c : Array Value) (t : TypeId), N 8 ≤ n → Blk w n c t → Blk X1 n c t) := fun n c t hn hb => C0.out.mark_blk (i := 0) (by omega) g1 (B0.out n c t hn hb) hn
  have hbx := C0.out.mark_below (i := 0) (by omega) hw0 g1
  have L1 : Hid (Below lo w X1) := L0.out.trans hbx
  have hw1 : lo ≤ X1.heap.size := by have := hbx.size; omega
  clear o1 g1 hbx x0 x1 x2 x3 x4 x5 x6 x7 x8 x9 xf K0 C0 L0 hw0 B0
  obtain ⟨x0, x1, x2, x3, x4, x5, x6, x7, x8, x9, xf⟩ := K1.out.ten
  go_wp2_with fail
  refine (markI_k (N 1) (P 1) (Cp 1) J.l1 ((1 : Int) + (J.l0.length : Int)) _ (C1.out.2.2.1 1 (by omega)).1 (by omega) (by omega) (by omega)).mono ?_
  rintro z X2 ⟨rfl, o1, g1⟩
  have C2 : Hid (Ch X2 lo P Cp N (upd (upd J.lst 0 (ims (1 : Int) J.l0.length)) 1 (ims ((1 : Int) + (J.l0.length : Int)) J.l1.length)) 8) := C1.out.mark (i := 1) (by omega) (by rw [ims_len]; rfl) o1 g1
  have K2 := Hid.mk' (C1.out.mark_blk (i := 1) (by omega) g1 K1.out hN)
  have B2 : Hid (∀ (n : Nat) (c : Array Value) (t : TypeId), N 8 ≤ n → Blk w n c t → Blk X2 n c t) := fun n c t hn hb => C1.out.mark_blk (i := 1) (by omega) g1 (B1.out n c t hn hb) hn
  have hbx := C1.out.mark_below (i := 1) (by omega) hw1 g1
  have L2 : Hid (Below lo w X2) := L1.out.trans hbx
  have hw2 : lo ≤ X2.heap.size := by have := hbx.size; omega
  clear o1 g1 hbx x0 x1 x2 x3 x4 x5 x6 x7 x8 x9 xf K1 C1 L1 hw1 B1
  obtain ⟨x0, x1, x2, x3, x4, x5, x6, x7, x8, x9, xf⟩ := K2.out.ten
  go_wp2_with fail
  refine (markI_k (N 2) (P 2) (Cp 2) J.l2 (((1 : Int) + (J.l0.length : Int)) + (J.l1.length : Int)) _ (C2.out.2.2.1 2 (by omega)).1 (by omega) (by omega) (by omega)).mono ?_
  rintro z X3 ⟨rfl, o1, g1⟩
  have C3 : Hid (Ch X3 lo P Cp N (upd (upd (upd J.lst 0 (ims (1 : Int) J.l0.length)) 1 (ims ((1 : Int) + (J.l0.length : Int)) J.l1.length)) 2 (ims (((1 : Int) + (J.l0.length : Int)) + (J.l1.length : Int)) J.l2.length)) 8) := C2.out.mark (i := 2) (by omega) (by rw [ims_len]; rfl) o1 g1
  have K3 := Hid.mk' (C2.out.mark_blk (i := 2) (by omega) g1 K2.out hN)
  have B3 : Hid (∀ (n : Nat) (c : Array Value) (t : TypeId), N 8 ≤ n → Blk w n c t → Blk X3 n c t) := fun n c t hn hb => C2.out.mark_blk (i := 2) (by omega) g1 (B2.out n c t hn hb) hn
  have hbx := C2.out.mark_below (i := 2) (by omega) hw2 g1
  have L3 : Hid (Below lo w X3) := L2.out.trans hbx
  have hw3 : lo ≤ X3.heap.size := by have := hbx.size; omega
  clear o1 g1 hbx x0 x1 x2 x3 x4 x5 x6 x7 x8 x9 xf K2 C2 L2 hw2 B2
  obtain ⟨x0, x1, x2, x3, x4, x5, x6, x7, x8, x9, xf⟩ := K3.out.ten
  go_wp2_with fail
  refine (markI_k (N 3) (P 3) (Cp 3) J.l3 ((((1 : Int) + (J.l0.length : Int)) + (J.l1.length : Int)) + (J.l2.length : Int)) _ (C3.out.2.2.1 3 (by omega)).1 (by omega) (by omega) (by omega)).mono ?_
  rintro z X4 ⟨rfl, o1, g1⟩
  have C4 : Hid (Ch X4 lo P Cp N (upd (upd (upd (upd J.lst 0 (ims (1 : Int) J.l0.length)) 1 (ims ((1 : Int) + (J.l0.length : Int)) J.l1.length)) 2 (ims (((1 : Int) + (J.l0.length : Int)) + (J.l1.length : Int)) J.l2.length)) 3 (ims ((((1 : Int) + (J.l0.length : Int)) + (J.l1.length : Int)) + (J.l2.length : Int)) J.l3.length)) 8) := C3.out.mark (i := 3) (by omega) (by rw [ims_len]; rfl) o1 g1
  have K4 := Hid.mk' (C3.out.mark_blk (i := 3) (by omega) g1 K3.out hN)
  have B4 : Hid (∀ (n : Nat) (c : Array Value) (t : TypeId), N 8 ≤ n → Blk w n c t → Blk X4 n c t) := fun n c t hn hb => C3.out.mark_blk (i := 3) (by omega) g1 (B3.out n c t hn hb) hn
  have hbx := C3.out.mark_below (i := 3) (by omega) hw3 g1
  have L4 : Hid (Below lo w X4) := L3.out.trans hbx
  have hw4 : lo ≤ X4.heap.size := by have := hbx.size; omega
  clear o1 g1 hbx x0 x1 x2 x3 x4 x5 x6 x7 x8 x9 xf K3 C3 L3 hw3 B3
  obtain ⟨x0, x1, x2, x3, x4, x5, x6, x7, x8, x9, xf⟩ := K4.out.ten
  go_wp2_with fail
  refine (markI_k (N 4) (P 4) (Cp 4) J.l4 (((((1 : Int) + (J.l0.length : Int)) + (J.l1.length : Int)) + (J.l2.length : Int)) + (J.l3.length : Int)) _ (C4.out.2.2.1 4 (by omega)).1 (by omega) (by omega) (by omega)).mono ?_
  rintro z X5 ⟨rfl, o1, g1⟩
  have C5 : Hid (Ch X5 lo P Cp N (upd (upd (upd (upd (upd J.lst 0 (ims (1 : Int) J.l0.length)) 1 (ims ((1 : Int) + (J.l0.length : Int)) J.l1.length)) 2 (ims (((1 : Int) + (J.l0.length : Int)) + (J.l1.length : Int)) J.l2.length)) 3 (ims ((((1 : Int) + (J.l0.length : Int)) + (J.l1.length : Int)) + (J.l2.length : Int)) J.l3.length)) 4 (ims (((((1 : Int) + (J.l0.length : Int)) + (J.l1.length : Int)) + (J.l2.length : Int)) + (J.l3.length : Int)) J.l4.length)) 8) := C4.out.mark (i := 4) (by omega) (by rw [ims_len]; rfl) o1 g1
  have K5 := Hid.mk' (C4.out.mark_blk (i := 4) (by omega) g1 K4.out hN)
  have B5 : Hid (∀ (n : Nat) (c : Array Value) (t : TypeId), N 8 ≤ n → Blk w n c t → Blk X5 n c t) := fun n c t hn hb => C4.out.mark_blk (i := 4) (by omega) g1 (B4.out n c t hn hb) hn
  have hbx := C4.out.mark_below (i := 4) (by omega) hw4 g1
  have L5 : Hid (Below lo w X5) := L4.out.trans hbx
  have hw5 : lo ≤ X5.heap.size := by have := hbx.size; omega
  clear o1 g1 hbx x0 x1 x2 x3 x4 x5 x6 x7 x8 x9 xf K4 C4 L4 hw4 B4
  obtain ⟨x0, x1, x2, x3, x4, x5, x6, x7, x8, x9, xf⟩ := K5.out.ten
  go_wp2_with fail
  refine (markI_k (N 5) (P 5) (Cp 5) J.l5 ((((((1 : Int) + (J.l0.length : Int)) + (J.l1.length : Int)) + (J.l2.length : Int)) + (J.l3.length : Int)) + (J.l4.length : Int)) _ (C5.out.2.2.1 5 (by omega)).1 (by omega) (by omega) (by omega)).mono ?_
  rintro z X6 ⟨rfl, o1, g1⟩
  have C6 : Hid (Ch X6 lo P Cp N (upd (upd (upd (upd (upd (upd J.lst 0 (ims (1 : Int) J.l0.length)) 1 (ims ((1 : Int) + (J.l0.length : Int)) J.l1.length)) 2 (ims (((1 : Int) + (J.l0.length : Int)) + (J.l1.length : Int)) J.l2.length)) 3 (ims ((((1 : Int) + (J.l0.length : Int)) + (J.l1.length : Int)) + (J.l2.length : Int)) J.l3.length)) 4 (ims (((((1 : Int) + (J.l0.length : Int)) + (J.l1.length : Int)) + (J.l2.length : Int)) + (J.l3.length : Int)) J.l4.length)) 5 (ims ((((((1 : Int) + (J.l0.length : Int)) + (J.l1.length : Int)) + (J.l2.length : Int)) + (J.l3.length : Int)) + (J.l4.length : Int)) J.l5.length)) 8) := C5.out.mark (i := 5) (by omega) (by rw [ims_len]; rfl) o1 g1
  have K6 := Hid.mk' (C5.out.mark_blk (i := 5) (by omega) g1 K5.out hN)
  have B6 : Hid (∀ (n : Nat) (c : Array Value) (t : TypeId), N 8 ≤ n → Blk w n c t → Blk X6 n c t) := fun n c t hn hb => C5.out.mark_blk (i := 5) (by omega) g1 (B5.out n c t hn hb) hn
  have hbx := C5.out.mark_below (i := 5) (by omega) hw5 g1
  have L6 : Hid (Below lo w X6) := L5.out.trans hbx
  have hw6 : lo ≤ X6.heap.size := by have := hbx.size; omega
  clear o1 g1 hbx x0 x1 x2 x3 x4 x5 x6 x7 x8 x9 xf K5 C5 L5 hw5 B5
  obtain ⟨x0, x1, x2, x3, x4, x5, x6, x7, x8, x9, xf⟩ := K6.out.ten
  go_wp2_with fail
  refine (markI_k (N 6) (P 6) (Cp 6) J.l6 (((((((1 : Int) + (J.l0.length : Int)) + (J.l1.length : Int)) + (J.l2.length : Int)) + (J.l3.length : Int)) + (J.l4.length : Int)) + (J.l5.length : Int)) _ (C6.out.2.2.1 6 (by omega)).1 (by omega) (by omega) (by omega)).mono ?_
  rintro z X7 ⟨rfl, o1, g1⟩
  have C7 : Hid (Ch X7 lo P Cp N (upd (upd (upd (upd (upd (upd (upd J.lst 0 (ims (1 : Int) J.l0.length)) 1 (ims ((1 : Int) + (J.l0.length : Int)) J.l1.length)) 2 (ims (((1 : Int) + (J.l0.length : Int)) + (J.l1.length : Int)) J.l2.length)) 3 (ims ((((1 : Int) + (J.l0.length : Int)) + (J.l1.length : Int)) + (J.l2.length : Int)) J.l3.length)) 4 (ims (((((1 : Int) + (J.l0.length : Int)) + (J.l1.length : Int)) + (J.l2.length : Int)) + (J.l3.length : Int)) J.l4.length)) 5 (ims ((((((1 : Int) + (J.l0.length : Int)) + (J.l1.length : Int)) + (J.l2.length : Int)) + (J.l3.length : Int)) + (J.l4.length : Int)) J.l5.length)) 6 (ims (((((((1 : Int) + (J.l0.length : Int)) + (J.l1.length : Int)) + (J.l2.length : Int)) + (J.l3.length : Int)) + (J.l4.length : Int)) + (J.l5.length : Int)) J.l6.length)) 8) := C6.out.mark (i := 6) (by omega) (by rw [ims_len]; rfl) o1 g1
  have K7 := Hid.mk' (C6.out.mark_blk (i := 6) (by omega) g1 K6.out hN)
  have B7 : Hid (∀ (n : Nat) (c : Array Value) (t : TypeId), N 8 ≤ n → Blk w n c t → Blk X7 n c t) := fun n c t hn hb => C6.out.mark_blk (i := 6) (by omega) g1 (B6.out n c t hn hb) hn
  have hbx := C6.out.mark_below (i := 6) (by omega) hw6 g1
  have L7 : Hid (Below lo w X7) := L6.out.trans hbx
  have hw7 : lo ≤ X7.heap.size := by have := hbx.size; omega
  clear o1 g1 hbx x0 x1 x2 x3 x4 x5 x6 x7 x8 x9 xf K6 C6 L6 hw6 B6
  obtain ⟨x0, x1, x2, x3, x4, x5, x6, x7, x8, x9, xf⟩ := K7.out.ten
  go_wp2_with fail
  refine (markI_k (N 7) (P 7) (Cp 7) J.l7 ((((((((1 : Int) + (J.l0.length : Int)) + (J.l1.length : Int)) + (J.l2.length : Int)) + (J.l3.length : Int)) + (J.l4.length : Int)) + (J.l5.length : Int)) + (J.l6.length : Int)) _ (C7.out.2.2.1 7 (by omega)).1 (by omega) (by omega) (by omega)).mono ?_
  rintro z X8 ⟨rfl, o1, g1⟩
  have C8 : Hid (Ch X8 lo P Cp N (upd (upd (upd (upd (upd (upd (upd (upd J.lst 0 (ims (1 : Int) J.l0.length)) 1 (ims ((1 : Int) + (J.l0.length : Int)) J.l1.length)) 2 (ims (((1 : Int) + (J.l0.length : Int)) + (J.l1.length : Int)) J.l2.length)) 3 (ims ((((1 : Int) + (J.l0.length : Int)) + (J.l1.length : Int)) + (J.l2.length : Int)) J.l3.length)) 4 (ims (((((1 : Int) + (J.l0.length : Int)) + (J.l1.length : Int)) + (J.l2.length : Int)) + (J.l3.length : Int)) J.l4.length)) 5 (ims ((((((1 : Int) + (J.l0.length : Int)) + (J.l1.length : Int)) + (J.l2.length : Int)) + (J.l3.length : Int)) + (J.l4.length : Int)) J.l5.length)) 6 (ims (((((((1 : Int) + (J.l0.length : Int)) + (J.l1.length : Int)) + (J.l2.length : Int)) + (J.l3.length : Int)) + (J.l4.length : Int)) + (J.l5.length : Int)) J.l6.length)) 7 (ims ((((((((1 : Int) + (J.l0.length : Int)) + (J.l1.length : Int)) + (J.l2.length : Int)) + (J.l3.length : Int)) + (J.l4.length : Int)) + (J.l5.length : Int)) + (J.l6.length : Int)) J.l7.length)) 8) := C7.out.mark (i := 7) (by omega) (by rw [ims_len]; rfl) o1 g1
  have K8 := Hid.mk' (C7.out.mark_blk (i := 7) (by omega) g1 K7.out hN)
  have B8 : Hid (∀ (n : Nat) (c : Array Value) (t : TypeId), N 8 ≤ n → Blk w n c t → Blk X8 n c t) := fun n c t hn hb => C7.out.mark_blk (i := 7) (by omega) g1 (B7.out n c t hn hb) hn
  have hbx := C7.out.mark_below (i := 7) (by omega) hw7 g1
  have L8 : Hid (Below lo w X8) := L7.out.trans hbx
  have hw8 : lo ≤ X8.heap.size := by have := hbx.size; omega
  clear o1 g1 hbx x0 x1 x2 x3 x4 x5 x6 x7 x8 x9 xf K7 C7 L7 hw7 B7
  obtain ⟨x0, x1, x2, x3, x4, x5, x6, x7, x8, x9, xf⟩ := K8.out.ten
  go_wp2_with fail
  go_ret
  exact ⟨rfl, C8.out.congr (fun j hj => by match j, hj with | 0, _ => rfl | 1, _ => rfl | 2, _ => rfl | 3, _ => rfl | 4, _ => rfl | 5, _ => rfl | 6, _ => rfl | 7, _ => rfl), L8.out, B8.out⟩
set_option maxRecDepth 100000 in
set_option maxHeartbeats 8000000 in
theorem heldEffect_own (P : Nat → Option Addr) (Cp N : Nat → Nat) (J : Ef) (lo : Nat) (w : World) (h : Ch w lo P Cp N (mks J) 8) (hk : ∀ i, (J.lst i).length ≤ 1000000000) :
    Calls Try.prog 17 #[.agg #[.slice (P 0) J.l0.length (Cp 0), .slice (P 1) J.l1.length (Cp 1), .slice (P 2) J.l2.length (Cp 2), .slice (P 3) J.l3.length (Cp 3), .slice (P 4) J.l4.length (Cp 4), .slice (P 5) J.l5.length (Cp 5), .slice (P 6) J.l6.length (Cp 6), .slice (P 7) J.l7.length (Cp 7), .bool J.sp, .bool J.kl], .int .i64 1] w fun z w' => z = .returned (.int .i64 (((((((((1 : Int) + (J.l0.length : Int)) + (J.l1.length : Int)) + (J.l2.length : Int)) + (J.l3.length : Int)) + (J.l4.length : Int)) + (J.l5.length : Int)) + (J.l6.length : Int)) + (J.l7.length : Int))) ∧ Below w.heap.size w w' := by
  have l0 : J.l0.length ≤ 1000000000 := hk 0
  have l1 : J.l1.length ≤ 1000000000 := hk 1
  have l2 : J.l2.length ≤ 1000000000 := hk 2
  have l3 : J.l3.length ≤ 1000000000 := hk 3
  have l4 : J.l4.length ≤ 1000000000 := hk 4
  have l5 : J.l5.length ≤ 1000000000 := hk 5
  have l6 : J.l6.length ≤ 1000000000 := hk 6
  have l7 : J.l7.length ≤ 1000000000 := hk 7
  have L0 : Below w.heap.size w (w.alloc (.cells #[.slice (P 0) J.l0.length (Cp 0), .slice (P 1) J.l1.length (Cp 1), .slice (P 2) J.l2.length (Cp 2), .slice (P 3) J.l3.length (Cp 3), .slice (P 4) J.l4.length (Cp 4), .slice (P 5) J.l5.length (Cp 5), .slice (P 6) J.l6.length (Cp 6), .slice (P 7) J.l7.length (Cp 7), .bool J.sp, .bool J.kl] 27)) := bl_alloc (Below.refl _ _) _
  have K0 := Blk.new w #[.slice (P 0) J.l0.length (Cp 0), .slice (P 1) J.l1.length (Cp 1), .slice (P 2) J.l2.length (Cp 2), .slice (P 3) J.l3.length (Cp 3), .slice (P 4) J.l4.length (Cp 4), .slice (P 5) J.l5.length (Cp 5), .slice (P 6) J.l6.length (Cp 6), .slice (P 7) J.l7.length (Cp 7), .bool J.sp, .bool J.kl] 27
  have E0 : Hid (Els 1 cInt w (N 0) (P 0) (ims (1 : Int) J.l0.length)) := by have h5 := (h.2.2.1 0 (by omega)).1; exact OI.els (c := Cp 0) h5
  have E1 : Hid (Els 1 cInt w (N 1) (P 1) (ims ((1 : Int) + (J.l0.length : Int)) J.l1.length)) := by have h5 := (h.2.2.1 1 (by omega)).1; exact OI.els (c := Cp 1) h5
  have E2 : Hid (Els 1 cInt w (N 2) (P 2) (ims (((1 : Int) + (J.l0.length : Int)) + (J.l1.length : Int)) J.l2.length)) := by have h5 := (h.2.2.1 2 (by omega)).1; exact OI.els (c := Cp 2) h5
  have E3 : Hid (Els 1 cInt w (N 3) (P 3) (ims ((((1 : Int) + (J.l0.length : Int)) + (J.l1.length : Int)) + (J.l2.length : Int)) J.l3.length)) := by have h5 := (h.2.2.1 3 (by omega)).1; exact OI.els (c := Cp 3) h5
  have E4 : Hid (Els 1 cInt w (N 4) (P 4) (ims (((((1 : Int) + (J.l0.length : Int)) + (J.l1.length : Int)) + (J.l2.length : Int)) + (J.l3.length : Int)) J.l4.length)) := by have h5 := (h.2.2.1 4 (by omega)).1; exact OI.els (c := Cp 4) h5
  have E5 : Hid (Els 1 cInt w (N 5) (P 5) (ims ((((((1 : Int) + (J.l0.length : Int)) + (J.l1.length : Int)) + (J.l2.length : Int)) + (J.l3.length : Int)) + (J.l4.length : Int)) J.l5.length)) := by have h5 := (h.2.2.1 5 (by omega)).1; exact OI.els (c := Cp 5) h5
  have E6 : Hid (Els 1 cInt w (N 6) (P 6) (ims (((((((1 : Int) + (J.l0.length : Int)) + (J.l1.length : Int)) + (J.l2.length : Int)) + (J.l3.length : Int)) + (J.l4.length : Int)) + (J.l5.length : Int)) J.l6.length)) := by have h5 := (h.2.2.1 6 (by omega)).1; exact OI.els (c := Cp 6) h5
  have E7 : Hid (Els 1 cInt w (N 7) (P 7) (ims ((((((((1 : Int) + (J.l0.length : Int)) + (J.l1.length : Int)) + (J.l2.length : Int)) + (J.l3.length : Int)) + (J.l4.length : Int)) + (J.l5.length : Int)) + (J.l6.length : Int)) J.l7.length)) := by have h5 := (h.2.2.1 7 (by omega)).1; exact OI.els (c := Cp 7) h5
  clear h
  obtain ⟨x0, x1, x2, x3, x4, x5, x6, x7, x8, x9, xf⟩ := K0.ten
  go_enter Try.func17, Try.ntmps17
  go_wp2_with fail
  generalize hX : w.alloc (.cells #[.slice (P 0) J.l0.length (Cp 0), .slice (P 1) J.l1.length (Cp 1), .slice (P 2) J.l2.length (Cp 2), .slice (P 3) J.l3.length (Cp 3), .slice (P 4) J.l4.length (Cp 4), .slice (P 5) J.l5.length (Cp 5), .slice (P 6) J.l6.length (Cp 6), .slice (P 7) J.l7.length (Cp 7), .bool J.sp, .bool J.kl] 27) = X at K0 L0 ⊢
  clear hX
  refine (heldI_k (N 0) (P 0) J.l0.length (Cp 0) (1 : Int) _ (E0.out.later cInt_keeps L0) (by omega) (by omega) (by omega)).mono ?_
  rintro z X1 ⟨rfl, hb1⟩
  replace L0 := bl_trans L0 hb1
  replace K0 := K0.later hb1
  clear hb1 x0 x1 x2 x3 x4 x5 x6 x7 x8 x9 xf
  obtain ⟨x0, x1, x2, x3, x4, x5, x6, x7, x8, x9, xf⟩ := K0.ten
  have q0 : decide (((1 : Int) + (J.l0.length : Int)) < 0) = false := by simp; omega
  go_wp2_with fail
  refine (heldI_k (N 1) (P 1) J.l1.length (Cp 1) ((1 : Int) + (J.l0.length : Int)) _ (E1.out.later cInt_keeps L0) (by omega) (by omega) (by omega)).mono ?_
  rintro z X2 ⟨rfl, hb1⟩
  replace L0 := bl_trans L0 hb1
  replace K0 := K0.later hb1
  clear hb1 x0 x1 x2 x3 x4 x5 x6 x7 x8 x9 xf
  obtain ⟨x0, x1, x2, x3, x4, x5, x6, x7, x8, x9, xf⟩ := K0.ten
  have q1 : decide ((((1 : Int) + (J.l0.length : Int)) + (J.l1.length : Int)) < 0) = false := by simp; omega
  go_wp2_with fail
  refine (heldI_k (N 2) (P 2) J.l2.length (Cp 2) (((1 : Int) + (J.l0.length : Int)) + (J.l1.length : Int)) _ (E2.out.later cInt_keeps L0) (by omega) (by omega) (by omega)).mono ?_
  rintro z X3 ⟨rfl, hb1⟩
  replace L0 := bl_trans L0 hb1
  replace K0 := K0.later hb1
  clear hb1 x0 x1 x2 x3 x4 x5 x6 x7 x8 x9 xf
  obtain ⟨x0, x1, x2, x3, x4, x5, x6, x7, x8, x9, xf⟩ := K0.ten
  have q2 : decide (((((1 : Int) + (J.l0.length : Int)) + (J.l1.length : Int)) + (J.l2.length : Int)) < 0) = false := by simp; omega
  go_wp2_with fail
  refine (heldI_k (N 3) (P 3) J.l3.length (Cp 3) ((((1 : Int) + (J.l0.length : Int)) + (J.l1.length : Int)) + (J.l2.length : Int)) _ (E3.out.later cInt_keeps L0) (by omega) (by omega) (by omega)).mono ?_
  rintro z X4 ⟨rfl, hb1⟩
  replace L0 := bl_trans L0 hb1
  replace K0 := K0.later hb1
  clear hb1 x0 x1 x2 x3 x4 x5 x6 x7 x8 x9 xf
  obtain ⟨x0, x1, x2, x3, x4, x5, x6, x7, x8, x9, xf⟩ := K0.ten
  have q3 : decide ((((((1 : Int) + (J.l0.length : Int)) + (J.l1.length : Int)) + (J.l2.length : Int)) + (J.l3.length : Int)) < 0) = false := by simp; omega
  go_wp2_with fail
  refine (heldI_k (N 4) (P 4) J.l4.length (Cp 4) (((((1 : Int) + (J.l0.length : Int)) + (J.l1.length : Int)) + (J.l2.length : Int)) + (J.l3.length : Int)) _ (E4.out.later cInt_keeps L0) (by omega) (by omega) (by omega)).mono ?_
  rintro z X5 ⟨rfl, hb1⟩
  replace L0 := bl_trans L0 hb1
  replace K0 := K0.later hb1
  clear hb1 x0 x1 x2 x3 x4 x5 x6 x7 x8 x9 xf
  obtain ⟨x0, x1, x2, x3, x4, x5, x6, x7, x8, x9, xf⟩ := K0.ten
  have q4 : decide (((((((1 : Int) + (J.l0.length : Int)) + (J.l1.length : Int)) + (J.l2.length : Int)) + (J.l3.length : Int)) + (J.l4.length : Int)) < 0) = false := by simp; omega
  go_wp2_with fail
  refine (heldI_k (N 5) (P 5) J.l5.length (Cp 5) ((((((1 : Int) + (J.l0.length : Int)) + (J.l1.length : Int)) + (J.l2.length : Int)) + (J.l3.length : Int)) + (J.l4.length : Int)) _ (E5.out.later cInt_keeps L0) (by omega) (by omega) (by omega)).mono ?_
  rintro z X6 ⟨rfl, hb1⟩
  replace L0 := bl_trans L0 hb1
  replace K0 := K0.later hb1
  clear hb1 x0 x1 x2 x3 x4 x5 x6 x7 x8 x9 xf
  obtain ⟨x0, x1, x2, x3, x4, x5, x6, x7, x8, x9, xf⟩ := K0.ten
  have q5 : decide ((((((((1 : Int) + (J.l0.length : Int)) + (J.l1.length : Int)) + (J.l2.length : Int)) + (J.l3.length : Int)) + (J.l4.length : Int)) + (J.l5.length : Int)) < 0) = false := by simp; omega
  go_wp2_with fail
  refine (heldI_k (N 6) (P 6) J.l6.length (Cp 6) (((((((1 : Int) + (J.l0.length : Int)) + (J.l1.length : Int)) + (J.l2.length : Int)) + (J.l3.length : Int)) + (J.l4.length : Int)) + (J.l5.length : Int)) _ (E6.out.later cInt_keeps L0) (by omega) (by omega) (by omega)).mono ?_
  rintro z X7 ⟨rfl, hb1⟩
  replace L0 := bl_trans L0 hb1
  replace K0 := K0.later hb1
  clear hb1 x0 x1 x2 x3 x4 x5 x6 x7 x8 x9 xf
  obtain ⟨x0, x1, x2, x3, x4, x5, x6, x7, x8, x9, xf⟩ := K0.ten
  have q6 : decide (((((((((1 : Int) + (J.l0.length : Int)) + (J.l1.length : Int)) + (J.l2.length : Int)) + (J.l3.length : Int)) + (J.l4.length : Int)) + (J.l5.length : Int)) + (J.l6.length : Int)) < 0) = false := by simp; omega
  go_wp2_with fail
  refine (heldI_k (N 7) (P 7) J.l7.length (Cp 7) ((((((((1 : Int) + (J.l0.length : Int)) + (J.l1.length : Int)) + (J.l2.length : Int)) + (J.l3.length : Int)) + (J.l4.length : Int)) + (J.l5.length : Int)) + (J.l6.length : Int)) _ (E7.out.later cInt_keeps L0) (by omega) (by omega) (by omega)).mono ?_
  rintro z X8 ⟨rfl, hb1⟩
  replace L0 := bl_trans L0 hb1
  replace K0 := K0.later hb1
  clear hb1 x0 x1 x2 x3 x4 x5 x6 x7 x8 x9 xf
  obtain ⟨x0, x1, x2, x3, x4, x5, x6, x7, x8, x9, xf⟩ := K0.ten
  have q7 : decide ((((((((((1 : Int) + (J.l0.length : Int)) + (J.l1.length : Int)) + (J.l2.length : Int)) + (J.l3.length : Int)) + (J.l4.length : Int)) + (J.l5.length : Int)) + (J.l6.length : Int)) + (J.l7.length : Int)) < 0) = false := by simp; omega
  go_wp2_with fail
  go_ret
  exact ⟨rfl, L0⟩
end Go.Proofs.Ytgcfhoojjgcpiaa
