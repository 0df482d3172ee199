import Derived.Test.YtofpkbnocbmgkaaQi
import Derived.Test.YtofpkbnocbmgkaaQa
import Derived.Test.YtofpkbnocbmgkaaCc
namespace Go.Proofs.Ytofpkbnocbmgkaa
open Go.RowKit
set_option linter.unusedVariables false
set_option linter.unusedSimpArgs false

set_option maxHeartbeats 2000000 in
theorem markCell_w (lo : Nat) (W1 w0 : World) (s : Option Addr) (c : Nat) (L : List C5) (k : Int) (w : World) (hE : Els 5 cCell W1 lo s L) (hp : 0 < lo) (h : Mr lo W1 w0 w) (hl : L.length ≤ 1048576) (k0 : 0 ≤ k) (k1 : k ≤ 9000000000000000000) :
    Calls Try.prog 64 #[.slice s L.length c, .int .i64 k] w fun e w' => e = .returned (.int .i64 (k + 5 * (L.length : Int))) ∧ Mr lo W1 w0 w' := by
  go_enter Try.func64, Try.ntmps64
  go_wp2_with fail
  go_loopw [1, 5] (fun x i wr => ∃ m : Nat, m ≤ L.length ∧ i = .int .i64 m ∧ x = .int .i64 (k + 5 * (m : Int)) ∧ Hid (Mr lo W1 w0 wr)) (fun _ i _ => L.length - (intOf i).toNat)
  case atStart => exact ⟨0, Nat.zero_le _, rfl, by simp, h⟩
  case round =>
    obtain ⟨m, hm, rfl, rfl, hM⟩ := hrel
    by_cases hlt : m < L.length
    · obtain ⟨a, ha⟩ := get_some hlt
      obtain ⟨b, o, rfl, hB, hb, _, e0, e1, e2, e3, e4⟩ := eCell_cells hE ha
      have hfz := fun j => (hM.out.fz b j hB hb).trans (hE.free hp (not_nil hlt) j)
      obtain ⟨j0, c0⟩ := hM.out.int hB hb e0
      obtain ⟨j1, c1⟩ := hM.out.int hB hb e1
      obtain ⟨j2, c2⟩ := hM.out.int hB hb e2
      obtain ⟨j3, c3⟩ := hM.out.float hB hb e3
      obtain ⟨j4, c4⟩ := hM.out.float hB hb e4
      have HN : Hid (Mr lo W1 w0 (((((wr.setCell ⟨b, o + m * 5, none⟩ (.int .i64 (k + 5 * (m : Int)))).setCell ⟨b, o + m * 5 + 1, none⟩ (.int .i64 (k + 5 * (m : Int) + 1))).setCell ⟨b, o + m * 5 + 2, none⟩ (.int .i64 (k + 5 * (m : Int) + 1 + 1))).setCell ⟨b, o + m * 5 + 3, none⟩ (.float .f64 (floatOfInt .f64 (k + 5 * (m : Int) + 1 + 1 + 1)))).setCell ⟨b, o + m * 5 + 4, none⟩ (.float .f64 (floatOfInt .f64 (k + 5 * (m : Int) + 1 + 1 + 1 + 1))))) := ((((hM.out.setI hB hb e0 _).setI hB hb e1 _).setI hB hb e2 _).setF hB hb e3 _).setF hB hb e4 _
      clear hM h e0 e1 e2 e3 e4 hE ha
      go_wp2_with fail
      refine ⟨⟨m + 1, by omega, by go_num, ?_, HN⟩, by simp [intOf]; omega⟩
      congr 1; simp; omega
    · have hm' : m = L.length := by omega
      subst hm'
      go_wp2_with fail
      go_ret
      exact ⟨rfl, hM.out⟩

set_option maxRecDepth 100000 in
set_option maxHeartbeats 4000000 in
theorem markCmd_w (lo : Nat) (W1 w0 : World) (s : Option Addr) (c : Nat) (L : List Cm) (k : Int) (w : World) (hE : Els 9 cCmd W1 lo s L) (hq : 0 < lo ∨ L = []) (h : Mr lo W1 w0 w) (hl : kCs L) (k0 : 0 ≤ k) (k1 : k ≤ 1000000000000000000) :
    Calls Try.prog 30 #[.slice s L.length c, .int .i64 k] w fun e w' => (∃ k', e = .returned (.int .i64 k') ∧ k ≤ k' ∧ k' ≤ k + 5242888 * (L.length : Int)) ∧ Mr lo W1 w0 w' := by
  obtain ⟨hl, hls⟩ := hl
  have HLS : Hid (∀ c ∈ L, c.list.length ≤ 1048576) := hls
  clear hls
  go_enter Try.func30, Try.ntmps30
  go_wp2_with fail
  go_loopw [1, 5] (fun x i wr => ∃ (m : Nat) (q : Int), m ≤ L.length ∧ i = .int .i64 m ∧ x = .int .i64 q ∧ k ≤ q ∧ q ≤ k + 5242888 * (m : Int) ∧ Hid (Mr lo W1 w0 wr)) (fun _ i _ => L.length - (intOf i).toNat)
  case atStart => exact ⟨0, k, Nat.zero_le _, rfl, rfl, by omega, by omega, h⟩
  case round =>
    obtain ⟨m, q, hm, rfl, rfl, q0, q1, hM⟩ := hrel
    by_cases hlt : m < L.length
    · have hp : 0 < lo := hq.resolve_right (not_nil hlt)
      obtain ⟨a, ha⟩ := get_some hlt
      obtain ⟨b, o, rfl, hB, hb, _, s', c', e0, e1, e2, e3, e4, e5, e6, e7, e8, f⟩ := eCmd_cells hE ha
      have hla := HLS.out a (List.mem_of_getElem? ha)
      have hfz := fun j => (hM.out.fz b j hB hb).trans (hE.free hp (not_nil hlt) j)
      obtain ⟨j0, c0⟩ := hM.out.int hB hb e0
      obtain ⟨j1, c1⟩ := hM.out.int hB hb e1
      obtain ⟨j2, c2⟩ := hM.out.int hB hb e2
      obtain ⟨j3, c3⟩ := hM.out.int hB hb e3
      obtain ⟨j4, c4⟩ := hM.out.int hB hb e4
      obtain ⟨j5, c5⟩ := hM.out.int hB hb e5
      obtain ⟨j6, c6⟩ := hM.out.float hB hb e6
      obtain ⟨j7, c7⟩ := hM.out.float hB hb e7
      have c8 := hM.out.sl hB hb e8
      have HN : Hid (Mr lo W1 w0 ((((((((wr.setCell ⟨b, o + m * 9, none⟩ (.int .i64 (q))).setCell ⟨b, o + m * 9 + 1, none⟩ (.int .i64 (q + 1))).setCell ⟨b, o + m * 9 + 2, none⟩ (.int .i64 (q + 1 + 1))).setCell ⟨b, o + m * 9 + 3, none⟩ (.int .i64 (q + 1 + 1 + 1))).setCell ⟨b, o + m * 9 + 4, none⟩ (.int .i64 (q + 1 + 1 + 1 + 1))).setCell ⟨b, o + m * 9 + 5, none⟩ (.int .i64 (q + 1 + 1 + 1 + 1 + 1))).setCell ⟨b, o + m * 9 + 6, none⟩ (.float .f64 (floatOfInt .f64 (q + 1 + 1 + 1 + 1 + 1 + 1)))).setCell ⟨b, o + m * 9 + 7, none⟩ (.float .f64 (floatOfInt .f64 (q + 1 + 1 + 1 + 1 + 1 + 1 + 1))))) := (((((((hM.out.setI hB hb e0 _).setI hB hb e1 _).setI hB hb e2 _).setI hB hb e3 _).setI hB hb e4 _).setI hB hb e5 _).setF hB hb e6 _).setF hB hb e7 _
      have HF : Hid (Els 5 cCell W1 lo s' a.list) := f
      clear hM h e0 e1 e2 e3 e4 e5 e6 e7 e8 hE ha f
      go_wp2_with fail
      refine (markCell_w lo W1 w0 s' c' a.list _ _ HF.out hp HN.out hla (by omega) (by omega)).mono ?_
      rintro e w2 ⟨rfl, hM2⟩
      have HN2 : Hid (Mr lo W1 w0 w2) := hM2
      clear hM2 HN hfz c0 c1 c2 c3 c4 c5 c6 c7 c8
      go_wp2_with fail
      go_roundw
      case rel => exact ⟨m + 1, _, by omega, by go_num, rfl, by omega, by omega, HN2⟩
      case measure => simp [intOf]; omega
    · have hm' : m = L.length := by omega
      subst hm'
      go_wp2_with fail
      go_ret
      exact ⟨⟨q, rfl, q0, q1⟩, hM.out⟩

/-! own ints, marked and held -/
def ims (k : Int) : Nat → List Int
  | 0 => []
  | n + 1 => ims k n ++ [k + n]
theorem ims_len (k : Int) : ∀ n, (ims k n).length = n
  | 0 => rfl
  | n + 1 => by simp [ims, ims_len k n]
theorem ims_get (k : Int) : ∀ (n j : Nat), j < n → (ims k n)[j]? = some (k + j)
  | n + 1, j, h => by
    by_cases e : j < n
    · rw [ims, List.getElem?_append_left (by rw [ims_len]; exact e), ims_get k n j e]
    · have : j = n := by omega
      subst this
      rw [ims, List.getElem?_append_right (by rw [ims_len]; omega), ims_len]; simp
theorem ims_step (G : List Int) (k : Int) (m : Nat) (h : m < G.length) : (ims k m ++ G.drop m).set m (k + m) = ims k (m + 1) ++ G.drop (m + 1) := by
  rw [List.set_append_right _ _ (by rw [ims_len]; omega), ims_len, Nat.sub_self, List.drop_eq_getElem_cons h, List.set_cons_zero, ims]
  simp
theorem grown_setI (w : World) (g m : Nat) (u : Value) : w.grownBy (w.setCell ⟨g, m, none⟩ u) (some g) := ⟨rfl, rfl, rfl, by simp [World.setCell], fun k hk hr => Below.heap_setCell w ⟨g, m, none⟩ u k (fun e => hr (by rw [e]))⟩
theorem OI.setN {w : World} {B g n cap : Nat} {L : List Int} (hn : L.length = n) (h : OI w B (.slice (some ⟨g, 0, none⟩) n cap) L) (m : Nat) (x : Int) : OI (w.setCell ⟨g, m, none⟩ (.int .i64 x)) B (.slice (some ⟨g, 0, none⟩) n cap) (L.set m x) := by
  subst hn
  obtain ⟨h1, h2⟩ := h
  rcases h2 with ⟨h2, _⟩ | ⟨g', cap', cur, e, hb, hg, hc, hx, hs, ht⟩
  · cases h2
  · cases e
    unfold OI
    rw [List.length_set]
    refine ⟨by simp, Or.inr ⟨g, cap, cur.setIfInBounds m (.int .i64 x), rfl, hb, heap_setCell_same w g m cur _ _ hg, hc, hx, by simpa using hs, ?_⟩⟩
    rw [Array.toList_setIfInBounds, List.take_set, ht, List.map_set]
theorem OI.at {w : World} {B g n cap : Nat} {L : List Int} (h : OI w B (.slice (some ⟨g, 0, none⟩) n cap) L) {j : Nat} {x : Int} (hj : L[j]? = some x) : w.cell? ⟨g, j, none⟩ = some (.int .i64 x) ∧ w.frozen? ⟨g, j, none⟩ = false := by
  obtain ⟨h1, h2⟩ := h
  rcases h2 with ⟨h2, _⟩ | ⟨g', cap', cur, e, hb, hg, hc, hx, hs, ht⟩
  · cases h2
  · have e' := e
    simp only [Value.slice.injEq, Option.some.injEq, Addr.mk.injEq, true_and, and_true] at e'
    obtain ⟨rfl, e2, rfl⟩ := e'
    refine ⟨?_, frozen_of_row w g j cur _ hg⟩
    rw [cell_of_row w g j cur _ (0, 0) hg]
    have hl : j < L.length := (List.getElem?_eq_some_iff.1 hj).1
    have := congrArg (fun l => l[j]?) ht
    simp only [List.getElem?_take, List.getElem?_map, hj] at this
    rw [if_pos (by omega)] at this
    simpa using this

set_option maxHeartbeats 2000000 in
theorem markI_full (B : Nat) (s : Option Addr) (c : Nat) (G : List Int) (w : World) (h : OI w B (.slice s G.length c) G) (hl : G.length ≤ 4398046511104) :
    Calls Try.prog 22 #[.slice s G.length c, .int .i64 1] w fun e w' => e = .returned (.int .i64 (1 + (G.length : Int))) ∧ OI w' B (.slice s G.length c) (ims 1 G.length) ∧ w.grownBy w' (Value.slice s G.length c).ownBlock := by
  rcases h.form with ⟨hv, rfl⟩ | ⟨g, cap, hv, _, _, _⟩
  · simp only [Value.slice.injEq] at hv
    obtain ⟨rfl, -, rfl⟩ := hv
    go_enter Try.func22, Try.ntmps22
    go_wp2_with fail
    refine wp_loop_rounds 1 ?_
    rw [rounds_succ]
    go_wp2_with fail
    go_ret
    exact ⟨by simp, OI.nil _ _, grown_refl _ _⟩
  · simp only [Value.slice.injEq, true_and] at hv
    obtain ⟨rfl, rfl⟩ := hv
    go_enter Try.func22, Try.ntmps22
    go_wp2_with fail
    go_loopw [1, 5] (fun cv i wr => ∃ m : Nat, m ≤ G.length ∧ i = .int .i64 m ∧ cv = .int .i64 (1 + (m : Int)) ∧ Hid (OI wr B (.slice (some ⟨g, 0, none⟩) G.length c) (ims 1 m ++ G.drop m)) ∧ Hid (w.grownBy wr (some g))) (fun _ i _ => G.length - (intOf i).toNat)
    case atStart => exact ⟨0, Nat.zero_le _, rfl, by simp, by simpa [ims, Hid] using h, grown_refl _ _⟩
    case round =>
      obtain ⟨m, hm, rfl, rfl, hr, hg⟩ := hrel
      by_cases hlt : m < G.length
      · obtain ⟨y, hy⟩ : ∃ y, (ims 1 m ++ G.drop m)[m]? = some y := get_some (by simp [ims_len]; omega)
        obtain ⟨x0, x1⟩ := hr.out.at hy
        have hr' : Hid (OI (wr.setCell ⟨g, m, none⟩ (.int .i64 (1 + (m : Int)))) B (.slice (some ⟨g, 0, none⟩) G.length c) (ims 1 (m + 1) ++ G.drop (m + 1))) := by
          have := hr.out.setN (by simp [ims_len]; omega) m (1 + (m : Int))
          rw [ims_step G 1 m hlt] at this
          exact this
        have hg' : Hid (w.grownBy (wr.setCell ⟨g, m, none⟩ (.int .i64 (1 + (m : Int)))) (some g)) := grown_trans hg.out (grown_setI wr g m (.int .i64 (1 + (m : Int))))
        clear h hr hg hy
        go_wp2_with fail
        go_roundw
        case rel => exact ⟨m + 1, by omega, by go_num, by go_num, hr', hg'⟩
        case measure => simp [intOf]; omega
      · have hm' : m = G.length := by omega
        subst hm'
        have hE : Hid (OI wr B (.slice (some ⟨g, 0, none⟩) G.length c) (ims 1 G.length)) := by have := hr.out; simpa [Hid] using this
        clear h hr
        go_wp2_with fail
        go_ret
        exact ⟨rfl, hE.out, hg.out⟩

set_option maxHeartbeats 2000000 in
theorem heldI_full (B : Nat) (s : Option Addr) (n c : Nat) (w : World) (h : Els 1 cInt w B s (ims 1 n)) (hl : n ≤ 4398046511104) :
    Calls Try.prog 31 #[.slice s n c, .int .i64 1] w fun e w' => e = .returned (.int .i64 (1 + (n : Int))) ∧ Below w.heap.size w w' := by
  have H : Hid (Els 1 cInt w B s (ims 1 n)) := h
  clear h
  go_enter Try.func31, Try.ntmps31
  go_wp2_with fail
  go_loop [1, 5] (fun cv i => ∃ m : Nat, m ≤ n ∧ i = .int .i64 m ∧ cv = .int .i64 (1 + (m : Int))) (fun _ i => n - (intOf i).toNat)
  case atStart => exact ⟨0, Nat.zero_le _, rfl, by simp⟩
  case round =>
    obtain ⟨m, hm, rfl, rfl⟩ := hrel
    by_cases hlt : m < n
    · obtain ⟨b, o, rfl, _, hb, e0⟩ := eInt_cells H.out (ims_get 1 n m hlt)
      go_wp2_with fail
      go_round
      case rel => exact ⟨m + 1, by omega, by go_num, by go_num⟩
      case measure => simp [intOf]; omega
    · have hm' : m = n := by omega
      subst hm'
      go_wp2_with fail
      go_ret
      exact ⟨rfl, Below.refl _ _⟩

set_option maxHeartbeats 2000000 in
theorem eqI_more (s t : Option Addr) (c d : Nat) (R : List Int) (B C : Nat) (w : World) (hs : Els 1 cInt w B s R) (ht : Els 1 cInt w C t R) (hl : R.length ≤ 4398046511104) :
    Calls Try.prog 20 #[.slice s R.length c, .slice t R.length d] w fun e w' => e = .returned (.bool true) ∧ Below w.heap.size w w' := by
  have H1 : Hid (Els 1 cInt w B s R) := hs
  have H2 : Hid (Els 1 cInt w C t R) := ht
  clear hs ht
  go_enter Try.func20, Try.ntmps20
  go_wp2
  go_loopw [5] (fun i wr => ∃ k : Nat, k ≤ R.length ∧ i = .int .i64 k ∧ Hid (Below w.heap.size w wr)) (fun i _ => R.length - (intOf i).toNat)
  case atStart => exact ⟨0, Nat.zero_le _, rfl, Below.refl _ _⟩
  case round =>
    obtain ⟨k, hk, rfl, hbel⟩ := hrel
    by_cases hlt : k < R.length
    · obtain ⟨x, hx⟩ := get_some hlt
      obtain ⟨b, o, rfl, _, hb, d1⟩ := eInt_cells (H1.out.later cInt_keeps hbel.out) hx
      obtain ⟨b2, o2, rfl, _, hb2, d2⟩ := eInt_cells (H2.out.later cInt_keeps hbel.out) hx
      have g : (x != x) = false := by simp
      clear hx
      go_wp2
      go_region
      go_wp2
      go_roundw
      case rel => exact ⟨k + 1, by omega, by go_num, bl_drewN hbel.out _⟩
      case measure => simp [intOf]; omega
    · go_wp2
      go_ret
      exact ⟨rfl, hbel.out⟩
end Go.Proofs.Ytofpkbnocbmgkaa
