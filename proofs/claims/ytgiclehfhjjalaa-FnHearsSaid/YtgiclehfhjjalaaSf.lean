import Derived.Test.YtgiclehfhjjalaaSe
namespace Go.Proofs.Ytgiclehfhjjalaa
open Go.RowKit
set_option linter.unusedVariables false
set_option linter.unusedSimpArgs false

/-- two lists share no block. -/
def Ap (v u : Value) : Prop := ∀ g, v.ownBlock = some g → ¬ u.ownBlock = some g
/-- nothing turns but blocks from B on, and of what was there the two lists' own. -/
def Just2 (v u : Value) (B : Nat) (w w' : World) : Prop := Below B w w' ∧ ∀ k, ¬ v.ownBlock = some k → ¬ u.ownBlock = some k → k < w.heap.size → w'.heap[k]? = w.heap[k]?
theorem OV.same {w w' : World} {B : Nat} {u : Value} {L : List V4} (h : OV w B u L) (hs : ∀ g, u.ownBlock = some g → g < w.heap.size → w'.heap[g]? = w.heap[g]?) : OV w' B u L := by
  refine ⟨h.1, ?_⟩
  rcases h.2 with h' | ⟨g, cap', cur, h', hb', hg, r⟩
  · exact Or.inl h'
  · refine Or.inr ⟨g, cap', cur, h', hb', ?_, r⟩
    subst h'
    exact (hs g rfl (Array.getElem?_eq_some_iff.1 hg).1).trans hg
theorem OV.just {w w' : World} {B C : Nat} {v u : Value} {L : List V4} (h : OV w B u L) (hj : Just v C w w') (ha : Ap v u) : OV w' B u L :=
  h.same fun g hg hl => hj.2 g (fun e => ha g e hg) hl
theorem OV.lt {w : World} {B : Nat} {v : Value} {L : List V4} (h : OV w B v L) : ∀ g, v.ownBlock = some g → B ≤ g ∧ g < w.heap.size := World.ownsRow.lt h

set_option maxHeartbeats 2000000 in
theorem markStream_any (f : Int) (B : Nat) (s1 s2 : Option Addr) (c1 c2 : Nat) (O N : List V4) (k : Int) (w : World) (h1 : OV w B (.slice s1 O.length c1) O) (h2 : OV w B (.slice s2 N.length c2) N) (hap : Ap (.slice s1 O.length c1) (.slice s2 N.length c2)) (hB : B ≤ w.heap.size) (l1 : O.length ≤ 1048576) (l2 : N.length ≤ 1048576) (k0 : 0 ≤ k) (k1 : k ≤ 1) :
    Calls Try.prog 24 #[.agg #[.int .i64 f, .slice s1 O.length c1, .slice s2 N.length c2], .int .i64 k] w fun e w' => e = .returned (.int .i64 (k + 4 * (O.length : Int) + 4 * (N.length : Int))) ∧ OV w' B (.slice s1 O.length c1) (mVs k O.length) ∧ OV w' B (.slice s2 N.length c2) (mVs (k + 4 * (O.length : Int)) N.length) ∧ Just2 (.slice s1 O.length c1) (.slice s2 N.length c2) B w w' := by
  have kb := Blk.new w #[.int .i64 f, .slice s1 O.length c1, .slice s2 N.length c2] 26
  have L0 : Below w.heap.size w (w.alloc (.cells #[.int .i64 f, .slice s1 O.length c1, .slice s2 N.length c2] 26)) := bl_alloc (Below.refl _ _) _
  have n1 : ∀ g, (Value.slice s1 O.length c1).ownBlock = some g → ¬ w.heap.size = g := fun g hg e => by have := (h1.lt g hg).2; omega
  have n2 : ∀ g, (Value.slice s2 N.length c2).ownBlock = some g → ¬ w.heap.size = g := fun g hg e => by have := (h2.lt g hg).2; omega
  replace h1 := h1.later L0
  replace h2 := h2.later L0
  obtain ⟨x0, x1, x2, x3⟩ := kb.three'
  go_enter Try.func24, Try.ntmps24
  go_wp2_with fail
  refine (markV_any B s1 c1 O k _ h1 l1 k0 (by omega)).mono ?_
  rintro e w1 ⟨rfl, g1, j1⟩
  have g2 := h2.just j1 hap
  have kb1 := kb.same (j1.2 _ (fun e => n1 _ e rfl) kb.lt)
  have hap' : Ap (.slice s2 N.length c2) (.slice s1 O.length c1) := fun g e1 e2 => hap g e2 e1
  have M0 : Just2 (.slice s1 O.length c1) (.slice s2 N.length c2) B w w1 := ⟨(L0.mono hB).trans j1.1, fun j e1 _ hl => (j1.2 j e1 (by simp; omega)).trans (L0.block j hl)⟩
  have hs1 := j1.1.size
  rw [World.size_alloc] at hs1
  clear x0 x1 x2 x3 kb h1 h2 j1 L0
  obtain ⟨x0, x1, x2, x3⟩ := kb1.three'
  clear kb1
  go_wp2_with fail
  refine (markV_any B s2 c2 N (k + 4 * (O.length : Int)) _ g2 (by omega) (by omega) (by omega)).mono ?_
  rintro e w2 ⟨rfl, g3, j2⟩
  go_wp2_with fail
  go_ret
  refine ⟨rfl, g1.just j2 hap', g3, M0.1.trans j2.1, fun j e1 e2 hl => (j2.2 j e2 (by omega)).trans (M0.2 j e1 e2 hl)⟩

set_option maxHeartbeats 2000000 in
theorem heldStream_any (f : Int) (B : Nat) (s1 s2 : Option Addr) (n1 n2 c1 c2 : Nat) (k : Int) (w : World) (h1 : OV w B (.slice s1 n1 c1) (mVs k n1)) (h2 : OV w B (.slice s2 n2 c2) (mVs (k + 4 * (n1 : Int)) n2)) (l1 : n1 ≤ 1048576) (l2 : n2 ≤ 1048576) (k0 : 0 ≤ k) (k1 : k ≤ 1) :
    Calls Try.prog 25 #[.agg #[.int .i64 f, .slice s1 n1 c1, .slice s2 n2 c2], .int .i64 k] w fun e w' => e = .returned (.int .i64 (k + 4 * (n1 : Int) + 4 * (n2 : Int))) ∧ Below w.heap.size w w' := by
  have kb := Blk.new w #[.int .i64 f, .slice s1 n1 c1, .slice s2 n2 c2] 26
  have L0 : Below w.heap.size w (w.alloc (.cells #[.int .i64 f, .slice s1 n1 c1, .slice s2 n2 c2] 26)) := bl_alloc (Below.refl _ _) _
  replace h1 := h1.later L0
  replace h2 := h2.later L0
  obtain ⟨x0, x1, x2, x3⟩ := kb.three'
  have t1 : decide (k + 4 * (n1 : Int) < 0) = false := by simp; omega
  have t2 : decide (k + 4 * (n1 : Int) + 4 * (n2 : Int) < 0) = false := by simp; omega
  have b1 : k + 4 * (n1 : Int) ≤ 100000000 := by omega
  have b2 : k + 4 * (n1 : Int) + 4 * (n2 : Int) ≤ 100000000 := by omega
  have b3 : 0 ≤ k + 4 * (n1 : Int) := by omega
  go_enter Try.func25, Try.ntmps25
  go_wp2_with fail
  refine (heldV_any B s1 n1 c1 k _ h1 k0 b1).mono ?_
  rintro e w1 ⟨rfl, rfl⟩
  go_wp2_with fail
  refine (heldV_any B s2 n2 c2 (k + 4 * (n1 : Int)) _ h2 b3 b2).mono ?_
  rintro e w1 ⟨rfl, rfl⟩
  go_wp2_with fail
  go_ret
  exact ⟨rfl, L0⟩

set_option maxHeartbeats 1000000 in
theorem firstBehind_any (f : Int) (s1 s2 : Option Addr) (n1 n2 c1 c2 : Nat) (w : World) (h1 : n1 ≤ 1048576) :
    Calls Try.prog 34 #[.agg #[.int .i64 f, .slice s1 n1 c1, .slice s2 n2 c2]] w fun e w' => e = .returned (.int .i64 (fb f n1)) ∧ Below w.heap.size w w' := by
  have L0 : Below w.heap.size w (w.alloc (.cells #[.int .i64 f, .slice s1 n1 c1, .slice s2 n2 c2] 26)) := bl_alloc (Below.refl _ _) _
  obtain ⟨x0, x1, x2, x3⟩ := (Blk.new w #[.int .i64 f, .slice s1 n1 c1, .slice s2 n2 c2] 26).three'
  have tw : IntKind.i64.wrap (1000000000000 - (n1 : Int)) = 1000000000000 - (n1 : Int) := by rw [IntKind.wrap_i64]; omega
  by_cases h : f < 0
  · have E : Hid (0 = fb f n1) := by simp [Hid, fb]; omega
    go_enter Try.func34, Try.ntmps34
    go_wp2_with fail
    go_ret
    exact ⟨ret_int' E.out, L0⟩
  · by_cases h2 : 1000000000000 - (n1 : Int) < f
    · have E : Hid (0 = fb f n1) := by simp [Hid, fb]; omega
      go_enter Try.func34, Try.ntmps34
      go_wp2_with fail
      go_ret
      exact ⟨ret_int' E.out, L0⟩
    · have E : Hid (f + (n1 : Int) = fb f n1) := by simp [Hid, fb]; omega
      have tw2 : IntKind.i64.wrap (f + (n1 : Int)) = f + (n1 : Int) := by rw [IntKind.wrap_i64]; omega
      go_enter Try.func34, Try.ntmps34
      go_wp2_with fail
      go_ret
      exact ⟨ret_int' E.out, L0⟩
end Go.Proofs.Ytgiclehfhjjalaa
