import Derived.Test.YtknallkcengbbaaGreatDoorEb
import Derived.Test.YtknallkcengbbaaGreatDoorBk
namespace Go.Proofs.YtknallkcengbbaaGreatDoor
open Go.RowKit
set_option linter.unusedVariables false

theorem Row.mono {w : World} {B B' : Nat} {sl : Option Addr} {n cap : Nat} {G : List Int} (h : Row w B sl n cap G) (hB : B' ≤ B) : Row w B' sl n cap G := by
  refine ⟨h.1, ?_⟩
  rcases h.2 with h' | ⟨g, cap', cur, h', hb, r⟩
  · exact Or.inl h'
  · exact Or.inr ⟨g, cap', cur, h', Nat.le_trans hB hb, r⟩

theorem Row.later {w w' : World} {B : Nat} {sl : Option Addr} {n cap : Nat} {G : List Int} (h : Row w B sl n cap G) (hb : Below w.heap.size w w') : Row w' B sl n cap G := by
  refine ⟨h.1, ?_⟩
  rcases h.2 with h' | ⟨g, cap', cur, h', hB, hg, r⟩
  · exact Or.inl h'
  · exact Or.inr ⟨g, cap', cur, h', hB, by rw [hb.block g (Array.getElem?_eq_some_iff.1 hg).1]; exact hg, r⟩

theorem Row.other {w : World} {B b : Nat} {g n cap : Nat} {G : List Int} (h : Row w B (some ⟨g, 0, none⟩) n cap G) (hb : ¬ g = b) (o : Nat) (u : Value) : Row (w.setCell ⟨b, o, none⟩ u) B (some ⟨g, 0, none⟩) n cap G := by
  refine ⟨h.1, ?_⟩
  rcases h.2 with h' | ⟨g', cap', cur, h', hB, hg, r⟩
  · exact Or.inl h'
  · simp only [Value.slice.injEq, Option.some.injEq, Addr.mk.injEq, and_true, true_and] at h'
    obtain ⟨rfl, rfl⟩ := h'
    exact Or.inr ⟨g, cap, cur, rfl, hB, by rw [Below.heap_setCell _ _ _ _ hb]; exact hg, r⟩

theorem Row.lt {w : World} {B : Nat} {g n cap : Nat} {G : List Int} (h : Row w B (some ⟨g, 0, none⟩) n cap G) : B ≤ g ∧ g < w.heap.size := by
  rcases h.2 with ⟨h', _⟩ | ⟨g', cap', cur, h', hB, hg, r⟩
  · simp at h'
  · simp only [Value.slice.injEq, Option.some.injEq, Addr.mk.injEq, and_true, true_and] at h'
    obtain ⟨rfl, rfl⟩ := h'
    exact ⟨hB, (Array.getElem?_eq_some_iff.1 hg).1⟩

theorem Ints.alloc {w : World} {sl : Option Addr} {G : List Int} (h : Ints w sl G) (o : Obj) : Ints (w.alloc o) sl G := h.later (bl_alloc (Below.refl _ w) o)

theorem bcell2 {W w1 : World} (hb : Below W.heap.size W w1) : (∀ b o, (W.cell? ⟨b, o, none⟩).isSome = true → w1.cell? ⟨b, o, none⟩ = W.cell? ⟨b, o, none⟩) ∧ (∀ b o, (W.cell? ⟨b, o, none⟩).isSome = true → w1.frozen? ⟨b, o, none⟩ = W.frozen? ⟨b, o, none⟩) := by
  refine ⟨fun b o h => ?_, fun b o h => ?_⟩
  · obtain ⟨v, hv⟩ := Option.isSome_iff_exists.1 h
    exact hb.cell (p := ⟨b, o, none⟩) (World.block_lt_of_cell? _ _ hv)
  · obtain ⟨v, hv⟩ := Option.isSome_iff_exists.1 h
    exact hb.frozen (p := ⟨b, o, none⟩) (World.block_lt_of_cell? _ _ hv)
theorem alloc_old (W : World) (ob : Obj) (b o : Nat) (h : (W.cell? ⟨b, o, none⟩).isSome = true) : (W.alloc ob).cell? ⟨b, o, none⟩ = W.cell? ⟨b, o, none⟩ :=
  (bcell2 (bl_alloc (Below.refl _ W) ob)).1 b o h
theorem alloc_oldf (W : World) (ob : Obj) (b o : Nat) (h : (W.cell? ⟨b, o, none⟩).isSome = true) : (W.alloc ob).frozen? ⟨b, o, none⟩ = W.frozen? ⟨b, o, none⟩ :=
  (bcell2 (bl_alloc (Below.refl _ W) ob)).2 b o h

theorem cell3 (w : World) (c : Array Value) (t : TypeId) (o1 o2 : Obj) (i : Nat) : (((w.alloc (.cells c t)).alloc o1).alloc o2).cell? ⟨w.heap.size, i, none⟩ = c[i]? := by
  rw [World.cell?_alloc_lt _ _ _ (by simp; omega), World.cell?_alloc_lt _ _ _ (by simp), World.cell?_alloc_new]

/-- two rows of the call's own, apart. -/
def Rows2 (w : World) (B : Nat) (g f : Nat) (G F : List Int) : Prop :=
  Row w B (some ⟨g, 0, none⟩) G.length G.length G ∧ Row w B (some ⟨f, 0, none⟩) F.length F.length F ∧ ¬ g = f
theorem Rows2.later {w w' : World} {B g f : Nat} {G F : List Int} (h : Rows2 w B g f G F) (hb : Below w.heap.size w w') : Rows2 w' B g f G F := ⟨h.1.later hb, h.2.1.later hb, h.2.2⟩
theorem Rows2.mono {w : World} {B B' g f : Nat} {G F : List Int} (h : Rows2 w B g f G F) (hB : B' ≤ B) : Rows2 w B' g f G F := ⟨h.1.mono hB, h.2.1.mono hB, h.2.2⟩

theorem ext_getD {A B : List Int} (hl : A.length = B.length) (h : ∀ j, j < A.length → A[j]?.getD 0 = B[j]?.getD 0) : A = B := by
  apply List.ext_getElem hl
  intro j h1 h2
  have := h j h1
  simpa [h1, h2] using this

set_option maxHeartbeats 2000000 in
theorem eqInts_any (sA sB : Option Addr) (cA cB : Nat) (A B : List Int) (w : World) (hA : Ints w sA A) (hB : Ints w sB B) (l1 : A.length ≤ 1048576) :
    Calls Tryz.prog 14 #[.slice sA A.length cA, .slice sB B.length cB] w fun e w' => e = .returned (.bool (decide (A = B))) ∧ Below w.heap.size w w' := by
  by_cases hl : A.length = B.length
  · go_enter Tryz.func14, Tryz.ntmps14
    go_wp2
    go_loopw [5] (fun i wr => ∃ k : Nat, k ≤ A.length ∧ i = .int .i64 k ∧ Hid (∀ j, j < k → A[j]?.getD 0 = B[j]?.getD 0) ∧ Hid (Below w.heap.size w wr)) (fun i _ => A.length - (intOf i).toNat)
    case atStart => exact ⟨0, Nat.zero_le _, rfl, fun j hj => absurd hj (by omega), Below.refl _ _⟩
    case round =>
      obtain ⟨k, hk, rfl, hall, hbel⟩ := hrel
      by_cases hlt : k < A.length
      · obtain ⟨pb, po, rfl, hp, hc⟩ := hA.get hlt
        obtain ⟨qb, qo, rfl, hq, hd⟩ := hB.get (k := k) (by omega)
        obtain ⟨x, hx⟩ : ∃ x, Hid (A[k]?.getD 0 = x) := ⟨_, rfl⟩
        obtain ⟨y, hy⟩ : ∃ x, Hid (B[k]?.getD 0 = x) := ⟨_, rfl⟩
        have d1 : wr.cell? ⟨pb, po + k, none⟩ = some (.int .i64 x) := by rw [← hx.out]; exact (hbel.out.cell (p := ⟨pb, po + k, none⟩) hp).trans (hc k hlt)
        have d2 : wr.cell? ⟨qb, qo + k, none⟩ = some (.int .i64 y) := by rw [← hy.out]; exact (hbel.out.cell (p := ⟨qb, qo + k, none⟩) hq).trans (hd k (by omega))
        have hlt' : k < B.length := by omega
        clear hc hd hA hB
        by_cases he : x = y
        · have g : (x != y) = false := by simp [he]
          have hstep : Hid (∀ j, j < k + 1 → A[j]?.getD 0 = B[j]?.getD 0) := fun j hj => by
            by_cases h : j < k
            · exact hall.out j h
            · have : j = k := by omega
              subst this; rw [hx.out, hy.out, he]
          clear he hx hy
          go_wp2
          go_region
          go_wp2
          go_roundw
          case rel => exact ⟨k + 1, by omega, by go_num, hstep, bl_drewN hbel.out _⟩
          case measure => simp [intOf]; omega
        · have g : (x != y) = true := by simp [he]
          have hne : Hid (decide (A = B) = false) := by
            simp only [Hid, decide_eq_false_iff_not]
            intro h
            apply he
            rw [← hx.out, ← hy.out, h]
          clear he hx hy
          go_wp2
          go_region
          go_wp2
          go_ret
          exact ⟨ret_bool' hne.out.symm, bl_drewN hbel.out _⟩
      · have hk' : k = A.length := by omega
        have hlt' : ¬ k < B.length := by omega
        have he : Hid (decide (A = B) = true) := by
          simp only [Hid, decide_eq_true_eq]
          exact ext_getD hl (fun j hj => hall.out j (by omega))
        clear hk'
        go_wp2
        go_ret
        exact ⟨ret_bool' he.out.symm, hbel.out⟩
  · have hne : Hid (decide (A = B) = false) := by
      simp only [Hid, decide_eq_false_iff_not]
      intro h; exact hl (by rw [h])
    have g : ((A.length : Int) != (B.length : Int)) = true := by simp; omega
    clear hl
    go_enter Tryz.func14, Tryz.ntmps14
    go_wp2
    go_ret
    exact ⟨ret_bool' hne.out.symm, Below.refl _ _⟩
end Go.Proofs.YtknallkcengbbaaGreatDoor
