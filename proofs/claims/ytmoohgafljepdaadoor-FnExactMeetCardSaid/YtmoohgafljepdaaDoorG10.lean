import Derived.Test.YtmoohgafljepdaaDoorG7
import Derived.Test.YtmoohgafljepdaaDoorG9
namespace Go.Proofs.YtmoohgafljepdaaDoor
open Go.RowKit
set_option linter.unusedVariables false
set_option linter.unusedSimpArgs false

/-- a row of flags of the call's own. -/
def Fl (w : World) (B sb n : Nat) (f : Nat → Bool) : Prop := w.ownsRow B 4 1 (.slice (some ⟨sb, 0, none⟩) n n) n ((List.range n).map fun i => Value.bool (f i))
theorem Fl.congr {w : World} {B sb n : Nat} {f g : Nat → Bool} (h : Fl w B sb n f) (e : ∀ i, i < n → f i = g i) : Fl w B sb n g := by
  unfold Fl at h ⊢
  rw [List.map_congr_left (g := fun i => Value.bool (f i)) (fun i hi => by rw [e i (by simpa using hi)])]
  exact h
theorem Fl.new {w : World} {B sb n : Nat} (h : w.ownsRow B 4 1 (.slice (some ⟨sb, 0, none⟩) n n) n (List.replicate n (.bool false))) : Fl w B sb n fun _ => false := by
  unfold Fl
  rw [List.map_const', List.length_range]; exact h
theorem Fl.cell {w : World} {B sb n : Nat} {f : Nat → Bool} (h : Fl w B sb n f) {p : Nat} (hp : p < n) : w.cell? ⟨sb, p, none⟩ = some (.bool (f p)) ∧ w.frozen? ⟨sb, p, none⟩ = false := by
  refine ⟨?_, World.ownsRow.frozenAt h p⟩
  rw [World.ownsRow.cellAt h p (by omega)]
  simp [hp]
theorem Fl.set {w : World} {B sb n : Nat} {f : Nat → Bool} (h : Fl w B sb n f) {p : Nat} (hp : p < n) (b : Bool) : Fl (w.setCell ⟨sb, p, none⟩ (.bool b)) B sb n fun i => if i = p then b else f i := by
  have := (World.ownsRow.stored h p (.bool b)).1
  unfold Fl
  have e : ((List.range n).map fun i => Value.bool (f i)).set p (.bool b) = (List.range n).map fun i => Value.bool (if i = p then b else f i) := by
    apply List.ext_getElem?
    intro j
    rw [List.getElem?_set]
    by_cases hj : j < n
    · by_cases e : p = j
      · subst e; simp [hp]
      · simp [e, hj, Ne.symm e]
    · by_cases e : p = j
      · subst e; omega
      · simp [e, hj]
  rw [← e]; exact this
theorem Fl.lt {w : World} {B sb n : Nat} {f : Nat → Bool} (h : Fl w B sb n f) : B ≤ sb ∧ sb < w.heap.size := World.ownsRow.lt h sb rfl
theorem Fl.later {w w' : World} {B sb n : Nat} {f : Nat → Bool} (h : Fl w B sb n f) (hb : Below w.heap.size w w') : Fl w' B sb n f := by
  refine World.ownsRow.kept h (grown_of_below hb) (Or.inr (by simp [Value.ownBlock]))
theorem Fl.other {w : World} {B sb n : Nat} {f : Nat → Bool} (h : Fl w B sb n f) {m : Nat} (hm : ¬ sb = m) (o : Nat) (u : Value) : Fl (w.setCell ⟨m, o, none⟩ u) B sb n f := by
  refine ⟨h.1, ?_⟩
  rcases h.2 with h' | ⟨g, cap, cur, h', hB, hg, r⟩
  · exact Or.inl h'
  · simp only [Value.slice.injEq, Option.some.injEq, Addr.mk.injEq, and_true, true_and] at h'
    obtain ⟨rfl, rfl⟩ := h'
    exact Or.inr ⟨_, _, cur, rfl, hB, by rw [Below.heap_setCell _ _ _ _ hm]; exact hg, r⟩

/-- all ends of edges lie below n. -/
def Inn (n : Nat) (L : List (Int × Int)) : Prop := ∀ e ∈ L, (0 ≤ e.1 ∧ e.1 < n) ∧ 0 ≤ e.2 ∧ e.2 < n
theorem Inn.sup {n : Nat} {L : List (Int × Int)} (h : Inn n L) : Sup (eR L) n := by
  intro i j hij
  have := h _ (of_decide_eq_true hij)
  simp at this; omega
/-- who can be come to from f by one of the edges. -/
def nxt (L : List (Int × Int)) (f : Nat → Bool) (y : Nat) : Bool := L.any fun e => f e.1.toNat && decide (e.2 = (y : Int))
theorem nxt_rch {n : Nat} {L : List (Int × Int)} (h : Inn n L) (a d y : Nat) : nxt L (rch (eR L) n a d) y = rch (eR L) n a (d + 1) y := by
  rw [Bool.eq_iff_iff]
  simp only [nxt, rch, List.any_eq_true, Bool.and_eq_true, decide_eq_true_eq, List.mem_range, eR]
  constructor
  · rintro ⟨⟨p, q⟩, he, h1, h2⟩
    have := h _ he
    simp at this h1 h2
    subst h2
    refine ⟨p.toNat, by omega, h1, ?_⟩
    rw [show ((p.toNat : Nat) : Int) = p by omega]; exact he
  · rintro ⟨x, _, h1, h2⟩
    exact ⟨_, h2, by simpa using h1, rfl⟩
theorem nxt_snoc (L : List (Int × Int)) (f : Nat → Bool) (p q y : Nat) : nxt (L ++ [((p : Int), (q : Int))]) f y = (nxt L f y || (f p && decide (y = q))) := by
  unfold nxt
  rw [List.any_append]
  simp only [List.any_cons, List.any_nil, Bool.or_false, Int.toNat_natCast]
  have : decide (((q : Nat) : Int) = (y : Int)) = decide (y = q) := by simp; omega
  rw [this]

end Go.Proofs.YtmoohgafljepdaaDoor
