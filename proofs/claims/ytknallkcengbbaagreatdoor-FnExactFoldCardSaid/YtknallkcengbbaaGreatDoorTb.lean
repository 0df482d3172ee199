import Derived.Test.YtknallkcengbbaaGreatDoorTa
namespace Go.Proofs.YtknallkcengbbaaGreatDoor
open Go.RowKit
set_option linter.unusedVariables false
set_option linter.unusedSimpArgs false

/-- what a look at sizes tells. -/
def Szd (left : Int) (p : Prop) (e : Ending) : Prop := ∃ r : Int, e = .returned (.int .i64 r) ∧ (r = -1 ∨ (0 ≤ r ∧ r ≤ left ∧ p))

theorem szInts_gen (s : Option Addr) (n c : Nat) (left : Int) (w : World) (h0 : 0 ≤ left) (h1 : left ≤ 1048576) (hn : n ≤ 9223372036854775807) :
    Calls Tryz.prog 18 #[.slice s n c, .int .i64 left] w fun e w' => Szd left (n ≤ 1048576) e ∧ w' = w := by
  by_cases h : left < n
  · exact (szInts_neg s n c left w h0 h1 hn h).mono fun e w' ⟨he, hw⟩ => ⟨⟨_, he, Or.inl rfl⟩, hw⟩
  · exact (szInts_pos s n c left w h0 h1 hn h).mono fun e w' ⟨he, hw⟩ => ⟨⟨_, he, Or.inr ⟨by omega, by omega, by omega⟩⟩, hw⟩

/-- how long lists are. -/
def mLL (L : List (List V4)) : Prop := L.length ≤ 9223372036854775807 ∧ ∀ l ∈ L, l.length ≤ 9223372036854775807
def mTab (t : Tab) : Prop := t.cols.length ≤ 9223372036854775807 ∧ t.rows.length ≤ 9223372036854775807 ∧ mLL t.cells
def mTabs (L : List Tab) : Prop := L.length ≤ 9223372036854775807 ∧ ∀ t ∈ L, mTab t
def kLL (L : List (List V4)) : Prop := L.length ≤ 1048576 ∧ ∀ l ∈ L, l.length ≤ 1048576
def kTab (t : Tab) : Prop := t.cols.length ≤ 1048576 ∧ t.rows.length ≤ 1048576 ∧ kLL t.cells
def kTabs (L : List Tab) : Prop := L.length ≤ 1048576 ∧ ∀ t ∈ L, kTab t
def mW (W : Wd) : Prop := W.gens.length ≤ 9223372036854775807 ∧ W.free.length ≤ 9223372036854775807 ∧ mTabs W.tabs ∧ W.res.length ≤ 9223372036854775807
def kW (W : Wd) : Prop := W.gens.length ≤ 1048576 ∧ W.free.length ≤ 1048576 ∧ kTabs W.tabs ∧ W.res.length ≤ 1048576
theorem get_some {α : Type} {L : List α} {k : Nat} (h : k < L.length) : ∃ a, L[k]? = some a := ⟨L[k], by simp [h]⟩

/-- a world in memory: its value, and what it reads. -/
def wv (a1 a2 a3 a4 : Option Addr) (c1 c2 c3 c4 : Nat) (W : Wd) : Array Value := #[.slice a1 W.gens.length c1, .slice a2 W.free.length c2, .slice a3 W.tabs.length c3, .slice a4 W.res.length c4]
structure InW (w : World) (B : Nat) (a1 a2 a3 a4 : Option Addr) (W : Wd) : Prop where
  g : Els 1 cInt w B a1 W.gens
  f : Els 1 cInt w B a2 W.free
  t : Els 3 cTab w B a3 W.tabs
  r : Els 4 cVal w B a4 W.res
theorem InW.kept {w w' : World} {B : Nat} {a1 a2 a3 a4 : Option Addr} {W : Wd} (h : InW w B a1 a2 a3 a4 W) (hk : Kept B w w') : InW w' B a1 a2 a3 a4 W :=
  ⟨h.g.kept cInt_keeps hk, h.f.kept cInt_keeps hk, h.t.kept cTab_keeps hk, h.r.kept cVal_keeps hk⟩
theorem InW.later {w w' : World} {B : Nat} {a1 a2 a3 a4 : Option Addr} {W : Wd} (h : InW w B a1 a2 a3 a4 W) (hb : Below w.heap.size w w') : InW w' B a1 a2 a3 a4 W := h.kept (Kept.of hb B)
theorem InW.drop {w : World} {B B' : Nat} {a1 a2 a3 a4 : Option Addr} {W : Wd} (h : InW w B a1 a2 a3 a4 W) (hB : B' ≤ B) : InW w B' a1 a2 a3 a4 W :=
  ⟨h.g.drop cInt_drops hB, h.f.drop cInt_drops hB, h.t.drop cTab_drops hB, h.r.drop cVal_drops hB⟩

end Go.Proofs.YtknallkcengbbaaGreatDoor
