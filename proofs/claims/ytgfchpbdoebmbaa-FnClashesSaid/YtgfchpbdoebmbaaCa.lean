import Derived.Test.YtgfchpbdoebmbaaTb
namespace Go.Proofs.Ytgfchpbdoebmbaa
open Go.RowKit
set_option linter.unusedVariables false
set_option linter.unusedSimpArgs false

/-- a cell: its column and its value. -/
abbrev C5 := Int × V4
/-- a command. -/
structure Cm where
  kind : Int
  who : E2
  comp : Int
  val : V4
  list : List C5
def ccells (c : C5) : List Value := [.int .i64 c.1, .int .i64 c.2.1, .int .i64 c.2.2.1, .float .f64 c.2.2.2.1, .float .f64 c.2.2.2.2]
def cCell (w : World) (B : Nat) (cs : List Value) (c : C5) : Prop := cs = ccells c ∧ okV c.2
def cCmd (w : World) (B : Nat) (cs : List Value) (c : Cm) : Prop := ∃ s cap, cs = [.int .i64 c.kind, .int .i64 c.who.1, .int .i64 c.who.2, .int .i64 c.comp, .int .i64 c.val.1, .int .i64 c.val.2.1, .float .f64 c.val.2.2.1, .float .f64 c.val.2.2.2, .slice s c.list.length cap] ∧ okV c.val ∧ Els 5 cCell w B s c.list
theorem cCell_keeps : KeepsE cCell := fun _ _ _ _ _ _ h => h
theorem cCell_drops : DropsE cCell := fun _ _ _ _ _ _ h => h
theorem cCmd_keeps : KeepsE cCmd := fun _ _ _ _ _ hk ⟨s, c, e, o, h⟩ => ⟨s, c, e, o, h.kept cCell_keeps hk⟩
theorem cCmd_drops : DropsE cCmd := fun _ _ _ _ _ hB ⟨s, c, e, o, h⟩ => ⟨s, c, e, o, h.drop cCell_drops hB⟩
theorem eCell_cells {w : World} {B : Nat} {s : Option Addr} {L : List C5} (h : Els 5 cCell w B s L) {j : Nat} {a : C5} (ha : L[j]? = some a) :
    ∃ b o, s = some ⟨b, o, none⟩ ∧ B ≤ b ∧ b < w.heap.size ∧ okV a.2 ∧ w.cell? ⟨b, o + j * 5, none⟩ = some (.int .i64 a.1) ∧ w.cell? ⟨b, o + j * 5 + 1, none⟩ = some (.int .i64 a.2.1) ∧ w.cell? ⟨b, o + j * 5 + 2, none⟩ = some (.int .i64 a.2.2.1) ∧ w.cell? ⟨b, o + j * 5 + 3, none⟩ = some (.float .f64 a.2.2.2.1) ∧ w.cell? ⟨b, o + j * 5 + 4, none⟩ = some (.float .f64 a.2.2.2.2) := by
  rcases h with rfl | ⟨b, o, rfl, h1, h2, h3, hz⟩
  · simp at ha
  · obtain ⟨cs, e1, e2, e3, e4⟩ := h3 j a ha
    subst e3
    exact ⟨b, o, rfl, h1, h2, e4, e2 0 _ rfl, e2 1 _ rfl, e2 2 _ rfl, e2 3 _ rfl, e2 4 _ rfl⟩
theorem eCmd_cells {w : World} {B : Nat} {s : Option Addr} {L : List Cm} (h : Els 9 cCmd w B s L) {j : Nat} {c : Cm} (ha : L[j]? = some c) :
    ∃ b o, s = some ⟨b, o, none⟩ ∧ B ≤ b ∧ b < w.heap.size ∧ okV c.val ∧ ∃ s' c', w.cell? ⟨b, o + j * 9, none⟩ = some (.int .i64 c.kind) ∧ w.cell? ⟨b, o + j * 9 + 1, none⟩ = some (.int .i64 c.who.1) ∧ w.cell? ⟨b, o + j * 9 + 2, none⟩ = some (.int .i64 c.who.2) ∧ w.cell? ⟨b, o + j * 9 + 3, none⟩ = some (.int .i64 c.comp) ∧
      w.cell? ⟨b, o + j * 9 + 4, none⟩ = some (.int .i64 c.val.1) ∧ w.cell? ⟨b, o + j * 9 + 5, none⟩ = some (.int .i64 c.val.2.1) ∧ w.cell? ⟨b, o + j * 9 + 6, none⟩ = some (.float .f64 c.val.2.2.1) ∧ w.cell? ⟨b, o + j * 9 + 7, none⟩ = some (.float .f64 c.val.2.2.2) ∧ w.cell? ⟨b, o + j * 9 + 8, none⟩ = some (.slice s' c.list.length c') ∧ Els 5 cCell w B s' c.list := by
  rcases h with rfl | ⟨b, o, rfl, h1, h2, h3, hz⟩
  · simp at ha
  · obtain ⟨cs, e1, e2, s', c', rfl, e4, e5⟩ := h3 j c ha
    exact ⟨b, o, rfl, h1, h2, e4, s', c', e2 0 _ rfl, e2 1 _ rfl, e2 2 _ rfl, e2 3 _ rfl, e2 4 _ rfl, e2 5 _ rfl, e2 6 _ rfl, e2 7 _ rfl, e2 8 _ rfl, e5⟩

def mCs (L : List Cm) : Prop := L.length ≤ 9223372036854775807 ∧ ∀ c ∈ L, c.list.length ≤ 9223372036854775807
def kCs (L : List Cm) : Prop := L.length ≤ 1048576 ∧ ∀ c ∈ L, c.list.length ≤ 1048576

end Go.Proofs.Ytgfchpbdoebmbaa
