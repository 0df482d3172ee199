import Derived.Test.YtofpkbnocbmgkaaTb
namespace Go.Proofs.Ytofpkbnocbmgkaa
open Go.RowKit
set_option linter.unusedVariables false
set_option linter.unusedSimpArgs false

/-- a cell: its column and its value. -/
abbrev C5 := Int × V4
/-- a command. -/
structure Cm where
  kind : Int
  who : E2
  comp : Int
  val : V4
  list : List C5
def ccells (c : C5) : List Value := [.int .i64 c.1, .int .i64 c.2.1, .int .i64 c.2.2.1, .float .f64 c.2.2.2.1, .float .f64 c.2.2.2.2]
def cCell (w : World) (B : Nat) (cs : List Value) (c : C5) : Prop := cs = ccells c ∧ okV c.2
def cCmd (w : World) (B : Nat) (cs : List Value) (c : Cm) : Prop := ∃ s cap, cs = [.int .i64 c.kind, .int .i64 c.who.1, .int .i64 c.who.2, .int .i64 c.comp, .int .i64 c.val.1, .int .i64 c.val.2.1, .float .f64 c.val.2.2.1, .float .f64 c.val.2.2.2, .slice s c.list.length cap] ∧ okV c.val ∧ Els 5 cCell w B s c.list
theorem cCell_keeps : KeepsE cCell := fun _ _ _ _ _ _ h => h
theorem cCell_drops : DropsE cCell := fun _ _ _ _ _ _ h => h
theorem cCmd_keeps : KeepsE cCmd := fun _ _ _ _ _ hk ⟨s, c, e, o, h⟩ => ⟨s, c, e, o, h.kept cCell_keeps hk⟩
theorem cCmd_drops : DropsE cCmd := fun _ _ _ _ _ hB ⟨s, c, e, o, h⟩ => ⟨s, c, e, o, h.drop cCell_drops hB⟩
theorem eCell_cells {w : World} {B : Nat} {s : Option Addr} {L : List C5} (h : Els 5 cCell w B s L) {j : Nat} {a : C5} (ha : L[j]? = some a) :
    ∃ b o, s = some ⟨b, o, none⟩ ∧ B ≤ b ∧ b < w.heap.size ∧ okV a.2 ∧ w.cell? ⟨b, o + j * 5, none⟩ = some (.int .i64 a.1) ∧ w.cell? ⟨b, o + j * 5 + 1, none⟩ = some (.int .i64 a.2.1) ∧ w.cell? ⟨b, o + j * 5 + 2, none⟩ = some (.int .i64 a.2.2.1) ∧ w.cell? ⟨b, o + j * 5 + 3, none⟩ = some (.float .f64 a.2.2.2.1) ∧ w.cell? ⟨b, o + j * 5 + 4, none⟩ = some (.float .f64 a.2.2.2.2) := by
  rcases h with rfl | ⟨b, o, rfl, h1, h2, h3, hz⟩
  · simp at ha
  · obtain ⟨cs, e1, e2, e3, e4⟩ := h3 j a ha
    subst e3
    exact ⟨b, o, rfl, h1, h2, e4, e2 0 _ rfl, e2 1 _ rfl, e2 2 _ rfl, e2 3 _ rfl, e2 4 _ rfl⟩
theorem eCmd_cells {w : World} {B : Nat} {s : Option Addr} {L : List Cm} (h : Els 9 cCmd w B s L) {j : Nat} {c : Cm} (ha : L[j]? = some c) :
    ∃ b o, s = some ⟨b, o, none⟩ ∧ B ≤ b ∧ b < w.heap.size ∧ okV c.val ∧ ∃ s' c', w.cell? ⟨b, o + j * 9, none⟩ = some (.int .i64 c.kind) ∧ w.cell? ⟨b, o + j * 9 + 1, none⟩ = some (.int .i64 c.who.1) ∧ w.cell? ⟨b, o + j * 9 + 2, none⟩ = some (.int .i64 c.who.2) ∧ w.cell? ⟨b, o + j * 9 + 3, none⟩ = some (.int .i64 c.comp) ∧
      w.cell? ⟨b, o + j * 9 + 4, none⟩ = some (.int .i64 c.val.1) ∧ w.cell? ⟨b, o + j * 9 + 5, none⟩ = some (.int .i64 c.val.2.1) ∧ w.cell? ⟨b, o + j * 9 + 6, none⟩ = some (.float .f64 c.val.2.2.1) ∧ w.cell? ⟨b, o + j * 9 + 7, none⟩ = some (.float .f64 c.val.2.2.2) ∧ w.cell? ⟨b, o + j * 9 + 8, none⟩ = some (.slice s' c.list.length c') ∧ Els 5 cCell w B s' c.list := by
  rcases h with rfl | ⟨b, o, rfl, h1, h2, h3, hz⟩
  · simp at ha
  · obtain ⟨cs, e1, e2, s', c', rfl, e4, e5⟩ := h3 j c ha
    exact ⟨b, o, rfl, h1, h2, e4, s', c', e2 0 _ rfl, e2 1 _ rfl, e2 2 _ rfl, e2 3 _ rfl, e2 4 _ rfl, e2 5 _ rfl, e2 6 _ rfl, e2 7 _ rfl, e2 8 _ rfl, e5⟩

set_option maxHeartbeats 1000000 in
theorem szCellS_gen (s : Option Addr) (n c : Nat) (left : Int) (w : World) (h0 : 0 ≤ left) (h1 : left ≤ 1048576) (hn : n ≤ 9223372036854775807) :
    Calls Try.prog 90 #[.slice s n c, .int .i64 left] w fun e w' => Szd left (n ≤ 1048576) e ∧ w' = w := by
  by_cases h : left < n
  · go_enter Try.func90, Try.ntmps90
    go_wp2
    go_ret
    exact ⟨⟨_, rfl, Or.inl rfl⟩, rfl⟩
  · go_enter Try.func90, Try.ntmps90
    go_wp2
    go_ret
    exact ⟨⟨_, rfl, Or.inr ⟨by omega, by omega, by omega⟩⟩, rfl⟩

def mCs (L : List Cm) : Prop := L.length ≤ 9223372036854775807 ∧ ∀ c ∈ L, c.list.length ≤ 9223372036854775807
def kCs (L : List Cm) : Prop := L.length ≤ 1048576 ∧ ∀ c ∈ L, c.list.length ≤ 1048576

set_option maxHeartbeats 2000000 in
theorem szCmd_gen (s : Option Addr) (cap : Nat) (c : Cm) (left : Int) (w : World) (h0 : 0 ≤ left) (h1 : left ≤ 1048576) (hn : c.list.length ≤ 9223372036854775807) :
    Calls Try.prog 56 #[.agg #[.int .i64 c.kind, .int .i64 c.who.1, .int .i64 c.who.2, .int .i64 c.comp, .int .i64 c.val.1, .int .i64 c.val.2.1, .float .f64 c.val.2.2.1, .float .f64 c.val.2.2.2, .slice s c.list.length cap], .int .i64 left] w fun e w' => Szd left (c.list.length ≤ 1048576) e ∧ Below w.heap.size w w' := by
  have k0 := Blk.new w #[.int .i64 c.kind, .int .i64 c.who.1, .int .i64 c.who.2, .int .i64 c.comp, .int .i64 c.val.1, .int .i64 c.val.2.1, .float .f64 c.val.2.2.1, .float .f64 c.val.2.2.2, .slice s c.list.length cap] 111
  have L0 : Below w.heap.size w (w.alloc (.cells #[.int .i64 c.kind, .int .i64 c.who.1, .int .i64 c.who.2, .int .i64 c.comp, .int .i64 c.val.1, .int .i64 c.val.2.1, .float .f64 c.val.2.2.1, .float .f64 c.val.2.2.2, .slice s c.list.length cap] 111)) := bl_alloc (Below.refl _ _) _
  have x8 := k0.cell 8
  go_enter Try.func56, Try.ntmps56
  go_wp2_with fail
  refine (szCellS_gen s _ cap left _ h0 h1 hn).mono ?_
  rintro e w' ⟨⟨r, rfl, hr⟩, rfl⟩
  rcases hr with rfl | ⟨r0, r1, rn⟩
  · go_wp2_with fail
    go_ret
    exact ⟨⟨_, rfl, Or.inl rfl⟩, L0⟩
  · have t1 : decide (r < 0) = false := by simp; omega
    go_wp2_with fail
    go_ret
    exact ⟨⟨_, rfl, Or.inr ⟨r0, r1, rn⟩⟩, L0⟩

set_option maxHeartbeats 2000000 in
theorem szCmdS_gen (s : Option Addr) (c : Nat) (L : List Cm) (B : Nat) (left : Int) (w : World) (hL : Els 9 cCmd w B s L) (hm : mCs L) (h0 : 0 ≤ left) (h1 : left ≤ 1048576) :
    Calls Try.prog 25 #[.slice s L.length c, .int .i64 left] w fun e w' => Szd left (kCs L) e ∧ Below w.heap.size w w' := by
  have tw : IntKind.i64.wrap (left - (L.length : Int)) = left - (L.length : Int) := by have := hm.1; rw [IntKind.wrap_i64]; omega
  by_cases h : (L.length : Int) ≤ left
  · have t1 : decide (left - (L.length : Int) < 0) = false := by simp; omega
    have hl : L.length ≤ 1048576 := by omega
    go_enter Try.func25, Try.ntmps25
    go_wp2_with fail
    clear tw t1
    go_loopw [1, 5] (fun x i wr => ∃ (k : Nat) (r : Int), k ≤ L.length ∧ i = .int .i64 k ∧ x = .int .i64 r ∧ 0 ≤ r ∧ r ≤ left ∧ (∀ j l, j < k → L[j]? = some l → l.list.length ≤ 1048576) ∧ Below w.heap.size w wr) (fun _ i _ => L.length - (intOf i).toNat)
    case atStart => exact ⟨0, _, Nat.zero_le _, rfl, rfl, by omega, by omega, fun j l hj => by omega, Below.refl _ _⟩
    case round =>
      obtain ⟨k, r, hk, rfl, rfl, r0, r1, hq, hb⟩ := hrel
      have HQ : Hid (∀ j l, j < k → L[j]? = some l → l.list.length ≤ 1048576) := hq
      clear hq
      by_cases hlt : k < L.length
      · obtain ⟨t, hl0⟩ := get_some hlt
        obtain ⟨b, o, rfl, hB, hp, ok, s', c', e0, e1, e2, e3, e4, e5, e6, e7, e8, f⟩ := eCmd_cells (hL.later cCmd_keeps hb) hl0
        have hn := hm.2 t (List.mem_of_getElem? hl0)
        have HL : Hid (L[k]? = some t) := hl0
        clear hL hm hl0 ok f
        go_wp2_with fail
        refine (szCmd_gen s' c' t r _ r0 (by omega) hn).mono ?_
        rintro e w2 ⟨⟨q, rfl, hq⟩, hb2⟩
        rcases hq with rfl | ⟨q0, q1, qn⟩
        · go_wp2_with fail
          go_ret
          exact ⟨⟨_, rfl, Or.inl rfl⟩, bl_trans hb hb2⟩
        · have t2 : decide (q < 0) = false := by simp; omega
          go_wp2_with fail
          go_roundw
          case rel =>
            refine ⟨k + 1, q, by omega, by go_num, rfl, q0, by omega, fun j l' hj hl' => ?_, bl_trans hb hb2⟩
            by_cases e : j = k
            · subst e
              have := HL.out
              rw [this] at hl'
              cases hl'
              exact qn
            · exact HQ.out j l' (by omega) hl'
          case measure => simp [intOf]; omega
      · go_wp2_with fail
        go_ret
        refine ⟨⟨_, rfl, Or.inr ⟨r0, r1, hl, fun l hl' => ?_⟩⟩, hb⟩
        obtain ⟨j, hj, rfl⟩ := List.getElem_of_mem hl'
        exact HQ.out j _ (by omega) (by simp [hj])
  · have t1 : decide (left - (L.length : Int) < 0) = true := by simp; omega
    go_enter Try.func25, Try.ntmps25
    go_wp2_with fail
    go_ret
    exact ⟨⟨_, rfl, Or.inl rfl⟩, Below.refl _ _⟩
end Go.Proofs.Ytofpkbnocbmgkaa
