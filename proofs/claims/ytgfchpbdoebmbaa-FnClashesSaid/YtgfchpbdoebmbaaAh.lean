import Derived.Test.YtgfchpbdoebmbaaQh
import Derived.Test.YtgfchpbdoebmbaaAb
import Derived.Shelf.Spec.SlicesGrow
namespace Go.Proofs
open Go.Shelf
shelf_lay_g Lays8.n4 Nm8 4 at Try 51 as Try.laysGrowI
end Go.Proofs
namespace Go.Proofs.Ytgfchpbdoebmbaa
open Go.RowKit
set_option linter.unusedVariables false
set_option linter.unusedSimpArgs false

/-- a list of lists of ints, in memory. -/
def cIs (w : World) (B : Nat) (cs : List Value) (L : List Int) : Prop := ∃ s c, cs = [.slice s L.length c] ∧ Els 1 cInt w B s L
theorem cIs_keeps : KeepsE cIs := fun _ _ _ _ _ hk ⟨s, c, e, h⟩ => ⟨s, c, e, h.kept cInt_keeps hk⟩
theorem cIs_drops : DropsE cIs := fun _ _ _ _ _ hB ⟨s, c, e, h⟩ => ⟨s, c, e, h.drop cInt_drops hB⟩
theorem eIs_cells {w : World} {B : Nat} {s : Option Addr} {L : List (List Int)} (h : Els 1 cIs w B s L) {j : Nat} {a : List Int} (ha : L[j]? = some a) :
    ∃ b o, s = some ⟨b, o, none⟩ ∧ B ≤ b ∧ b < w.heap.size ∧ ∃ s' c', w.cell? ⟨b, o + j, none⟩ = some (.slice s' a.length c') ∧ Els 1 cInt w B s' a := by
  rcases h with rfl | ⟨b, o, rfl, h1, h2, h3, hz⟩
  · simp at ha
  · obtain ⟨cs, e1, e2, s', c', rfl, e4⟩ := h3 j a ha
    exact ⟨b, o, rfl, h1, h2, s', c', by simpa using e2 0 _ rfl, e4⟩
/-- how many there are in the first k lists. -/
def tot (Ls : List (List Int)) (k : Nat) : Nat := (Ls.take k).flatten.length
theorem flat_succ {Ls : List (List Int)} {k : Nat} {a : List Int} (h : Ls[k]? = some a) : (Ls.take (k + 1)).flatten = (Ls.take k).flatten ++ a := by
  rw [List.take_add_one, h]; simp
theorem tot_succ {Ls : List (List Int)} {k : Nat} {a : List Int} (h : Ls[k]? = some a) : tot Ls (k + 1) = tot Ls k + a.length := by
  unfold tot; rw [flat_succ h]; simp
theorem tot_le (Ls : List (List Int)) (k : Nat) : tot Ls k ≤ Ls.flatten.length := by
  unfold tot
  rw [show Ls.flatten.length = ((Ls.take k).flatten ++ (Ls.drop k).flatten).length by rw [← List.flatten_append, List.take_append_drop]]
  simp

theorem grow_nil (n : Nat) (w : World) (hn : n ≤ 4398046511104) :
    Calls Try.prog 51 #[.slice none 0 0, .int .i64 n] w fun e w' => ∃ s c, e = .returned (.slice s 0 c) ∧ OI w' w.heap.size (.slice s 0 c) [] ∧ Below w.heap.size w w' := by
  by_cases h0 : n = 0
  · subst h0
    refine (Any8.slices_Grow_room Try.laysGrowI none 0 0 0 w (by omega) (by omega) (by omega) (by omega)).mono ?_
    rintro e w' ⟨rfl, rfl⟩
    exact ⟨none, 0, rfl, OI.nil _ _, Below.refl _ _⟩
  · obtain ⟨i0, hi, hz0, hz1, hz2⟩ := info_parts Try.infoI
    refine (Any8.slices_Grow_grow Try.laysGrowI i0 (.int .i64 0) hi hz0 (by omega) none 0 0 n [] w (by omega) (by omega) (by rw [hz2]; omega) (by omega) (by simp) (fun _ => rfl) (fun a h => by cases h)).mono ?_
    rintro e w' ⟨rfl, rfl⟩
    have hG := grownCap_ge w (0 + n) 0 3
    have hm := grownCap_le_maxLen w (0 + n) 0 3 (by unfold maxLen; omega)
    have hG' : 0 + n ≤ grownCap w (0 + n) 0 (Try.laysGrowI_ren.t 25) := hG
    generalize hg : grownCap w (0 + n) 0 (Try.laysGrowI_ren.t 25) = G at hG' ⊢
    have hm : G ≤ maxLen := by rw [← hg]; exact hm
    clear hg hG
    refine ⟨some ⟨w.heap.size, 0, none⟩, G, rfl, ⟨rfl, Or.inr ⟨w.heap.size, G, _, rfl, Nat.le_refl _, heap_alloc_new w.drew _, Nat.zero_le _, hm, ?_, by simp⟩⟩, bl_alloc (bl_drew (Below.refl _ _)) _⟩
    simp [Builtin.zeroCells, Value.cells]
    omega

set_option maxRecDepth 100000 in
set_option maxHeartbeats 4000000 in
theorem concat_any (s : Option Addr) (c : Nat) (Ls : List (List Int)) (B : Nat) (w : World) (hL : Els 1 cIs w B s Ls) (hl : Ls.length ≤ 1048576) (ht : Ls.flatten.length ≤ 4398046511104) :
    Calls Try.prog 42 #[.slice s Ls.length c] w fun e w' => (∃ s' c' R, e = .returned (.slice s' (List.length (α := Int) R) c') ∧ OI w' w.heap.size (.slice s' R.length c') R ∧ R = Ls.flatten) ∧ Below w.heap.size w w' := by
  have HL : Hid (Els 1 cIs w B s Ls) := hL
  have HT : Hid (∀ k, tot Ls k ≤ 4398046511104) := fun k => by have := tot_le Ls k; omega
  clear hL ht
  go_enter Try.func42, Try.ntmps42
  go_wp2_with fail
  go_loopw [3, 11] (fun z i wr => ∃ k : Nat, k ≤ Ls.length ∧ i = .int .i64 k ∧ z = .int .i64 (tot Ls k : Nat) ∧ Hid (Below w.heap.size w wr)) (fun _ i _ => Ls.length - (intOf i).toNat)
  case atStart => exact ⟨0, Nat.zero_le _, rfl, by simp [tot], Below.refl _ _⟩
  case round =>
    obtain ⟨k, hk, rfl, rfl, hb⟩ := hrel
    by_cases hlt : k < Ls.length
    · obtain ⟨a, ha⟩ := get_some hlt
      obtain ⟨b1, o1, rfl, _, hp1, s1, c1, x1, hE⟩ := eIs_cells (HL.out.later cIs_keeps hb.out) ha
      have h1 := HT.out k
      have h2 := HT.out (k + 1)
      have h3 := tot_succ ha
      rw [h3] at h2
      have HS : Hid (tot Ls (k + 1) = tot Ls k + a.length) := h3
      clear h3 hE ha
      generalize tot Ls k = m at h1 h2 HS ⊢
      have hw : IntKind.i64.wrap ((m : Int) + (a.length : Int)) = (m : Int) + (a.length : Int) := by rw [IntKind.wrap_i64]; omega
      have hd : decide ((m : Int) + (a.length : Int) < 0) = false := by simp; omega
      go_wp2_with fail
      go_roundw
      case rel => exact ⟨k + 1, by omega, by go_num, by rw [HS.out]; simp, hb⟩
      case measure => simp [intOf]; omega
    · have h1 := HT.out k
      generalize tot Ls k = m at h1 ⊢
      go_wp2_with fail
      refine (grow_nil m _ h1).mono ?_
      rintro e w1 ⟨s1, c1, rfl, hO, hb1⟩
      have HO : Hid (OI w1 w.heap.size (.slice s1 0 c1) []) := hO.mono hb.out.size
      have HB : Hid (Below w.heap.size w w1) := bl_trans hb.out hb1
      clear hO hb1 hb hlt hk h1
      go_wp2_with fail
      go_loopw [6, 27] (fun v i wr => ∃ (k : Nat) (s9 : Option Addr) (c9 : Nat) (R : List Int), k ≤ Ls.length ∧ i = .int .i64 k ∧ v = .slice s9 R.length c9 ∧ Hid (R = (Ls.take k).flatten) ∧ Hid (OI wr w.heap.size (.slice s9 R.length c9) R) ∧ Hid (Below w.heap.size w wr)) (fun _ i _ => Ls.length - (intOf i).toNat)
      case atStart => exact ⟨0, s1, c1, [], Nat.zero_le _, rfl, rfl, (by simp [Hid]), HO, HB⟩
      case round =>
        clear HO HB
        obtain ⟨k, s9, c9, R, hk, rfl, rfl, hR, hO, hb⟩ := hrel
        by_cases hlt : k < Ls.length
        · obtain ⟨a, ha⟩ := get_some hlt
          obtain ⟨b1, o1, rfl, _, hp1, s2, c2, x1, hE⟩ := eIs_cells (HL.out.later cIs_keeps hb.out) ha
          have h2 := HT.out (k + 1)
          rw [tot_succ ha] at h2
          have h3 : tot Ls k = R.length := by unfold tot; rw [← hR.out]
          rw [h3] at h2
          have E2 : Hid (Els 1 cInt wr B s2 a) := hE
          obtain ⟨R3, hR3⟩ : ∃ R3, Hid (R ++ a = R3) := ⟨_, (rfl : R ++ a = _)⟩
          have HS3 : Hid (R3 = (Ls.take (k + 1)).flatten) := by show R3 = _; rw [flat_succ ha, ← hR3.out, ← hR.out]
          clear hE ha h3 hR
          go_wp2_with (at_builtin; refine wpList_append_ints rfl _ _ rfl w.heap.size s9 c9 R rfl hO.out B s2 c2 a rfl E2.out R3 hR3.out (by omega) hb.out.size ?_; intro s' c' w4 hO4 hg4 hn4)
          have hO4 : Hid (OI w4 w.heap.size (.slice s' R3.length c') R3) := hO4
          have hb4 : Hid (Below w.heap.size w w4) := grown_oi hb.out hb.out.size hO.out hg4
          clear hg4 hn4 hO E2 hb
          go_wp2_with fail
          go_roundw
          case rel => exact ⟨k + 1, s', c', R3, by omega, by go_num, rfl, HS3, hO4, hb4⟩
          case measure => simp [intOf]; omega
        · have HE : Hid (R = Ls.flatten) := by show R = _; rw [hR.out, List.take_of_length_le (by omega)]
          clear hR
          go_wp2_with fail
          go_ret
          exact ⟨⟨s9, c9, R, rfl, hO.out, HE.out⟩, hb.out⟩

end Go.Proofs.Ytgfchpbdoebmbaa
