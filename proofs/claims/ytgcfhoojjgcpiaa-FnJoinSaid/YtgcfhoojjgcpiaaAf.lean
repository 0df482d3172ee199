import Derived.Test.YtgcfhoojjgcpiaaAb
import Derived.Deep.QuietTactic
import Derived.BigQuiet
namespace Go.Proofs.Ytgcfhoojjgcpiaa
open Go.RowKit
set_option linter.unusedVariables false
set_option linter.unusedSimpArgs false

/-- is each number of the one list in the other one? -/
def subB (A B : List Int) : Bool := decide (∀ x ∈ A, x ∈ B)
/-- i numbers of X are in Y; the first k of Y are below the next one. -/
def InB (X Y : List Int) (i k : Nat) : Prop := (∀ x ∈ X.take i, x ∈ Y) ∧ ∀ (j : Nat) y x, j < k → Y[j]? = some y → X[i]? = some x → y < x
theorem InB.start (X Y : List Int) : InB X Y 0 0 := ⟨by simp, fun j y x h => by omega⟩
theorem InB.more {X Y : List Int} {i k : Nat} {x y : Int} (h : InB X Y i k) (hx : X[i]? = some x) (hy : Y[k]? = some y) (hl : y < x) : InB X Y i (k + 1) := by
  refine ⟨h.1, fun j y' x' hj hy' hx' => ?_⟩
  by_cases e : j = k
  · subst e
    rw [hy] at hy'; rw [hx] at hx'
    cases hy'; cases hx'; exact hl
  · exact h.2 j y' x' (by omega) hy' hx'
theorem InB.found {X Y : List Int} {i k : Nat} {x : Int} (h : InB X Y i k) (aX : Asc X) (hx : X[i]? = some x) (hy : Y[k]? = some x) : InB X Y (i + 1) k := by
  refine ⟨fun z hz => ?_, fun j y' x' hj hy' hx' => ?_⟩
  · rw [mem_take_succ hx] at hz
    rcases hz with hz | rfl
    · exact h.1 z hz
    · exact List.mem_of_getElem? hy
  · have h1 := h.2 j y' x hj hy' hx
    have h2 : x < x' := by
      have l1 := (List.getElem?_eq_some_iff.1 hx)
      have l2 := (List.getElem?_eq_some_iff.1 hx')
      obtain ⟨a1, rfl⟩ := l1
      obtain ⟨a2, rfl⟩ := l2
      exact List.pairwise_iff_getElem.1 aX i (i + 1) a1 a2 (by omega)
    omega
theorem InB.not {X Y A B : List Int} {i k : Nat} {x : Int} (h : InB X Y i k) (sX : Srt A X) (sY : Srt B Y) (hx : X[i]? = some x) (hn : ∀ y, Y[k]? = some y → x < y) : false = subB A B := by
  symm
  unfold subB
  rw [decide_eq_false_iff_not]
  intro hall
  have h1 := (sY.2.1 x).2 (hall x ((sX.2.1 x).1 (List.mem_of_getElem? hx)))
  obtain ⟨j, hj⟩ := List.mem_iff_getElem?.1 h1
  by_cases hjk : j < k
  · have := h.2 j x x hjk hj hx
    omega
  · have lj := (List.getElem?_eq_some_iff.1 hj).1
    obtain ⟨y, hy⟩ := get_some (L := Y) (k := k) (by omega)
    have h2 := hn y hy
    by_cases e : j = k
    · subst e; rw [hj] at hy; cases hy; omega
    · obtain ⟨a1, rfl⟩ := List.getElem?_eq_some_iff.1 hy
      obtain ⟨a2, e2⟩ := List.getElem?_eq_some_iff.1 hj
      have := List.pairwise_iff_getElem.1 sY.1 k j a1 a2 (by omega)
      omega
theorem InB.all {X Y A B : List Int} {i k : Nat} (h : InB X Y i k) (sX : Srt A X) (sY : Srt B Y) (hi : ¬ i < X.length) : true = subB A B := by
  symm
  unfold subB
  rw [decide_eq_true_eq]
  intro x hx
  have h1 := h.1
  rw [List.take_of_length_le (by omega)] at h1
  exact (sY.2.1 x).1 (h1 x ((sX.2.1 x).2 hx))

set_option maxRecDepth 100000 in
set_option maxHeartbeats 8000000 in
theorem l10In_any (s t : Option Addr) (c d : Nat) (A B : List Int) (B0 C0 : Nat) (w : World) (hA : Els 1 cInt w B0 s A) (hB : Els 1 cInt w C0 t B) (la : A.length ≤ c) (lb : B.length ≤ d) (ma : A.length ≤ 1048576) (mb : B.length ≤ 1048576) :
    Calls Try.prog 25 #[.slice s A.length c, .slice t B.length d] w fun e w' => e = .returned (.bool (subB A B)) ∧ Below w.heap.size w w' := by
  have HB : Hid (Els 1 cInt w C0 t B) := hB
  clear hB
  go_enter Try.func25, Try.ntmps25
  go_wp2_with fail
  refine (l10Sorted_any A.length A (show Hid _ from rfl) (by omega) s c B0 _ hA la).mono ?_
  rintro e w1 ⟨⟨s1, c1, X, rfl, hX, sX⟩, hb1⟩
  have HX : Hid (OI w1 w.heap.size (.slice s1 X.length c1) X) := hX
  have SX : Hid (Srt A X) := sX
  have lX : X.length ≤ 1048576 := by have := sX.2.2; omega
  clear hX sX hA la ma
  go_wp2_with fail
  refine (l10Sorted_any B.length B (show Hid _ from rfl) (by omega) t d C0 _ (HB.out.later cInt_keeps hb1) lb).mono ?_
  rintro e w2 ⟨⟨s2, c2, Y, rfl, hY, sY⟩, hb2⟩
  have EX : Hid (Els 1 cInt w2 w.heap.size s1 X) := (HX.out.later hb2).els
  have EY : Hid (Els 1 cInt w2 w1.heap.size s2 Y) := hY.els
  have SY : Hid (Srt B Y) := sY
  have lY : Y.length ≤ 1048576 := by have := sY.2.2; omega
  have L2 : Hid (Below w.heap.size w w2) := bl_trans hb1 hb2
  clear hY sY HX hb1 hb2 HB lb mb
  go_wp2_with fail
  go_loopw [7, 8] (fun kv iv wr => ∃ i k : Nat, i ≤ X.length ∧ k ≤ Y.length ∧ iv = .int .i64 i ∧ kv = .int .i64 k ∧ Hid (InB X Y i k) ∧ Hid (Below w2.heap.size w2 wr)) (fun _ iv _ => X.length - (intOf iv).toNat)
  case atStart => exact ⟨0, 0, Nat.zero_le _, Nat.zero_le _, rfl, rfl, InB.start _ _, Below.refl _ _⟩
  case round =>
    obtain ⟨i, k0, hi, hk0, rfl, rfl, hin, hb⟩ := hrel
    by_cases hlt : i < X.length
    · obtain ⟨x, hx⟩ := get_some hlt
      have HXI : Hid (X[i]? = some x) := hx
      clear hx
      go_wp2_with fail
      obtain ⟨wo, hwo⟩ : ∃ wo : World, Hid (wo = wr) := ⟨_, rfl⟩
      go_loopw [7] (fun kv wr => ∃ k : Nat, k ≤ Y.length ∧ kv = .int .i64 k ∧ Hid (InB X Y i k) ∧ Hid (Below w2.heap.size w2 wr)) (fun kv _ => Y.length - (intOf kv).toNat)
      case atStart => exact ⟨k0, hk0, rfl, hin, hb⟩
      case round =>
        clear hin hb hk0
        obtain ⟨k, hk, rfl, hin, hb⟩ := hrel
        obtain ⟨bx, ox, rfl, _, hqx, ex0⟩ := eInt_cells EX.out HXI.out
        have ex := (hb.out.cell (p := ⟨bx, ox + i, none⟩) hqx).trans ex0
        by_cases hkl : k < Y.length
        · obtain ⟨y, hy⟩ := get_some hkl
          have HYK : Hid (Y[k]? = some y) := hy
          clear hy
          obtain ⟨by', oy, rfl, _, hqy, ey0⟩ := eInt_cells EY.out HYK.out
          have ey := (hb.out.cell (p := ⟨by', oy + k, none⟩) hqy).trans ey0
          by_cases hc : y < x
          · have dk : decide (y < x) = true := by simp; omega
            have hm : Hid (InB X Y i (k + 1)) := hin.out.more HXI.out HYK.out hc
            -- @a
            go_wp2_with fail
            go_quiet (fail)
            go_wp2_with fail
            go_roundw
            case rel => exact ⟨k + 1, by omega, by go_num, hm, bl_drewN hb.out _⟩
            case measure => simp [intOf]; omega
          · by_cases he : y = x
            · subst he
              have hm : Hid (InB X Y (i + 1) k) := hin.out.found SX.out.1 HXI.out HYK.out
              -- @b
              go_wp2_with fail
              go_quiet (fail)
              go_wp2_with fail
              have hb8 : Hid (Below w2.heap.size w2 (wr.drewN nq)) := bl_drewN hb.out _
              generalize wr.drewN nq = w8 at hb8 ⊢
              clear ex ey
              have ex8 := (hb8.out.cell (p := ⟨bx, ox + i, none⟩) hqx).trans ex0
              have ey8 := (hb8.out.cell (p := ⟨by', oy + k, none⟩) hqy).trans ey0
              go_quiet (fail)
              go_wp2_with fail
              go_roundw
              case rel => exact ⟨i + 1, k, by omega, by omega, by go_num, rfl, hm, bl_drewN hb8.out _⟩
              case measure => simp [intOf]; omega
            · have hF : Hid (false = subB A B) := hin.out.not SX.out SY.out HXI.out (fun y' h' => by rw [HYK.out] at h'; cases h'; omega)
              have g : (y != x) = true := by simp [he]
              -- @c
              go_wp2_with fail
              go_quiet (fail)
              go_wp2_with fail
              have hb8 : Hid (Below w2.heap.size w2 (wr.drewN nq)) := bl_drewN hb.out _
              generalize wr.drewN nq = w8 at hb8 ⊢
              clear ex ey
              have ex8 := (hb8.out.cell (p := ⟨bx, ox + i, none⟩) hqx).trans ex0
              have ey8 := (hb8.out.cell (p := ⟨by', oy + k, none⟩) hqy).trans ey0
              go_quiet (fail)
              go_wp2_with fail
              go_ret
              exact ⟨congrArg (fun b => Ending.returned (.bool b)) hF.out, bl_trans L2.out (bl_drewN hb8.out _)⟩
        · have hF : Hid (false = subB A B) := hin.out.not SX.out SY.out HXI.out (fun y' h' => by have := (List.getElem?_eq_some_iff.1 h').1; omega)
          -- @d
          go_wp2_with fail
          go_quiet (fail)
          go_wp2_with fail
          have hb8 : Hid (Below w2.heap.size w2 (wr.drewN nq)) := bl_drewN hb.out _
          generalize wr.drewN nq = w8 at hb8 ⊢
          clear ex
          have ex8 := (hb8.out.cell (p := ⟨bx, ox + i, none⟩) hqx).trans ex0
          go_quiet (fail)
          go_wp2_with fail
          go_ret
          exact ⟨congrArg (fun b => Ending.returned (.bool b)) hF.out, bl_trans L2.out (bl_drewN hb8.out _)⟩
    · have hF : Hid (true = subB A B) := hin.out.all SX.out SY.out hlt
      go_wp2_with fail
      go_ret
      exact ⟨congrArg (fun b => Ending.returned (.bool b)) hF.out, bl_trans L2.out hb.out⟩
end Go.Proofs.Ytgcfhoojjgcpiaa
