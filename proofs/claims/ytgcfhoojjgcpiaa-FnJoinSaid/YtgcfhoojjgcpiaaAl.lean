import Derived.Test.YtgcfhoojjgcpiaaAj
import Derived.Test.YtgcfhoojjgcpiaaAg
import Derived.Test.YtgcfhoojjgcpiaaTz
import Derived.Great.BuildSlice
import Derived.Deep.RegionHeld3
namespace Go.Proofs.Ytgcfhoojjgcpiaa
open Go.RowKit
set_option linter.unusedVariables false
set_option linter.unusedSimpArgs false

set_option maxHeartbeats 4000000 in
theorem equalI_wide (s t : Option Addr) (c d : Nat) (L M : List Int) (B C : Nat) (w : World) (hs : Els 1 cInt w B s L) (ht : Els 1 cInt w C t M) (hl : L.length ≤ 4398046511104) (hl2 : M.length ≤ 4398046511104) :
    Calls Try.prog 27 #[.slice s L.length c, .slice t M.length d] w fun e w' => e = .returned (.bool (sl eqI L M)) ∧ Below w.heap.size w w' := by
  have hal := alloc_old
  have haf := alloc_oldf
  by_cases hn : L.length = M.length
  · have t0 : ((L.length : Int) != (M.length : Int)) = false := by simp [hn]
    have HN : Hid (L.length = M.length) := hn
    clear hn
    go_enter Try.func27, Try.ntmps27
    go_wp2_with fail
    clear t0
    go_loopw [13] (fun i wr => ∃ k : Nat, k ≤ L.length ∧ i = .int .i64 k ∧ Hid (∀ (j : Nat) a b, j < k → L[j]? = some a → M[j]? = some b → eqI a b = true) ∧ Below w.heap.size w wr) (fun i _ => L.length - (intOf i).toNat)
    case atStart => exact ⟨0, Nat.zero_le _, rfl, fun j a b hj => by omega, Below.refl _ _⟩
    case round =>
      obtain ⟨k, hk, rfl, hall, hb⟩ := hrel
      by_cases hlt : k < L.length
      · have hltM : k < M.length := by have := HN.out; omega
        obtain ⟨a, ha⟩ := get_some hlt
        obtain ⟨b, hb0⟩ := get_some hltM
        obtain ⟨b1, o1, rfl, _, hpb1, eb1⟩ := eInt_cells (hs.later cInt_keeps hb) ha
        obtain ⟨b2, o2, rfl, _, hpb2, eb2⟩ := eInt_cells (ht.later cInt_keeps hb) hb0
        have HA : Hid (L[k]? = some a) := ha
        have HB : Hid (M[k]? = some b) := hb0
        clear hs ht ha hb0
        cases hf : eqI a b
        · have E0 : Hid (false = sl eqI L M) := sl_at HA.out HB.out hf
          have g : (a != b) = true := by simp [eqI] at hf; simp [hf]
          clear hf
          go_wp2_with fail
          go_region
          all_goals
            go_wp2_with fail
            go_ret
            refine ⟨ret_bool' E0.out, ?_⟩
            (repeat (first | with_reducible exact Below.refl _ _ | with_reducible refine bl_alloc ?_ _ | with_reducible refine bl_drewN ?_ _ | with_reducible refine bl_drew ?_ | with_reducible refine bl_setCell ?_ (by first | exact Nat.le_refl _ | (dsimp only; omega) | (simp <;> omega)) _ | with_reducible refine bl_trans ?_ (by with_reducible assumption)))
        · have hst : Hid (∀ (j : Nat) a b, j < k + 1 → L[j]? = some a → M[j]? = some b → eqI a b = true) := by
            intro j a' b' hj ha' hb'
            by_cases e : j = k
            · subst e
              rw [HA.out] at ha'
              rw [HB.out] at hb'
              cases ha'
              cases hb'
              exact hf
            · exact hall.out j a' b' (by omega) ha' hb'
          have g : a = b := by simpa [eqI] using hf
          subst g
          clear hf
          go_wp2_with fail
          go_region
          all_goals
            go_wp2_with fail
            go_roundw
            case rel =>
              refine ⟨k + 1, by omega, by go_num, hst, ?_⟩
              (repeat (first | with_reducible exact Below.refl _ _ | with_reducible refine bl_alloc ?_ _ | with_reducible refine bl_drewN ?_ _ | with_reducible refine bl_drew ?_ | with_reducible refine bl_setCell ?_ (by first | exact Nat.le_refl _ | (dsimp only; omega) | (simp <;> omega)) _ | with_reducible refine bl_trans ?_ (by with_reducible assumption)))
            case measure => simp [intOf]; omega
      · have E0 : Hid (true = sl eqI L M) := sl_all HN.out (fun j a b hj ha hb => hall.out j a b (by omega) ha hb)
        go_wp2_with fail
        go_ret
        exact ⟨ret_bool' E0.out, hb⟩
  · have t0 : ((L.length : Int) != (M.length : Int)) = true := by simp; omega
    go_enter Try.func27, Try.ntmps27
    go_wp2_with fail
    go_ret
    exact ⟨ret_bool' (sl_len hn), Below.refl _ _⟩
theorem sl_same (L M : List Int) : sl eqI L M = decide (L = M) := by
  rw [Bool.eq_iff_iff, decide_eq_true_eq]
  constructor
  · intro h
    simp only [sl, Bool.and_eq_true, List.all_eq_true, decide_eq_true_eq] at h
    obtain ⟨h1, h2⟩ := h
    apply List.ext_getElem h1
    intro i a b
    have := h2 (L[i], M[i]) (by rw [List.mem_iff_getElem]; exact ⟨i, by simp; omega, by simp⟩)
    simpa [eqI] using this
  · rintro rfl
    exact (sl_all rfl (fun j a b _ h1 h2 => by rw [h1] at h2; cases h2; simp [eqI])).symm
/-- joined with it, it stays: it was within. -/
theorem within_by_join {A B R1 R2 : List Int} (h1 : Srt [A, B].flatten R1) (h2 : Srt [B].flatten R2) : sl eqI R1 R2 = subB A B := by
  rw [sl_same]
  unfold subB
  rw [decide_eq_decide]
  constructor
  · rintro rfl x hx
    have := (h2.2.1 x).1 ((h1.2.1 x).2 (by simp [hx]))
    simpa using this
  · intro h
    refine asc_unique h1.1 h2.1 (fun x => ?_)
    rw [h1.2.1 x, h2.2.1 x]
    simp
    exact h x
/-- the lists of an effect by their number. -/
def Ef.lst (e : Ef) : Nat → List Int
  | 0 => e.l0
  | 1 => e.l1
  | 2 => e.l2
  | 3 => e.l3
  | 4 => e.l4
  | 5 => e.l5
  | 6 => e.l6
  | 7 => e.l7
  | _ => []
theorem Ef.lst_len {e : Ef} (h : kEf e) (i : Nat) : (e.lst i).length ≤ 1048576 := by
  obtain ⟨m0, m1, m2, m3, m4, m5, m6, m7⟩ := h
  match i with
  | 0 => exact m0
  | 1 => exact m1
  | 2 => exact m2
  | 3 => exact m3
  | 4 => exact m4
  | 5 => exact m5
  | 6 => exact m6
  | 7 => exact m7
  | n + 8 => simp [Ef.lst]
def subN (a b : Ef) (k : Nat) : Bool := (List.range k).all fun j => subB (a.lst j) (b.lst j)
theorem subN_succ (a b : Ef) (k : Nat) : subN a b (k + 1) = (subN a b k && subB (a.lst k) (b.lst k)) := by simp [subN, List.range_succ]
theorem witB_subN (a b : Ef) : witB a b = (subN a b 8 && ((b.sp || !a.sp) && (b.kl || !a.kl))) := by
  have h8 : subN a b 8 = (subB a.l0 b.l0 && (subB a.l1 b.l1 && (subB a.l2 b.l2 && (subB a.l3 b.l3 && (subB a.l4 b.l4 && (subB a.l5 b.l5 && (subB a.l6 b.l6 && (subB a.l7 b.l7 && true)))))))) := rfl
  rw [h8]
  simp only [witB, Bool.and_true, Bool.and_assoc]
theorem subN_false {a b : Ef} {k : Nat} (hk : k < 8) (h : subB (a.lst k) (b.lst k) = false) : false = witB a b := by
  rw [witB_subN]
  have : subN a b 8 = false := by
    unfold subN
    rw [List.all_eq_false]
    exact ⟨k, by simpa using hk, by simp [h]⟩
  rw [this]; rfl
theorem InE.at {w : World} {B : Nat} {s0 s1 s2 s3 s4 s5 s6 s7 : Option Addr} {e : Ef} (h : InE w B s0 s1 s2 s3 s4 s5 s6 s7 e) (c0 c1 c2 c3 c4 c5 c6 c7 : Nat) {i : Nat} (hi : i < 8) :
    ∃ s c, (#[.slice s0 e.l0.length c0, .slice s1 e.l1.length c1, .slice s2 e.l2.length c2, .slice s3 e.l3.length c3, .slice s4 e.l4.length c4, .slice s5 e.l5.length c5, .slice s6 e.l6.length c6, .slice s7 e.l7.length c7] : Array Value)[i]? = some (.slice s (e.lst i).length c) ∧ Els 1 cInt w B s (e.lst i) := by
  match i, hi with
  | 0, _ => exact ⟨s0, c0, rfl, h.p0⟩
  | 1, _ => exact ⟨s1, c1, rfl, h.p1⟩
  | 2, _ => exact ⟨s2, c2, rfl, h.p2⟩
  | 3, _ => exact ⟨s3, c3, rfl, h.p3⟩
  | 4, _ => exact ⟨s4, c4, rfl, h.p4⟩
  | 5, _ => exact ⟨s5, c5, rfl, h.p5⟩
  | 6, _ => exact ⟨s6, c6, rfl, h.p6⟩
  | 7, _ => exact ⟨s7, c7, rfl, h.p7⟩
theorem idx_row (cs : Array Value) (i : Nat) (hi : i < 8) (s : Option Addr) (n c : Nat) (h : cs[i]? = some (.slice s n c)) (w : World) : (Instr.index 46 (.agg cs) (.int .i64 (i : Int))).run Try.prog w = .ok (.slice s n c) w := by
  have hz : (sizeOf 22).run Try.prog w = .ok 1 w := by
    have h1 : (Try.prog.info? 22).map (·.size) = some 1 := by kernel_rfl
    cases hq : Try.prog.info? 22 with
    | none => rw [hq] at h1; cases h1
    | some i =>
      rw [hq] at h1
      simp only [Option.map_some, Option.some.injEq] at h1
      simp [sizeOf, typeInfo, hq, h1]
  have px : (Go.part 22 cs i).run Try.prog w = .ok (.slice s n c) w := by
    simp [Go.part, isAgg, run_underlying Try.underlying22, h]
  simp [Instr.index, asIntOf, run_underlying Try.underlying46, hz, px, show (i : Int) < 8 by omega, hi]

theorem els_is2 {w : World} {b : Nat} {s t : Option Addr} {c d : Nat} {L M : List Int} {ty : TypeId} (h : Blk w b #[.slice s L.length c, .slice t M.length d] ty) (hL : Els 1 cInt w 0 s L) (hM : Els 1 cInt w 0 t M) : Els 1 cIs w 0 (some ⟨b, 0, none⟩) [L, M] := by
  refine Or.inr ⟨b, 0, rfl, Nat.zero_le _, h.lt, fun j a ha => ?_, fun q => absurd q (by omega)⟩
  match j, ha with
  | 0, ha => simp at ha; subst ha; exact ⟨[.slice s L.length c], rfl, fun i u hu => (by match i, hu with | 0, hu => simp at hu; subst hu; exact h.cell 0), s, c, rfl, hL⟩
  | 1, ha => simp at ha; subst ha; exact ⟨[.slice t M.length d], rfl, fun i u hu => (by match i, hu with | 0, hu => simp at hu; subst hu; exact h.cell 1), t, d, rfl, hM⟩
  | n + 2, ha => simp at ha
theorem els_is1 {w : World} {b : Nat} {s : Option Addr} {c : Nat} {L : List Int} {ty : TypeId} (h : Blk w b #[.slice s L.length c] ty) (hL : Els 1 cInt w 0 s L) : Els 1 cIs w 0 (some ⟨b, 0, none⟩) [L] := by
  refine Or.inr ⟨b, 0, rfl, Nat.zero_le _, h.lt, fun j a ha => ?_, fun q => absurd q (by omega)⟩
  match j, ha with
  | 0, ha => simp at ha; subst ha; exact ⟨[.slice s L.length c], rfl, fun i u hu => (by match i, hu with | 0, hu => simp at hu; subst hu; exact h.cell 0), s, c, rfl, hL⟩
  | n + 1, ha => simp at ha
theorem els_tch2 {w : World} {b : Nat} {xs ys : List Bool} {ty : TypeId} (h : Blk w b (tch (xs ++ ys)) ty) (hx : xs.length = 108) (hy : ys.length = 108) : Els 108 cTch w 0 (some ⟨b, 0, none⟩) [xs, ys] := by
  refine Or.inr ⟨b, 0, rfl, Nat.zero_le _, h.lt, fun j a ha => ?_, fun q => absurd q (by omega)⟩
  match j, ha with
  | 0, ha =>
    simp at ha; subst ha
    refine ⟨xs.map Value.bool, by simpa using hx, fun i u hu => ?_, rfl, hx⟩
    have hi : i < 108 := by have := (List.getElem?_eq_some_iff.1 hu).1; simpa [hx] using this
    rw [show 0 + 0 * 108 + i = i by omega, h.cell]
    simp [tch, List.getElem?_append, hx, hi] at hu ⊢
    exact hu
  | 1, ha =>
    simp at ha; subst ha
    refine ⟨ys.map Value.bool, by simpa using hy, fun i u hu => ?_, rfl, hy⟩
    have hi : i < 108 := by have := (List.getElem?_eq_some_iff.1 hu).1; simpa [hy] using this
    rw [show 0 + 1 * 108 + i = 108 + i by omega, h.cell]
    simp [tch, List.getElem?_append, hx] at hu ⊢
    exact hu
  | n + 2, ha => simp at ha
theorem Try.infoT2 : (Try.prog.info? 44).map (fun i => (i.zero, i.size)) = some (some (.agg (tch (List.replicate 108 false))), 108) := by kernel_rfl
set_option maxRecDepth 100000 in
theorem fill_two (a b c d : Bool) : Instr.fill (fun i => some (i * 108, 108)) ((Array.range (2 * 108)).map ((Value.agg (tch (List.replicate 108 false))).cells[· % (Value.agg (tch (List.replicate 108 false))).cells.size]!)) [(0, .agg (tch (flg a b))), (1, .agg (tch (flg c d)))] = some (tch (flg a b ++ flg c d)) := by
  cases a <;> cases b <;> cases c <;> cases d <;> kernel_rfl
theorem wp_build_two {o : Oper} {A : Act} {w : World} {K : Act → World → Prop} {Q : Exit → Act → World → Prop} (x y : Operand) (ho : o.op = .buildSlice 57 2 #[(0, x), (1, y)]) (a b c d : Bool) (hx : A.eval x = .agg (tch (flg a b))) (hy : A.eval y = .agg (tch (flg c d)))
    (h : K (A.put o.dst (.slice (some ⟨w.heap.size, 0, none⟩) 2 2)) (w.alloc (.cells (tch (flg a b ++ flg c d)) 44))) : o.wp Try.prog A w K Q := by
  have h1 := Try.infoT2
  cases hq : Try.prog.info? 44 with
  | none => rw [hq] at h1; cases h1
  | some ie =>
    rw [hq] at h1
    simp only [Option.map_some, Option.some.injEq, Prod.mk.injEq] at h1
    refine wp_buildSlice 57 44 2 _ ho (tch (flg a b ++ flg c d)) ie _ Try.underlying57 hq h1.1 (by rw [h1.2]; omega) (by rw [h1.2]; omega) ?_ h
    rw [h1.2]
    have := fill_two a b c d
    simpa [hx, hy] using this
end Go.Proofs.Ytgcfhoojjgcpiaa
