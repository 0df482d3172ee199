import Derived.Test.YtigllpegaljkmaaDoorN36j
import Derived.Test.YtigllpegaljkmaaDoorN13j
namespace Go.Proofs.YtigllpegaljkmaaDoor
open Go.RowKit
set_option linter.unusedVariables false
set_option linter.unusedSimpArgs false

set_option maxRecDepth 100000 in
set_option maxHeartbeats 4000000 in
/-- a copy of a list of moves. -/
theorem cloneM_any (v : Value) (L : List (Int × Int)) (B : Nat) (w : World) (hL : MRow w B v L) (hl : L.length ≤ 1048576) :
    Calls Tryd.prog 39 #[v] w fun e w' => (∃ u, e = .returned u ∧ MRow w' w.heap.size u L) ∧ Below w.heap.size w w' := by
  have q22 : ∀ (w : World) (a : Option Addr) (n c n' c' : Nat), (binOp .eql 27 (.slice a n c) (.slice none n' c')).run Tryd.prog w = .ok (.bool a.isNone) w := fun w a n c n' c' => Lib.run_eql_slice_nil w _ _ a n c n' c' Tryd.underlying27
  rcases hL.form with ⟨rfl, rfl⟩ | ⟨g, cap, rfl, _, _, _⟩
  · go_enter Tryd.func39, Tryd.ntmps39
    go_wp2_with fail
    go_ret
    exact ⟨⟨_, rfl, MRow.nil _ _⟩, Below.refl _ _⟩
  · have hb0 : Hid (Below w.heap.size w (w.alloc (.cells #[] 62))) := bl_alloc (Below.refl _ _) _
    have hO0 : Hid (MRow (w.alloc (.cells #[] 62)) w.heap.size (.slice (some ⟨w.heap.size, 0, none⟩) 0 0) []) := MRow.empty (Blk.new w #[] 62)
    have EA : Hid (MRow (w.alloc (.cells #[] 62)) B (.slice (some ⟨g, 0, none⟩) L.length cap) L) := hL.later hb0.out
    have hs0 := hb0.out.size
    clear hL
    go_enter Tryd.func39, Tryd.ntmps39
    go_wp2_with (at_builtin; refine wpList_append_moves _ rfl _ _ rfl w.heap.size (.slice (some ⟨w.heap.size, 0, none⟩) 0 0) [] rfl hO0.out g cap L rfl _ EA.out (by simp) hl hs0 ?_)
    intro u w1 hu hg
    have L1 : Hid (Below w.heap.size w w1) := grown_mr hb0.out hs0 hO0.out hg
    have HU : Hid (MRow w1 w.heap.size u L) := hu
    clear hu hg
    go_wp2_with fail
    go_ret
    exact ⟨⟨_, rfl, HU.out⟩, L1.out⟩
end Go.Proofs.YtigllpegaljkmaaDoor
namespace Go.Proofs.YtigllpegaljkmaaDoor
open Go.RowKit Go.Maps Go.WideMaps
set_option linter.unusedVariables false
set_option linter.unusedSimpArgs false
set_option maxRecDepth 100000

/-- looked at without the word that says whether it is there. -/
theorem PM.look1 {w : World} {b n : Nat} {f : Int × Int → Option Value} (h : PM w b n f) {e : Int × Int} (he : bU e) :
    (Instr.lookup 80 (.map (some b)) (.agg #[.int .u16 e.1, .int .u16 e.2]) false).run Tryd.prog w = .ok ((f e).getD (.slice none 0 0)) w := by
  obtain ⟨D, ⟨es, clock, hb, F, hs, rfl⟩, h2⟩ := h
  have hz := (h2.2 e he).2 (.slice none 0 0)
  rcases fit_look false ukeyed Tryd.underlying80 (zeroMv w) hb F (keyOfU e he) with ⟨hrun, _, hat⟩ | ⟨e0, y, _, _, hrun, hRv, hat, _⟩
  · rw [hat] at hz
    injection hz with hz
    rw [hrun, ← hz]
    rfl
  · rw [hat] at hz
    simp only [anyElem, Option.some.injEq] at hRv
    rw [← hRv] at hz
    injection hz with hz
    rw [hrun, ← hz]
    rfl
end Go.Proofs.YtigllpegaljkmaaDoor
namespace Go.Proofs.YtigllpegaljkmaaDoor
open Go.RowKit Go.Maps Go.WideMaps
set_option linter.unusedVariables false
set_option linter.unusedSimpArgs false
set_option maxRecDepth 100000

/-! what kind of block it is keeps the lists and the map apart -/
theorem URow.noMap {w : World} {B b n : Nat} {v : Value} {L : List (Int × Int)} {f : Int × Int → Option Value} (h : URow w B v L) (hm : PM w b n f) : ¬ v.ownBlock = some b := by
  obtain ⟨D, ⟨es, clock, hb, _⟩, _⟩ := hm
  rcases h.2 with ⟨rfl, _⟩ | ⟨g, cap, cur, rfl, _, hg, _⟩
  · simp [Value.ownBlock]
  · intro e
    simp only [Value.ownBlock, Option.some.injEq] at e
    subst e
    rw [hb] at hg
    simp at hg
theorem MRow.noMap {w : World} {B b n : Nat} {v : Value} {L : List (Int × Int)} {f : Int × Int → Option Value} (h : MRow w B v L) (hm : PM w b n f) : ¬ v.ownBlock = some b := by
  obtain ⟨D, ⟨es, clock, hb, _⟩, _⟩ := hm
  rcases h.2 with ⟨rfl, _⟩ | ⟨g, cap, cur, rfl, _, hg, _⟩
  · simp [Value.ownBlock]
  · intro e
    simp only [Value.ownBlock, Option.some.injEq] at e
    subst e
    rw [hb] at hg
    simp at hg
theorem URow.noMove {w : World} {B C : Nat} {v u : Value} {L M : List (Int × Int)} (h : URow w B v L) (hm : MRow w C u M) : ∀ k, u.ownBlock = some k → ¬ v.ownBlock = some k := by
  intro k hu hv
  rcases h.2 with ⟨rfl, _⟩ | ⟨g, cap, cur, rfl, _, hg, _⟩
  · simp [Value.ownBlock] at hv
  rcases hm.2 with ⟨rfl, _⟩ | ⟨g', cap', cur', rfl, _, hg', _⟩
  · simp [Value.ownBlock] at hu
  simp only [Value.ownBlock, Option.some.injEq] at hu hv
  subst hv
  subst hu
  rw [hg] at hg'
  simp at hg'
/-- a map that turned: lists stay. -/
theorem URow.turned {w w' : World} {B b n : Nat} {v : Value} {L : List (Int × Int)} {f : Int × Int → Option Value} (h : URow w B v L) (hm : PM w b n f) (ht : w.mapTurned w' b) : URow w' B v L := h.kept ht.grown (h.noMap hm)
theorem MRow.turned {w w' : World} {B b n : Nat} {v : Value} {L : List (Int × Int)} {f : Int × Int → Option Value} (h : MRow w B v L) (hm : PM w b n f) (ht : w.mapTurned w' b) : MRow w' B v L := h.kept ht.grown (h.noMap hm)
end Go.Proofs.YtigllpegaljkmaaDoor
namespace Go.Proofs.YtigllpegaljkmaaDoor
open Go.RowKit Go.Maps Go.WideMaps
set_option linter.unusedVariables false
set_option linter.unusedSimpArgs false
set_option maxRecDepth 100000

/-! the map of the ways that were found -/
def pkey (A : List Int) : Int × Int := (nb (fB A), nb (fD A))
theorem pkey_b (A : List Int) : bU (pkey A) := by
  have h1 := nb_nonneg (fB A)
  have h2 := nb_nonneg (fD A)
  exact ⟨⟨h1.1, by show nb (fB A) ≤ 65535; omega⟩, ⟨h2.1, by show nb (fD A) ≤ 65535; omega⟩⟩
theorem pkey_inj {n : Nat} {A C : List Int} (hA : Thr A) (hC : Thr C) (la : A.length = n) (lc : C.length = n) (hn : n ≤ 16) (h : pkey A = pkey C) : A = C := by
  have h1 : nb (fB A) = nb (fB C) := congrArg Prod.fst h
  have h2 : nb (fD A) = nb (fD C) := congrArg Prod.snd h
  refine List.ext_getElem (by omega) fun i i1 i2 => ?_
  have q1 := nb_inj h1 i (by omega)
  have q2 := nb_inj h2 i (by omega)
  have a1 : A.getD i 0 = A[i] := by simp [i1]
  have a2 : C.getD i 0 = C[i] := by simp [i2]
  simp only [fB, fD, a1, a2] at q1 q2
  rcases hA A[i] (List.getElem_mem i1) with e | e | e <;> rcases hC C[i] (List.getElem_mem i2) with e' | e' | e' <;> rw [e, e'] at q1 q2 ⊢ <;> simp at q1 q2
def WM (w : World) (B b : Nat) (Q : List Way) : Prop := ∃ f, PM w b Q.length f ∧ (∀ q ∈ Q, ∃ u, f (pkey q.1) = some u ∧ MRow w B u q.2) ∧ ∀ e, bU e → (∀ q ∈ Q, ¬ pkey q.1 = e) → f e = none
theorem WM.lt {w : World} {B b : Nat} {Q : List Way} (h : WM w B b Q) : b < w.heap.size := by
  obtain ⟨f, h, _⟩ := h; exact h.lt
theorem WM.later {w w' : World} {B b : Nat} {Q : List Way} (h : WM w B b Q) (hb : Below w.heap.size w w') : WM w' B b Q := by
  obtain ⟨f, h1, h2, h3⟩ := h
  refine ⟨f, h1.later hb, fun q hq => ?_, h3⟩
  obtain ⟨u, e1, e2⟩ := h2 q hq
  exact ⟨u, e1, e2.later hb⟩
theorem PM.keptO {w w' : World} {b n : Nat} {f : Int × Int → Option Value} {r : Option Nat} (h : PM w b n f) (hg : w.grownBy w' r) (hr : ¬ r = some b) : PM w' b n f := by
  obtain ⟨D, h1, h2⟩ := h
  exact ⟨D, h1.kept hg (fun e => hr e.symm), h2⟩
/-- a place more: the ways stay. -/
theorem WM.placed {w w' : World} {B C b : Nat} {Q : List Way} {v : Value} {L : List (Int × Int)} (h : WM w B b Q) (hv : URow w C v L) (hg : w.grownBy w' v.ownBlock) : WM w' B b Q := by
  obtain ⟨f, h1, h2, h3⟩ := h
  refine ⟨f, h1.keptO hg (hv.noMap h1), fun q hq => ?_, h3⟩
  obtain ⟨u, e1, e2⟩ := h2 q hq
  exact ⟨u, e1, e2.keptO hg (hv.noMove e2)⟩
/-- a list of moves that is newer than all of them grows: the ways stay. -/
theorem WM.moved {w w' : World} {B C b : Nat} {Q : List Way} {v : Value} {L : List (Int × Int)} (h : WM w B b Q) (hv : MRow w C v L) (hf : ∀ u M, MRow w B u M → (∃ q ∈ Q, M = q.2) → ∀ k, u.ownBlock = some k → ¬ v.ownBlock = some k) (hg : w.grownBy w' v.ownBlock) : WM w' B b Q := by
  obtain ⟨f, h1, h2, h3⟩ := h
  refine ⟨f, h1.keptO hg (hv.noMap h1), fun q hq => ?_, h3⟩
  obtain ⟨u, e1, e2⟩ := h2 q hq
  exact ⟨u, e1, e2.keptO hg (hf u _ e2 ⟨q, hq, rfl⟩)⟩
/-- the way to a state that was met. -/
theorem WM.get {w : World} {B b : Nat} {Q : List Way} (h : WM w B b Q) {q : Way} (hq : q ∈ Q) :
    ∃ u, (Instr.lookup 80 (.map (some b)) (.agg #[.int .u16 (nb (fB q.1)), .int .u16 (nb (fD q.1))]) false).run Tryd.prog w = .ok u w ∧ MRow w B u q.2 := by
  obtain ⟨f, h1, h2, h3⟩ := h
  obtain ⟨u, e1, e2⟩ := h2 q hq
  refine ⟨u, ?_, e2⟩
  have := h1.look1 (pkey_b q.1)
  rw [e1] at this
  exact this
/-- was it met? -/
theorem WM.met {w : World} {B b n : Nat} {Q : List Way} (h : WM w B b Q) (hQ : QOk n Q) (hn : n ≤ 16) {A : List Int} (hA : Thr A) (la : A.length = n) :
    ∃ u, (Instr.lookup 80 (.map (some b)) (.agg #[.int .u16 (nb (fB A)), .int .u16 (nb (fD A))]) true).run Tryd.prog w = .ok (.tuple #[u, .bool (Q.any fun q => decide (q.1 = A))]) w := by
  obtain ⟨f, h1, h2, h3⟩ := h
  have hl := h1.look (pkey_b A)
  by_cases hm : ∃ q ∈ Q, q.1 = A
  · obtain ⟨q, hq, rfl⟩ := hm
    obtain ⟨u, e1, e2⟩ := h2 q hq
    have ht : (Q.any fun x => decide (x.1 = q.1)) = true := List.any_eq_true.2 ⟨q, hq, by simp⟩
    rw [e1] at hl
    exact ⟨u, by rw [ht]; exact hl⟩
  · have hx : f (pkey A) = none := h3 _ (pkey_b A) fun q hq e => hm ⟨q, hq, pkey_inj (hQ.st q hq).1 hA (hQ.st q hq).2.1 la hn e⟩
    have ht : (Q.any fun x => decide (x.1 = A)) = false := by
      rw [List.any_eq_false]
      intro q hq
      simp only [decide_eq_true_eq]
      exact fun e => hm ⟨q, hq, e⟩
    rw [hx] at hl
    exact ⟨_, by rw [ht]; exact hl⟩
/-- a way to a state that was not met. -/
theorem WM.store {w : World} {B b n : Nat} {Q : List Way} (h : WM w B b Q) (hQ : QOk n Q) (hn : n ≤ 16) (hl : Q.length < maxLen) {A : List Int} (hA : Thr A) (la : A.length = n) (hno : (Q.any fun q => decide (q.1 = A)) = false) {u : Value} {M : List (Int × Int)} (hu : MRow w B u M) :
    ∃ (z : Value) (st : Nat) (w1 w3 : World), (Instr.mapEntry 80 (.map (some b)) (.agg #[.int .u16 (nb (fB A)), .int .u16 (nb (fD A))])).run Tryd.prog w = .ok (.tuple #[z, goInt st]) w1 ∧ (Instr.entryStore 80 (.map (some b)) (goInt st) u).run Tryd.prog w1 = .ok () w3 ∧ w.mapTurned w1 b ∧ w.mapTurned w3 b ∧ WM w3 B b (Q ++ [(A, M)]) := by
  obtain ⟨f, h1, h2, h3⟩ := h
  obtain ⟨st, w1, r1, t1, hst⟩ := h1.entry hl (pkey_b A)
  obtain ⟨w3, r3, p3, t3⟩ := hst w1 u rfl
  have t := t1.trans t3
  refine ⟨_, st, w1, w3, r1, r3, t1, t, pmSet f (pkey A) u, by rw [List.length_append]; exact p3, fun q hq => ?_, fun e he hall => ?_⟩
  · rcases List.mem_append.1 hq with hq | hq
    · obtain ⟨x, e1, e2⟩ := h2 q hq
      have hne : ¬ pkey q.1 = pkey A := fun e => by
        have e := pkey_inj (hQ.st q hq).1 hA (hQ.st q hq).2.1 la hn e
        have := List.any_eq_false.1 hno q hq
        simp [e] at this
      exact ⟨x, by simp [pmSet, hne, e1], e2.turned h1 t⟩
    · simp only [List.mem_singleton] at hq
      subst hq
      exact ⟨u, by simp [pmSet], hu.turned h1 t⟩
  · have hne : ¬ e = pkey A := fun q => hall (A, M) (by simp) q.symm
    simp only [pmSet, hne, if_false]
    exact h3 e he fun q hq => hall q (by simp [hq])
end Go.Proofs.YtigllpegaljkmaaDoor
