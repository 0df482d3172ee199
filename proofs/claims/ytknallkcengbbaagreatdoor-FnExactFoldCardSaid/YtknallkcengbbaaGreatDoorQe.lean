import Derived.Test.YtknallkcengbbaaGreatDoorTe
import Derived.Maps.AppendAt
import Derived.Laws.Slices
import Derived.Test.YtknallkcengbbaaGreatDoorSk
namespace Go.Proofs.YtknallkcengbbaaGreatDoor
open Go.RowKit
set_option linter.unusedVariables false
set_option linter.unusedSimpArgs false

/-- a list of ints of the call's own. -/
def OI (w : World) (B : Nat) (v : Value) (L : List Int) : Prop := w.ownsRow B 3 1 v L.length (L.map (Value.int .i64))
theorem OI.nil (w : World) (B : Nat) : OI w B (.slice none 0 0) [] := World.ownsRow_nil _ _ _ _
theorem OI.empty {w : World} {b : Nat} (h : Blk w b #[] 3) : OI w b (.slice (some ⟨b, 0, none⟩) 0 0) [] := ⟨rfl, Or.inr ⟨b, 0, _, rfl, Nat.le_refl _, h, Nat.le_refl _, by unfold maxLen; omega, rfl, rfl⟩⟩
theorem OI.form {w : World} {B : Nat} {v : Value} {L : List Int} (h : OI w B v L) : (v = .slice none 0 0 ∧ L = []) ∨ ∃ g cap, v = .slice (some ⟨g, 0, none⟩) L.length cap ∧ B ≤ g ∧ g < w.heap.size ∧ L.length ≤ cap := by
  rcases h.2 with ⟨h1, h2⟩ | ⟨g, cap, cur, rfl, hb, hg, hc, r⟩
  · exact Or.inl ⟨h1, List.length_eq_zero_iff.1 h2⟩
  · exact Or.inr ⟨g, cap, rfl, hb, (Array.getElem?_eq_some_iff.1 hg).1, hc⟩
theorem OI.shape {w : World} {B : Nat} {v : Value} {L : List Int} (h : OI w B v L) : ∃ s c, v = .slice s L.length c := by
  rcases h.form with ⟨rfl, rfl⟩ | ⟨g, cap, rfl, _⟩
  · exact ⟨_, _, rfl⟩
  · exact ⟨_, _, rfl⟩
theorem OI.cap {w : World} {B : Nat} {s : Option Addr} {n c : Nat} {L : List Int} (h : OI w B (.slice s n c) L) : n ≤ c := by
  rcases h.2 with ⟨h1, _⟩ | ⟨g, cap, cur, h1, _, _, h2, _⟩
  · simp only [Value.slice.injEq] at h1; omega
  · simp only [Value.slice.injEq] at h1
    obtain ⟨_, rfl, rfl⟩ := h1
    exact h2
theorem OI.lt {w : World} {B : Nat} {v : Value} {L : List Int} (h : OI w B v L) : ∀ g, v.ownBlock = some g → B ≤ g ∧ g < w.heap.size := World.ownsRow.lt h
theorem OI.later {w w' : World} {B : Nat} {v : Value} {L : List Int} (h : OI w B v L) (hb : Below w.heap.size w w') : OI w' B v L := by
  refine World.ownsRow.kept h (grown_of_below hb) ?_
  cases v.ownBlock with
  | none => exact Or.inl rfl
  | some b => exact Or.inr (by simp)
theorem OI.mono {w : World} {B B' : Nat} {v : Value} {L : List Int} (h : OI w B v L) (hB : B' ≤ B) : OI w B' v L := by
  refine ⟨h.1, ?_⟩
  rcases h.2 with h' | ⟨g, cap', cur, h', hb, r⟩
  · exact Or.inl h'
  · exact Or.inr ⟨g, cap', cur, h', Nat.le_trans hB hb, r⟩
theorem OI.same {w w' : World} {B : Nat} {v : Value} {L : List Int} (h : OI w B v L) (hs : ∀ g, v.ownBlock = some g → w'.heap[g]? = w.heap[g]?) : OI w' B v L := by
  refine ⟨h.1, ?_⟩
  rcases h.2 with h' | ⟨g, cap', cur, h', hb', hg, r⟩
  · exact Or.inl h'
  · refine Or.inr ⟨g, cap', cur, h', hb', ?_, r⟩
    subst h'
    exact (hs g rfl).trans hg
theorem flat_one (L : List Int) : L.flatMap (fun x => [Value.int .i64 x]) = L.map (Value.int .i64) := by
  induction L with
  | nil => rfl
  | cons a l ih => rw [List.flatMap_cons, ih]; rfl
theorem OI.els {w : World} {B : Nat} {s : Option Addr} {c : Nat} {L : List Int} (h : OI w B (.slice s L.length c) L) : Els 1 cInt w B s L := by
  rcases h.form with ⟨h1, rfl⟩ | ⟨g, cap, h1, _, _, _⟩
  · exact Or.inl rfl
  · simp only [Value.slice.injEq] at h1
    obtain ⟨rfl, _, rfl⟩ := h1
    have h' : w.ownsRow B 3 1 (.slice (some ⟨g, 0, none⟩) L.length c) L.length (L.flatMap (fun x => [Value.int .i64 x])) := by
      rw [flat_one]; exact h
    exact els_of_row (f := fun x => [Value.int .i64 x]) (fun _ => rfl) h' (fun a ha => rfl)
theorem run_append_noneI (w : World) (ty : TypeId) (b : Option Addr) (l c d : Nat) (h : l ≤ c) : (Builtin.append_ #[23, 23] ty #[.slice b l c, .slice none 0 d]).run Tryz.prog w = .ok (.slice b l c) w := by
  obtain ⟨i0, hi, hz0, hz1, hz2⟩ := info_parts Tryz.infoI
  cases b with
  | none => simp [Builtin.append_, run_underlying Tryz.underlying23, sizeOf, typeInfo, hi, Builtin.lenOf, h, run_firstCells_none]
  | some a => simp [Builtin.append_, run_underlying Tryz.underlying23, sizeOf, typeInfo, hi, Builtin.lenOf, h, run_firstCells_none, storeCells]
def NearI (w : World) (v v' : Value) : Prop := ∀ g, v'.ownBlock = some g → v.ownBlock = some g ∨ g = w.heap.size
theorem append_ints (w : World) (ty : TypeId) (Bs : Nat) (s : Option Addr) (c : Nat) (L : List Int) (hv : OI w Bs (.slice s L.length c) L) (B0 : Nat) (t : Option Addr) (d : Nat) (M : List Int) (hM : Els 1 cInt w B0 t M) (hl : L.length + M.length ≤ 17592186044416) (hB : Bs ≤ w.heap.size) :
    ∃ s' c' w', (Builtin.append_ #[23, 23] ty #[.slice s L.length c, .slice t M.length d]).run Tryz.prog w = .ok (.slice s' (L ++ M).length c') w' ∧ OI w' Bs (.slice s' (L ++ M).length c') (L ++ M) ∧ w.grownBy w' (Value.slice s L.length c).ownBlock ∧ NearI w (.slice s L.length c) (.slice s' (L ++ M).length c') := by
  have hnone : t = none → M = [] := by
    rintro rfl
    rcases hM with h | ⟨b, o, e, _⟩
    · exact h
    · cases e
  cases t with
  | none =>
    have := hnone rfl
    subst this
    refine ⟨s, c, w, ?_, ?_, grown_refl _ _, ?_⟩
    · rw [List.append_nil]; exact run_append_noneI w ty s L.length c d hv.cap
    · rw [List.append_nil]; exact hv
    · intro g hg; rw [List.append_nil] at hg; exact Or.inl hg
  | some a =>
    obtain ⟨i0, hi, hz0, hz1, hz2⟩ := info_parts Tryz.infoI
    have hnews : ∀ j u, (M.map (Value.int .i64))[j]? = some u → w.cell? (a.add j) = some u := by
      intro j u hu
      have hj : j < M.length := by have := (List.getElem?_eq_some_iff.1 hu).1; simpa using this
      rcases hM with h | ⟨b, o, e, _, _, h3, _⟩
      · subst h; simp at hj
      · cases e
        obtain ⟨p, hp⟩ := get_some (L := M) (k := j) hj
        obtain ⟨cs, e1, e2, e3⟩ := h3 j p hp
        have e3 : cs = [.int .i64 p] := e3
        subst e3
        rw [List.getElem?_map, hp] at hu
        simp at hu
        subst hu
        rw [Go.WideShapes.add_plain]
        have := e2 0 _ rfl
        rw [show o + j * 1 + 0 = o + j by omega] at this
        exact this
    obtain ⟨v', w', hrun, h2, h3, _, h5⟩ := run_append_own_at (P := Tryz.prog) w Bs 23 ty 3 i0 (.int .i64 0) 1 8 Tryz.underlying23 hi hz0 hz1 hz2 rfl (by decide) (.slice s L.length c) L.length (L.map (Value.int .i64)) hv a M.length d (M.map (Value.int .i64)) (by simp) hnews (by intro u hu; obtain ⟨x, _, rfl⟩ := List.mem_map.1 hu; rfl) (by unfold maxLen; omega) (by omega) hB
    have hO : OI w' Bs v' (L ++ M) := by
      unfold OI
      rw [List.length_append, List.map_append]
      exact h2
    obtain ⟨s', c', rfl⟩ := hO.shape
    refine ⟨s', c', w', hrun, hO, h3, ?_⟩
    intro q hq
    rcases h5 with h5 | h5
    · left; rw [← h5]; exact hq
    · right; rw [h5] at hq; cases hq; rfl
theorem wpList_append_ints {w : World} {ops : Array Oper} {rest : List Oper} {o : Oper} {a : Act} {Q : Exit → Act → World → Prop}
    (hgd : o.guard = none) (s x : Operand) (hop : o.op = Op.call { callee := Callee.builtin Builtin.append, args := #[s, x], argTypes := #[23, 23] })
    (Bs : Nat) (s0 : Option Addr) (c0 : Nat) (L : List Int) (hs : a.eval s = .slice s0 L.length c0) (hv : OI w Bs (.slice s0 L.length c0) L) (B0 : Nat) (t : Option Addr) (d : Nat) (M : List Int) (hx : a.eval x = .slice t M.length d) (hM : Els 1 cInt w B0 t M) (R : List Int) (hR : L ++ M = R) (hl : L.length + M.length ≤ 17592186044416) (hB : Bs ≤ w.heap.size)
    (h : ∀ s' c' w', OI w' Bs (.slice s' R.length c') R → w.grownBy w' (Value.slice s0 L.length c0).ownBlock → NearI w (.slice s0 L.length c0) (.slice s' R.length c') → wpList Tryz.prog ops Q rest (a.put o.dst (.slice s' R.length c')) w') :
    wpList Tryz.prog ops Q (o :: rest) a w := by
  refine wpList_plain hgd fun K hK => ?_
  obtain ⟨s', c', w', hrun, h1, h2, h3⟩ := append_ints w o.type Bs s0 c0 L hv B0 t d M hM hl hB
  rw [hR] at hrun h1 h3
  unfold Oper.wp
  simp [execOp, hop, resolve, invoke, builtin, hs, hx, hrun, Result.andThen]
  exact hK _ _ (h s' c' w' h1 h2 h3)
theorem grown_oi {B : Nat} {W X Y : World} {s : Option Addr} {L : List Int} {c : Nat} (hb : Below B W X) (hB : B ≤ X.heap.size) (hv : OI X B (.slice s L.length c) L) (hg : X.grownBy Y (Value.slice s L.length c).ownBlock) : Below B W Y :=
  hb.grown hg hB (fun q hq => (hv.lt q hq).1)
theorem Els.one {w : World} {b : Nat} {x : Int} (h : Blk w b #[.int .i64 x] 3) : Els 1 cInt w b (some ⟨b, 0, none⟩) [x] := by
  refine Or.inr ⟨b, 0, rfl, Nat.le_refl _, h.lt, fun j a ha => ?_, fun _ j => h.frozen j⟩
  have hj : j < 1 := by have := (List.getElem?_eq_some_iff.1 ha).1; simpa using this
  obtain rfl : j = 0 := by omega
  simp at ha
  subst ha
  refine ⟨[.int .i64 x], rfl, fun i u hu => ?_, rfl⟩
  have hi : i = 0 := by have := (List.getElem?_eq_some_iff.1 hu).1; simp at this; exact this
  subst hi
  simp at hu
  subst hu
  simpa using h.cell 0

/-- strictly rising. -/
def Asc (L : List Int) : Prop := L.Pairwise (· < ·)
theorem asc_last {R : List Int} (h : Asc R) {j : Nat} {x l : Int} (hj : R[j]? = some x) (hl : R[R.length - 1]? = some l) : x ≤ l := by
  have h1 : j < R.length := (List.getElem?_eq_some_iff.1 hj).1
  by_cases e : j = R.length - 1
  · rw [e, hl] at hj; cases hj; exact Int.le_refl _
  · have := List.pairwise_iff_getElem.1 h j (R.length - 1) h1 (by omega) (by omega)
    have e1 : R[j] = x := by rw [List.getElem?_eq_getElem h1] at hj; simpa using hj
    have e2 : R[R.length - 1]'(by omega) = l := by rw [List.getElem?_eq_getElem (by omega)] at hl; simpa using hl
    rw [e1, e2] at this; omega
theorem asc_unique {L M : List Int} (hL : Asc L) (hM : Asc M) (h : ∀ x, x ∈ L ↔ x ∈ M) : L = M := by
  refine List.Perm.eq_of_pairwise (le := fun a b => a ≤ b) (fun a b _ _ h1 h2 => by omega) (hL.imp (fun h => by omega)) (hM.imp (fun h => by omega)) ?_
  exact (List.perm_ext_iff_of_nodup (hL.imp (fun h => by omega)) (hM.imp (fun h => by omega))).2 h
/-- two rising lists under way to one. -/
structure Inv (A B : List Int) (i k : Nat) (R : List Int) : Prop where
  asc : Asc R
  mem : ∀ x, x ∈ R ↔ x ∈ A.take i ∨ x ∈ B.take k
  la : ∀ x ∈ R, ∀ y ∈ A.drop i, x ≤ y
  lb : ∀ x ∈ R, ∀ y ∈ B.drop k, x ≤ y
  len : R.length ≤ i + k
theorem mem_take_succ {A : List Int} {i : Nat} {x y : Int} (h : A[i]? = some x) : y ∈ A.take (i + 1) ↔ y ∈ A.take i ∨ y = x := by
  have hk : i < A.length := (List.getElem?_eq_some_iff.1 h).1
  rw [List.take_succ_eq_append_getElem hk]
  have e : A[i] = x := by rw [List.getElem?_eq_getElem hk] at h; simpa using h
  rw [e]; simp
theorem drop_cons {A : List Int} {i : Nat} {x : Int} (h : A[i]? = some x) : A.drop i = x :: A.drop (i + 1) := by
  have hk : i < A.length := (List.getElem?_eq_some_iff.1 h).1
  rw [List.drop_eq_getElem_cons hk]
  congr 1
  rw [List.getElem?_eq_getElem hk] at h; simpa using h
theorem asc_drop {A : List Int} (hA : Asc A) {i : Nat} {x : Int} (h : A[i]? = some x) : ∀ y ∈ A.drop (i + 1), x < y := by
  intro y hy
  have := List.Pairwise.sublist (List.drop_sublist i A) hA
  rw [drop_cons h] at this
  exact (List.pairwise_cons.1 this).1 y hy
theorem Inv.swap {A B : List Int} {i k : Nat} {R : List Int} (h : Inv A B i k R) : Inv B A k i R := ⟨h.asc, fun x => (h.mem x).trans Or.comm, h.lb, h.la, by have := h.len; omega⟩
/-- the next one is one that was not there. -/
theorem Inv.new {A B : List Int} {i k : Nat} {R : List Int} {x : Int} (h : Inv A B i k R) (hA : Asc A) (hB : Asc B) (hx : A[i]? = some x) (hmin : ∀ y, B[k]? = some y → x ≤ y) (hl : R = [] ∨ ∃ l, R[R.length - 1]? = some l ∧ ¬ l = x) : Inv A B (i + 1) k (R ++ [x]) := by
  have hle : ∀ r ∈ R, r ≤ x := fun r hr => h.la r hr x (by rw [drop_cons hx]; simp)
  have hlt : ∀ r ∈ R, r < x := by
    intro r hr
    rcases hl with rfl | ⟨l, hl, hne⟩
    · simp at hr
    · obtain ⟨j, hj, rfl⟩ := List.getElem_of_mem hr
      have h1 := asc_last h.asc (j := j) (x := R[j]) (by simp [hj]) hl
      have h2 := hle l (List.mem_of_getElem? hl)
      omega
  refine ⟨List.pairwise_append.2 ⟨h.asc, by simp, fun a ha b hb => by simp at hb; subst hb; exact hlt a ha⟩, fun y => ?_, fun r hr y hy => ?_, fun r hr y hy => ?_, by have := h.len; simp; omega⟩
  · rw [List.mem_append, h.mem y, mem_take_succ hx]
    simp only [List.mem_singleton]
    constructor
    · rintro ((h1 | h1) | h1)
      · exact Or.inl (Or.inl h1)
      · exact Or.inr h1
      · exact Or.inl (Or.inr h1)
    · rintro ((h1 | h1) | h1)
      · exact Or.inl (Or.inl h1)
      · exact Or.inr h1
      · exact Or.inl (Or.inr h1)
  · rcases List.mem_append.1 hr with hr | hr
    · exact h.la r hr y (by rw [drop_cons hx]; simp [hy])
    · simp at hr; subst hr; have := asc_drop hA hx y hy; omega
  · rcases List.mem_append.1 hr with hr | hr
    · exact h.lb r hr y hy
    · simp at hr; subst hr
      cases hk : B[k]? with
      | none => rw [List.drop_eq_nil_of_le (List.getElem?_eq_none_iff.1 hk)] at hy; simp at hy
      | some z =>
        have h1 := hmin z hk
        rw [drop_cons hk] at hy
        rcases List.mem_cons.1 hy with rfl | hy
        · exact h1
        · have := asc_drop hB hk y hy; omega
theorem Inv.old {A B : List Int} {i k : Nat} {R : List Int} {x : Int} (h : Inv A B i k R) (hx : A[i]? = some x) (hl : R[R.length - 1]? = some x) : Inv A B (i + 1) k R := by
  have hm := List.mem_of_getElem? hl
  refine ⟨h.asc, fun y => ?_, fun r hr y hy => h.la r hr y (by rw [drop_cons hx]; simp [hy]), h.lb, by have := h.len; omega⟩
  rw [mem_take_succ hx, h.mem y]
  constructor
  · rintro (h1 | h1)
    · exact Or.inl (Or.inl h1)
    · exact Or.inr h1
  · rintro ((h1 | rfl) | h1)
    · exact Or.inl h1
    · exact (h.mem y).1 hm
    · exact Or.inr h1
def Srt (L R : List Int) : Prop := Asc R ∧ (∀ x, x ∈ R ↔ x ∈ L) ∧ R.length ≤ L.length
theorem Srt.same {L R R' : List Int} (h : Srt L R) (g : Srt L R') : R = R' := asc_unique h.1 g.1 (fun x => (h.2.1 x).trans (g.2.1 x).symm)
theorem Els.dropN {w : World} {B b o : Nat} {L : List Int} (h : Els 1 cInt w B (some ⟨b, o, none⟩) L) (m : Nat) : Els 1 cInt w B (some ⟨b, o + m, none⟩) (L.drop m) := by
  rcases h with rfl | ⟨b', o', e, h1, h2, h3, hz⟩
  · exact Or.inl (by simp)
  · cases e
    refine Or.inr ⟨b, o + m, rfl, h1, h2, fun j a ha => ?_, hz⟩
    rw [List.getElem?_drop] at ha
    obtain ⟨cs, e1, e2, e3⟩ := h3 (m + j) a ha
    refine ⟨cs, e1, fun i u hu => ?_, e3⟩
    have := e2 i u hu
    rw [show o + (m + j) * 1 + i = o + m + j * 1 + i by omega] at this
    exact this
theorem Els.takeN {w : World} {B : Nat} {s : Option Addr} {L : List Int} (h : Els 1 cInt w B s L) (m : Nat) : Els 1 cInt w B s (L.take m) := by
  rcases h with rfl | ⟨b, o, e, h1, h2, h3, hz⟩
  · exact Or.inl (by simp)
  · refine Or.inr ⟨b, o, e, h1, h2, fun j a ha => h3 j a ?_, hz⟩
    rw [List.getElem?_take] at ha
    split at ha
    · exact ha
    · cases ha

end Go.Proofs.YtknallkcengbbaaGreatDoor
