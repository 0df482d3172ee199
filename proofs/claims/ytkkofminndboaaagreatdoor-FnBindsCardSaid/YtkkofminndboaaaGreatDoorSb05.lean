import Derived.Test.YtkkofminndboaaaGreatDoorSb04
namespace Go.Proofs.YtkkofminndboaaaGreatDoor
set_option linter.unusedVariables false
set_option linter.unusedSimpArgs false
section
open Go.RowKit
def Gd2 (T : List Tk) (lo i0 n0 : Nat) (r : PRes) : Prop :=
 match r with
 | .ok (_, j, M) => lo ≤ j ∧ j ≤ T.length ∧ M.length + 2 * i0 ≤ n0 + 2 * j
 | .error e => ¬ e.1 = 99
theorem Gd2.weak {T : List Tk} {lo lo' i0 n0 i1 n1 : Nat} {r : PRes} (h : Gd2 T lo i1 n1 r) (hl : lo' ≤ lo ∧ n1 + 2 * i0 ≤ n0 + 2 * i1) : Gd2 T lo' i0 n0 r := by
 unfold Gd2 at *
 split at h
 ·
  obtain ⟨h1, h2, h3⟩ := h
  exact ⟨Nat.le_trans hl.1 h1, h2, by omega⟩
 exact h
theorem gd_then {T : List Tk} {lo lo' i0 n0 i1 n1 : Nat} {r : PRes} {k : List Int → Nat → List Nd → PRes} (h : Gd2 T lo i1 n1 r) (hk : ∀ x j N, lo ≤ j ∧ j ≤ T.length ∧ N.length + 2 * i1 ≤ n1 + 2 * j → Gd2 T lo' i0 n0 (k x j N)) : Gd2 T lo' i0 n0 (r.then k) := by
 unfold PRes.then
 unfold Gd2 at h
 split at h
 ·
  exact hk _ _ _ h
 exact h
theorem tx_none {T : List Tk} {i : Nat} (h : ¬ i < T.length) : tx T i = ⟨#[]⟩ := by
 unfold tx
 rw [List.getElem?_eq_none (by omega)]
 rfl
theorem kd_none {T : List Tk} {i : Nat} (h : ¬ i < T.length) : kd T i = 0 := by
 unfold kd
 rw [List.getElem?_eq_none (by omega)]
 rfl
theorem tx_lt {T : List Tk} {i : Nat} {s : ByteArray} (h : tx T i = s) (hs : ¬ s = ⟨#[]⟩) : i < T.length :=
 Classical.byContradiction fun g => hs (h.symm.trans (tx_none g))
theorem kd_lt {T : List Tk} {i : Nat} {c : Int} (h : kd T i = c) (hc : ¬ c = 0) : i < T.length :=
 Classical.byContradiction fun g => hc (h.symm.trans (kd_none g))
theorem gd_err2 {T : List Tk} {lo i0 n0 : Nat} {a : Int} : Gd2 T lo i0 n0 (.error (2, a)) := by show ¬ (2 : Int) = 99; decide
theorem gd_err3 {T : List Tk} {lo i0 n0 : Nat} {a : Int} : Gd2 T lo i0 n0 (.error (3, a)) := by show ¬ (3 : Int) = 99; decide
theorem gd_want {T : List Tk} {E : Int} {s : ByteArray} {i lo i0 n0 : Nat} {k : Nat → PRes} (hs : ¬ s = ⟨#[]⟩) (hk : i < T.length → Gd2 T lo i0 n0 (k (i + 1))) : Gd2 T lo i0 n0 (pWant T E s i k) := by
 unfold pWant
 split
 ·
  rename_i h; exact hk (tx_lt h hs)
 exact gd_err2
theorem gd_name {T : List Tk} {E : Int} {i lo i0 n0 : Nat} {k : ByteArray → Nat → PRes} (hk : ∀ s, i < T.length → Gd2 T lo i0 n0 (k s (i + 1))) : Gd2 T lo i0 n0 (pName T E i k) := by
 unfold pName
 split
 ·
  rename_i h; exact hk _ (kd_lt h (by decide))
 exact gd_err2
theorem kindOf_nil : kindOf ⟨#[]⟩ = 0 := by decide
theorem gd_kind {T : List Tk} {E : Int} {i lo i0 n0 : Nat} {k : Int → Nat → PRes} (hk : ∀ q, i < T.length → Gd2 T lo i0 n0 (k q (i + 1))) : Gd2 T lo i0 n0 (pKind T E i k) := by
 unfold pKind
 split
 ·
  exact gd_err2
 rename_i h
 exact hk _ (Classical.byContradiction fun g => h (by rw [tx_none g, kindOf_nil]))
theorem gd_node {T : List Tk} {n : Nd} {i lo i0 n0 : Nat} {N : List Nd} (h : lo ≤ i ∧ i ≤ T.length ∧ N.length + 1 + 2 * i0 ≤ n0 + 2 * i) : Gd2 T lo i0 n0 (pNode n i N) := ⟨h.1, h.2.1, by simp; omega⟩
theorem gd_node' {T : List Tk} {n : Nd} {i : Nat} {N : List Nd} (h : i ≤ T.length) : Gd2 T i i (N.length + 1) (pNode n i N) := ⟨Nat.le_refl _, h, by simp⟩
theorem gd_ok {T : List Tk} {lo i i0 n0 : Nat} {x : List Int} {N : List Nd} (h : lo ≤ i ∧ i ≤ T.length ∧ N.length + 2 * i0 ≤ n0 + 2 * i) : Gd2 T lo i0 n0 (.ok (x, i, N)) := h
theorem gd_if {T : List Tk} {c : Prop} [Decidable c] {lo i0 n0 : Nat} {a b : PRes} (ha : c → Gd2 T lo i0 n0 a) (hb : ¬ c → Gd2 T lo i0 n0 b) : Gd2 T lo i0 n0 (if c then a else b) := by
 split
 ·
  exact ha ‹_›
 exact hb ‹_›
theorem gd_tx {T : List Tk} {s : ByteArray} {i lo i0 n0 : Nat} {a b : PRes} (hs : ¬ s = ⟨#[]⟩) (ha : i < T.length → Gd2 T lo i0 n0 a) (hb : Gd2 T lo i0 n0 b) : Gd2 T lo i0 n0 (if tx T i = s then a else b) := by
 split
 ·
  rename_i h; exact ha (tx_lt h hs)
 exact hb
def Pf.wf : Pf → Prop
 | .lvl _ l => 1 ≤ l ∧ l ≤ 6
 | .loop _ l _ => 1 ≤ l ∧ l ≤ 5
 | _ => True
def Pf.rank : Pf → Nat
 | .expr _ => 8
 | .lvl _ l => 8 - l
 | .loop _ _ _ => 1
 | .prim _ => 1
 | .listed _ _ => 1
 | .items _ _ _ => 10
 | .item _ _ => 9
 | .block _ => 1
 | .stmts _ _ => 3
 | .stmt _ => 2
 | .top => 2
 | .tops _ => 3
def Pf.lo : Pf → Nat → Nat
 | .loop _ _ _, i => i
 | .tops _, i => i
 | _, i => i + 1
def Pf.need (T : List Tk) (p : Pf) (i : Nat) : Nat := 12 * (T.length - i) + p.rank
theorem lev_nil : levOf (opOf ⟨#[]⟩) = 0 := by decide
theorem lev_lt {T : List Tk} {i l : Nat} (h : levOf (opOf (tx T i)) = l) (hl : 1 ≤ l) : i < T.length := by
 apply Classical.byContradiction
 intro g
 rw [tx_none g, lev_nil] at h
 omega
theorem par_good (T : List Tk) (E : Int) : ∀ (f : Nat) (p : Pf) (i : Nat) (N : List Nd), p.wf → i ≤ T.length → p.need T i ≤ f → Gd2 T (p.lo i) i N.length (par T E f p i N) := by
 intro f
 induction f with
 | zero =>
  intro p i N hw _ h
  cases p <;> simp [Pf.need, Pf.rank] at h <;> (try (unfold Pf.wf at *)) <;> omega
 | succ f ih =>
  intro p i N hw hl h
  cases p with
  | lvl d l =>
   unfold par
   obtain ⟨h1, h2⟩ := hw
   refine gd_if (fun _ => ?_) (fun g => ?_)
   ·
    exact ih (.prim d) i N trivial hl (by simp only [Pf.need, Pf.rank] at h ⊢; omega)
   refine gd_then (ih (.lvl d (l + 1)) i N ⟨by omega, by omega⟩ hl (by simp only [Pf.need, Pf.rank] at h ⊢; omega)) fun x j M hj => ?_
   exact (ih (.loop d l _) j M ⟨by omega, by omega⟩ hj.2.1 (by simp only [Pf.need, Pf.rank, Pf.lo] at h hj ⊢; omega)).weak ⟨hj.1, by omega⟩
  | loop d l a =>
   unfold par
   refine gd_if (fun g => ?_) (fun _ => gd_ok ⟨Nat.le_refl _, hl, by omega⟩)
   have hi := lev_lt g hw.1
   refine gd_then (ih (.lvl d (l + 1)) (i + 1) N ⟨by omega, by have := hw.2; omega⟩ hi (by simp only [Pf.need, Pf.rank] at h ⊢; omega)) fun x j M hj => ?_
   simp only [Pf.lo] at hj ⊢
   refine gd_if (fun _ => gd_node ⟨by omega, hj.2.1, by omega⟩) (fun _ => ?_)
   refine gd_then (gd_node' hj.2.1) fun y j2 M2 hj2 => ?_
   exact (ih (.loop d l (y.headD 0)) j2 M2 hw hj2.2.1 (by simp only [Pf.need, Pf.rank] at h ⊢; omega)).weak (lo' := i) ⟨by simp only [Pf.lo]; omega, by omega⟩
  | prim d =>
   by_cases hi : i < T.length
   ·
    unfold par
    repeat' (first
      | with_reducible exact gd_err2
      | with_reducible exact gd_err3
      | with_reducible refine gd_node ?_
      | with_reducible refine gd_ok ?_
      | with_reducible refine gd_want (by decide) (fun _ => ?_)
      | with_reducible refine gd_name (fun _ _ => ?_)
      | with_reducible refine gd_kind (fun _ _ => ?_)
      | with_reducible refine gd_tx (by decide) (fun _ => ?_) ?_
      | with_reducible refine gd_if (fun _ => ?_) (fun _ => ?_)
      | with_reducible refine gd_then (gd_node' ?_) (fun _ _ _ _ => ?_)
      | with_reducible refine gd_then (ih _ _ _ ?_ ?_ ?_) (fun _ _ _ _ => ?_)
      | with_reducible refine gd_then (lo := i + 1) (i1 := i + 2) (n1 := N.length + 1) (gd_tx (by decide) (fun _ => Gd2.weak (ih _ _ _ ?_ ?_ ?_) ?_) (gd_ok ?_)) (fun _ _ _ _ => ?_)
      | with_reducible refine Gd2.weak (ih _ _ _ ?_ ?_ ?_) ?_
      | exact trivial
      | (simp only [Pf.need, Pf.rank, Pf.lo] at *; omega)
      | (simp only [Pf.need, Pf.rank, Pf.lo] at *; refine ⟨?_, ?_⟩ <;> omega)
      | (simp only [Pf.need, Pf.rank, Pf.lo] at *; refine ⟨?_, ?_, ?_⟩ <;> omega))
   unfold par
   skip
   repeat' (first | exact gd_err2 | refine gd_if (fun g => absurd g (by rw [kd_none hi]; decide)) (fun _ => ?_) | refine gd_if (fun g => absurd g (by rw [tx_none hi]; decide)) (fun _ => ?_))
  | expr d =>
   unfold par
   repeat' (first
    | with_reducible exact gd_err2
    | with_reducible exact gd_err3
    | with_reducible refine gd_node ?_
    | with_reducible refine gd_ok ?_
    | with_reducible refine gd_want (by decide) (fun _ => ?_)
    | with_reducible refine gd_name (fun _ _ => ?_)
    | with_reducible refine gd_kind (fun _ _ => ?_)
    | with_reducible refine gd_tx (by decide) (fun _ => ?_) ?_
    | with_reducible refine gd_if (fun _ => ?_) (fun _ => ?_)
    | with_reducible refine gd_then (gd_node' ?_) (fun _ _ _ _ => ?_)
    | with_reducible refine gd_then (ih _ _ _ ?_ ?_ ?_) (fun _ _ _ _ => ?_)
    | with_reducible refine gd_then (lo := i + 1) (i1 := i + 2) (n1 := N.length + 1) (gd_tx (by decide) (fun _ => Gd2.weak (ih _ _ _ ?_ ?_ ?_) ?_) (gd_ok ?_)) (fun _ _ _ _ => ?_)
    | with_reducible refine Gd2.weak (ih _ _ _ ?_ ?_ ?_) ?_
    | exact trivial
    | (simp only [Pf.need, Pf.rank, Pf.lo] at *; omega)
    | (simp only [Pf.need, Pf.rank, Pf.lo] at *; refine ⟨?_, ?_⟩ <;> omega)
    | (simp only [Pf.need, Pf.rank, Pf.lo] at *; refine ⟨?_, ?_, ?_⟩ <;> omega))
  | listed k d =>
   unfold par
   repeat' (first
    | with_reducible exact gd_err2
    | with_reducible exact gd_err3
    | with_reducible refine gd_node ?_
    | with_reducible refine gd_ok ?_
    | with_reducible refine gd_want (by decide) (fun _ => ?_)
    | with_reducible refine gd_name (fun _ _ => ?_)
    | with_reducible refine gd_kind (fun _ _ => ?_)
    | with_reducible refine gd_tx (by decide) (fun _ => ?_) ?_
    | with_reducible refine gd_if (fun _ => ?_) (fun _ => ?_)
    | with_reducible refine gd_then (gd_node' ?_) (fun _ _ _ _ => ?_)
    | with_reducible refine gd_then (ih _ _ _ ?_ ?_ ?_) (fun _ _ _ _ => ?_)
    | with_reducible refine gd_then (lo := i + 1) (i1 := i + 2) (n1 := N.length + 1) (gd_tx (by decide) (fun _ => Gd2.weak (ih _ _ _ ?_ ?_ ?_) ?_) (gd_ok ?_)) (fun _ _ _ _ => ?_)
    | with_reducible refine Gd2.weak (ih _ _ _ ?_ ?_ ?_) ?_
    | exact trivial
    | (simp only [Pf.need, Pf.rank, Pf.lo] at *; omega)
    | (simp only [Pf.need, Pf.rank, Pf.lo] at *; refine ⟨?_, ?_⟩ <;> omega)
    | (simp only [Pf.need, Pf.rank, Pf.lo] at *; refine ⟨?_, ?_, ?_⟩ <;> omega))
  | items k d acc =>
   unfold par
   repeat' (first
    | with_reducible exact gd_err2
    | with_reducible exact gd_err3
    | with_reducible refine gd_node ?_
    | with_reducible refine gd_ok ?_
    | with_reducible refine gd_want (by decide) (fun _ => ?_)
    | with_reducible refine gd_name (fun _ _ => ?_)
    | with_reducible refine gd_kind (fun _ _ => ?_)
    | with_reducible refine gd_tx (by decide) (fun _ => ?_) ?_
    | with_reducible refine gd_if (fun _ => ?_) (fun _ => ?_)
    | with_reducible refine gd_then (gd_node' ?_) (fun _ _ _ _ => ?_)
    | with_reducible refine gd_then (ih _ _ _ ?_ ?_ ?_) (fun _ _ _ _ => ?_)
    | with_reducible refine gd_then (lo := i + 1) (i1 := i + 2) (n1 := N.length + 1) (gd_tx (by decide) (fun _ => Gd2.weak (ih _ _ _ ?_ ?_ ?_) ?_) (gd_ok ?_)) (fun _ _ _ _ => ?_)
    | with_reducible refine Gd2.weak (ih _ _ _ ?_ ?_ ?_) ?_
    | exact trivial
    | (simp only [Pf.need, Pf.rank, Pf.lo] at *; omega)
    | (simp only [Pf.need, Pf.rank, Pf.lo] at *; refine ⟨?_, ?_⟩ <;> omega)
    | (simp only [Pf.need, Pf.rank, Pf.lo] at *; refine ⟨?_, ?_, ?_⟩ <;> omega))
  | item k d =>
   unfold par
   repeat' (first
    | with_reducible exact gd_err2
    | with_reducible exact gd_err3
    | with_reducible refine gd_node ?_
    | with_reducible refine gd_ok ?_
    | with_reducible refine gd_want (by decide) (fun _ => ?_)
    | with_reducible refine gd_name (fun _ _ => ?_)
    | with_reducible refine gd_kind (fun _ _ => ?_)
    | with_reducible refine gd_tx (by decide) (fun _ => ?_) ?_
    | with_reducible refine gd_if (fun _ => ?_) (fun _ => ?_)
    | with_reducible refine gd_then (gd_node' ?_) (fun _ _ _ _ => ?_)
    | with_reducible refine gd_then (ih _ _ _ ?_ ?_ ?_) (fun _ _ _ _ => ?_)
    | with_reducible refine gd_then (lo := i + 1) (i1 := i + 2) (n1 := N.length + 1) (gd_tx (by decide) (fun _ => Gd2.weak (ih _ _ _ ?_ ?_ ?_) ?_) (gd_ok ?_)) (fun _ _ _ _ => ?_)
    | with_reducible refine Gd2.weak (ih _ _ _ ?_ ?_ ?_) ?_
    | exact trivial
    | (simp only [Pf.need, Pf.rank, Pf.lo] at *; omega)
    | (simp only [Pf.need, Pf.rank, Pf.lo] at *; refine ⟨?_, ?_⟩ <;> omega)
    | (simp only [Pf.need, Pf.rank, Pf.lo] at *; refine ⟨?_, ?_, ?_⟩ <;> omega))
  | block d =>
   unfold par
   repeat' (first
    | with_reducible exact gd_err2
    | with_reducible exact gd_err3
    | with_reducible refine gd_node ?_
    | with_reducible refine gd_ok ?_
    | with_reducible refine gd_want (by decide) (fun _ => ?_)
    | with_reducible refine gd_name (fun _ _ => ?_)
    | with_reducible refine gd_kind (fun _ _ => ?_)
    | with_reducible refine gd_tx (by decide) (fun _ => ?_) ?_
    | with_reducible refine gd_if (fun _ => ?_) (fun _ => ?_)
    | with_reducible refine gd_then (gd_node' ?_) (fun _ _ _ _ => ?_)
    | with_reducible refine gd_then (ih _ _ _ ?_ ?_ ?_) (fun _ _ _ _ => ?_)
    | with_reducible refine gd_then (lo := i + 1) (i1 := i + 2) (n1 := N.length + 1) (gd_tx (by decide) (fun _ => Gd2.weak (ih _ _ _ ?_ ?_ ?_) ?_) (gd_ok ?_)) (fun _ _ _ _ => ?_)
    | with_reducible refine Gd2.weak (ih _ _ _ ?_ ?_ ?_) ?_
    | exact trivial
    | (simp only [Pf.need, Pf.rank, Pf.lo] at *; omega)
    | (simp only [Pf.need, Pf.rank, Pf.lo] at *; refine ⟨?_, ?_⟩ <;> omega)
    | (simp only [Pf.need, Pf.rank, Pf.lo] at *; refine ⟨?_, ?_, ?_⟩ <;> omega))
  | stmts d acc =>
   unfold par
   repeat' (first
    | with_reducible exact gd_err2
    | with_reducible exact gd_err3
    | with_reducible refine gd_node ?_
    | with_reducible refine gd_ok ?_
    | with_reducible refine gd_want (by decide) (fun _ => ?_)
    | with_reducible refine gd_name (fun _ _ => ?_)
    | with_reducible refine gd_kind (fun _ _ => ?_)
    | with_reducible refine gd_tx (by decide) (fun _ => ?_) ?_
    | with_reducible refine gd_if (fun _ => ?_) (fun _ => ?_)
    | with_reducible refine gd_then (gd_node' ?_) (fun _ _ _ _ => ?_)
    | with_reducible refine gd_then (ih _ _ _ ?_ ?_ ?_) (fun _ _ _ _ => ?_)
    | with_reducible refine gd_then (lo := i + 1) (i1 := i + 2) (n1 := N.length + 1) (gd_tx (by decide) (fun _ => Gd2.weak (ih _ _ _ ?_ ?_ ?_) ?_) (gd_ok ?_)) (fun _ _ _ _ => ?_)
    | with_reducible refine Gd2.weak (ih _ _ _ ?_ ?_ ?_) ?_
    | exact trivial
    | (simp only [Pf.need, Pf.rank, Pf.lo] at *; omega)
    | (simp only [Pf.need, Pf.rank, Pf.lo] at *; refine ⟨?_, ?_⟩ <;> omega)
    | (simp only [Pf.need, Pf.rank, Pf.lo] at *; refine ⟨?_, ?_, ?_⟩ <;> omega))
  | stmt d =>
   by_cases hi : i < T.length
   ·
    unfold par
    dsimp only
    repeat' (first
      | with_reducible exact gd_err2
      | with_reducible exact gd_err3
      | with_reducible refine gd_node ?_
      | with_reducible refine gd_ok ?_
      | with_reducible refine gd_want (by decide) (fun _ => ?_)
      | with_reducible refine gd_name (fun _ _ => ?_)
      | with_reducible refine gd_kind (fun _ _ => ?_)
      | with_reducible refine gd_tx (by decide) (fun _ => ?_) ?_
      | with_reducible refine gd_if (fun _ => ?_) (fun _ => ?_)
      | with_reducible refine gd_then (gd_node' ?_) (fun _ _ _ _ => ?_)
      | with_reducible refine gd_then (ih _ _ _ ?_ ?_ ?_) (fun _ _ _ _ => ?_)
      | with_reducible refine gd_then (lo := i + 1) (i1 := i + 2) (n1 := N.length + 1) (gd_tx (by decide) (fun _ => Gd2.weak (ih _ _ _ ?_ ?_ ?_) ?_) (gd_ok ?_)) (fun _ _ _ _ => ?_)
      | with_reducible refine Gd2.weak (ih _ _ _ ?_ ?_ ?_) ?_
      | exact trivial
      | (simp only [Pf.need, Pf.rank, Pf.lo] at *; omega)
      | (simp only [Pf.need, Pf.rank, Pf.lo] at *; refine ⟨?_, ?_⟩ <;> omega)
      | (simp only [Pf.need, Pf.rank, Pf.lo] at *; refine ⟨?_, ?_, ?_⟩ <;> omega))
   unfold par
   dsimp only
   repeat' (first | exact gd_err2 | refine gd_if (fun g => absurd g (by rw [kd_none hi]; decide)) (fun _ => ?_) | refine gd_if (fun g => absurd g (by rw [tx_none hi]; decide)) (fun _ => ?_))
  | top =>
   by_cases hi : i < T.length
   ·
    unfold par
    repeat' (first
      | with_reducible exact gd_err2
      | with_reducible exact gd_err3
      | with_reducible refine gd_node ?_
      | with_reducible refine gd_ok ?_
      | with_reducible refine gd_want (by decide) (fun _ => ?_)
      | with_reducible refine gd_name (fun _ _ => ?_)
      | with_reducible refine gd_kind (fun _ _ => ?_)
      | with_reducible refine gd_tx (by decide) (fun _ => ?_) ?_
      | with_reducible refine gd_if (fun _ => ?_) (fun _ => ?_)
      | with_reducible refine gd_then (gd_node' ?_) (fun _ _ _ _ => ?_)
      | with_reducible refine gd_then (ih _ _ _ ?_ ?_ ?_) (fun _ _ _ _ => ?_)
      | with_reducible refine gd_then (lo := i + 1) (i1 := i + 2) (n1 := N.length + 1) (gd_tx (by decide) (fun _ => Gd2.weak (ih _ _ _ ?_ ?_ ?_) ?_) (gd_ok ?_)) (fun _ _ _ _ => ?_)
      | with_reducible refine Gd2.weak (ih _ _ _ ?_ ?_ ?_) ?_
      | exact trivial
      | (simp only [Pf.need, Pf.rank, Pf.lo] at *; omega)
      | (simp only [Pf.need, Pf.rank, Pf.lo] at *; refine ⟨?_, ?_⟩ <;> omega)
      | (simp only [Pf.need, Pf.rank, Pf.lo] at *; refine ⟨?_, ?_, ?_⟩ <;> omega))
   unfold par
   skip
   repeat' (first | exact gd_err2 | refine gd_if (fun g => absurd g (by rw [kd_none hi]; decide)) (fun _ => ?_) | refine gd_if (fun g => absurd g (by rw [tx_none hi]; decide)) (fun _ => ?_))
  | tops acc =>
   unfold par
   repeat' (first
    | with_reducible exact gd_err2
    | with_reducible exact gd_err3
    | with_reducible refine gd_node ?_
    | with_reducible refine gd_ok ?_
    | with_reducible refine gd_want (by decide) (fun _ => ?_)
    | with_reducible refine gd_name (fun _ _ => ?_)
    | with_reducible refine gd_kind (fun _ _ => ?_)
    | with_reducible refine gd_tx (by decide) (fun _ => ?_) ?_
    | with_reducible refine gd_if (fun _ => ?_) (fun _ => ?_)
    | with_reducible refine gd_then (gd_node' ?_) (fun _ _ _ _ => ?_)
    | with_reducible refine gd_then (ih _ _ _ ?_ ?_ ?_) (fun _ _ _ _ => ?_)
    | with_reducible refine gd_then (lo := i + 1) (i1 := i + 2) (n1 := N.length + 1) (gd_tx (by decide) (fun _ => Gd2.weak (ih _ _ _ ?_ ?_ ?_) ?_) (gd_ok ?_)) (fun _ _ _ _ => ?_)
    | with_reducible refine Gd2.weak (ih _ _ _ ?_ ?_ ?_) ?_
    | exact trivial
    | (simp only [Pf.need, Pf.rank, Pf.lo] at *; omega)
    | (simp only [Pf.need, Pf.rank, Pf.lo] at *; refine ⟨?_, ?_⟩ <;> omega)
    | (simp only [Pf.need, Pf.rank, Pf.lo] at *; refine ⟨?_, ?_, ?_⟩ <;> omega))
end
section
open Go.RowKit
def Tks (w : World) (g : Nat) (TT : List Tk) : Prop := ∀ j t, TT[j]? = some t → w.cell? ⟨g, j * 5, none⟩ = some (.int .i64 t.1) ∧ w.cell? ⟨g, j * 5 + 1, none⟩ = some (.int .i64 t.2.1) ∧ w.cell? ⟨g, j * 5 + 2, none⟩ = some (.string t.2.2.1) ∧ w.cell? ⟨g, j * 5 + 3, none⟩ = some (.int .i64 t.2.2.2.1) ∧ w.cell? ⟨g, j * 5 + 4, none⟩ = some (.float .f64 t.2.2.2.2)
theorem Tks.rs {X W : World} {B g : Nat} {R : List OR} {TT : List Tk} (h : Tks X g TT) (hR : Rs X B W R) (hg : g < B) : Tks W g TT := by
 intro j t hj
 obtain ⟨c0, c1, c2, c3, c4⟩ := h j t hj
 have e : ∀ o, W.cell? ⟨g, o, none⟩ = X.cell? ⟨g, o, none⟩ := fun o => World.cell?_of_block (w := X) (hR.l.block g hg)
 exact ⟨by rw [e]; exact c0, by rw [e]; exact c1, by rw [e]; exact c2, by rw [e]; exact c3, by rw [e]; exact c4⟩
def wEnd (T : List Tk) (E : Int) : List Tk := T ++ [(0, E, ⟨#[]⟩, 0, 0)]
theorem wEnd_at (T : List Tk) (E : Int) (i : Nat) (h : i ≤ T.length) : ∃ x, (wEnd T E)[i]? = some (kd T i, ta T E i, tx T i, ti T i, x) := by
 unfold wEnd
 by_cases hi : i < T.length
 ·
  obtain ⟨t, ht⟩ := get_some hi
  refine ⟨t.2.2.2.2, ?_⟩
  rw [List.getElem?_append_left hi, ht]
  simp [kd, ta, tx, ti, ht]
 have hi' : i = T.length := by omega
 subst hi'
 refine ⟨0, ?_⟩
 rw [List.getElem?_append_right (Nat.le_refl _)]
 simp [kd, ta, tx, ti]
def tkv (T : List Tk) (E : Int) (i x : Nat) : Value := .agg #[.int .i64 (kd T i), .int .i64 (ta T E i), .string (tx T i), .int .i64 (ti T i), .float .f64 x]
abbrev NK := Nd × Value
def nc (q : NK) : List Value := [.int .i64 q.1.kind, .string q.1.text, .int .i64 q.1.num, q.2]
theorem nc_len (q : NK) : (nc q).length = 4 := rfl
def rN (v : Value) (Q : List NK) : OR := ⟨42, 4, v, Q.length, Q.flatMap nc⟩
def rK (Q : List NK) : List OR := Q.map fun q => rI q.2 q.1.kids
def rR (k g n cp i d : Nat) (v : Value) (Q : List NK) (P : List OR) : List OR := rB k 55 [.slice (some ⟨g, 0, none⟩) n cp, .int .i64 i, .int .i64 d, v] :: rN v Q :: (rK Q ++ P)
theorem Tryz.infoTs : (Tryz.prog.info? 38).map (·.size) = some 5 := by kernel_rfl
set_option maxHeartbeats 4000000 in
theorem here_any (T : List Tk) (E : Int) (k g cp i d : Nat) (v : Value) (w : World) (hk : Blk w k #[.slice (some ⟨g, 0, none⟩) (T.length + 1) cp, .int .i64 i, .int .i64 d, v] 55) (hT : Tks w g (wEnd T E)) (hi : i ≤ T.length) (hl : T.length ≤ 4000) :
  Calls Tryz.prog 16 #[.pointer (some ⟨k, 0, none⟩)] w fun e w' => (∃ x, e = .returned (.agg #[.int .i64 (kd T i), .int .i64 (ta T E i), .string (tx T i), .int .i64 (ti T i), .float .f64 x])) ∧ Below w.heap.size w w' := by
 have hal := alloc_old
 have haf := alloc_oldf
 obtain ⟨x0, x1, x2, x3, x4⟩ := hk.four'
 obtain ⟨x, hx⟩ := wEnd_at T E i hi
 obtain ⟨c0, c1, c2, c3, c4⟩ := hT i _ hx
 have hlt : (i : Int) < ((T.length + 1 : Nat) : Int) := by omega
 clear hT hx; go_enter Tryz.func16, Tryz.ntmps16
 go_wp2_with fail; go_region
 go_wp2_with fail; have hB : Blk (w.alloc (.cells #[.int .i64 (kd T i), .int .i64 (ta T E i), .string (tx T i), .int .i64 (ti T i), .float .f64 x] 38)).drew w.heap.size #[.int .i64 (kd T i), .int .i64 (ta T E i), .string (tx T i), .int .i64 (ti T i), .float .f64 x] 38 := Blk.new w _ _
 exact bodyPost_ret (v := tkv T E i x) (results_cell_row (P := Tryz.prog) Tryz.results16 _ _ w.heap.size _ _ _ _ rfl hB Tryz.underlying38 rfl (by rw [Tryz.infoTs]; rfl)) rfl ⟨⟨x, rfl⟩, (bl_alloc (Below.refl _ _) _).drew⟩
theorem Rs.addB {X W : World} {B : Nat} {R : List OR} (h : Rs X B W R) (cs : List Value) (t : TypeId) : Rs X B (W.alloc (.cells cs.toArray t)) (rB W.heap.size t cs :: R) :=
 h.ins [] R (bl_alloc (Below.refl _ _) _) (blk_rB (Blk.new W _ _) (Nat.le_refl _))
def tkl (T : List Tk) (E : Int) (i x : Nat) : List Value := [.int .i64 (kd T i), .int .i64 (ta T E i), .string (tx T i), .int .i64 (ti T i), .float .f64 x]
theorem tkl_one (T : List Tk) (E : Int) (i x : Nat) : (tkl T E i x).toArray.all (·.oneCell') = true := by
 rw [Array.all_eq_true_iff_forall_mem]
 intro u hu
 simp only [tkl, List.mem_toArray, List.mem_cons, List.not_mem_nil, or_false] at hu
 rcases hu with rfl | rfl | rfl | rfl | rfl <;> rfl
theorem Blk.five' {w : World} {n : Nat} {a b c d e : Value} {t : TypeId} (h : Blk w n #[a, b, c, d, e] t) : w.cell? ⟨n, 0, none⟩ = some a ∧ w.cell? ⟨n, 1, none⟩ = some b ∧ w.cell? ⟨n, 2, none⟩ = some c ∧ w.cell? ⟨n, 3, none⟩ = some d ∧ w.cell? ⟨n, 4, none⟩ = some e ∧ ∀ o, w.frozen? ⟨n, o, none⟩ = false := ⟨h.cell 0, h.cell 1, h.cell 2, h.cell 3, h.cell 4, h.frozen⟩
theorem hid {p : Prop} (h : p) : Hid p := h
set_option maxHeartbeats 4000000 in
theorem next_any (T : List Tk) (E : Int) (k g cp i d : Nat) (v : Value) (Q : List NK) (P : List OR) (X : World) (B : Nat) (w : World) (hR : Rs X B w (rR k g (T.length + 1) cp i d v Q P)) (hT : Tks X g (wEnd T E)) (hg : g < B) (hi : i ≤ T.length) (hl : T.length ≤ 4000) :
  Calls Tryz.prog 28 #[.pointer (some ⟨k, 0, none⟩)] w fun e w' => (∃ x, e = .returned (.agg #[.int .i64 (kd T i), .int .i64 (ta T E i), .string (tx T i), .int .i64 (ti T i), .float .f64 x])) ∧ Rs X B w' (rR k g (T.length + 1) cp (i + 1) d v Q P) := by
 have hal := alloc_old
 have haf := alloc_oldf
 have tw : IntKind.i64.wrap ((i : Int) + 1) = (i : Int) + 1 := by rw [IntKind.wrap_i64]; omega
 have h0 := hid (hR.addB [.int .i64 0, .int .i64 0, .string ⟨#[]⟩, .int .i64 0, .float .f64 0] 38)
 have HT := hid hT
 clear hT; go_enter Tryz.func28, Tryz.ntmps28
 go_wp2_with fail; generalize hk : w.heap.size = kr at h0 ⊢
 refine (here_any T E k g cp i d v _ (h0.out.box [rB kr 38 [.int .i64 0, .int .i64 0, .string ⟨#[]⟩, .int .i64 0, .float .f64 0]] (rN v Q :: (rK Q ++ P))) (HT.out.rs h0.out hg) hi hl).mono ?_
 rintro e w1 ⟨⟨x, rfl⟩, b1⟩
 have h1 := hid ((h0.out.later b1).addB [.int .i64 (kd T i), .int .i64 (ta T E i), .string (tx T i), .int .i64 (ti T i), .float .f64 x] 38)
 clear h0 b1 hR hk; go_upto_region 2 with fail
 generalize hW : w1.alloc (.cells #[.int .i64 (kd T i), .int .i64 (ta T E i), .string (tx T i), .int .i64 (ti T i), .float .f64 x] 38) = W1 at h1 ⊢
 generalize hk : w1.heap.size = kt at h1 ⊢
 clear hW hk; obtain ⟨y0, y1, y2, y3, y4⟩ := (h1.out.box [rB kt 38 [.int .i64 (kd T i), .int .i64 (ta T E i), .string (tx T i), .int .i64 (ti T i), .float .f64 x], rB kr 38 [.int .i64 0, .int .i64 0, .string ⟨#[]⟩, .int .i64 0, .float .f64 0]] (rN v Q :: (rK Q ++ P))).four'
 have h2 := hid (h1.out.setB [rB kt 38 [.int .i64 (kd T i), .int .i64 (ta T E i), .string (tx T i), .int .i64 (ti T i), .float .f64 x], rB kr 38 [.int .i64 0, .int .i64 0, .string ⟨#[]⟩, .int .i64 0, .float .f64 0]] (rN v Q :: (rK Q ++ P)) 1 (.int .i64 ((i : Int) + 1)))
 go_upto_region 3 with fail
 generalize hW : W1.setCell ⟨k, 1, none⟩ (.int .i64 ((i : Int) + 1)) = W2 at h2 ⊢
 clear hW h1 y0 y1 y2 y3 y4; obtain ⟨z0, z1, z2, z3, z4, z5⟩ := (h2.out.box [] (rB kr 38 [.int .i64 0, .int .i64 0, .string ⟨#[]⟩, .int .i64 0, .float .f64 0] :: rR k g (T.length + 1) cp (i + 1) d v Q P)).five'
 have hB := hid (h2.out.box [rB kt 38 [.int .i64 (kd T i), .int .i64 (ta T E i), .string (tx T i), .int .i64 (ti T i), .float .f64 x]] (rR k g (T.length + 1) cp (i + 1) d v Q P))
 have h3 := hid (h2.out.putB (ds := [.int .i64 (kd T i), .int .i64 (ta T E i), .string (tx T i), .int .i64 (ti T i), .float .f64 x]) [rB kt 38 [.int .i64 (kd T i), .int .i64 (ta T E i), .string (tx T i), .int .i64 (ti T i), .float .f64 x]] (rR k g (T.length + 1) cp (i + 1) d v Q P))
 go_wp2_with (refine wpList_store_row rfl 38 (.tmp 2) (.tmp 13) rfl _ #[.int .i64 (kd T i), .int .i64 (ta T E i), .string (tx T i), .int .i64 (ti T i), .float .f64 x] rfl rfl _ _ hB.out (by rw [Tryz.infoTs]; rfl) rfl (tkl_one T E i x) ?_)
 have hB3 := h3.out.box [rB kt 38 [.int .i64 (kd T i), .int .i64 (ta T E i), .string (tx T i), .int .i64 (ti T i), .float .f64 x]] (rR k g (T.length + 1) cp (i + 1) d v Q P)
 refine bodyPost_ret (v := .agg #[.int .i64 (kd T i), .int .i64 (ta T E i), .string (tx T i), .int .i64 (ti T i), .float .f64 x]) (results_cell_row (P := Tryz.prog) Tryz.results28 _ _ kr _ _ _ _ rfl hB3 Tryz.underlying38 rfl (by rw [Tryz.infoTs]; rfl)) ?_ ?_
 ·
  rfl
 exact ⟨⟨x, rfl⟩, (h3.out.less [] (rB kr 38 [.int .i64 (kd T i), .int .i64 (ta T E i), .string (tx T i), .int .i64 (ti T i), .float .f64 x] :: rR k g (T.length + 1) cp (i + 1) d v Q P)).less [] (rR k g (T.length + 1) cp (i + 1) d v Q P)⟩
end
end Go.Proofs.YtkkofminndboaaaGreatDoor
