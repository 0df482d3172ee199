import Derived.Test.YtncknfkinmjmdaaGreatDoorSp10
namespace Go.Proofs.YtncknfkinmjmdaaGreatDoor
open Go.RowKit
set_option linter.unusedVariables false
set_option linter.unusedSimpArgs false
def KB (T : List Tk) (N : List Nd) : Prop := ∀ n ∈ N, n.kids.length ≤ T.length + 2
def Ge (T : List Tk) (lo xb i0 n0 : Nat) (r : PRes) : Prop :=
 match r with
 | .ok (x, j, M) => (lo ≤ j ∧ j ≤ T.length ∧ M.length + 2 * i0 ≤ n0 + 2 * j) ∧ x.length + i0 ≤ xb + j ∧ KB T M
 | .error _ => True
theorem Ge.weak {T : List Tk} {lo lo' xb xb' i0 n0 i1 n1 : Nat} {r : PRes} (h : Ge T lo xb i1 n1 r) (hl : lo' ≤ lo ∧ n1 + 2 * i0 ≤ n0 + 2 * i1 ∧ xb + i0 ≤ xb' + i1) : Ge T lo' xb' i0 n0 r := by
 unfold Ge at *
 split at h
 ·
  obtain ⟨⟨h1, h2, h3⟩, h4, h5⟩ := h
  exact ⟨⟨Nat.le_trans hl.1 h1, h2, by omega⟩, by omega, h5⟩
 exact h
theorem ge_then {T : List Tk} {lo lo' xb xb' i0 n0 i1 n1 : Nat} {r : PRes} {k : List Int → Nat → List Nd → PRes} (h : Ge T lo xb i1 n1 r) (hk : ∀ x j N, lo ≤ j ∧ j ≤ T.length ∧ N.length + 2 * i1 ≤ n1 + 2 * j → x.length + i1 ≤ xb + j → KB T N → Ge T lo' xb' i0 n0 (k x j N)) : Ge T lo' xb' i0 n0 (r.then k) := by
 unfold PRes.then
 unfold Ge at h
 split at h
 ·
  exact hk _ _ _ h.1 h.2.1 h.2.2
 trivial
theorem ge_err {T : List Tk} {lo xb i0 n0 : Nat} {e : Int × Int} : Ge T lo xb i0 n0 (.error e) := trivial
theorem ge_want {T : List Tk} {E : Int} {s : ByteArray} {i lo xb i0 n0 : Nat} {k : Nat → PRes} (hs : ¬ s = ⟨#[]⟩) (hk : i < T.length → Ge T lo xb i0 n0 (k (i + 1))) : Ge T lo xb i0 n0 (pWant T E s i k) := by
 unfold pWant
 split
 ·
  rename_i h; exact hk (tx_lt h hs)
 exact ge_err
theorem ge_name {T : List Tk} {E : Int} {i lo xb i0 n0 : Nat} {k : ByteArray → Nat → PRes} (hk : ∀ s, i < T.length → Ge T lo xb i0 n0 (k s (i + 1))) : Ge T lo xb i0 n0 (pName T E i k) := by
 unfold pName
 split
 ·
  rename_i h; exact hk _ (kd_lt h (by decide))
 exact ge_err
theorem ge_kind {T : List Tk} {E : Int} {i lo xb i0 n0 : Nat} {k : Int → Nat → PRes} (hk : ∀ q, i < T.length → Ge T lo xb i0 n0 (k q (i + 1))) : Ge T lo xb i0 n0 (pKind T E i k) := by
 unfold pKind
 split
 ·
  exact ge_err
 rename_i h
 exact hk _ (Classical.byContradiction fun g => h (by rw [tx_none g, kindOf_nil]))
theorem kb_app {T : List Tk} {N : List Nd} {n : Nd} (hN : KB T N) (hk : n.kids.length ≤ T.length + 2) : KB T (N ++ [n]) := by
 intro m hm
 rcases List.mem_append.1 hm with h | h
 ·
  exact hN m h
 rw [List.mem_singleton.1 h]; exact hk
theorem ge_node {T : List Tk} {n : Nd} {i lo xb i0 n0 : Nat} {N : List Nd} (h : lo ≤ i ∧ i ≤ T.length ∧ N.length + 1 + 2 * i0 ≤ n0 + 2 * i) (hx : 1 + i0 ≤ xb + i) (hk : n.kids.length ≤ T.length + 2) (hN : KB T N) : Ge T lo xb i0 n0 (pNode n i N) := ⟨⟨h.1, h.2.1, by simp; omega⟩, hx, kb_app hN hk⟩
theorem ge_node' {T : List Tk} {n : Nd} {i : Nat} {N : List Nd} (h : i ≤ T.length) (hk : n.kids.length ≤ T.length + 2) (hN : KB T N) : Ge T i 1 i (N.length + 1) (pNode n i N) := ⟨⟨Nat.le_refl _, h, by simp⟩, Nat.le_refl _, kb_app hN hk⟩
theorem ge_ok {T : List Tk} {lo xb i i0 n0 : Nat} {x : List Int} {N : List Nd} (h : lo ≤ i ∧ i ≤ T.length ∧ N.length + 2 * i0 ≤ n0 + 2 * i) (hx : x.length + i0 ≤ xb + i) (hN : KB T N) : Ge T lo xb i0 n0 (.ok (x, i, N)) := ⟨h, hx, hN⟩
theorem ge_if {T : List Tk} {c : Prop} [Decidable c] {lo xb i0 n0 : Nat} {a b : PRes} (ha : c → Ge T lo xb i0 n0 a) (hb : ¬ c → Ge T lo xb i0 n0 b) : Ge T lo xb i0 n0 (if c then a else b) := by
 split
 ·
  exact ha ‹_›
 exact hb ‹_›
theorem ge_tx {T : List Tk} {s : ByteArray} {i lo xb i0 n0 : Nat} {a b : PRes} (hs : ¬ s = ⟨#[]⟩) (ha : i < T.length → Ge T lo xb i0 n0 a) (hb : Ge T lo xb i0 n0 b) : Ge T lo xb i0 n0 (if tx T i = s then a else b) := by
 split
 ·
  rename_i h; exact ha (tx_lt h hs)
 exact hb
def Pf.xb : Pf → Nat
 | .items _ _ acc => acc.length + 1
 | .stmts _ acc => acc.length + 1
 | .tops acc => acc.length + 1
 | _ => 1
set_option maxHeartbeats 8000000 in
theorem par_kids (T : List Tk) (E : Int) : ∀ (f : Nat) (p : Pf) (i : Nat) (N : List Nd), p.wf → i ≤ T.length → p.need T i ≤ f → KB T N → Ge T (p.lo i) p.xb i N.length (par T E f p i N) := by
 intro f
 induction f with
 | zero =>
  intro p i N hw _ h
  cases p <;> simp [Pf.need, Pf.rank] at h <;> (try (unfold Pf.wf at *)) <;> omega
 | succ f ih =>
  intro p i N hw hl h hB
  cases p with
  | lvl d l =>
   unfold par
   obtain ⟨h1, h2⟩ := hw
   refine ge_if (fun _ => ?_) (fun g => ?_)
   ·
    exact ih (.prim d) i N trivial hl (by simp only [Pf.need, Pf.rank] at h ⊢; omega) hB
   refine ge_then (ih (.lvl d (l + 1)) i N ⟨by omega, by omega⟩ hl (by simp only [Pf.need, Pf.rank] at h ⊢; omega) hB) fun x j M hj hx hM => ?_
   exact (ih (.loop d l _) j M ⟨by omega, by omega⟩ hj.2.1 (by simp only [Pf.need, Pf.rank, Pf.lo] at h hj ⊢; omega) hM).weak ⟨hj.1, by omega, by simp only [Pf.xb, Pf.lo] at *; omega⟩
  | loop d l a =>
   unfold par
   refine ge_if (fun g => ?_) (fun _ => ge_ok ⟨Nat.le_refl _, hl, by omega⟩ (by simp [Pf.xb]) hB)
   have hi := lev_lt g hw.1
   refine ge_then (ih (.lvl d (l + 1)) (i + 1) N ⟨by omega, by have := hw.2; omega⟩ hi (by simp only [Pf.need, Pf.rank] at h ⊢; omega) hB) fun x j M hj hx hM => ?_
   simp only [Pf.lo, Pf.xb] at hj hx ⊢
   refine ge_if (fun _ => ge_node ⟨by omega, hj.2.1, by omega⟩ (by omega) (by simp [nd]) hM) (fun _ => ?_)
   refine ge_then (ge_node' hj.2.1 (by simp [nd]) hM) fun y j2 M2 hj2 hy hM2 => ?_
   exact (ih (.loop d l (y.headD 0)) j2 M2 hw hj2.2.1 (by simp only [Pf.need, Pf.rank] at h ⊢; omega) hM2).weak (lo' := i) ⟨by simp only [Pf.lo]; omega, by omega, by simp only [Pf.xb]; omega⟩
  | prim d =>
   by_cases hi : i < T.length
   ·
    unfold par
    repeat' (first
      | with_reducible exact ge_err
      | with_reducible refine ge_node ?_ ?_ ?_ ?_
      | with_reducible refine ge_ok ?_ ?_ ?_
      | with_reducible refine ge_want (by decide) (fun _ => ?_)
      | with_reducible refine ge_name (fun _ _ => ?_)
      | with_reducible refine ge_kind (fun _ _ => ?_)
      | with_reducible refine ge_tx (by decide) (fun _ => ?_) ?_
      | with_reducible refine ge_if (fun _ => ?_) (fun _ => ?_)
      | with_reducible refine ge_then (ge_node' ?_ ?_ ?_) (fun _ _ _ _ _ _ => ?_)
      | with_reducible refine ge_then (ih _ _ _ ?_ ?_ ?_ ?_) (fun _ _ _ _ _ _ => ?_)
      | with_reducible refine ge_then (lo := i + 1) (xb := 1) (i1 := i + 2) (n1 := N.length + 1) (ge_tx (by decide) (fun _ => Ge.weak (ih _ _ _ ?_ ?_ ?_ ?_) ?_) (ge_ok ?_ ?_ ?_)) (fun _ _ _ _ _ _ => ?_)
      | with_reducible refine Ge.weak (ih _ _ _ ?_ ?_ ?_ ?_) ?_
      | exact trivial
      | assumption
      | (simp only [Pf.need, Pf.rank, Pf.lo, Pf.xb, nd, List.length_append, List.length_cons, List.length_nil] at *; omega)
      | (simp only [Pf.need, Pf.rank, Pf.lo, Pf.xb, nd, List.length_append, List.length_cons, List.length_nil] at *; refine ⟨?_, ?_⟩ <;> omega)
      | (simp only [Pf.need, Pf.rank, Pf.lo, Pf.xb, nd, List.length_append, List.length_cons, List.length_nil] at *; refine ⟨?_, ?_, ?_⟩ <;> omega))
   unfold par
   skip
   repeat' (first | exact ge_err | refine ge_if (fun g => absurd g (by rw [kd_none hi]; decide)) (fun _ => ?_) | refine ge_if (fun g => absurd g (by rw [tx_none hi]; decide)) (fun _ => ?_))
  | expr d =>
   skip
   unfold par
   repeat' (first
     | with_reducible exact ge_err
     | with_reducible refine ge_node ?_ ?_ ?_ ?_
     | with_reducible refine ge_ok ?_ ?_ ?_
     | with_reducible refine ge_want (by decide) (fun _ => ?_)
     | with_reducible refine ge_name (fun _ _ => ?_)
     | with_reducible refine ge_kind (fun _ _ => ?_)
     | with_reducible refine ge_tx (by decide) (fun _ => ?_) ?_
     | with_reducible refine ge_if (fun _ => ?_) (fun _ => ?_)
     | with_reducible refine ge_then (ge_node' ?_ ?_ ?_) (fun _ _ _ _ _ _ => ?_)
     | with_reducible refine ge_then (ih _ _ _ ?_ ?_ ?_ ?_) (fun _ _ _ _ _ _ => ?_)
     | with_reducible refine ge_then (lo := i + 1) (xb := 1) (i1 := i + 2) (n1 := N.length + 1) (ge_tx (by decide) (fun _ => Ge.weak (ih _ _ _ ?_ ?_ ?_ ?_) ?_) (ge_ok ?_ ?_ ?_)) (fun _ _ _ _ _ _ => ?_)
     | with_reducible refine Ge.weak (ih _ _ _ ?_ ?_ ?_ ?_) ?_
     | exact trivial
     | assumption
     | (simp only [Pf.need, Pf.rank, Pf.lo, Pf.xb, nd, List.length_append, List.length_cons, List.length_nil] at *; omega)
     | (simp only [Pf.need, Pf.rank, Pf.lo, Pf.xb, nd, List.length_append, List.length_cons, List.length_nil] at *; refine ⟨?_, ?_⟩ <;> omega)
     | (simp only [Pf.need, Pf.rank, Pf.lo, Pf.xb, nd, List.length_append, List.length_cons, List.length_nil] at *; refine ⟨?_, ?_, ?_⟩ <;> omega))
  | listed k d =>
   skip
   unfold par
   repeat' (first
     | with_reducible exact ge_err
     | with_reducible refine ge_node ?_ ?_ ?_ ?_
     | with_reducible refine ge_ok ?_ ?_ ?_
     | with_reducible refine ge_want (by decide) (fun _ => ?_)
     | with_reducible refine ge_name (fun _ _ => ?_)
     | with_reducible refine ge_kind (fun _ _ => ?_)
     | with_reducible refine ge_tx (by decide) (fun _ => ?_) ?_
     | with_reducible refine ge_if (fun _ => ?_) (fun _ => ?_)
     | with_reducible refine ge_then (ge_node' ?_ ?_ ?_) (fun _ _ _ _ _ _ => ?_)
     | with_reducible refine ge_then (ih _ _ _ ?_ ?_ ?_ ?_) (fun _ _ _ _ _ _ => ?_)
     | with_reducible refine ge_then (lo := i + 1) (xb := 1) (i1 := i + 2) (n1 := N.length + 1) (ge_tx (by decide) (fun _ => Ge.weak (ih _ _ _ ?_ ?_ ?_ ?_) ?_) (ge_ok ?_ ?_ ?_)) (fun _ _ _ _ _ _ => ?_)
     | with_reducible refine Ge.weak (ih _ _ _ ?_ ?_ ?_ ?_) ?_
     | exact trivial
     | assumption
     | (simp only [Pf.need, Pf.rank, Pf.lo, Pf.xb, nd, List.length_append, List.length_cons, List.length_nil] at *; omega)
     | (simp only [Pf.need, Pf.rank, Pf.lo, Pf.xb, nd, List.length_append, List.length_cons, List.length_nil] at *; refine ⟨?_, ?_⟩ <;> omega)
     | (simp only [Pf.need, Pf.rank, Pf.lo, Pf.xb, nd, List.length_append, List.length_cons, List.length_nil] at *; refine ⟨?_, ?_, ?_⟩ <;> omega))
  | items k d acc =>
   skip
   unfold par
   repeat' (first
     | with_reducible exact ge_err
     | with_reducible refine ge_node ?_ ?_ ?_ ?_
     | with_reducible refine ge_ok ?_ ?_ ?_
     | with_reducible refine ge_want (by decide) (fun _ => ?_)
     | with_reducible refine ge_name (fun _ _ => ?_)
     | with_reducible refine ge_kind (fun _ _ => ?_)
     | with_reducible refine ge_tx (by decide) (fun _ => ?_) ?_
     | with_reducible refine ge_if (fun _ => ?_) (fun _ => ?_)
     | with_reducible refine ge_then (ge_node' ?_ ?_ ?_) (fun _ _ _ _ _ _ => ?_)
     | with_reducible refine ge_then (ih _ _ _ ?_ ?_ ?_ ?_) (fun _ _ _ _ _ _ => ?_)
     | with_reducible refine ge_then (lo := i + 1) (xb := 1) (i1 := i + 2) (n1 := N.length + 1) (ge_tx (by decide) (fun _ => Ge.weak (ih _ _ _ ?_ ?_ ?_ ?_) ?_) (ge_ok ?_ ?_ ?_)) (fun _ _ _ _ _ _ => ?_)
     | with_reducible refine Ge.weak (ih _ _ _ ?_ ?_ ?_ ?_) ?_
     | exact trivial
     | assumption
     | (simp only [Pf.need, Pf.rank, Pf.lo, Pf.xb, nd, List.length_append, List.length_cons, List.length_nil] at *; omega)
     | (simp only [Pf.need, Pf.rank, Pf.lo, Pf.xb, nd, List.length_append, List.length_cons, List.length_nil] at *; refine ⟨?_, ?_⟩ <;> omega)
     | (simp only [Pf.need, Pf.rank, Pf.lo, Pf.xb, nd, List.length_append, List.length_cons, List.length_nil] at *; refine ⟨?_, ?_, ?_⟩ <;> omega))
  | item k d =>
   skip
   unfold par
   repeat' (first
     | with_reducible exact ge_err
     | with_reducible refine ge_node ?_ ?_ ?_ ?_
     | with_reducible refine ge_ok ?_ ?_ ?_
     | with_reducible refine ge_want (by decide) (fun _ => ?_)
     | with_reducible refine ge_name (fun _ _ => ?_)
     | with_reducible refine ge_kind (fun _ _ => ?_)
     | with_reducible refine ge_tx (by decide) (fun _ => ?_) ?_
     | with_reducible refine ge_if (fun _ => ?_) (fun _ => ?_)
     | with_reducible refine ge_then (ge_node' ?_ ?_ ?_) (fun _ _ _ _ _ _ => ?_)
     | with_reducible refine ge_then (ih _ _ _ ?_ ?_ ?_ ?_) (fun _ _ _ _ _ _ => ?_)
     | with_reducible refine ge_then (lo := i + 1) (xb := 1) (i1 := i + 2) (n1 := N.length + 1) (ge_tx (by decide) (fun _ => Ge.weak (ih _ _ _ ?_ ?_ ?_ ?_) ?_) (ge_ok ?_ ?_ ?_)) (fun _ _ _ _ _ _ => ?_)
     | with_reducible refine Ge.weak (ih _ _ _ ?_ ?_ ?_ ?_) ?_
     | exact trivial
     | assumption
     | (simp only [Pf.need, Pf.rank, Pf.lo, Pf.xb, nd, List.length_append, List.length_cons, List.length_nil] at *; omega)
     | (simp only [Pf.need, Pf.rank, Pf.lo, Pf.xb, nd, List.length_append, List.length_cons, List.length_nil] at *; refine ⟨?_, ?_⟩ <;> omega)
     | (simp only [Pf.need, Pf.rank, Pf.lo, Pf.xb, nd, List.length_append, List.length_cons, List.length_nil] at *; refine ⟨?_, ?_, ?_⟩ <;> omega))
  | block d =>
   skip
   unfold par
   repeat' (first
     | with_reducible exact ge_err
     | with_reducible refine ge_node ?_ ?_ ?_ ?_
     | with_reducible refine ge_ok ?_ ?_ ?_
     | with_reducible refine ge_want (by decide) (fun _ => ?_)
     | with_reducible refine ge_name (fun _ _ => ?_)
     | with_reducible refine ge_kind (fun _ _ => ?_)
     | with_reducible refine ge_tx (by decide) (fun _ => ?_) ?_
     | with_reducible refine ge_if (fun _ => ?_) (fun _ => ?_)
     | with_reducible refine ge_then (ge_node' ?_ ?_ ?_) (fun _ _ _ _ _ _ => ?_)
     | with_reducible refine ge_then (ih _ _ _ ?_ ?_ ?_ ?_) (fun _ _ _ _ _ _ => ?_)
     | with_reducible refine ge_then (lo := i + 1) (xb := 1) (i1 := i + 2) (n1 := N.length + 1) (ge_tx (by decide) (fun _ => Ge.weak (ih _ _ _ ?_ ?_ ?_ ?_) ?_) (ge_ok ?_ ?_ ?_)) (fun _ _ _ _ _ _ => ?_)
     | with_reducible refine Ge.weak (ih _ _ _ ?_ ?_ ?_ ?_) ?_
     | exact trivial
     | assumption
     | (simp only [Pf.need, Pf.rank, Pf.lo, Pf.xb, nd, List.length_append, List.length_cons, List.length_nil] at *; omega)
     | (simp only [Pf.need, Pf.rank, Pf.lo, Pf.xb, nd, List.length_append, List.length_cons, List.length_nil] at *; refine ⟨?_, ?_⟩ <;> omega)
     | (simp only [Pf.need, Pf.rank, Pf.lo, Pf.xb, nd, List.length_append, List.length_cons, List.length_nil] at *; refine ⟨?_, ?_, ?_⟩ <;> omega))
  | stmts d acc =>
   skip
   unfold par
   repeat' (first
     | with_reducible exact ge_err
     | with_reducible refine ge_node ?_ ?_ ?_ ?_
     | with_reducible refine ge_ok ?_ ?_ ?_
     | with_reducible refine ge_want (by decide) (fun _ => ?_)
     | with_reducible refine ge_name (fun _ _ => ?_)
     | with_reducible refine ge_kind (fun _ _ => ?_)
     | with_reducible refine ge_tx (by decide) (fun _ => ?_) ?_
     | with_reducible refine ge_if (fun _ => ?_) (fun _ => ?_)
     | with_reducible refine ge_then (ge_node' ?_ ?_ ?_) (fun _ _ _ _ _ _ => ?_)
     | with_reducible refine ge_then (ih _ _ _ ?_ ?_ ?_ ?_) (fun _ _ _ _ _ _ => ?_)
     | with_reducible refine ge_then (lo := i + 1) (xb := 1) (i1 := i + 2) (n1 := N.length + 1) (ge_tx (by decide) (fun _ => Ge.weak (ih _ _ _ ?_ ?_ ?_ ?_) ?_) (ge_ok ?_ ?_ ?_)) (fun _ _ _ _ _ _ => ?_)
     | with_reducible refine Ge.weak (ih _ _ _ ?_ ?_ ?_ ?_) ?_
     | exact trivial
     | assumption
     | (simp only [Pf.need, Pf.rank, Pf.lo, Pf.xb, nd, List.length_append, List.length_cons, List.length_nil] at *; omega)
     | (simp only [Pf.need, Pf.rank, Pf.lo, Pf.xb, nd, List.length_append, List.length_cons, List.length_nil] at *; refine ⟨?_, ?_⟩ <;> omega)
     | (simp only [Pf.need, Pf.rank, Pf.lo, Pf.xb, nd, List.length_append, List.length_cons, List.length_nil] at *; refine ⟨?_, ?_, ?_⟩ <;> omega))
  | stmt d =>
   by_cases hi : i < T.length
   ·
    unfold par
    dsimp only
    repeat' (first
      | with_reducible exact ge_err
      | with_reducible refine ge_node ?_ ?_ ?_ ?_
      | with_reducible refine ge_ok ?_ ?_ ?_
      | with_reducible refine ge_want (by decide) (fun _ => ?_)
      | with_reducible refine ge_name (fun _ _ => ?_)
      | with_reducible refine ge_kind (fun _ _ => ?_)
      | with_reducible refine ge_tx (by decide) (fun _ => ?_) ?_
      | with_reducible refine ge_if (fun _ => ?_) (fun _ => ?_)
      | with_reducible refine ge_then (ge_node' ?_ ?_ ?_) (fun _ _ _ _ _ _ => ?_)
      | with_reducible refine ge_then (ih _ _ _ ?_ ?_ ?_ ?_) (fun _ _ _ _ _ _ => ?_)
      | with_reducible refine ge_then (lo := i + 1) (xb := 1) (i1 := i + 2) (n1 := N.length + 1) (ge_tx (by decide) (fun _ => Ge.weak (ih _ _ _ ?_ ?_ ?_ ?_) ?_) (ge_ok ?_ ?_ ?_)) (fun _ _ _ _ _ _ => ?_)
      | with_reducible refine Ge.weak (ih _ _ _ ?_ ?_ ?_ ?_) ?_
      | exact trivial
      | assumption
      | (simp only [Pf.need, Pf.rank, Pf.lo, Pf.xb, nd, List.length_append, List.length_cons, List.length_nil] at *; omega)
      | (simp only [Pf.need, Pf.rank, Pf.lo, Pf.xb, nd, List.length_append, List.length_cons, List.length_nil] at *; refine ⟨?_, ?_⟩ <;> omega)
      | (simp only [Pf.need, Pf.rank, Pf.lo, Pf.xb, nd, List.length_append, List.length_cons, List.length_nil] at *; refine ⟨?_, ?_, ?_⟩ <;> omega))
   unfold par
   dsimp only
   repeat' (first | exact ge_err | refine ge_if (fun g => absurd g (by rw [kd_none hi]; decide)) (fun _ => ?_) | refine ge_if (fun g => absurd g (by rw [tx_none hi]; decide)) (fun _ => ?_))
  | top =>
   by_cases hi : i < T.length
   ·
    unfold par
    repeat' (first
      | with_reducible exact ge_err
      | with_reducible refine ge_node ?_ ?_ ?_ ?_
      | with_reducible refine ge_ok ?_ ?_ ?_
      | with_reducible refine ge_want (by decide) (fun _ => ?_)
      | with_reducible refine ge_name (fun _ _ => ?_)
      | with_reducible refine ge_kind (fun _ _ => ?_)
      | with_reducible refine ge_tx (by decide) (fun _ => ?_) ?_
      | with_reducible refine ge_if (fun _ => ?_) (fun _ => ?_)
      | with_reducible refine ge_then (ge_node' ?_ ?_ ?_) (fun _ _ _ _ _ _ => ?_)
      | with_reducible refine ge_then (ih _ _ _ ?_ ?_ ?_ ?_) (fun _ _ _ _ _ _ => ?_)
      | with_reducible refine ge_then (lo := i + 1) (xb := 1) (i1 := i + 2) (n1 := N.length + 1) (ge_tx (by decide) (fun _ => Ge.weak (ih _ _ _ ?_ ?_ ?_ ?_) ?_) (ge_ok ?_ ?_ ?_)) (fun _ _ _ _ _ _ => ?_)
      | with_reducible refine Ge.weak (ih _ _ _ ?_ ?_ ?_ ?_) ?_
      | exact trivial
      | assumption
      | (simp only [Pf.need, Pf.rank, Pf.lo, Pf.xb, nd, List.length_append, List.length_cons, List.length_nil] at *; omega)
      | (simp only [Pf.need, Pf.rank, Pf.lo, Pf.xb, nd, List.length_append, List.length_cons, List.length_nil] at *; refine ⟨?_, ?_⟩ <;> omega)
      | (simp only [Pf.need, Pf.rank, Pf.lo, Pf.xb, nd, List.length_append, List.length_cons, List.length_nil] at *; refine ⟨?_, ?_, ?_⟩ <;> omega))
   unfold par
   skip
   repeat' (first | exact ge_err | refine ge_if (fun g => absurd g (by rw [kd_none hi]; decide)) (fun _ => ?_) | refine ge_if (fun g => absurd g (by rw [tx_none hi]; decide)) (fun _ => ?_))
  | tops acc =>
   skip
   unfold par
   repeat' (first
     | with_reducible exact ge_err
     | with_reducible refine ge_node ?_ ?_ ?_ ?_
     | with_reducible refine ge_ok ?_ ?_ ?_
     | with_reducible refine ge_want (by decide) (fun _ => ?_)
     | with_reducible refine ge_name (fun _ _ => ?_)
     | with_reducible refine ge_kind (fun _ _ => ?_)
     | with_reducible refine ge_tx (by decide) (fun _ => ?_) ?_
     | with_reducible refine ge_if (fun _ => ?_) (fun _ => ?_)
     | with_reducible refine ge_then (ge_node' ?_ ?_ ?_) (fun _ _ _ _ _ _ => ?_)
     | with_reducible refine ge_then (ih _ _ _ ?_ ?_ ?_ ?_) (fun _ _ _ _ _ _ => ?_)
     | with_reducible refine ge_then (lo := i + 1) (xb := 1) (i1 := i + 2) (n1 := N.length + 1) (ge_tx (by decide) (fun _ => Ge.weak (ih _ _ _ ?_ ?_ ?_ ?_) ?_) (ge_ok ?_ ?_ ?_)) (fun _ _ _ _ _ _ => ?_)
     | with_reducible refine Ge.weak (ih _ _ _ ?_ ?_ ?_ ?_) ?_
     | exact trivial
     | assumption
     | (simp only [Pf.need, Pf.rank, Pf.lo, Pf.xb, nd, List.length_append, List.length_cons, List.length_nil] at *; omega)
     | (simp only [Pf.need, Pf.rank, Pf.lo, Pf.xb, nd, List.length_append, List.length_cons, List.length_nil] at *; refine ⟨?_, ?_⟩ <;> omega)
     | (simp only [Pf.need, Pf.rank, Pf.lo, Pf.xb, nd, List.length_append, List.length_cons, List.length_nil] at *; refine ⟨?_, ?_, ?_⟩ <;> omega))
theorem PAR_kids {T : List Tk} {E : Int} {x : List Int} {j : Nat} {M : List Nd} (h : PAR T E (.tops []) 0 [] = .ok (x, j, M)) : x.length ≤ T.length + 1 ∧ M.length ≤ 2 * T.length ∧ KB T M := by
 have hg := par_kids T E (12 * T.length + 20) (.tops []) 0 [] trivial (Nat.zero_le _) (by simp only [Pf.need, Pf.rank]; omega) (fun n hn => by simp at hn)
 have he : par T E (12 * T.length + 20) (.tops []) 0 [] = .ok (x, j, M) := h
 rw [he] at hg
 obtain ⟨⟨g1, g2, g3⟩, g4, g5⟩ := hg
 simp only [Pf.xb, List.length_nil] at g3 g4
 exact ⟨by omega, by omega, g5⟩
end Go.Proofs.YtncknfkinmjmdaaGreatDoor
