import Derived.Test.YtofpkbnocbmgkaaKa
import Derived.DeepKeys4
namespace Go.Proofs.Ytofpkbnocbmgkaa
open Go.RowKit Go.Maps Go.WideMaps
set_option linter.unusedVariables false
set_option linter.unusedSimpArgs false
set_option maxRecDepth 100000

/-- a thing whose numbers are whole numbers of the machine. -/
def bE (e : E2) : Prop := (-9223372036854775808 ≤ e.1 ∧ e.1 ≤ 9223372036854775807) ∧ (-9223372036854775808 ≤ e.2 ∧ e.2 ≤ 9223372036854775807)
def ekey (e : E2) : Lit := .string (keyBytes [.int .i64 e.1, .int .i64 e.2])
theorem Try.laidOutE : laidOutB Try.prog = true := by kernel_rfl
theorem ekeyed : Keyed Try.prog 51 := Keyed.of_law (deep_law_laid Try.laidOutE (m := 3) (by omega) (of_decide_eq_true (by kernel_rfl)) (by kernel_rfl) (by kernel_rfl))
theorem wf_i64 {n : Int} (h : -9223372036854775808 ≤ n ∧ n ≤ 9223372036854775807) : (Lit.int .i64 n).wf = true := by
  have e1 : IntKind.i64.min = -9223372036854775808 := by decide +kernel
  have e2 : IntKind.i64.max = 9223372036854775807 := by decide +kernel
  simp only [Lit.wf, Bool.and_eq_true, decide_eq_true_eq, e1, e2]
  exact h
theorem Try.keyTypeE : Try.prog.keyType 51 = true := by kernel_rfl
theorem Try.cellsE : Try.prog.cellsOf 51 = 2 := by kernel_rfl
theorem Try.cellsI0 : Try.prog.cellsOf 3 = 1 := by kernel_rfl
theorem pos_succ {k : Nat} (h : 0 < k) : ∃ n, k = n + 1 := ⟨k - 1, by omega⟩
theorem Try.typesN : ∃ n, Try.prog.types.size = n + 1 := pos_succ (of_decide_eq_true (by kernel_rfl))
theorem keyOf_two {P : Program} {k i : TypeId} {f0 f1 : Field} {n : Nat} (hu : P.underlying k = some (.struct #[f0, f1])) (h0 : f0.type = i) (h1 : f1.type = i) (o0 : f0.offset = 0) (o1 : f1.offset = 1) (n0 : (f0.name != "_") = true) (n1 : (f1.name != "_") = true)
    (hi : P.underlying i = some (.int .i64)) (ck : P.cellsOf k = 2) (ci : P.cellsOf i = 1) (kt : P.keyType k = true) (hn : P.types.size = n + 1) {a b : Int} (wa : (Lit.int .i64 a).wf = true) (wb : (Lit.int .i64 b).wf = true) :
    keyOf P k (.agg #[.int .i64 a, .int .i64 b]) = some (.string (keyBytes [.int .i64 a, .int .i64 b])) := by
  have e0 : P.keyLits (n + 1) i [.int .i64 a] = some [.int .i64 a] := by simp [Program.keyLits, hi, wa]
  have e1 : P.keyLits (n + 1) i [.int .i64 b] = some [.int .i64 b] := by simp [Program.keyLits, hi, wb]
  have e2 : P.keyLits (n + 1 + 1) k [.int .i64 a, .int .i64 b] = some [.int .i64 a, .int .i64 b] := by
    unfold Program.keyLits
    simp only [hu]
    rw [if_pos (by simp [ck]; exact ⟨by simpa using n0, by simpa using n1⟩)]
    simp [h0, h1, o0, o1, ci, e0, e1]
  simp [keyOf, hu, kt, Value.formed, ck, hn, Value.cells, e2]
theorem keyOfE (e : E2) (h : bE e) : keyOf Try.prog 51 (.agg #[.int .i64 e.1, .int .i64 e.2]) = some (ekey e) := by
  obtain ⟨n, hn⟩ := Try.typesN
  exact keyOf_two Try.underlying51 rfl rfl rfl rfl (by decide) (by decide) Try.underlying3 Try.cellsE Try.cellsI0 Try.keyTypeE hn (wf_i64 h.1) (wf_i64 h.2)
theorem ekey_inj {a b : E2} (ha : bE a) (hb : bE b) (h : ekey a = ekey b) : a = b := by
  have h1 := keyOfE a ha
  have h2 := keyOfE b hb
  rw [← h] at h2
  have := keyOf_inj_deep (P := Try.prog) (m := 3) (by kernel_rfl) (by kernel_rfl) h1 h2
  simp at this
  exact Prod.ext this.1 this.2

/-- what a map from things to places holds. -/
def stv (s : E2) : Value := .agg #[.int .i64 s.1, .int .i64 s.2]
def StM (D : DataW Value) (f : E2 → Option E2) : Prop := IsMap D ∧ ∀ e, bE e → Maps.has D (ekey e) = (f e).isSome ∧ ∀ z, D.atKey (ekey e) (.held z) = .held (((f e).map stv).getD z)
theorem StM.empty : StM (.map []) (fun _ => none) := ⟨isMap_empty, fun e _ => ⟨rfl, fun z => rfl⟩⟩
theorem StM.put {D : DataW Value} {f : E2 → Option E2} (h : StM D f) {e : E2} (he : bE e) (s : E2) : StM (D.put (ekey e) (.held (stv s))) (fun x => if x = e then some s else f x) := by
  refine ⟨h.1.put _ _, fun x hx => ?_⟩
  by_cases hxe : x = e
  · subst hxe
    refine ⟨?_, fun z => ?_⟩
    · rw [has_put_same h.1 (by trivial)]; simp
    · rw [atKey_put_same h.1 (by trivial)]; simp
  · have hne : ekey x ≠ ekey e := fun q => hxe (ekey_inj hx he q)
    refine ⟨?_, fun z => ?_⟩
    · rw [has_put_other hne, (h.2 x hx).1]; simp [hxe]
    · rw [atKey_put_other hne, (h.2 x hx).2 z]; simp [hxe]
def SM (w : World) (b n : Nat) (f : E2 → Option E2) : Prop := ∃ D, w.ownsMap Try.prog 51 anyElem b n D ∧ StM D f
theorem SM.lt {w : World} {b n : Nat} {f : E2 → Option E2} (h : SM w b n f) : b < w.heap.size := by
  obtain ⟨D, h, _⟩ := h; exact h.lt
theorem SM.later {w w' : World} {b n : Nat} {f : E2 → Option E2} (h : SM w b n f) (hb : Below w.heap.size w w') : SM w' b n f := by
  obtain ⟨D, h1, h2⟩ := h
  exact ⟨D, h1.kept (grown_of_below hb) (by simp), h2⟩
theorem zeroSt (w : World) : (zeroValue 150).run Try.prog w = .ok (stv (0, 0)) w := by kernel_rfl
theorem SM.look {w : World} {b n : Nat} {f : E2 → Option E2} (h : SM w b n f) {e : E2} (he : bE e) :
    (Instr.lookup 89 (.map (some b)) (.agg #[.int .i64 e.1, .int .i64 e.2]) true).run Try.prog w = .ok (.tuple #[stv ((f e).getD (0, 0)), .bool (f e).isSome]) w := by
  obtain ⟨D, h1, h2⟩ := h
  obtain ⟨v, ps, hrun, hv⟩ := h1.look_ok (zd := .held (stv (0, 0))) (zp := []) ekeyed Try.underlying89 (zeroSt w) rfl (kl := ekey e) (keyOfE e he)
  rw [(h2.2 e he).1] at hrun
  simp only [anyElem, Option.some.injEq, Prod.mk.injEq] at hv
  rw [(h2.2 e he).2] at hv
  have hv := hv.1
  injection hv with hv
  rw [hrun, hv]
  cases f e <;> rfl
end Go.Proofs.Ytofpkbnocbmgkaa
