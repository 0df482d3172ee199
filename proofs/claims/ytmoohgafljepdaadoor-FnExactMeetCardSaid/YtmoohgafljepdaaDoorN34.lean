import Derived.Test.YtmoohgafljepdaaDoorN30
import Derived.DeepKeys4
import Derived.Maps.OwnSet
namespace Go.Proofs.YtmoohgafljepdaaDoor
open Go.RowKit Go.Maps Go.WideMaps
set_option linter.unusedVariables false
set_option linter.unusedSimpArgs false
set_option maxRecDepth 100000

/-- an element, whatever it is. -/
def anyElem (v : Value) : Option (DataW Value × List MemPlace) := some (.held v, [])
/-! a map from how far tasks have come (two words) to whatever -/
def bU (e : Int × Int) : Prop := (0 ≤ e.1 ∧ e.1 ≤ 65535) ∧ (0 ≤ e.2 ∧ e.2 ≤ 65535)
def ukey (e : Int × Int) : Lit := .string (keyBytes [.int .u16 e.1, .int .u16 e.2])
theorem Tryd.laidOutU : laidOutB Tryd.prog = true := by kernel_rfl
theorem ukeyed : Keyed Tryd.prog 66 := Keyed.of_law (deep_law_laid Tryd.laidOutU (m := 4) (by omega) (of_decide_eq_true (by kernel_rfl)) (by kernel_rfl) (by kernel_rfl))
theorem wf_u16 {n : Int} (h : 0 ≤ n ∧ n ≤ 65535) : (Lit.int .u16 n).wf = true := by
  have e1 : IntKind.u16.min = 0 := by decide +kernel
  have e2 : IntKind.u16.max = 65535 := by decide +kernel
  simp only [Lit.wf, Bool.and_eq_true, decide_eq_true_eq, e1, e2]
  exact h
theorem Tryd.keyTypeU : Tryd.prog.keyType 66 = true := by kernel_rfl
theorem Tryd.cellsU : Tryd.prog.cellsOf 66 = 2 := by kernel_rfl
theorem Tryd.cellsU0 : Tryd.prog.cellsOf 50 = 1 := by kernel_rfl
theorem upos_succ {k : Nat} (h : 0 < k) : ∃ n, k = n + 1 := ⟨k - 1, by omega⟩
theorem Tryd.typesU : ∃ n, Tryd.prog.types.size = n + 1 := upos_succ (of_decide_eq_true (by kernel_rfl))
theorem keyOf_twoU {P : Program} {k i : TypeId} {f0 f1 : Field} {n : Nat} (hu : P.underlying k = some (.struct #[f0, f1])) (h0 : f0.type = i) (h1 : f1.type = i) (o0 : f0.offset = 0) (o1 : f1.offset = 1) (n0 : (f0.name != "_") = true) (n1 : (f1.name != "_") = true)
    (hi : P.underlying i = some (.int .u16)) (ck : P.cellsOf k = 2) (ci : P.cellsOf i = 1) (kt : P.keyType k = true) (hn : P.types.size = n + 1) {a b : Int} (wa : (Lit.int .u16 a).wf = true) (wb : (Lit.int .u16 b).wf = true) :
    keyOf P k (.agg #[.int .u16 a, .int .u16 b]) = some (.string (keyBytes [.int .u16 a, .int .u16 b])) := by
  have e0 : P.keyLits (n + 1) i [.int .u16 a] = some [.int .u16 a] := by simp [Program.keyLits, hi, wa]
  have e1 : P.keyLits (n + 1) i [.int .u16 b] = some [.int .u16 b] := by simp [Program.keyLits, hi, wb]
  have e2 : P.keyLits (n + 1 + 1) k [.int .u16 a, .int .u16 b] = some [.int .u16 a, .int .u16 b] := by
    unfold Program.keyLits
    simp only [hu]
    rw [if_pos (by simp [ck]; exact ⟨by simpa using n0, by simpa using n1⟩)]
    simp [h0, h1, o0, o1, ci, e0, e1]
  simp [keyOf, hu, kt, Value.formed, ck, hn, Value.cells, e2]
theorem keyOfU (e : Int × Int) (h : bU e) : keyOf Tryd.prog 66 (.agg #[.int .u16 e.1, .int .u16 e.2]) = some (ukey e) := by
  obtain ⟨n, hn⟩ := Tryd.typesU
  exact keyOf_twoU Tryd.underlying66 rfl rfl rfl rfl (by decide) (by decide) Tryd.underlying50 Tryd.cellsU Tryd.cellsU0 Tryd.keyTypeU hn (wf_u16 h.1) (wf_u16 h.2)
theorem ukey_inj {a b : Int × Int} (ha : bU a) (hb : bU b) (h : ukey a = ukey b) : a = b := by
  have h1 := keyOfU a ha
  have h2 := keyOfU b hb
  rw [← h] at h2
  have := keyOf_inj_deep (P := Tryd.prog) (m := 4) (by kernel_rfl) (by kernel_rfl) h1 h2
  simp at this
  exact Prod.ext this.1 this.2
/-- what it holds. -/
def UM (D : DataW Value) (f : Int × Int → Option Value) : Prop := IsMap D ∧ ∀ e, bU e → Maps.has D (ukey e) = (f e).isSome ∧ ∀ z, D.atKey (ukey e) (.held z) = .held ((f e).getD z)
theorem UM.empty : UM (.map []) (fun _ => none) := ⟨isMap_empty, fun e _ => ⟨rfl, fun z => rfl⟩⟩
theorem UM.put {D : DataW Value} {f : Int × Int → Option Value} (h : UM D f) {e : Int × Int} (he : bU e) (s : Value) : UM (D.put (ukey e) (.held s)) (fun x => if x = e then some s else f x) := by
  refine ⟨h.1.put _ _, fun x hx => ?_⟩
  by_cases hxe : x = e
  · subst hxe
    refine ⟨?_, fun z => ?_⟩
    · rw [has_put_same h.1 (by trivial)]; simp
    · rw [atKey_put_same h.1 (by trivial)]; simp
  · have hne : ukey x ≠ ukey e := fun q => hxe (ukey_inj hx he q)
    refine ⟨?_, fun z => ?_⟩
    · rw [has_put_other hne, (h.2 x hx).1]; simp [hxe]
    · rw [atKey_put_other hne, (h.2 x hx).2 z]; simp [hxe]
def PM (w : World) (b n : Nat) (f : Int × Int → Option Value) : Prop := ∃ D, w.ownsMap Tryd.prog 66 anyElem b n D ∧ UM D f
theorem PM.lt {w : World} {b n : Nat} {f : Int × Int → Option Value} (h : PM w b n f) : b < w.heap.size := by
  obtain ⟨D, h, _⟩ := h; exact h.lt
theorem PM.later {w w' : World} {b n : Nat} {f : Int × Int → Option Value} (h : PM w b n f) (hb : Below w.heap.size w w') : PM w' b n f := by
  obtain ⟨D, h1, h2⟩ := h
  exact ⟨D, h1.kept (grown_of_below hb) (by simp), h2⟩
theorem zeroMv (w : World) : (zeroValue 24).run Tryd.prog w = .ok (.slice none 0 0) w := by kernel_rfl
theorem PM.look {w : World} {b n : Nat} {f : Int × Int → Option Value} (h : PM w b n f) {e : Int × Int} (he : bU e) :
    (Instr.lookup 68 (.map (some b)) (.agg #[.int .u16 e.1, .int .u16 e.2]) true).run Tryd.prog w = .ok (.tuple #[(f e).getD (.slice none 0 0), .bool (f e).isSome]) w := by
  obtain ⟨D, h1, h2⟩ := h
  obtain ⟨v, ps, hrun, hv⟩ := h1.look_ok (zd := .held (.slice none 0 0)) (zp := []) ukeyed Tryd.underlying68 (zeroMv w) rfl (kl := ukey e) (keyOfU e he)
  rw [(h2.2 e he).1] at hrun
  simp only [anyElem, Option.some.injEq, Prod.mk.injEq] at hv
  rw [(h2.2 e he).2] at hv
  have hv := hv.1
  injection hv with hv
  rw [hrun, hv]
end Go.Proofs.YtmoohgafljepdaaDoor
