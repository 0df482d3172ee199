import Derived.Test.YtigllpegaljkmaaDoorN30j
import Derived.DeepKeys4
import Derived.Maps.OwnSet
import Derived.WideKeyEntry
import Derived.Test.YtigllpegaljkmaaDoorN1j
namespace Go.Proofs.YtigllpegaljkmaaDoor
open Go.RowKit Go.Maps Go.WideMaps
set_option linter.unusedVariables false
set_option linter.unusedSimpArgs false
set_option maxRecDepth 100000

/-- an element, whatever it is. -/
def anyElem (v : Value) : Option (DataW Value × List MemPlace) := some (.held v, [])
/-! a map from how far tasks have come (two words) to whatever -/
def bU (e : Int × Int) : Prop := (0 ≤ e.1 ∧ e.1 ≤ 65535) ∧ (0 ≤ e.2 ∧ e.2 ≤ 65535)
def ukey (e : Int × Int) : Lit := .string (keyBytes [.int .u16 e.1, .int .u16 e.2])
theorem Tryd.laidOutU : laidOutB Tryd.prog = true := by kernel_rfl
theorem ukeyed : Keyed Tryd.prog 78 := Keyed.of_law (deep_law_laid Tryd.laidOutU (m := 4) (by omega) (of_decide_eq_true (by kernel_rfl)) (by kernel_rfl) (by kernel_rfl))
theorem wf_u16 {n : Int} (h : 0 ≤ n ∧ n ≤ 65535) : (Lit.int .u16 n).wf = true := by
  have e1 : IntKind.u16.min = 0 := by decide +kernel
  have e2 : IntKind.u16.max = 65535 := by decide +kernel
  simp only [Lit.wf, Bool.and_eq_true, decide_eq_true_eq, e1, e2]
  exact h
theorem Tryd.keyTypeU : Tryd.prog.keyType 78 = true := by kernel_rfl
theorem Tryd.cellsU : Tryd.prog.cellsOf 78 = 2 := by kernel_rfl
theorem Tryd.cellsU0 : Tryd.prog.cellsOf 47 = 1 := by kernel_rfl
theorem upos_succ {k : Nat} (h : 0 < k) : ∃ n, k = n + 1 := ⟨k - 1, by omega⟩
theorem Tryd.typesU : ∃ n, Tryd.prog.types.size = n + 1 := upos_succ (of_decide_eq_true (by kernel_rfl))
theorem keyOf_twoU {P : Program} {k i : TypeId} {f0 f1 : Field} {n : Nat} (hu : P.underlying k = some (.struct #[f0, f1])) (h0 : f0.type = i) (h1 : f1.type = i) (o0 : f0.offset = 0) (o1 : f1.offset = 1) (n0 : (f0.name != "_") = true) (n1 : (f1.name != "_") = true)
    (hi : P.underlying i = some (.int .u16)) (ck : P.cellsOf k = 2) (ci : P.cellsOf i = 1) (kt : P.keyType k = true) (hn : P.types.size = n + 1) {a b : Int} (wa : (Lit.int .u16 a).wf = true) (wb : (Lit.int .u16 b).wf = true) :
    keyOf P k (.agg #[.int .u16 a, .int .u16 b]) = some (.string (keyBytes [.int .u16 a, .int .u16 b])) := by
  have e0 : P.keyLits (n + 1) i [.int .u16 a] = some [.int .u16 a] := by simp [Program.keyLits, hi, wa]
  have e1 : P.keyLits (n + 1) i [.int .u16 b] = some [.int .u16 b] := by simp [Program.keyLits, hi, wb]
  have e2 : P.keyLits (n + 1 + 1) k [.int .u16 a, .int .u16 b] = some [.int .u16 a, .int .u16 b] := by
    unfold Program.keyLits
    simp only [hu]
    rw [if_pos (by simp [ck]; exact ⟨by simpa using n0, by simpa using n1⟩)]
    simp [h0, h1, o0, o1, ci, e0, e1]
  simp [keyOf, hu, kt, Value.formed, ck, hn, Value.cells, e2]
theorem keyOfU (e : Int × Int) (h : bU e) : keyOf Tryd.prog 78 (.agg #[.int .u16 e.1, .int .u16 e.2]) = some (ukey e) := by
  obtain ⟨n, hn⟩ := Tryd.typesU
  exact keyOf_twoU Tryd.underlying78 rfl rfl rfl rfl (by decide) (by decide) Tryd.underlying47 Tryd.cellsU Tryd.cellsU0 Tryd.keyTypeU hn (wf_u16 h.1) (wf_u16 h.2)
theorem ukey_inj {a b : Int × Int} (ha : bU a) (hb : bU b) (h : ukey a = ukey b) : a = b := by
  have h1 := keyOfU a ha
  have h2 := keyOfU b hb
  rw [← h] at h2
  have := keyOf_inj_deep (P := Tryd.prog) (m := 4) (by kernel_rfl) (by kernel_rfl) h1 h2
  simp at this
  exact Prod.ext this.1 this.2
/-- what it holds. -/
def UM (D : DataW Value) (f : Int × Int → Option Value) : Prop := IsMap D ∧ ∀ e, bU e → Maps.has D (ukey e) = (f e).isSome ∧ ∀ z, D.atKey (ukey e) (.held z) = .held ((f e).getD z)
theorem UM.empty : UM (.map []) (fun _ => none) := ⟨isMap_empty, fun e _ => ⟨rfl, fun z => rfl⟩⟩
theorem UM.put {D : DataW Value} {f : Int × Int → Option Value} (h : UM D f) {e : Int × Int} (he : bU e) (s : Value) : UM (D.put (ukey e) (.held s)) (fun x => if x = e then some s else f x) := by
  refine ⟨h.1.put _ _, fun x hx => ?_⟩
  by_cases hxe : x = e
  · subst hxe
    refine ⟨?_, fun z => ?_⟩
    · rw [has_put_same h.1 (by trivial)]; simp
    · rw [atKey_put_same h.1 (by trivial)]; simp
  · have hne : ukey x ≠ ukey e := fun q => hxe (ukey_inj hx he q)
    refine ⟨?_, fun z => ?_⟩
    · rw [has_put_other hne, (h.2 x hx).1]; simp [hxe]
    · rw [atKey_put_other hne, (h.2 x hx).2 z]; simp [hxe]
def PM (w : World) (b n : Nat) (f : Int × Int → Option Value) : Prop := ∃ D, w.ownsMap Tryd.prog 78 anyElem b n D ∧ UM D f
theorem PM.lt {w : World} {b n : Nat} {f : Int × Int → Option Value} (h : PM w b n f) : b < w.heap.size := by
  obtain ⟨D, h, _⟩ := h; exact h.lt
theorem PM.later {w w' : World} {b n : Nat} {f : Int × Int → Option Value} (h : PM w b n f) (hb : Below w.heap.size w w') : PM w' b n f := by
  obtain ⟨D, h1, h2⟩ := h
  exact ⟨D, h1.kept (grown_of_below hb) (by simp), h2⟩
theorem zeroMv (w : World) : (zeroValue 27).run Tryd.prog w = .ok (.slice none 0 0) w := by kernel_rfl
theorem PM.look {w : World} {b n : Nat} {f : Int × Int → Option Value} (h : PM w b n f) {e : Int × Int} (he : bU e) :
    (Instr.lookup 80 (.map (some b)) (.agg #[.int .u16 e.1, .int .u16 e.2]) true).run Tryd.prog w = .ok (.tuple #[(f e).getD (.slice none 0 0), .bool (f e).isSome]) w := by
  obtain ⟨D, h1, h2⟩ := h
  obtain ⟨v, ps, hrun, hv⟩ := h1.look_ok (zd := .held (.slice none 0 0)) (zp := []) ukeyed Tryd.underlying80 (zeroMv w) rfl (kl := ukey e) (keyOfU e he)
  rw [(h2.2 e he).1] at hrun
  simp only [anyElem, Option.some.injEq, Prod.mk.injEq] at hv
  rw [(h2.2 e he).2] at hv
  have hv := hv.1
  injection hv with hv
  rw [hrun, hv]
end Go.Proofs.YtigllpegaljkmaaDoor
namespace Go.Proofs.YtigllpegaljkmaaDoor
open Go.RowKit Go.Maps Go.WideMaps Go.ChangeShapes Go.WideShapes Go.MapKept Go.ChangeMaps Go.WideElems
set_option linter.unusedVariables false
set_option linter.unusedSimpArgs false
set_option maxRecDepth 100000

theorem ulaw : KeyLaw Tryd.prog 78 := deep_law_laid Tryd.laidOutU (m := 4) (by omega) (of_decide_eq_true (by kernel_rfl)) (by kernel_rfl) (by kernel_rfl)
/-- the map with one thing more. -/
def pmSet (f : Int × Int → Option Value) (e : Int × Int) (v : Value) : Int × Int → Option Value := fun x => if x = e then some v else f x
/-- a put. -/
theorem PM.put {w : World} {b n : Nat} {f : Int × Int → Option Value} (h : PM w b n f) (hn : n < maxLen) {e : Int × Int} (he : bU e) (v : Value) :
    ∃ w', (Instr.mapUpdate 80 (.map (some b)) (.agg #[.int .u16 e.1, .int .u16 e.2]) v).run Tryd.prog w = .ok () w' ∧ PM w' b (n + 1) (pmSet f e v) ∧ w.mapTurned w' b := by
  obtain ⟨D, h1, h2⟩ := h
  obtain ⟨w', hrun, h3, h4⟩ := h1.store ukeyed Tryd.underlying80 hn (keyOfU e he) (val := v) (d := .held v) (ps := []) rfl
  exact ⟨w', hrun, ⟨_, h3, h2.put he v⟩, h4⟩
/-- an entry taken, and what is stored in it later on. -/
theorem PM.entry {w : World} {b n : Nat} {f : Int × Int → Option Value} (h : PM w b n f) (hn : n < maxLen) {e : Int × Int} (he : bU e) :
    ∃ (st : Nat) (w1 : World), (Instr.mapEntry 80 (.map (some b)) (.agg #[.int .u16 e.1, .int .u16 e.2])).run Tryd.prog w = .ok (.tuple #[(f e).getD (.slice none 0 0), goInt st]) w1 ∧ w.mapTurned w1 b ∧
      ∀ (w2 : World) (v : Value), w2.heap[b]? = w1.heap[b]? → ∃ w3, (Instr.entryStore 80 (.map (some b)) (goInt st) v).run Tryd.prog w2 = .ok () w3 ∧ PM w3 b (n + 1) (pmSet f e v) ∧ w2.mapTurned w3 b := by
  have hp := h
  obtain ⟨D, h1, h2⟩ := h
  obtain ⟨es, clock, hb, F, hs, hD⟩ := h1
  obtain ⟨v0, st, es1, clock1, hrun, hv0, hst⟩ := Go.WideElems.entry_then_store ulaw Tryd.underlying80 (fun u => zeroMv u) hb F (keyOfU e he)
  have hat := atKey_sorted (es.toList.map (rg Tryd.prog 78 anyElem)) (fit_rising ukeyed F) (ukey e) (ukeyed.key (keyOfU e he))
  have hz := (h2.2 e he).2 (.slice none 0 0)
  have hval : v0 = (f e).getD (.slice none 0 0) := by
    rcases hv0 with ⟨e0, hm0, h3, rfl⟩ | ⟨hno, rfl⟩
    · obtain ⟨y0, hy0⟩ := F.reads e0 hm0
      obtain ⟨zv, hzv, hd⟩ := rd_val hy0
      have m0 := rd_key hy0
      rw [h3, keyOfU e he] at m0
      have q := hat.2 (rg Tryd.prog 78 anyElem e0) (List.mem_map.2 ⟨e0, hm0, rfl⟩) (by rw [rg_of hy0]; exact (Option.some.inj m0).symm) (.held (.slice none 0 0))
      rw [← hD, hz, rg_of hy0, hd] at q
      simp only [anyElem, Option.some.injEq] at hzv
      rw [← hzv] at q
      injection q with q
      exact q.symm
    · have q := hat.1 (fun p hp e1 => by
        obtain ⟨x, hx, rfl⟩ := List.mem_map.1 hp
        obtain ⟨y, hy⟩ := F.reads x hx
        have m1 := rd_key hy
        rw [rg_of hy] at e1
        rw [e1] at m1
        exact hno x hx (ukeyed.inj m1 (keyOfU e he))) (.held (.slice none 0 0))
      rw [← hD, hz] at q
      injection q with q
      exact q.symm
  subst hval
  refine ⟨st, _, hrun, ⟨es, clock, es1, clock1, hb, rfl⟩, fun w2 v hw2 => ?_⟩
  rw [heap_setBlock_same hb] at hw2
  obtain ⟨es', clock', r1, r2⟩ := hst w2 v hw2
  obtain ⟨w', hrun', ⟨D', ⟨es'', clock'', hb'', F'', hs'', hD''⟩, hu⟩, _⟩ := hp.put hn he v
  rw [r2] at hrun'
  injection hrun' with _ hw'
  subst hw'
  rw [heap_setBlock_same hb] at hb''
  injection hb'' with hb''
  injection hb'' with ha hc
  subst ha hc
  exact ⟨_, r1, ⟨D', ⟨_, _, heap_setBlock_same hw2 _, F'', hs'', hD''⟩, hu⟩, ⟨_, _, _, _, hw2, rfl⟩⟩
/-- one that was made just now, empty. -/
theorem PM.fresh {w : World} {b n : Nat} (h : w.ownsMap Tryd.prog 78 anyElem b n (.map [])) : PM w b n (fun _ => none) := ⟨_, h, UM.empty⟩
end Go.Proofs.YtigllpegaljkmaaDoor
namespace Go.Proofs.YtigllpegaljkmaaDoor
open Go.RowKit
set_option linter.unusedVariables false
set_option linter.unusedSimpArgs false
def ucells (L : List (Int × Int)) : List Value := L.flatMap fun p => [.int .u16 p.1, .int .u16 p.2]
theorem ucells_nil : ucells [] = [] := rfl
theorem ucells_app (L M : List (Int × Int)) : ucells (L ++ M) = ucells L ++ ucells M := by simp [ucells]
theorem ucells_len : ∀ L : List (Int × Int), (ucells L).length = L.length * 2
  | [] => rfl
  | p :: L => by
    have := ucells_len L
    simp [ucells] at this ⊢; omega
theorem ucells_get : ∀ (L : List (Int × Int)) (j : Nat) (p : Int × Int), L[j]? = some p → (ucells L)[2 * j]? = some (.int .u16 p.1) ∧ (ucells L)[2 * j + 1]? = some (.int .u16 p.2)
  | q :: L, 0, p, h => by
    simp at h; subst h; exact ⟨rfl, rfl⟩
  | q :: L, j + 1, p, h => by
    have := ucells_get L j p (by simpa using h)
    have e : ucells (q :: L) = .int .u16 q.1 :: .int .u16 q.2 :: ucells L := rfl
    rw [e, show 2 * (j + 1) = 2 * j + 1 + 1 by omega, show 2 * j + 1 + 1 + 1 = (2 * j + 1) + 1 + 1 by omega]
    simpa using this

/-- a list of places of the call's own. -/
def URow (w : World) (B : Nat) (v : Value) (L : List (Int × Int)) : Prop := w.ownsRow B 78 2 v L.length (ucells L)
theorem URow.nil (w : World) (B : Nat) : URow w B (.slice none 0 0) [] := World.ownsRow_nil _ _ _ _
theorem URow.form {w : World} {B : Nat} {v : Value} {L : List (Int × Int)} (h : URow w B v L) :
    (v = .slice none 0 0 ∧ L = []) ∨ ∃ g cap, v = .slice (some ⟨g, 0, none⟩) L.length cap ∧ B ≤ g ∧ g < w.heap.size ∧ ∀ j p, L[j]? = some p → w.cell? ⟨g, 2 * j, none⟩ = some (.int .u16 p.1) ∧ w.cell? ⟨g, 2 * j + 1, none⟩ = some (.int .u16 p.2) ∧ w.frozen? ⟨g, 2 * j, none⟩ = false ∧ w.frozen? ⟨g, 2 * j + 1, none⟩ = false := by
  rcases h.2 with ⟨h1, h2⟩ | ⟨g, cap, cur, rfl, hb, hg, r⟩
  · exact Or.inl ⟨h1, List.length_eq_zero_iff.1 h2⟩
  · refine Or.inr ⟨g, cap, rfl, hb, (Array.getElem?_eq_some_iff.1 hg).1, fun j p hp => ?_⟩
    have hj : j < L.length := (List.getElem?_eq_some_iff.1 hp).1
    obtain ⟨e1, e2⟩ := ucells_get L j p hp
    exact ⟨by rw [World.ownsRow.cellAt h (2 * j) (by omega), e1], by rw [World.ownsRow.cellAt h (2 * j + 1) (by omega), e2], World.ownsRow.frozenAt h _, World.ownsRow.frozenAt h _⟩
theorem URow.mono {w : World} {B B' : Nat} {v : Value} {L : List (Int × Int)} (h : URow w B v L) (hB : B' ≤ B) : URow w B' v L := by
  refine ⟨h.1, ?_⟩
  rcases h.2 with h' | ⟨g, cap', cur, h', hb, r⟩
  · exact Or.inl h'
  · exact Or.inr ⟨g, cap', cur, h', Nat.le_trans hB hb, r⟩
theorem URow.later {w w' : World} {B : Nat} {v : Value} {L : List (Int × Int)} (h : URow w B v L) (hb : Below w.heap.size w w') : URow w' B v L := by
  refine World.ownsRow.kept h (grown_of_below hb) ?_
  cases v.ownBlock with
  | none => exact Or.inl rfl
  | some b => exact Or.inr (by simp)
theorem URow.lt {w : World} {B : Nat} {v : Value} {L : List (Int × Int)} (h : URow w B v L) : ∀ k, v.ownBlock = some k → B ≤ k ∧ k < w.heap.size := World.ownsRow.lt h
theorem URow.kept {w w' : World} {B b : Nat} {v : Value} {L : List (Int × Int)} (h : URow w B v L) (hg : w.grownBy w' (some b)) (hn : ¬ v.ownBlock = some b) : URow w' B v L := World.ownsRow.kept h hg (Or.inr hn)
theorem Tryd.infoU : (Tryd.prog.info? 78).map (fun i => (i.zero, i.size, i.bytes)) = some (some (.agg #[.int .u16 0, .int .u16 0]), 2, 4) := by kernel_rfl
theorem wpList_append_place (w : World) {ops : Array Oper} {rest : List Oper} {o : Oper} {a : Act} {Q : Exit → Act → World → Prop}
    (hg : o.guard = none) (s x : Operand) (hop : o.op = Op.call { callee := Callee.builtin Builtin.append, args := #[s, x], argTypes := #[79, 79] })
    (B : Nat) (v : Value) (F : List (Int × Int)) (hs : a.eval s = v) (hv : URow w B v F) (sb : Nat) (p q : Int) (hx : a.eval x = .slice (some ⟨sb, 0, none⟩) 1 1) (hz0 : w.cell? ⟨sb, 0, none⟩ = some (.int .u16 p)) (hz1 : w.cell? ⟨sb, 1, none⟩ = some (.int .u16 q)) (hl : F.length ≤ 1048576) (hB : B ≤ w.heap.size)
    (hK : ∀ v' w', URow w' B v' (F ++ [(p, q)]) → w.grownBy w' v.ownBlock → wpList Tryd.prog ops Q rest (a.put o.dst v') w') :
    wpList Tryd.prog ops Q (o :: rest) a w := by
  obtain ⟨ie, hie, he0, he1, he2⟩ := info_parts Tryd.infoU
  refine wpList_append_own _ hg s x 79 hop B 78 ie (.agg #[.int .u16 0, .int .u16 0]) 2 4 Tryd.underlying79 hie he0 he1 he2 rfl (by decide) v F.length (ucells F) hs hv ⟨sb, 0, none⟩ 1 1 [.int .u16 p, .int .u16 q] hx rfl ?_ ?_ (by unfold maxLen; omega) (by omega) hB ?_
  · intro j u hj
    match j, hj with
    | 0, hj => simp at hj; subst hj; simpa [Addr.add] using hz0
    | 1, hj => simp at hj; subst hj; simpa [Addr.add] using hz1
  · intro u hu
    simp at hu
    rcases hu with rfl | rfl <;> rfl
  · intro v' w' h1 h2 _
    refine hK v' w' ?_ h2
    unfold URow
    rw [List.length_append, List.length_singleton, ucells_app]
    exact h1
theorem URow.keptO {w w' : World} {B : Nat} {v : Value} {G : List (Int × Int)} {r : Option Nat} (h : URow w B v G) (hg : w.grownBy w' r) (hr : ∀ k, v.ownBlock = some k → ¬ r = some k) : URow w' B v G := by
  cases hv : v.ownBlock with
  | none => exact World.ownsRow.kept h hg (Or.inl hv)
  | some k => exact World.ownsRow.kept h hg (Or.inr (by rw [hv]; exact fun e => hr k hv e.symm))

/-- a place of it, looked at. -/
theorem URow.get {w : World} {B : Nat} {v : Value} {L : List (Int × Int)} (h : URow w B v L) {k : Nat} {p : Int × Int} (hk : L[k]? = some p) :
    ∃ g c, v = .slice (some ⟨g, 0, none⟩) L.length c ∧ w.cell? ⟨g, 2 * k, none⟩ = some (.int .u16 p.1) ∧ w.cell? ⟨g, 2 * k + 1, none⟩ = some (.int .u16 p.2) := by
  rcases h.form with ⟨_, rfl⟩ | ⟨g, cap, rfl, h1, h2, h3⟩
  · simp at hk
  · exact ⟨g, cap, rfl, (h3 k p hk).1, (h3 k p hk).2.1⟩
end Go.Proofs.YtigllpegaljkmaaDoor
