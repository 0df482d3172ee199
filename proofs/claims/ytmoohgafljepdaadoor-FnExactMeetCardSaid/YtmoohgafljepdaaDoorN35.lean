import Derived.Test.YtmoohgafljepdaaDoorN34
import Derived.WideKeyEntry
namespace Go.Proofs.YtmoohgafljepdaaDoor
open Go.RowKit Go.Maps Go.WideMaps Go.ChangeShapes Go.WideShapes Go.MapKept Go.ChangeMaps Go.WideElems
set_option linter.unusedVariables false
set_option linter.unusedSimpArgs false
set_option maxRecDepth 100000

theorem ulaw : KeyLaw Tryd.prog 66 := deep_law_laid Tryd.laidOutU (m := 4) (by omega) (of_decide_eq_true (by kernel_rfl)) (by kernel_rfl) (by kernel_rfl)
/-- the map with one thing more. -/
def pmSet (f : Int × Int → Option Value) (e : Int × Int) (v : Value) : Int × Int → Option Value := fun x => if x = e then some v else f x
/-- a put. -/
theorem PM.put {w : World} {b n : Nat} {f : Int × Int → Option Value} (h : PM w b n f) (hn : n < maxLen) {e : Int × Int} (he : bU e) (v : Value) :
    ∃ w', (Instr.mapUpdate 68 (.map (some b)) (.agg #[.int .u16 e.1, .int .u16 e.2]) v).run Tryd.prog w = .ok () w' ∧ PM w' b (n + 1) (pmSet f e v) ∧ w.mapTurned w' b := by
  obtain ⟨D, h1, h2⟩ := h
  obtain ⟨w', hrun, h3, h4⟩ := h1.store ukeyed Tryd.underlying68 hn (keyOfU e he) (val := v) (d := .held v) (ps := []) rfl
  exact ⟨w', hrun, ⟨_, h3, h2.put he v⟩, h4⟩
/-- an entry taken, and what is stored in it later on. -/
theorem PM.entry {w : World} {b n : Nat} {f : Int × Int → Option Value} (h : PM w b n f) (hn : n < maxLen) {e : Int × Int} (he : bU e) :
    ∃ (st : Nat) (w1 : World), (Instr.mapEntry 68 (.map (some b)) (.agg #[.int .u16 e.1, .int .u16 e.2])).run Tryd.prog w = .ok (.tuple #[(f e).getD (.slice none 0 0), goInt st]) w1 ∧ w.mapTurned w1 b ∧
      ∀ (w2 : World) (v : Value), w2.heap[b]? = w1.heap[b]? → ∃ w3, (Instr.entryStore 68 (.map (some b)) (goInt st) v).run Tryd.prog w2 = .ok () w3 ∧ PM w3 b (n + 1) (pmSet f e v) ∧ w2.mapTurned w3 b := by
  have hp := h
  obtain ⟨D, h1, h2⟩ := h
  obtain ⟨es, clock, hb, F, hs, hD⟩ := h1
  obtain ⟨v0, st, es1, clock1, hrun, hv0, hst⟩ := Go.WideElems.entry_then_store ulaw Tryd.underlying68 (fun u => zeroMv u) hb F (keyOfU e he)
  have hat := atKey_sorted (es.toList.map (rg Tryd.prog 66 anyElem)) (fit_rising ukeyed F) (ukey e) (ukeyed.key (keyOfU e he))
  have hz := (h2.2 e he).2 (.slice none 0 0)
  have hval : v0 = (f e).getD (.slice none 0 0) := by
    rcases hv0 with ⟨e0, hm0, h3, rfl⟩ | ⟨hno, rfl⟩
    · obtain ⟨y0, hy0⟩ := F.reads e0 hm0
      obtain ⟨zv, hzv, hd⟩ := rd_val hy0
      have m0 := rd_key hy0
      rw [h3, keyOfU e he] at m0
      have q := hat.2 (rg Tryd.prog 66 anyElem e0) (List.mem_map.2 ⟨e0, hm0, rfl⟩) (by rw [rg_of hy0]; exact (Option.some.inj m0).symm) (.held (.slice none 0 0))
      rw [← hD, hz, rg_of hy0, hd] at q
      simp only [anyElem, Option.some.injEq] at hzv
      rw [← hzv] at q
      injection q with q
      exact q.symm
    · have q := hat.1 (fun p hp e1 => by
        obtain ⟨x, hx, rfl⟩ := List.mem_map.1 hp
        obtain ⟨y, hy⟩ := F.reads x hx
        have m1 := rd_key hy
        rw [rg_of hy] at e1
        rw [e1] at m1
        exact hno x hx (ukeyed.inj m1 (keyOfU e he))) (.held (.slice none 0 0))
      rw [← hD, hz] at q
      injection q with q
      exact q.symm
  subst hval
  refine ⟨st, _, hrun, ⟨es, clock, es1, clock1, hb, rfl⟩, fun w2 v hw2 => ?_⟩
  rw [heap_setBlock_same hb] at hw2
  obtain ⟨es', clock', r1, r2⟩ := hst w2 v hw2
  obtain ⟨w', hrun', ⟨D', ⟨es'', clock'', hb'', F'', hs'', hD''⟩, hu⟩, _⟩ := hp.put hn he v
  rw [r2] at hrun'
  injection hrun' with _ hw'
  subst hw'
  rw [heap_setBlock_same hb] at hb''
  injection hb'' with hb''
  injection hb'' with ha hc
  subst ha hc
  exact ⟨_, r1, ⟨D', ⟨_, _, heap_setBlock_same hw2 _, F'', hs'', hD''⟩, hu⟩, ⟨_, _, _, _, hw2, rfl⟩⟩
/-- one that was made just now, empty. -/
theorem PM.fresh {w : World} {b n : Nat} (h : w.ownsMap Tryd.prog 66 anyElem b n (.map [])) : PM w b n (fun _ => none) := ⟨_, h, UM.empty⟩
end Go.Proofs.YtmoohgafljepdaaDoor
