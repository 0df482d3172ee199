import Derived.Test.YtpfamdpgcbpiaaaSb
import Derived.Laws.CopyOwn
namespace Go.Proofs.Ytpfamdpgcbpiaaa
open Go.RowKit
set_option linter.unusedVariables false
set_option linter.unusedSimpArgs false

/-- the float of a whole number is no NaN. -/
theorem ofInt_num (n : Int) : nanB (floatOfInt .f64 n) = false := by
  rw [nanB_def, decide_eq_false_iff_not]
  have h : ∃ neg r, floatOfInt .f64 n = Ieee.double.word neg r ∧ r ≤ 9218868437227405312 := by
    unfold floatOfInt FloatKind.nearest FloatKind.encode
    show ∃ neg r, Ieee.Format.write Ieee.double _ = _ ∧ _
    unfold Ieee.Format.write Ieee.Format.nearest
    dsimp only
    split
    · exact ⟨_, 0, rfl, by omega⟩
    · refine ⟨_, _, rfl, ?_⟩
      have := ir
      rw [← ir]
      exact Nat.min_le_right _ _
  obtain ⟨neg, r, e, hr⟩ := h
  rw [e]
  unfold Ieee.Format.word
  rw [sw]
  split <;> omega

theorem els_ok {w : World} {B : Nat} {s : Option Addr} {L : List V4} (h : Els 4 cVal w B s L) : ∀ v ∈ L, okV v := by
  intro v hv
  obtain ⟨j, hj, rfl⟩ := List.getElem_of_mem hv
  obtain ⟨_, _, _, _, _, hok, _⟩ := eVal_cells h (j := j) (a := L[j]) (by simp [hj])
  exact hok
theorem mk_own {z : List Value} {w : World} {B g : Nat} {L : List V4} (h : Mk 4 cVal z 64 w B g L L.length) : OV w B (.slice (some ⟨g, 0, none⟩) L.length L.length) L := by
  obtain ⟨h1, h2, U, h3, h4, h5, h6⟩ := h
  rw [Nat.sub_self] at h6
  simp only [List.replicate_zero, List.append_nil] at h6
  have e : U = L.map vcells := by
    apply List.ext_getElem?
    intro j
    by_cases hj : j < L.length
    · obtain ⟨c, hc⟩ := get_some (L := U) (k := j) (by omega)
      obtain ⟨a, ha⟩ := get_some hj
      rw [hc, List.getElem?_map, ha, (h5 j c a hc ha).1]
      rfl
    · rw [List.getElem?_eq_none (by omega), List.getElem?_eq_none (by simp; omega)]
  subst e
  unfold OV
  rw [List.flatMap_def]
  exact h6
/-- a new list of right values is handed back. -/
def Own (w : World) (L : List V4) (e : Ending) (w' : World) : Prop :=
  ∃ g c, e = .returned (.slice (some ⟨g, 0, none⟩) L.length c) ∧ OV w' w.heap.size (.slice (some ⟨g, 0, none⟩) L.length c) L ∧ (∀ v ∈ L, okV v) ∧ Below w.heap.size w w'

/-- nothing turns but the blocks from B on, and of what was there the list's own. -/
def Just (v : Value) (B : Nat) (w w' : World) : Prop := Below B w w' ∧ ∀ k, ¬ v.ownBlock = some k → k < w.heap.size → w'.heap[k]? = w.heap[k]?

theorem OV.mono {w : World} {B B' : Nat} {v : Value} {L : List V4} (h : OV w B v L) (hB : B' ≤ B) : OV w B' v L := by
  refine ⟨h.1, ?_⟩
  rcases h.2 with h' | ⟨g, cap', cur, h', hb, r⟩
  · exact Or.inl h'
  · exact Or.inr ⟨g, cap', cur, h', Nat.le_trans hB hb, r⟩
theorem Just.refl (v : Value) (B : Nat) (w : World) : Just v B w w := ⟨Below.refl _ _, fun _ _ _ => rfl⟩
theorem okV_m {k : Int} {n : Nat} (h0 : 0 ≤ k) (h1 : k + 4 * (n : Int) ≤ 100000000) : ∀ v ∈ mVs k n, okV v := by
  intro v hv
  simp only [mVs, List.mem_map, List.mem_range] at hv
  obtain ⟨i, hi, rfl⟩ := hv
  refine ⟨?_, ofInt_lt' _, ofInt_lt' _⟩
  simp only [mV1]
  omega
theorem run_copy4 (w : World) (dT sT ty : TypeId) (g dLen dCap : Nat) (a : Addr) (sLen sCap : Nat) (cur : Array Value) (t : TypeId) (cs : List Value)
    (hu : Try.prog.underlying dT = some (.slice 64)) (hg : w.heap[g]? = some (.cells cur t (0, 0))) (hn : cs.length = Nat.min sLen dLen * 4)
    (hsrc : ∀ j v, cs[j]? = some v → w.cell? (a.add j) = some v) (hfit : cs.length ≤ cur.size) (h1 : ∀ v ∈ cs, v.oneCell' = true) :
    (Builtin.copy_ #[dT, sT] ty #[.slice (some ⟨g, 0, none⟩) dLen dCap, .slice (some a) sLen sCap]).run Try.prog w =
      .ok (goInt (Nat.min sLen dLen)) (w.setRow g (cs ++ cur.toList.drop cs.length).toArray) := by
  obtain ⟨i0, hi, hz0, hz1, hz2⟩ := info_parts Try.infoV
  have hl := run_loadCells_list (P := Try.prog) w a cs hsrc
  have hst := run_storeCells_at Try.prog g 0 t cs 0 cur w hg (by simpa using hfit) h1
  rw [hn] at hl
  simp [Builtin.copy_, run_underlying hu, Builtin.lenOf, Builtin.firstCells, sizeOf, typeInfo, hi, hz1, hl, hst]
end Go.Proofs.Ytpfamdpgcbpiaaa
