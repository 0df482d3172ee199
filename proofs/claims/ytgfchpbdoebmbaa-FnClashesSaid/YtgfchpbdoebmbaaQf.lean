import Derived.Test.YtgfchpbdoebmbaaQe
import Derived.Test.YtgfchpbdoebmbaaCa
namespace Go.Proofs.Ytgfchpbdoebmbaa
open Go.RowKit
set_option linter.unusedVariables false
set_option linter.unusedSimpArgs false

/-- the columns that a command touches. -/
def tgt (c : Cm) : List Int := if c.kind = 1 then c.list.map (fun x => x.1) else if c.kind = 3 ∨ c.kind = 4 then [c.comp] else []
def tgs (L : List Cm) : List Int := L.flatMap tgt
theorem tgt_len {c : Cm} (h : c.list.length ≤ 1048576) : (tgt c).length ≤ 1048576 := by
  unfold tgt
  split
  · simpa using h
  · split
    · simp
    · simp
theorem tgs_succ {L : List Cm} {k : Nat} {c : Cm} (h : L[k]? = some c) : tgs (L.take (k + 1)) = tgs (L.take k) ++ tgt c := by
  have hk : k < L.length := (List.getElem?_eq_some_iff.1 h).1
  rw [List.take_succ_eq_append_getElem hk]
  have e : L[k] = c := by rw [List.getElem?_eq_getElem hk] at h; simpa using h
  rw [e]
  unfold tgs
  rw [List.flatMap_append]
  simp
theorem tgs_len {L : List Cm} (hk : ∀ c ∈ L, c.list.length ≤ 1048576) : ∀ m, m ≤ L.length → (tgs (L.take m)).length ≤ 1048576 * m
  | 0, _ => by simp [tgs]
  | m + 1, h => by
    obtain ⟨t, ht⟩ := get_some (L := L) (k := m) (by omega)
    have h1 := tgs_len hk m (by omega)
    have h2 := tgt_len (hk t (List.mem_of_getElem? ht))
    rw [tgs_succ ht, List.length_append]
    omega
theorem map_succ {L : List C5} {k : Nat} {c : C5} (h : L[k]? = some c) : (L.take (k + 1)).map (fun x => x.1) = (L.take k).map (fun x => x.1) ++ [c.1] := by
  have hk : k < L.length := (List.getElem?_eq_some_iff.1 h).1
  rw [List.take_succ_eq_append_getElem hk]
  have e : L[k] = c := by rw [List.getElem?_eq_getElem hk] at h; simpa using h
  rw [e]; simp

end Go.Proofs.Ytgfchpbdoebmbaa
