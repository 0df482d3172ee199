import Derived.Test.YtknallkcengbbaaGreatDoorBk
import Derived.Maps.OwnSet
namespace Go.Proofs.YtknallkcengbbaaGreatDoor
open Go.RowKit Go.Maps Go.WideMaps
set_option linter.unusedVariables false
set_option linter.unusedSimpArgs false

theorem wpList_insert_own {H : Type} {P : Program} (w : World) {ops : Array Oper} {rest : List Oper} {o : Oper} {a : Act} {Q : Exit → Act → World → Prop}
    (hg : o.guard = none) (m x v : Operand) (t : TypeId) (hop : o.op = Op.insert t m x v)
    (k e : TypeId) (K : Keyed P k) (ht : P.underlying t = some (.map k e)) (R : Value → Option (DataW H × List MemPlace)) (b n : Nat) (D : DataW H)
    (hm : a.eval m = .map (some b)) (hown : w.ownsMap P k R b n D) (hn : n < maxLen) (key val : Value) (kl : Lit) (hx : a.eval x = key) (hv : a.eval v = val) (hkey : keyOf P k key = some kl)
    (d : DataW H) (ps : List MemPlace) (hval : R val = some (d, ps))
    (hK : ∀ w', w'.ownsMap P k R b (n + 1) (D.put kl d) → w.grownBy w' (some b) → wpList P ops Q rest (a.put o.dst undef) w') :
    wpList P ops Q (o :: rest) a w := by
  refine wpList_plain hg fun K' hK' => ?_
  obtain ⟨w', hrun, r1, r2⟩ := hown.update K ht hn hkey hval
  unfold Oper.wp
  simp [execOp, hop, hm, hx, hv, hrun, Result.andThen]
  exact hK' _ _ (hK w' r1 r2)

theorem upon_insert {H : Type} {P : Program} {w : World} {o : Oper} {a : Act} {K : Act → World → Prop} {X : Exit → Act → World → Prop} {f : Unit → World → Result Next} (t : TypeId)
    (k e : TypeId) (Kd : Keyed P k) (ht : P.underlying t = some (.map k e)) (R : Value → Option (DataW H × List MemPlace)) (b n : Nat) (D : DataW H)
    (hown : w.ownsMap P k R b n D) (hn : n < maxLen) (key val : Value) (kl : Lit) (hkey : keyOf P k key = some kl) (d : DataW H) (ps : List MemPlace) (hval : R val = some (d, ps))
    (hK : ∀ w', w'.ownsMap P k R b (n + 1) (D.put kl d) → w.grownBy w' (some b) → Oper.upon P o a K X (f () w')) :
    Oper.upon P o a K X (((Instr.mapUpdate t (.map (some b)) key val).run P w).andThen f) := by
  obtain ⟨w', hrun, r1, r2⟩ := hown.update Kd ht hn hkey hval
  rw [hrun]
  exact hK w' r1 r2

theorem skeyed : Keyed Tryz.prog 9 := string_keyed Tryz.underlying9

/-- the words of the language, in the model's order. -/
def words : List ByteArray := [⟨#[115, 121, 115, 116, 101, 109]⟩, ⟨#[102, 110]⟩, ⟨#[108, 101, 116]⟩, ⟨#[105, 102]⟩, ⟨#[101, 108, 115, 101]⟩, ⟨#[108, 111, 111, 112]⟩, ⟨#[101, 97, 99, 104]⟩, ⟨#[119, 105, 116, 104]⟩, ⟨#[119, 105, 116, 104, 111, 117, 116]⟩, ⟨#[101, 109, 105, 116]⟩, ⟨#[104, 101, 97, 114]⟩, ⟨#[97, 115]⟩, ⟨#[115, 112, 97, 119, 110]⟩, ⟨#[107, 105, 108, 108]⟩, ⟨#[112, 117, 116]⟩, ⟨#[100, 114, 111, 112]⟩, ⟨#[100, 111]⟩, ⟨#[114, 101, 116, 117, 114, 110]⟩, ⟨#[112, 105, 99, 107]⟩, ⟨#[111, 102]⟩, ⟨#[121, 101, 115]⟩, ⟨#[110, 111]⟩, ⟨#[97, 110, 100]⟩, ⟨#[111, 114]⟩, ⟨#[110, 111, 116]⟩, ⟨#[105, 110, 116]⟩, ⟨#[114, 101, 97, 108]⟩, ⟨#[112, 97, 105, 114]⟩, ⟨#[98, 111, 111, 108]⟩, ⟨#[114, 101]⟩, ⟨#[105, 109]⟩, ⟨#[115, 105, 122, 101]⟩]

def wkey (s : ByteArray) : Lit := .string s.data.toList
def wordMap : List ByteArray → DataW Unit → DataW Unit
  | [], D => D
  | s :: r, D => wordMap r (D.put (wkey s) (.agg []))

def isW (s : ByteArray) : Bool := words.any (fun t => decide (t = s))

theorem wkey_inj {s t : ByteArray} (h : wkey s = wkey t) : s = t := by
  simp only [wkey, Lit.string.injEq] at h
  have : s.data = t.data := Array.toList_inj.1 h
  cases s; cases t; simp_all

theorem has_put {D : DataW Unit} (hD : IsMap D) (s t : ByteArray) (d : DataW Unit) : Maps.has (D.put (wkey s) d) (wkey t) = (decide (s = t) || Maps.has D (wkey t)) := by
  by_cases h : s = t
  · subst h
    rw [has_put_same hD (by trivial)]; simp
  · have hne : wkey t ≠ wkey s := fun e => h (wkey_inj e).symm
    rw [has_put_other hne]; simp [h]

theorem wordMap_is : ∀ (l : List ByteArray) (D : DataW Unit), IsMap D → IsMap (wordMap l D)
  | [], D, h => h
  | s :: r, D, h => wordMap_is r _ (h.put _ _)

theorem has_words : ∀ (l : List ByteArray) (D : DataW Unit) (t : ByteArray), IsMap D → Maps.has (wordMap l D) (wkey t) = (l.any (fun s => decide (s = t)) || Maps.has D (wkey t))
  | [], D, t, h => by simp [wordMap]
  | s :: r, D, t, h => by
    rw [wordMap, has_words r _ t (h.put _ _), has_put h]
    simp only [List.any_cons]
    cases decide (s = t) <;> cases r.any (fun s => decide (s = t)) <;> simp

theorem has_word (t : ByteArray) : Maps.has (wordMap words (.map [])) (wkey t) = isW t := by
  rw [has_words _ _ _ isMap_empty]; simp [isW, Maps.has]

set_option maxRecDepth 100000 in
set_option maxHeartbeats 8000000 in
theorem wordSet_any (w : World) :
    Calls Tryz.prog 34 #[] w fun e w' => e = .returned (.map (some w.heap.size)) ∧ w'.ownsMap Tryz.prog 9 (unitElem (H := Unit)) w.heap.size 32 (wordMap words (.map [])) ∧ Below w.heap.size w w' := by
  have hmm := @run_makeMap Tryz.prog
  have hown := World.ownsMap_made w Tryz.prog 9 (unitElem (H := Unit))
  have hbl : Below w.heap.size w (w.alloc (.map #[] 0)) := bl_alloc (Below.refl _ w) _
  go_enter Tryz.func34, Tryz.ntmps34
  have k0 : ∀ s : ByteArray, s.size ≤ 9 → keyOf Tryz.prog 9 (.string s) = some (wkey s) := fun s hs => keyOf_string_mk Tryz.underlying9 (by unfold maxLen; omega)
  go_wp2_with (refine upon_insert 61 9 91 skeyed Tryz.underlying61 (unitElem (H := Unit)) w.heap.size _ _ hown (by unfold maxLen; omega) _ _ _ (k0 _ (by decide)) (.agg []) [] unitElem_mk ?_; intro w1 hown1 hgrow; have hbl1 := hbl.grown hgrow hbl.size (fun j hj => by cases hj; exact Nat.le_refl _); clear hown hbl hgrow; have hown := hown1; have hbl := hbl1; clear hown1 hbl1)
  go_ret
  exact ⟨rfl, hown, hbl⟩

theorem zeroU (w : World) : (zeroValue 91).run Tryz.prog w = .ok (.agg #[]) w := by kernel_rfl

/-- a word is asked for. -/
theorem word_look {w : World} {b : Nat} (h : w.ownsMap Tryz.prog 9 (unitElem (H := Unit)) b 32 (wordMap words (.map []))) (s : ByteArray) (hs : s.size ≤ maxLen) :
    (Instr.lookup 61 (.map (some b)) (.string s) true).run Tryz.prog w = .ok (.tuple #[.agg #[], .bool (isW s)]) w := by
  obtain ⟨v, ps, hrun, hv⟩ := h.look_ok (zd := .agg []) (zp := []) skeyed Tryz.underlying61 (zeroU w) unitElem_mk (kl := wkey s) (keyOf_string_mk Tryz.underlying9 hs)
  obtain ⟨rfl, _⟩ := unitElem_inv hv
  rw [has_word] at hrun
  exact hrun

end Go.Proofs.YtknallkcengbbaaGreatDoor
