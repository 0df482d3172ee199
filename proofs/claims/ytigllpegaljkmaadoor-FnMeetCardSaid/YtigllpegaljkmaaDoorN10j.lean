import Derived.Test.YtigllpegaljkmaaDoorN9j
namespace Go.Proofs.YtigllpegaljkmaaDoor
open Go.RowKit
set_option linter.unusedVariables false
set_option linter.unusedSimpArgs false

theorem wpList_append_all (w : World) {ops : Array Oper} {rest : List Oper} {o : Oper} {a : Act} {Q : Exit → Act → World → Prop}
    (hg : o.guard = none) (s x : Operand) (hop : o.op = Op.call { callee := Callee.builtin Builtin.append, args := #[s, x], argTypes := #[30, 30] })
    (B : Nat) (v : Value) (hs : a.eval s = v) (hv : VRow w B v []) (pb po ca : Nat) (A : List Int) (hx : a.eval x = .slice (some ⟨pb, po, none⟩) A.length ca) (hA : ∀ j, j < A.length → w.cell? ⟨pb, po + j, none⟩ = some (.int .i64 (A.getD j 0))) (hl : A.length ≤ 1048576) (h0 : 0 < A.length) (hB : B ≤ w.heap.size)
    (hK : ∀ g d w', VRow w' B (.slice (some ⟨g, 0, none⟩) A.length d) A → w.grownBy w' v.ownBlock → wpList Tryd.prog ops Q rest (a.put o.dst (.slice (some ⟨g, 0, none⟩) A.length d)) w') :
    wpList Tryd.prog ops Q (o :: rest) a w := by
  obtain ⟨ie, hie, he0, he1, he2⟩ := info_parts Tryd.infoI
  refine wpList_append_own _ hg s x 30 hop B 3 ie (.int .i64 0) 1 8 Tryd.underlying30 hie he0 he1 he2 rfl (by decide) v 0 [] hs hv ⟨pb, po, none⟩ A.length ca (A.map (Value.int .i64)) hx (by simp) ?_ ?_ (by unfold maxLen; omega) (by omega) hB ?_
  · intro j u hj
    have hjl : j < A.length := by have := (List.getElem?_eq_some_iff.1 hj).1; simpa using this
    rw [Addr.add_lit, hA j hjl]
    simp only [List.getElem?_map, List.getElem?_eq_getElem hjl, Option.map_some, Option.some.injEq] at hj
    rw [← hj]
    simp [List.getD, hjl]
  · exact ints_one A
  · intro v' w' h1 h2 _
    have h3 : VRow w' B v' A := by
      unfold VRow
      rw [Nat.zero_add, List.nil_append] at h1
      exact h1
    rcases h3.form with ⟨_, e⟩ | ⟨g, d, rfl, _, _⟩
    · rw [e] at h0; simp at h0
    · exact hK g d w' h3 h2
theorem VRow.put {w : World} {B g n d : Nat} {A : List Int} (h : VRow w B (.slice (some ⟨g, 0, none⟩) n d) A) (hn : A.length = n) (j : Nat) (x : Int) : VRow (w.setCell ⟨g, j, none⟩ (.int .i64 x)) B (.slice (some ⟨g, 0, none⟩) n d) (A.set j x) := by
  subst hn
  have := (World.ownsRow.stored h j (.int .i64 x)).1
  unfold VRow
  rw [List.length_set, List.map_set]
  exact this
theorem VRow.at {w : World} {B g n d : Nat} {A : List Int} (h : VRow w B (.slice (some ⟨g, 0, none⟩) n d) A) (hn : A.length = n) {j : Nat} (hj : j < A.length) : w.cell? ⟨g, j, none⟩ = some (.int .i64 (A.getD j 0)) ∧ w.frozen? ⟨g, j, none⟩ = false := by
  subst hn
  refine ⟨?_, World.ownsRow.frozenAt h j⟩
  rw [World.ownsRow.cellAt h j (by omega)]
  simp [hj, List.getD]

set_option maxHeartbeats 2000000 in
theorem l18Do_any (sa : Option Addr) (ca x : Nat) (A : List Int) (k : Int) (w : World) (hI : Ints w sa A) (hx : x < A.length) (hl : A.length ≤ 1048576) :
    Calls Tryd.prog 26 #[.slice sa A.length ca, .agg #[.int .i64 k, .int .i64 x]] w fun e w' => (∃ g d, e = .returned (.slice (some ⟨g, 0, none⟩) A.length d) ∧ VRow w' w.heap.size (.slice (some ⟨g, 0, none⟩) A.length d) (doM A (k, (x : Int)))) ∧ Below w.heap.size w w' := by
  have hr1 : ∃ pb po, sa = some ⟨pb, po, none⟩ ∧ pb < w.heap.size ∧ ∀ i, i < A.length → w.cell? ⟨pb, po + i, none⟩ = some (.int .i64 (A.getD i 0)) := by
    rcases hI with h | ⟨pb, po, e, hp, h⟩
    · rw [h] at hx; simp at hx
    · exact ⟨pb, po, e, hp, h⟩
  obtain ⟨pb, po, rfl, hp, hcs⟩ := hr1
  clear hI
  have kb := Blk.new w #[.int .i64 k, .int .i64 (x : Int)] 62
  have kb2 := kb.alloc (.cells #[] 3)
  have kr := Blk.new (w.alloc (.cells #[.int .i64 k, .int .i64 (x : Int)] 62)) #[] 3
  have L2 : Below w.heap.size w ((w.alloc (.cells #[.int .i64 k, .int .i64 (x : Int)] 62)).alloc (.cells #[] 3)) := bl_alloc (bl_alloc (Below.refl _ w) _) _
  have hrow : VRow ((w.alloc (.cells #[.int .i64 k, .int .i64 (x : Int)] 62)).alloc (.cells #[] 3)) (w.heap.size + 1) (.slice (some ⟨w.heap.size + 1, 0, none⟩) 0 0) [] := by
    have e : (w.alloc (.cells #[.int .i64 k, .int .i64 (x : Int)] 62)).heap.size = w.heap.size + 1 := by simp
    rw [e] at kr
    exact ⟨rfl, Or.inr ⟨w.heap.size + 1, 0, _, rfl, Nat.le_refl _, kr, Nat.le_refl _, by unfold maxLen; omega, rfl, rfl⟩⟩
  have hcs2 : Hid (∀ i, i < A.length → ((w.alloc (.cells #[.int .i64 k, .int .i64 (x : Int)] 62)).alloc (.cells #[] 3)).cell? ⟨pb, po + i, none⟩ = some (.int .i64 (A.getD i 0))) := fun i hi => (L2.cell (p := ⟨pb, po + i, none⟩) hp).trans (hcs i hi)
  have hs2 : w.heap.size + 1 ≤ ((w.alloc (.cells #[.int .i64 k, .int .i64 (x : Int)] 62)).alloc (.cells #[] 3)).heap.size := by simp
  have HR : Hid (VRow ((w.alloc (.cells #[.int .i64 k, .int .i64 (x : Int)] 62)).alloc (.cells #[] 3)) (w.heap.size + 1) (.slice (some ⟨w.heap.size + 1, 0, none⟩) 0 0) []) := hrow
  have HL2 : Hid (Below w.heap.size w ((w.alloc (.cells #[.int .i64 k, .int .i64 (x : Int)] 62)).alloc (.cells #[] 3))) := L2
  have HK2 : Hid (Blk ((w.alloc (.cells #[.int .i64 k, .int .i64 (x : Int)] 62)).alloc (.cells #[] 3)) w.heap.size #[.int .i64 k, .int .i64 (x : Int)] 62) := kb2
  clear hrow L2 kb2 kb kr hcs hp
  go_enter Tryd.func26, Tryd.ntmps26
  go_wp2_with (at_builtin; refine wpList_append_all _ rfl (.tmp 6) (.tmp 7) rfl (w.heap.size + 1) (.slice (some ⟨w.heap.size + 1, 0, none⟩) 0 0) rfl HR.out pb po ca A rfl hcs2.out hl (by omega) hs2 ?_)
  intro g d w3 hv3 hg3
  have hgb : w.heap.size + 1 ≤ g := (hv3.lt g rfl).1
  have hg3' : ((w.alloc (.cells #[.int .i64 k, .int .i64 (x : Int)] 62)).alloc (.cells #[] 3)).grownBy w3 (some (w.heap.size + 1)) := hg3
  have HK3 : Blk w3 w.heap.size #[.int .i64 k, .int .i64 (x : Int)] 62 := HK2.out.kept hg3' (by omega)
  have HL3 : Hid (Below w.heap.size w w3) := HL2.out.grown hg3' (by omega) (fun q hq => by simp at hq; omega)
  obtain ⟨y0, y1, y2⟩ := HK3.two
  obtain ⟨z0, z1⟩ := hv3.at rfl hx
  have V4 : Hid (VRow (w3.setCell ⟨g, x, none⟩ (.int .i64 2)) (w.heap.size + 1) (.slice (some ⟨g, 0, none⟩) A.length d) (A.set x 2)) := hv3.put rfl x 2
  have L4 : Hid (Below w.heap.size w (w3.setCell ⟨g, x, none⟩ (.int .i64 2))) := HL3.out.setCell (by simp; omega) _
  have K4 : Hid (Blk (w3.setCell ⟨g, x, none⟩ (.int .i64 2)) w.heap.size #[.int .i64 k, .int .i64 (x : Int)] 62) := HK3.other (by omega) _ _
  have hxI : (x : Int) < (A.length : Int) := by omega
  by_cases h2 : k = 2
  · subst h2
    have V5 : Hid (VRow ((w3.setCell ⟨g, x, none⟩ (.int .i64 2)).setCell ⟨g, x, none⟩ (.int .i64 1)) w.heap.size (.slice (some ⟨g, 0, none⟩) A.length d) (doM A (2, (x : Int)))) := by
      have := (V4.out.put (by simp) x 1).mono (B' := w.heap.size) (by omega)
      rw [List.set_set] at this
      exact this
    have L5 : Hid (Below w.heap.size w ((w3.setCell ⟨g, x, none⟩ (.int .i64 2)).setCell ⟨g, x, none⟩ (.int .i64 1))) := L4.out.setCell (by simp; omega) _
    obtain ⟨x0, x1, x2⟩ := K4.out.two
    obtain ⟨u0, u1⟩ := V4.out.at (by simp) (j := x) (by simpa using hx)
    clear hv3 hg3 hg3' HK3 HL3 V4 L4 K4 HR HK2 HL2 hcs2
    go_wp2_with fail
    go_ret
    exact ⟨⟨g, d, rfl, V5.out⟩, L5.out⟩
  · have t2 : (k == 2) = false := by simp [h2]
    have V5 : Hid (VRow (w3.setCell ⟨g, x, none⟩ (.int .i64 2)) w.heap.size (.slice (some ⟨g, 0, none⟩) A.length d) (doM A (k, (x : Int)))) := by
      have := V4.out.mono (B' := w.heap.size) (by omega)
      unfold doM
      rw [if_neg h2]
      exact this
    obtain ⟨x0, x1, x2⟩ := K4.out.two
    clear hv3 hg3 hg3' HK3 HL3 V4 K4 HR HK2 HL2 hcs2
    go_wp2_with fail
    go_ret
    exact ⟨⟨g, d, rfl, V5.out⟩, L4.out⟩
end Go.Proofs.YtigllpegaljkmaaDoor
