import Derived.Test.YtknallkcengbbaaGreatDoorTb
import Derived.ProofKit
import Derived.OpenShut
import Derived.ChangeOld
import Derived.Lib.SmallJoins
import Derived.ChangeArms
import Derived.Test.YtknallkcengbbaaGreatDoorJa
namespace Go.Proofs.YtknallkcengbbaaGreatDoor
open Go.ChangeShapes Go.WideShapes Go.ChangeAt Go.RowKit Go.Joins
set_option linter.unusedVariables false
set_option linter.unusedSimpArgs false
set_option maxRecDepth 100000

theorem Tryz.own : ownKnob Tryz.prog.godebug = none := by kernel_rfl
theorem Tryz.laidOut : laidOutB Tryz.prog = true := by kernel_rfl
theorem Tryz.cellsI : Tryz.prog.cellsOf 3 = 1 := by kernel_rfl
theorem Tryz.cellsF : Tryz.prog.cellsOf 74 = 1 := by kernel_rfl
theorem Tryz.cellsIs : Tryz.prog.cellsOf 23 = 1 := by kernel_rfl
section
variable {H : Type} {enc : TypeId × Value → H} {w : World} {base : Nat} {spare : Nat → Bool} {held : Bool}

theorem trod_float {P : Program} {t : TypeId} {k : FloatKind} {fuel : Nat} {cs : List Value} {x : DataW H × List MemPlace} (ht : P.underlying t = some (.float k)) (h : DataW.trod enc P w base spare held fuel t cs = some x) :
    ∃ n, cs = [.float k n] ∧ x = (.lit (.float k n), []) ∧ (Lit.float k n).wf = true := by
  cases fuel with
  | zero => simp [DataW.trod] at h
  | succ n =>
    unfold DataW.trod at h
    rw [ht] at h
    split at h <;> simp_all

theorem lt_of_wf {x : Nat} (h : (Lit.float .f64 x).wf = true) : x < 18446744073709551616 := by simpa [Lit.wf] using h
theorem bd_of_wf {n : Int} (h : (Lit.int .i64 n).wf = true) : -9223372036854775808 ≤ n ∧ n ≤ 9223372036854775807 := by
  have e1 : IntKind.i64.min = -9223372036854775808 := by decide +kernel
  have e2 : IntKind.i64.max = 9223372036854775807 := by decide +kernel
  simp only [Lit.wf, Bool.and_eq_true, decide_eq_true_eq, e1, e2] at h
  exact h

/-- a slice that comes in, opened: each element by its own opening. -/
theorem openEls {α : Type} {t e : TypeId} {k : Nat} {E : World → Nat → List Value → α → Prop} {ok : α → Prop} (ht : Tryz.prog.underlying t = some (.slice e)) (hc : Tryz.prog.cellsOf e = k) (hk : 0 < k)
    (one : ∀ (m : Nat) (cs : List Value) (y : DataW H × List MemPlace), DataW.trod enc Tryz.prog w base spare held m e cs = some y → ∃ a, E w 0 cs a ∧ ok a)
    {fuel : Nat} {cs0 : List Value} {y : DataW H × List MemPlace} (h : DataW.trod enc Tryz.prog w base spare held fuel t cs0 = some y) :
    ∃ s c L, cs0 = [.slice s (List.length (α := α) L) c] ∧ Els k E w 0 s L ∧ (∀ a ∈ L, ok a) ∧ L.length ≤ 9223372036854775807 := by
  subst hc
  rcases DataW.trod_slice ht h with ⟨hcs, _⟩ | ⟨a, len, cap, elems, rest, n, _, hcs, _, hb, hl, hm, hlen, hel, _, _⟩
  · exact ⟨none, 0, [], hcs, Or.inl rfl, fun a ha => by simp at ha, by simp⟩
  · have each : ∀ i, i < len → ∃ (x : α) (cs : List Value), cs.length = Tryz.prog.cellsOf e ∧ (∀ j, j < Tryz.prog.cellsOf e → w.cell? ((a.add (i * Tryz.prog.cellsOf e)).add j) = cs[j]?) ∧ E w 0 cs x ∧ ok x := by
      intro i hi
      have := hel i hi
      obtain ⟨q, hq⟩ : ∃ q, elems[i]? = some q := ⟨elems[i], by simp [hlen, hi]⟩
      rw [hq, Option.bind_eq_some_iff] at this
      obtain ⟨cs, hcs', hy⟩ := this
      have hc := World.cells?_some hcs'
      obtain ⟨x, hx, hok⟩ := one _ _ _ hy
      exact ⟨x, cs, hc.2.1, hc.2.2, hx, hok⟩
    by_cases h0 : len = 0
    · subst h0
      exact ⟨some a, cap, [], by simpa using hcs, Or.inl rfl, fun a ha => by simp at ha, by simp⟩
    · have hlenm : len ≤ 9223372036854775807 := by unfold maxLen at hm; omega
      let g : Nat → α := fun i => if h : i < len then Classical.choose (each i h) else Classical.choose (each 0 (by omega))
      have hg : ∀ i, i < len → ∃ cs, cs.length = Tryz.prog.cellsOf e ∧ (∀ j, j < Tryz.prog.cellsOf e → w.cell? ((a.add (i * Tryz.prog.cellsOf e)).add j) = cs[j]?) ∧ E w 0 cs (g i) ∧ ok (g i) := by
        intro i hi
        have : g i = Classical.choose (each i hi) := by simp [g, hi]
        rw [this]
        exact Classical.choose_spec (each i hi)
      have hL : ((List.range len).map g).length = len := by simp
      obtain ⟨b, off, spot⟩ := a
      obtain ⟨cs00, c00, c01, _⟩ := hg 0 (by omega)
      have h00 := c01 0 hk
      obtain ⟨u0, hu0⟩ : ∃ u, cs00[0]? = some u := ⟨cs00[0], by simp [c00, hk]⟩
      rw [hu0] at h00
      have hspot : spot = none := by simpa [Addr.add] using World.cell?_spot h00
      subst hspot
      refine ⟨some ⟨b, off, none⟩, cap, (List.range len).map g, by rw [hL]; exact hcs, Or.inr ⟨b, off, rfl, Nat.zero_le _, ?_, fun j x hx => ?_, fun h => absurd h (by omega)⟩, ?_, by rw [hL]; exact hlenm⟩
      · have := World.block_lt_of_cell? _ _ h00
        simpa [Addr.add] using this
      · have hj : j < len := by
          have := (List.getElem?_eq_some_iff.1 hx).1
          simpa using this
        obtain ⟨cs, d1, d2, d3, d4⟩ := hg j hj
        have ex : x = g j := by simp [hj] at hx; exact hx.symm
        subst ex
        refine ⟨cs, d1, fun i u hu => ?_, d3⟩
        have hi : i < Tryz.prog.cellsOf e := by rw [← d1]; exact (List.getElem?_eq_some_iff.1 hu).1
        have := d2 i hi
        rw [hu] at this
        rw [Addr.add_add, add_plain, ← Nat.add_assoc] at this
        exact this
      · intro x hx
        simp only [List.mem_map, List.mem_range] at hx
        obtain ⟨i, hi, rfl⟩ := hx
        obtain ⟨_, _, _, _, d4⟩ := hg i hi
        exact d4

theorem oneInt (m : Nat) (cs : List Value) (y : DataW H × List MemPlace) (h : DataW.trod enc Tryz.prog w base spare held m 3 cs = some y) : ∃ a, cInt w 0 cs a ∧ True := by
  obtain ⟨n, e0, _, _⟩ := DataW.trod_int Tryz.underlying3 h
  exact ⟨n, e0, trivial⟩
theorem openIw {r : Reach} {b0 : Nat} {v : Value} {d : DataW H} {p : List MemPlace} (hv : Value.okWide Tryz.prog w r b0 3 v) (h : DataW.Trod enc Tryz.prog w base spare held 3 v d p) :
    ∃ n : Int, v = .int .i64 n ∧ (-9223372036854775808 ≤ n ∧ n ≤ 9223372036854775807) := by
  obtain ⟨x, rfl, rfl, rfl, wx⟩ := open_int Tryz.underlying3 hv h
  exact ⟨x, rfl, bd_of_wf wx⟩
end
end Go.Proofs.YtknallkcengbbaaGreatDoor
namespace Go.Proofs.YtknallkcengbbaaGreatDoor
open Go.ChangeShapes Go.WideShapes Go.ChangeAt Go.RowKit Go.Joins
set_option linter.unusedVariables false
set_option linter.unusedSimpArgs false
set_option maxRecDepth 100000

theorem Tryz.cellsNode : Tryz.prog.cellsOf 53 = 4 := by kernel_rfl
theorem Tryz.cellsTree : Tryz.prog.cellsOf 25 = 2 := by kernel_rfl
theorem Tryz.cellsStr : Tryz.prog.cellsOf 9 = 1 := by kernel_rfl
theorem Tryz.cellsNodeS : Tryz.prog.cellsOf 22 = 1 := by kernel_rfl
section
variable {H : Type} {enc : TypeId × Value → H} {w : World} {base : Nat} {spare : Nat → Bool} {held : Bool}
theorem oneIntB (m : Nat) (cs : List Value) (y : DataW H × List MemPlace) (h : DataW.trod enc Tryz.prog w base spare held m 3 cs = some y) : ∃ a, cInt w 0 cs a ∧ okI a := by
  obtain ⟨n, e0, _, wf⟩ := DataW.trod_int Tryz.underlying3 h
  exact ⟨n, e0, bd_of_wf wf⟩
theorem oneNode (m : Nat) (cs : List Value) (y : DataW H × List MemPlace) (h : DataW.trod enc Tryz.prog w base spare held m 53 cs = some y) : ∃ a, cNode w 0 cs a ∧ mNode a := by
  obtain ⟨y0, y1, y2, y3, n, _, hlen, h0, h1, h2, h3⟩ := trod_struct4 Tryz.underlying53 h
  rw [Tryz.cellsNode] at hlen
  match cs, hlen with
  | [v0, v1, v2, v3], _ =>
    simp [Tryz.cellsI, Tryz.cellsStr, Tryz.cellsIs] at h0 h1 h2 h3
    obtain ⟨a, e0, _, wa⟩ := DataW.trod_int Tryz.underlying3 h0
    obtain ⟨b, e1, _, wb⟩ := DataW.trod_string Tryz.underlying9 h1
    obtain ⟨c, e2, _, wc⟩ := DataW.trod_int Tryz.underlying3 h2
    obtain ⟨s, cap, L, e3, f3, m3, m4⟩ := openEls Tryz.underlying23 Tryz.cellsI (by omega) oneIntB h3
    simp only [List.cons.injEq, and_true] at e0 e1 e2 e3
    subst e0 e1 e2 e3
    exact ⟨⟨a, b, c, L⟩, ⟨s, cap, rfl, f3⟩, ⟨bd_of_wf wa, bd_of_wf wc⟩, (by have := wb; unfold maxLen at this; omega), m4, m3⟩
theorem openTree {r : Reach} {b0 : Nat} {v : Value} {d : DataW H} {p : List MemPlace} (hv : Value.okWide Tryz.prog w r b0 25 v) (h : DataW.Trod enc Tryz.prog w base spare held 25 v d p) :
    ∃ s1 s2 c1 c2 t, v = .agg #[.slice s1 (Tre.nodes t).length c1, .slice s2 t.tops.length c2] ∧ InT w 0 s1 s2 t ∧ mTre t := by
  obtain ⟨cs, rfl, hsz⟩ := okWide_struct Tryz.underlying25 hv
  obtain ⟨fuel, hf⟩ := h
  obtain ⟨y0, y1, m, _, hlen, g0, g1⟩ := trod_struct2 Tryz.underlying25 hf
  rw [Tryz.cellsTree] at hsz
  obtain ⟨l⟩ := cs
  match l, hsz with
  | [v0, v1], _ =>
    simp [Value.cells, Tryz.cellsNodeS, Tryz.cellsIs] at g0 g1
    obtain ⟨s1, c1, A, e0, f1, m1, m2⟩ := openEls Tryz.underlying22 Tryz.cellsNode (by omega) oneNode g0
    obtain ⟨s2, c2, B, e1, f2, m3, m4⟩ := openEls Tryz.underlying23 Tryz.cellsI (by omega) oneIntB g1
    simp only [List.cons.injEq, and_true] at e0 e1
    subst e0 e1
    exact ⟨s1, s2, c1, c2, ⟨A, B⟩, rfl, ⟨f1, f2⟩, m2, m1, m4, m3⟩
end
end Go.Proofs.YtknallkcengbbaaGreatDoor
namespace Go.Proofs.YtknallkcengbbaaGreatDoor
open Go.RowKit
set_option linter.unusedVariables false
set_option linter.unusedSimpArgs false

theorem Tryz.infoNd : (Tryz.prog.info? 57).map (fun i => (i.zero, i.size, i.bytes)) = some (some (.agg #[.int .i64 0, .string { data := #[] }, .int .i64 0, .slice none 0 0]), 4, 56) := by kernel_rfl

set_option maxHeartbeats 4000000 in
theorem toNode_made (s : Option Addr) (cap : Nat) (n : Nd) (B : Nat) (w : World) (hL : Els 1 cInt w B s n.kids) (hk : kNode n) :
    Calls Tryz.prog 33 #[.agg #[.int .i64 n.kind, .string n.text, .int .i64 n.num, .slice s n.kids.length cap]] w fun e w' => (∃ g : Nat, e = .returned (.agg #[.int .i64 n.kind, .string n.text, .int .i64 n.num, .slice (some ⟨g, 0, none⟩) n.kids.length n.kids.length]) ∧ Els 1 cInt w' w.heap.size (some ⟨g, 0, none⟩) n.kids) ∧ Below w.heap.size w w' := by
  have hal := alloc_old
  have haf := alloc_oldf
  obtain ⟨k0, k1, k2⟩ := blk3t w #[.int .i64 n.kind, .string n.text, .int .i64 n.num, .slice s n.kids.length cap] #[.int .i64 0, .string { data := #[] }, .int .i64 0, .slice none 0 0] #[.int .i64 n.kind, .string n.text, .int .i64 n.num, .slice none 0 0] 53 57 57
  have L0 : Below w.heap.size w (((w.alloc (.cells #[.int .i64 n.kind, .string n.text, .int .i64 n.num, .slice s n.kids.length cap] 53)).alloc (.cells #[.int .i64 0, .string { data := #[] }, .int .i64 0, .slice none 0 0] 57)).alloc (.cells #[.int .i64 n.kind, .string n.text, .int .i64 n.num, .slice none 0 0] 57)) := by (repeat (first | with_reducible exact Below.refl _ _ | with_reducible refine bl_alloc ?_ _ | with_reducible refine bl_drewN ?_ _ | with_reducible refine bl_drew ?_ | with_reducible refine bl_setCell ?_ (by first | exact Nat.le_refl _ | (dsimp only; omega) | (simp <;> omega)) _ | with_reducible refine bl_trans ?_ (by with_reducible assumption)))
  have n0 : ¬ w.heap.size = w.heap.size + 1 + 1 := by omega
  have n1 : ¬ w.heap.size + 1 = w.heap.size + 1 + 1 := by omega
  have lx := k2.lt
  go_enter Tryz.func33, Tryz.ntmps33
  go_wp2_with fail
  refine (toInts_made s cap n.kids B _ (hL.later cInt_keeps L0) hk.2).mono ?_
  rintro e w3 ⟨g, rfl, e3, d3, hb3⟩
  have d3 := d3.drop cInt_drops (B' := w.heap.size + 1 + 1 + 1) (by omega)
  have L3 := bl_trans L0 hb3
  have S1 := k1.later hb3
  have S2 := k2.later hb3
  clear k0 k1 k2 L0 hb3
  obtain ⟨z0, z1, z2, z3, z4⟩ := S2.four'
  obtain ⟨y0, y1, y2, y3, y4⟩ := S1.four'
  go_wp2_with fail
  refine bodyPost_ret (v := .agg #[.int .i64 n.kind, .string n.text, .int .i64 n.num, .slice (some ⟨g, 0, none⟩) n.kids.length n.kids.length]) (by simp [results, Tryz.results33, go_sem, y0, y1, y2, y3]) rfl ⟨⟨g, rfl, ?_⟩, ?_⟩
  · refine (d3.kept cInt_keeps ?_).drop cInt_drops (by omega)
    repeat (first | with_reducible exact Kept.refl _ _ | with_reducible refine Kept.trans ?_ (Kept.set _ (by simp <;> omega) _))
  · repeat (first | with_reducible exact L3 | with_reducible refine Below.setCell ?_ (by simp <;> omega) _)

set_option maxHeartbeats 4000000 in
theorem toNodeS_made (s : Option Addr) (c : Nat) (L : List Nd) (B : Nat) (w : World) (hL : Els 4 cNode w B s L) (hl : L.length ≤ 1048576) (hk : ∀ n ∈ L, kNode n) :
    Calls Tryz.prog 21 #[.slice s L.length c] w fun e w' => Made 4 cNode w L e w' := by
  have HK : Hid (∀ n ∈ L, kNode n) := hk
  clear hk
  obtain ⟨i0, hi, hz0, hz1, hz2⟩ := info_parts Tryz.infoNd
  go_enter Tryz.func21, Tryz.ntmps21
  go_wp2_with (at_make; refine wpList_make_full _ rfl _ _ 27 rfl w.heap.size 57 i0 (.agg #[.int .i64 0, .string { data := #[] }, .int .i64 0, .slice none 0 0]) 4 Tryz.underlying27 hi hz0 hz1 .i64 .i64 _ _ L.length rfl rfl rfl rfl (by rw [hz2]; omega) (by unfold maxLen; omega) (Nat.le_refl _) ?_)
  intro w1 hown hgrow
  have hrow : Hid (Mk 4 cNode [.int .i64 0, .string { data := #[] }, .int .i64 0, .slice none 0 0] 57 w1 w.heap.size w.heap.size L 0) := Mk.start (z := #[.int .i64 0, .string { data := #[] }, .int .i64 0, .slice none 0 0]) rfl hown
  have hbel : Hid (Below w.heap.size w w1) := (Below.refl _ w).grown hgrow (Nat.le_refl _) (fun k h => by cases h)
  clear hown hgrow hi hz0 hz1 hz2
  go_wp2_with fail
  go_loopw [4] (fun i wr => ∃ k : Nat, k ≤ L.length ∧ i = .int .i64 k ∧ Hid (Mk 4 cNode [.int .i64 0, .string { data := #[] }, .int .i64 0, .slice none 0 0] 57 wr w.heap.size w.heap.size L k) ∧ Hid (Below w.heap.size w wr)) (fun i _ => L.length - (intOf i).toNat)
  case atStart => exact ⟨0, Nat.zero_le _, rfl, hrow, hbel⟩
  case round =>
    obtain ⟨k, hk, rfl, hrow, hbel⟩ := hrel
    by_cases hlt : k < L.length
    · obtain ⟨a, ha⟩ := get_some hlt
      obtain ⟨b, o, rfl, hB, hp, s', c', e0, e1, e2, e3, f⟩ := eNode_cells (hL.later cNode_keeps hbel.out) ha
      have hka := HK.out a (List.mem_of_getElem? ha)
      have hgr := (hrow.out.at hlt).2.1
      clear hL
      go_wp2_with fail
      refine (toNode_made s' c' a B _ f hka).mono ?_
      rintro e w2 ⟨⟨g, rfl, d1⟩, hb2⟩
      have hr2 := hrow.out.later cNode_keeps hb2
      have L2 : Hid (Below w.heap.size w w2) := bl_trans hbel.out hb2
      obtain ⟨_, hg, fz, cz⟩ := hr2.at hlt
      have g0 := cz 0 _ rfl
      have g1 := cz 1 _ rfl
      have g2 := cz 2 _ rfl
      have g3 := cz 3 _ rfl
      rw [Nat.add_zero] at g0
      have hputH : Hid (Mk 4 cNode [.int .i64 0, .string { data := #[] }, .int .i64 0, .slice none 0 0] 57 ((((w2.setCell ⟨w.heap.size, k * 4, none⟩ (.int .i64 a.kind)).setCell ⟨w.heap.size, k * 4 + 1, none⟩ (.string a.text)).setCell ⟨w.heap.size, k * 4 + 2, none⟩ (.int .i64 a.num)).setCell ⟨w.heap.size, k * 4 + 3, none⟩ (.slice (some ⟨g, 0, none⟩) a.kids.length a.kids.length)) w.heap.size w.heap.size L (k + 1)) :=
        hr2.push cNode_keeps ha (c := [.int .i64 a.kind, .string a.text, .int .i64 a.num, .slice (some ⟨g, 0, none⟩) a.kids.length a.kids.length]) rfl ⟨_, _, rfl, d1.drop cInt_drops (by omega)⟩ (by repeat (first | with_reducible exact Kept.refl _ _ | with_reducible refine Kept.trans ?_ (Kept.set _ (by simp) _))) (fun A C hA h => put4 hA h)
      clear hr2 hrow ha cz f d1 hka
      go_wp2_with fail
      go_roundw
      case rel =>
        refine ⟨k + 1, by omega, by go_num, hputH, ?_⟩
        show Below _ _ _
        repeat (first | with_reducible exact L2.out | with_reducible refine Below.setCell ?_ (by simp) _)
      case measure => simp [intOf]; omega
    · have hm' : k = L.length := by omega
      subst hm'
      go_wp2_with fail
      go_ret
      exact ⟨_, rfl, Nat.le_refl _, hrow.out.done cNode_drops, hbel.out⟩

set_option maxHeartbeats 4000000 in
theorem toTree_made (s1 s2 : Option Addr) (c1 c2 : Nat) (t : Tre) (B : Nat) (w : World) (hT : InT w B s1 s2 t) (hk : kTre t) :
    Calls Tryz.prog 7 #[.agg #[.slice s1 t.nodes.length c1, .slice s2 t.tops.length c2]] w fun e w' => (∃ a b : Nat, e = .returned (.agg #[.slice (some ⟨a, 0, none⟩) t.nodes.length t.nodes.length, .slice (some ⟨b, 0, none⟩) t.tops.length t.tops.length]) ∧ InT w' w.heap.size (some ⟨a, 0, none⟩) (some ⟨b, 0, none⟩) t) ∧ Below w.heap.size w w' := by
  have hal := alloc_old
  have haf := alloc_oldf
  obtain ⟨⟨m1, m2⟩, m3⟩ := hk
  obtain ⟨k0, k1, k2⟩ := blk3t w #[.slice s1 t.nodes.length c1, .slice s2 t.tops.length c2] #[.slice none 0 0, .slice none 0 0] #[.slice none 0 0, .slice none 0 0] 25 29 29
  go_enter Tryz.func7, Tryz.ntmps7
  go_wp2_with fail
  refine (toNodeS_made s1 c1 t.nodes B _ (hT.n.later cNode_keeps (by (repeat (first | with_reducible exact Below.refl _ _ | with_reducible refine bl_alloc ?_ _ | with_reducible refine bl_drewN ?_ _ | with_reducible refine bl_drew ?_ | with_reducible refine bl_setCell ?_ (by first | exact Nat.le_refl _ | (dsimp only; omega) | (simp <;> omega)) _ | with_reducible refine bl_trans ?_ (by with_reducible assumption))))) m1 m2).mono ?_
  rintro e w1 ⟨g1, rfl, e1, d1, hb1⟩
  simp only [World.size_alloc] at e1
  have L1 : Below w.heap.size w w1 := by (repeat (first | with_reducible exact Below.refl _ _ | with_reducible refine bl_alloc ?_ _ | with_reducible refine bl_drewN ?_ _ | with_reducible refine bl_drew ?_ | with_reducible refine bl_setCell ?_ (by first | exact Nat.le_refl _ | (dsimp only; omega) | (simp <;> omega)) _ | with_reducible refine bl_trans ?_ (by with_reducible assumption)))
  have d1 := d1.drop cNode_drops e1
  have P0 := (k0.later hb1).other (m := w.heap.size + 1 + 1) (by omega) 0 (.slice (some ⟨g1, 0, none⟩) t.nodes.length t.nodes.length)
  have P1 := (k1.later hb1).other (m := w.heap.size + 1 + 1) (by omega) 0 (.slice (some ⟨g1, 0, none⟩) t.nodes.length t.nodes.length)
  have P2 := (k2.later hb1).set 0 (.slice (some ⟨g1, 0, none⟩) t.nodes.length t.nodes.length)
  have D1 := d1.kept cNode_keeps (Kept.set w1 (p := ⟨w.heap.size + 1 + 1, 0, none⟩) (by simp) (.slice (some ⟨g1, 0, none⟩) t.nodes.length t.nodes.length))
  have LX := L1.setCell (p := ⟨w.heap.size + 1 + 1, 0, none⟩) (by simp; omega) (.slice (some ⟨g1, 0, none⟩) t.nodes.length t.nodes.length)
  obtain ⟨z0, z1, z2⟩ := (k2.later hb1).two
  obtain ⟨x0, x1, x2⟩ := (k0.later hb1).two
  have n0 : ¬ w.heap.size = w.heap.size + 1 + 1 := by omega
  clear k0 k1 k2 hb1 d1 L1 m2
  go_wp2_with fail
  clear x0 x1 x2 z0 z1 z2
  generalize hX : w1.setCell ⟨w.heap.size + 1 + 1, 0, none⟩ (.slice (some ⟨g1, 0, none⟩) t.nodes.length t.nodes.length) = X at P0 P1 P2 D1 LX ⊢
  clear hX
  have P2 : Blk X (w.heap.size + 1 + 1) #[.slice (some ⟨g1, 0, none⟩) t.nodes.length t.nodes.length, .slice none 0 0] 29 := P2
  refine (toInts_made s2 c2 t.tops B _ (hT.t.later cInt_keeps LX) m3).mono ?_
  rintro e w3 ⟨g3, rfl, e3, d3, hb3⟩
  have ly : w.heap.size + 1 + 1 < X.heap.size := P2.lt
  have d3 := d3.drop cInt_drops (B' := w.heap.size + 1 + 1 + 1) (by omega)
  have L3 := bl_trans LX hb3
  have R1 := (P1.later hb3)
  have R2 := (P2.later hb3)
  have G1 := D1.later cNode_keeps hb3
  clear P0 P1 P2 D1 LX hb3
  obtain ⟨z0, z1, z2⟩ := R2.two
  obtain ⟨y0, y1, y2⟩ := R1.two
  have n1 : ¬ w.heap.size + 1 = w.heap.size + 1 + 1 := by omega
  go_wp2_with fail
  refine bodyPost_ret (v := .agg #[.slice (some ⟨g1, 0, none⟩) t.nodes.length t.nodes.length, .slice (some ⟨g3, 0, none⟩) t.tops.length t.tops.length]) (by simp [results, Tryz.results7, go_sem, y0, y1]) rfl ⟨⟨g1, g3, rfl, ?_⟩, ?_⟩
  · refine InT.drop (B := w.heap.size + 1 + 1 + 1) (InT.kept (w := w3) ⟨G1, d3⟩ ?_) (by omega)
    repeat (first | with_reducible exact Kept.refl _ _ | with_reducible refine Kept.trans ?_ (Kept.set _ (by simp <;> omega) _))
  · repeat (first | with_reducible exact L3 | with_reducible refine Below.setCell ?_ (by simp <;> omega) _)
end Go.Proofs.YtknallkcengbbaaGreatDoor
namespace Go.Proofs.YtknallkcengbbaaGreatDoor
open Go.RowKit
set_option linter.unusedVariables false
set_option linter.unusedSimpArgs false

theorem blkTwo (w : World) (c d : Array Value) (t u : TypeId) : Blk ((w.alloc (.cells c t)).alloc (.cells d u)) w.heap.size c t ∧ Blk ((w.alloc (.cells c t)).alloc (.cells d u)) (w.heap.size + 1) d u ∧ Below w.heap.size w ((w.alloc (.cells c t)).alloc (.cells d u)) :=
  ⟨(Blk.new w c t).alloc _, Blk.new' _ d u (by simp), bl_alloc (bl_alloc (Below.refl _ _) _) _⟩
set_option maxHeartbeats 4000000 in
theorem eqNode_self (s t : Option Addr) (cs ct : Nat) (n : Nd) (B C : Nat) (w : World) (hs : Els 1 cInt w B s n.kids) (ht : Els 1 cInt w C t n.kids) (hk : kNode n) :
    Calls Tryz.prog 45 #[.agg #[.int .i64 n.kind, .string n.text, .int .i64 n.num, .slice s n.kids.length cs], .agg #[.int .i64 n.kind, .string n.text, .int .i64 n.num, .slice t n.kids.length ct]] w fun e w' => e = .returned (.bool true) ∧ Below w.heap.size w w' := by
  have q0 : (n.kind != n.kind) = false := by simp
  have q1 : (n.num != n.num) = false := by simp
  have q2 : (n.text.toList == n.text.toList) = true := by simp
  obtain ⟨k0, k1, L0⟩ := blkTwo w #[.int .i64 n.kind, .string n.text, .int .i64 n.num, .slice s n.kids.length cs] #[.int .i64 n.kind, .string n.text, .int .i64 n.num, .slice t n.kids.length ct] 57 57
  obtain ⟨x0, x1, x2, x3, x4⟩ := k0.four'
  obtain ⟨y0, y1, y2, y3, y4⟩ := k1.four'
  go_enter Tryz.func45, Tryz.ntmps45
  go_wp2_with fail
  refine (eqInts_any s t cs ct n.kids n.kids _ (hs.later cInt_keeps L0).ints (ht.later cInt_keeps L0).ints hk.2).mono ?_
  rintro e w3 ⟨rfl, hb3⟩
  rw [show decide (n.kids = n.kids) = true by simp]
  go_wp2_with fail
  go_ret
  exact ⟨rfl, bl_trans L0 hb3⟩

set_option maxHeartbeats 4000000 in
theorem eqNodeS_self (s t : Option Addr) (c d : Nat) (L : List Nd) (B C : Nat) (w : World) (hs : Els 4 cNode w B s L) (ht : Els 4 cNode w C t L) (hl : L.length ≤ 1048576) (hk : ∀ n ∈ L, kNode n) :
    Calls Tryz.prog 27 #[.slice s L.length c, .slice t L.length d] w fun e w' => e = .returned (.bool true) ∧ Below w.heap.size w w' := by
  have hal := alloc_old
  have haf := alloc_oldf
  have HK : Hid (∀ n ∈ L, kNode n) := hk
  clear hk
  go_enter Tryz.func27, Tryz.ntmps27
  go_wp2_with fail
  go_loopw [5] (fun i wr => ∃ k : Nat, k ≤ L.length ∧ i = .int .i64 k ∧ Below w.heap.size w wr) (fun i _ => L.length - (intOf i).toNat)
  case atStart => exact ⟨0, Nat.zero_le _, rfl, Below.refl _ _⟩
  case round =>
    obtain ⟨k, hk, rfl, hb⟩ := hrel
    by_cases hlt : k < L.length
    · obtain ⟨a, ha⟩ := get_some hlt
      obtain ⟨b, o, rfl, _, hp, s', c', e0, e1, e2, e3, f⟩ := eNode_cells (hs.later cNode_keeps hb) ha
      obtain ⟨b', o', rfl, _, hp', t', d', f0, f1, f2, f3, g⟩ := eNode_cells (ht.later cNode_keeps hb) ha
      have hka : Hid (kNode a) := HK.out a (List.mem_of_getElem? ha)
      have PH : Hid (Els 1 cInt wr B s' a.kids ∧ Els 1 cInt wr C t' a.kids) := ⟨f, g⟩
      clear hs ht ha f g
      go_wp2_with fail
      go_region_with (first
        | (go_at_call 45; refine (eqNode_self s' t' c' d' a B C _ (PH.out.1.later cInt_keeps (bl_drew (Below.refl _ _))) (PH.out.2.later cInt_keeps (bl_drew (Below.refl _ _))) hka.out).mono ?_; rintro e w2 ⟨rfl, hb2⟩))
      all_goals
        go_wp2_with fail
        go_roundw
        case rel =>
          refine ⟨k + 1, by omega, by go_num, ?_⟩
          (repeat (first | with_reducible exact Below.refl _ _ | with_reducible refine bl_alloc ?_ _ | with_reducible refine bl_drewN ?_ _ | with_reducible refine bl_drew ?_ | with_reducible refine bl_setCell ?_ (by first | exact Nat.le_refl _ | (dsimp only; omega) | (simp <;> omega)) _ | with_reducible refine bl_trans ?_ (by with_reducible assumption)))
        case measure => simp [intOf]; omega
    · go_wp2_with fail
      go_ret
      exact ⟨rfl, hb⟩

set_option maxHeartbeats 4000000 in
theorem eqTree_self (s1 s2 t1 t2 : Option Addr) (c1 c2 d1 d2 : Nat) (t : Tre) (B C : Nat) (w : World) (hs : InT w B s1 s2 t) (ht : InT w C t1 t2 t) (hk : kTre t) :
    Calls Tryz.prog 9 #[.agg #[.slice s1 t.nodes.length c1, .slice s2 t.tops.length c2], .agg #[.slice t1 t.nodes.length d1, .slice t2 t.tops.length d2]] w fun e w' => e = .returned (.bool true) ∧ Below w.heap.size w w' := by
  obtain ⟨⟨m1, m2⟩, m3⟩ := hk
  obtain ⟨k0, k1, L0⟩ := blkTwo w #[.slice s1 t.nodes.length c1, .slice s2 t.tops.length c2] #[.slice t1 t.nodes.length d1, .slice t2 t.tops.length d2] 29 29
  obtain ⟨x0, x1, x2⟩ := k0.two
  obtain ⟨y0, y1, y2⟩ := k1.two
  go_enter Tryz.func9, Tryz.ntmps9
  go_wp2_with fail
  refine (eqNodeS_self s1 t1 c1 d1 t.nodes B C _ (hs.n.later cNode_keeps L0) (ht.n.later cNode_keeps L0) m1 m2).mono ?_
  rintro e w1 ⟨rfl, hb1⟩
  have L1 := bl_trans L0 hb1
  have k0 := k0.later hb1
  have k1 := k1.later hb1
  clear x0 x1 x2 y0 y1 y2 hb1 L0 m2
  obtain ⟨x0, x1, x2⟩ := k0.two
  obtain ⟨y0, y1, y2⟩ := k1.two
  go_wp2_with fail
  refine (eqInts_any s2 t2 c2 d2 t.tops t.tops _ (hs.t.later cInt_keeps L1).ints (ht.t.later cInt_keeps L1).ints m3).mono ?_
  rintro e w3 ⟨rfl, hb3⟩
  rw [show decide (t.tops = t.tops) = true by simp]
  go_wp2_with fail
  go_ret
  exact ⟨rfl, bl_trans L1 hb3⟩
end Go.Proofs.YtknallkcengbbaaGreatDoor
