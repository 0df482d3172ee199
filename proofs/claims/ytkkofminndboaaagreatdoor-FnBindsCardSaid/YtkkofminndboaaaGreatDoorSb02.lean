import Derived.Test.YtkkofminndboaaaGreatDoorSb01
import Derived.Lib.SmallJoins
import Derived.Maps.AppendAt
import Derived.Deep.RegionLaw
import Derived.Laws.AppendOwn
import Derived.Deep.RegionHeld3
import Derived.Laws.CopyOwn
import Derived.Deep.AppendLies
import Derived.Great.BuildSlice
import Derived.Lib.IndexLaws
import Derived.Shelf.Strings.Search2
import Derived.Shelf.Strconv.Atoi
import Derived.Shelf.Lay
import Derived.Ground.NamesProg
namespace Go.Proofs
open Go.Shelf
shelf_lay Lays.n219 Nm 219 at Tryz as Tryz.laysIndex
shelf_lay Lays.n172 Nm 172 at Tryz as Tryz.laysAtoi
end Go.Proofs
namespace Go.Proofs.YtkkofminndboaaaGreatDoor
set_option linter.unusedVariables false
set_option linter.unusedSimpArgs false
section
open Go.RowKit
structure Nd where
 kind : Int
 text : ByteArray
 num : Int
 kids : List Int
structure Tre where
 nodes : List Nd
 tops : List Int
def cNode (w : World) (B : Nat) (cs : List Value) (n : Nd) : Prop := ∃ s c, cs = [.int .i64 n.kind, .string n.text, .int .i64 n.num, .slice s n.kids.length c] ∧ Els 1 cInt w B s n.kids
theorem cNode_keeps : KeepsE cNode := fun _ _ _ _ _ hk ⟨s, c, e, h⟩ => ⟨s, c, e, h.kept cInt_keeps hk⟩
theorem cNode_drops : DropsE cNode := fun _ _ _ _ _ hB ⟨s, c, e, h⟩ => ⟨s, c, e, h.drop cInt_drops hB⟩
theorem eNode_cells {w : World} {B : Nat} {s : Option Addr} {L : List Nd} (h : Els 4 cNode w B s L) {j : Nat} {n : Nd} (ha : L[j]? = some n) :
  ∃ b o, s = some ⟨b, o, none⟩ ∧ B ≤ b ∧ b < w.heap.size ∧ ∃ s' c', w.cell? ⟨b, o + j * 4, none⟩ = some (.int .i64 n.kind) ∧ w.cell? ⟨b, o + j * 4 + 1, none⟩ = some (.string n.text) ∧ w.cell? ⟨b, o + j * 4 + 2, none⟩ = some (.int .i64 n.num) ∧ w.cell? ⟨b, o + j * 4 + 3, none⟩ = some (.slice s' n.kids.length c') ∧ Els 1 cInt w B s' n.kids := by
 rcases h with rfl | ⟨b, o, rfl, h1, h2, h3, hz⟩
 ·
  simp at ha
 obtain ⟨cs, e1, e2, s', c', rfl, e5⟩ := h3 j n ha
 exact ⟨b, o, rfl, h1, h2, s', c', e2 0 _ rfl, e2 1 _ rfl, e2 2 _ rfl, e2 3 _ rfl, e5⟩
structure InT (w : World) (B : Nat) (s1 s2 : Option Addr) (t : Tre) : Prop where
 n : Els 4 cNode w B s1 t.nodes
 t : Els 1 cInt w B s2 t.tops
theorem InT.later {w w' : World} {B : Nat} {s1 s2 : Option Addr} {t : Tre} (h : InT w B s1 s2 t) (hb : Below w.heap.size w w') : InT w' B s1 s2 t := ⟨h.n.later cNode_keeps hb, h.t.later cInt_keeps hb⟩
theorem InT.kept {w w' : World} {B : Nat} {s1 s2 : Option Addr} {t : Tre} (h : InT w B s1 s2 t) (hb : Kept B w w') : InT w' B s1 s2 t := ⟨h.n.kept cNode_keeps hb, h.t.kept cInt_keeps hb⟩
theorem InT.drop {w : World} {B B' : Nat} {s1 s2 : Option Addr} {t : Tre} (h : InT w B s1 s2 t) (hB : B' ≤ B) : InT w B' s1 s2 t := ⟨h.n.drop cNode_drops hB, h.t.drop cInt_drops hB⟩
def kNode (n : Nd) : Prop := n.text.size ≤ 1048576 ∧ n.kids.length ≤ 1048576
def kTre (t : Tre) : Prop := (t.nodes.length ≤ 1048576 ∧ ∀ n ∈ t.nodes, kNode n) ∧ t.tops.length ≤ 1048576
end
section
open Go.RowKit
structure OR where
 T : TypeId
 k : Nat
 v : Value
 n : Nat
 cs : List Value
def OR.on (w : World) (B : Nat) (r : OR) : Prop := w.ownsRow B r.T r.k r.v r.n r.cs
def blks (R : List OR) : List Nat := R.filterMap fun r => r.v.ownBlock
structure Owns (w : World) (B : Nat) (R : List OR) : Prop where
 on : ∀ r ∈ R, r.on w B
 nd : (blks R).Nodup
theorem OR.on.lt {w : World} {B : Nat} {r : OR} (h : r.on w B) : ∀ g, r.v.ownBlock = some g → B ≤ g ∧ g < w.heap.size := World.ownsRow.lt h
theorem OR.on.same {w w' : World} {B : Nat} {r : OR} (h : r.on w B) (hs : ∀ g, r.v.ownBlock = some g → w'.heap[g]? = w.heap[g]?) : r.on w' B := by
 refine ⟨h.1, ?_⟩
 rcases h.2 with h' | ⟨g, cap', cur, h', hb, hg, r'⟩
 ·
  exact Or.inl h'
 exact Or.inr ⟨g, cap', cur, h', hb, (hs g (by rw [h']; rfl)).trans hg, r'⟩
theorem OR.on.mono {w : World} {B B' : Nat} {r : OR} (h : r.on w B) (hB : B' ≤ B) : r.on w B' := Go.Joins.ownsRow_le h hB
theorem mem_blks {R : List OR} {g : Nat} : g ∈ blks R ↔ ∃ r ∈ R, r.v.ownBlock = some g := by simp [blks]
theorem blks_cons (r : OR) (R : List OR) : blks (r :: R) = r.v.ownBlock.toList ++ blks R := by
 unfold blks
 rw [List.filterMap_cons]
 cases h : r.v.ownBlock <;> simp
theorem blks_append (R S : List OR) : blks (R ++ S) = blks R ++ blks S := by simp [blks]
theorem Owns.nil (w : World) (B : Nat) : Owns w B [] := ⟨fun r h => by simp at h, by simp [blks]⟩
theorem Owns.perm {w : World} {B : Nat} {R S : List OR} (h : Owns w B R) (hp : R.Perm S) : Owns w B S :=
 ⟨fun r hr => h.on r (hp.mem_iff.2 hr), (hp.filterMap _).nodup_iff.1 h.nd⟩
theorem Owns.mono {w : World} {B B' : Nat} {R : List OR} (h : Owns w B R) (hB : B' ≤ B) : Owns w B' R := ⟨fun r hr => (h.on r hr).mono hB, h.nd⟩
theorem Owns.lt {w : World} {B : Nat} {R : List OR} (h : Owns w B R) {g : Nat} (hg : g ∈ blks R) : B ≤ g ∧ g < w.heap.size := by
 obtain ⟨r, hr, e⟩ := mem_blks.1 hg
 exact (h.on r hr).lt g e
theorem Owns.same {w w' : World} {B : Nat} {R : List OR} (h : Owns w B R) (hs : ∀ g, g ∈ blks R → w'.heap[g]? = w.heap[g]?) : Owns w' B R :=
 ⟨fun r hr => (h.on r hr).same fun g hg => hs g (mem_blks.2 ⟨r, hr, hg⟩), h.nd⟩
theorem Owns.later {w w' : World} {B : Nat} {R : List OR} (h : Owns w B R) (hb : Below w.heap.size w w') : Owns w' B R :=
 h.same fun g hg => hb.block g (h.lt hg).2
theorem Owns.kept {w w' : World} {B : Nat} {R : List OR} (h : Owns w B R) (hk : Kept B w w') : Owns w' B R :=
 h.same fun g hg => hk.2 g (h.lt hg).1 (h.lt hg).2
theorem Owns.grown {w w' : World} {B : Nat} {R : List OR} {r : Option Nat} (h : Owns w B R) (hg : w.grownBy w' r) (hn : ∀ g, r = some g → ¬ g ∈ blks R) : Owns w' B R :=
 h.same fun g hg' => hg.block g (h.lt hg').2 (fun e => hn g e.symm hg')
theorem Owns.tail {w : World} {B : Nat} {r : OR} {R : List OR} (h : Owns w B (r :: R)) : Owns w B R := by
 refine ⟨fun q hq => h.on q (by simp [hq]), ?_⟩
 have := h.nd
 rw [blks_cons] at this
 exact (List.nodup_append.1 this).2.1
theorem Owns.head {w : World} {B : Nat} {r : OR} {R : List OR} (h : Owns w B (r :: R)) : r.on w B := h.on r (by simp)
theorem Owns.off {w : World} {B : Nat} {r : OR} {R : List OR} (h : Owns w B (r :: R)) {g : Nat} (hg : r.v.ownBlock = some g) : ¬ g ∈ blks R := by
 have := h.nd
 rw [blks_cons, hg] at this
 intro hm
 exact (List.nodup_append.1 this).2.2 g (by simp) g hm rfl
theorem Owns.left {w : World} {B : Nat} {R S : List OR} (h : Owns w B (R ++ S)) : Owns w B R := by
 refine ⟨fun q hq => h.on q (by simp [hq]), ?_⟩
 have := h.nd
 rw [blks_append] at this
 exact (List.nodup_append.1 this).1
theorem Owns.right {w : World} {B : Nat} {R S : List OR} (h : Owns w B (R ++ S)) : Owns w B S := by
 refine ⟨fun q hq => h.on q (by simp [hq]), ?_⟩
 have := h.nd
 rw [blks_append] at this
 exact (List.nodup_append.1 this).2.1
theorem Owns.join {w : World} {B : Nat} {R S : List OR} (h : Owns w B R) (g : Owns w B S) (ha : ∀ b, b ∈ blks R → ¬ b ∈ blks S) : Owns w B (R ++ S) := by
 refine ⟨fun q hq => ?_, ?_⟩
 ·
  rcases List.mem_append.1 hq with h' | h'
  ·
   exact h.on q h'
  exact g.on q h'
 rw [blks_append]
 exact List.nodup_append.2 ⟨h.nd, g.nd, fun a ha' b hb e => ha a ha' (e ▸ hb)⟩
theorem Owns.add {w w' : World} {B : Nat} {R S : List OR} (h : Owns w B R) (hb : Below w.heap.size w w') (g : Owns w' w.heap.size S) (hB : B ≤ w.heap.size) : Owns w' B (R ++ S) :=
 (h.later hb).join (g.mono hB) fun b h1 h2 => by
  have := (h.lt h1).2
  have := (g.lt h2).1
  omega
theorem Owns.one {w : World} {B : Nat} {r : OR} (h : r.on w B) : Owns w B [r] := by
 refine ⟨fun q hq => ?_, ?_⟩
 ·
  simp at hq; subst hq; exact h
 rw [blks_cons]; cases r.v.ownBlock <;> simp [blks]
theorem Owns.turn {w w' : World} {B : Nat} {r r' : OR} {R : List OR} (h : Owns w B (r :: R)) (hg : w.grownBy w' r.v.ownBlock) (hr : r'.on w' B) (hn : ∀ g, r'.v.ownBlock = some g → r.v.ownBlock = some g ∨ w.heap.size ≤ g) : Owns w' B (r' :: R) := by
 have ht := h.tail.grown hg (fun g e => h.off e)
 refine (Owns.one hr).join ht fun b h1 h2 => ?_
 obtain ⟨q, hq, e⟩ := mem_blks.1 h1
 simp at hq
 subst hq
 rcases hn b e with e' | e'
 ·
  exact h.off e' h2
 have := (h.tail.lt h2).2
 omega
end
section
open Go.RowKit
structure TV where
 c : Value
 r : Value
 x : Value
 xs : List Value
structure WV where
 g : Value
 f : Value
 t : Value
 r : Value
 ts : List TV
def rI (v : Value) (L : List Int) : OR := ⟨3, 1, v, L.length, L.map (Value.int .i64)⟩
theorem els_own {α : Type} {k : Nat} {E : World → Nat → List Value → α → Prop} {f : α → List Value} (hf : ∀ a, (f a).length = k) {w : World} {B : Nat} {T : TypeId} {s : Option Addr} {c : Nat} {L : List α} (h : w.ownsRow B T k (.slice s L.length c) L.length (L.flatMap f)) (hE : ∀ a ∈ L, E w B (f a) a) : Els k E w B s L := by
 rcases Go.Joins.ownsRow_forms h with ⟨_, h0⟩ | ⟨g, cap, e⟩
 ·
  exact Or.inl (List.length_eq_zero_iff.1 h0)
 cases e; exact els_of_row hf h hE
theorem OR.on.shape {w : World} {B : Nat} {r : OR} (h : r.on w B) : ∃ s c, r.v = .slice s r.n c := by
 rcases Go.Joins.ownsRow_forms h with ⟨e, h0⟩ | ⟨g, cap, e⟩
 ·
  exact ⟨_, _, by rw [e, h0]⟩
 exact ⟨_, _, e⟩
theorem map_flat (L : List Int) : L.map (Value.int .i64) = L.flatMap fun n => [Value.int .i64 n] := by
 induction L with
 | nil => rfl
 | cons a L ih => rw [List.map_cons, List.flatMap_cons, ih]; rfl
theorem rI_els {w : World} {B : Nat} {s : Option Addr} {c : Nat} {L : List Int} (h : (rI (.slice s L.length c) L).on w B) : Els 1 cInt w B s L := by
 refine els_own (f := fun n => [Value.int .i64 n]) (fun _ => rfl) (T := 3) (c := c) ?_ (fun a _ => rfl)
 rw [← map_flat]; exact h
end
section
open Go.RowKit
def VRow (w : World) (B : Nat) (v : Value) (G : List Int) : Prop := w.ownsRow B 3 1 v G.length (G.map (Value.int .i64))
theorem VRow.later {w w' : World} {B : Nat} {v : Value} {G : List Int} (h : VRow w B v G) (hb : Below w.heap.size w w') : VRow w' B v G := by
 refine World.ownsRow.kept h (show w.grownBy w' none from ⟨hb.os, hb.tape, hb.output, hb.size, fun k hk _ => hb.block k hk⟩) ?_
 cases v.ownBlock with
 | none => exact Or.inl rfl
 | some b => exact Or.inr (by simp)
theorem VRow.mono {w : World} {B B' : Nat} {v : Value} {G : List Int} (h : VRow w B v G) (hB : B' ≤ B) : VRow w B' v G := by
 refine ⟨h.1, ?_⟩
 rcases h.2 with h' | ⟨g, cap', cur, h', hb, r⟩
 ·
  exact Or.inl h'
 exact Or.inr ⟨g, cap', cur, h', Nat.le_trans hB hb, r⟩
theorem VRow.lt {w : World} {B : Nat} {v : Value} {G : List Int} (h : VRow w B v G) : ∀ k, v.ownBlock = some k → B ≤ k ∧ k < w.heap.size := World.ownsRow.lt h
theorem VRow.form {w : World} {B : Nat} {v : Value} {G : List Int} (h : VRow w B v G) : (v = .slice none 0 0 ∧ G = []) ∨ ∃ g cap, v = .slice (some ⟨g, 0, none⟩) G.length cap ∧ G.length ≤ cap ∧ Row w B (some ⟨g, 0, none⟩) G.length cap G := by
 rcases h.2 with ⟨h1, h2⟩ | ⟨g, cap, cur, rfl, hb, hg, hc, r⟩
 ·
  exact Or.inl ⟨h1, List.length_eq_zero_iff.1 h2⟩
 exact Or.inr ⟨g, cap, rfl, hc, h⟩
theorem VRow.slice {w : World} {B : Nat} {v : Value} {G : List Int} (h : VRow w B v G) : ∃ s c, v = .slice s G.length c ∧ Ints w s G := by
 rcases h.form with ⟨rfl, rfl⟩ | ⟨g, cap, rfl, _, hr⟩
 ·
  exact ⟨none, 0, rfl, Or.inl rfl⟩
 exact ⟨_, cap, rfl, hr.ints.1⟩
end
section
open Go.RowKit
theorem VRow.kept {w w' : World} {B : Nat} {v : Value} {G : List Int} {r : Option Nat} (h : VRow w B v G) (hg : w.grownBy w' r) (hn : ∀ k, v.ownBlock = some k → ¬ r = some k) : VRow w' B v G := by
 refine World.ownsRow.kept h hg ?_
 cases hv : v.ownBlock with
 | none => exact Or.inl rfl
 | some k => exact Or.inr (fun e => hn k hv e.symm)
theorem grown_setCell (w : World) (n o : Nat) (u : Value) : w.grownBy (w.setCell ⟨n, o, none⟩ u) (some n) :=
 ⟨rfl, rfl, rfl, by simp, fun k _ hk => heap_setCell_other w ⟨n, o, none⟩ k u (fun e => hk (by simp [e]))⟩
theorem VRow.other {w : World} {B : Nat} {v : Value} {G : List Int} (h : VRow w B v G) {n : Nat} (hn : ¬ v.ownBlock = some n) (o : Nat) (u : Value) : VRow (w.setCell ⟨n, o, none⟩ u) B v G :=
 h.kept (grown_setCell w n o u) (fun k hk e => hn (by rw [hk]; exact e.symm))
end
section
open Go.RowKit
def NewR (w : World) (f : Value → OR) (e : Ending) (w' : World) : Prop := ∃ v, e = .returned v ∧ (f v).on w' w.heap.size ∧ Below w.heap.size w w'
end
section
open Go.RowKit
section
variable {P : Program} {md : Region.Mode} {ops : Array Oper} {Q : Exit → Act → World → Prop} {S : World → Prop}
theorem wpAnyH_one {i d : Nat} {o : Oper} {v : Value} {fuel : Nat} {listed : Array Bool} {a : Act} {w : World} (hi : ops[i]? = some o) (hd : o.dst = some d)
  (hs : Region.noSelect ops = true) (hf : Region.free md ops listed i = true) (hr : (Region.ready md ops listed).contains i = true)
  (hQ : ∀ c a w, Q (.panic c) (a.put (some d) v) w → Q (.panic c) a w) (hw : Region.wanted o (yielded ops a.tmps) = true) (hS : S w) (hv : ∀ w, S w → (execOp a.eval o).run P w = .ok (.value v) w)
  (h : wpAnyH P md ops Q S fuel (listed.setIfInBounds i true) (a.put (some d) v) w) : wpAnyH P md ops Q S (fuel + 1) listed a w :=
 wpAnyH_take (i := i) (oi := o) (v := v) hi hs hf hr (by rw [hd]; exact hQ) (Or.inl ⟨hw, hv⟩) hS (by rw [hd]; exact h)
theorem wpq {v : Value} (i d : Nat) {o : Oper} {fuel : Nat} {listed : Array Bool} {a : Act} {w : World} (hi : ops[i]? = some o) (hd : o.dst = some d) (hv : ∀ w, S w → (execOp a.eval o).run P w = .ok (.value v) w)
 (h : wpAnyH P md ops Q S fuel (listed.setIfInBounds i true) (a.put (some d) v) w) (hs : Region.noSelect ops = true := by kernel_rfl) (hf : Region.free md ops listed i = true := by kernel_rfl) (hr : (Region.ready md ops listed).contains i = true := by kernel_rfl)
 (hQ : ∀ c a w, Q (.panic c) (a.put (some d) v) w → Q (.panic c) a w := by exact fun _ _ _ h => h) (hw : Region.wanted o (yielded ops a.tmps) = true := by rfl) (hS : S w := by assumption) : wpAnyH P md ops Q S (fuel + 1) listed a w :=
 wpAnyH_one hi hd hs hf hr hQ hw hS hv h
theorem zs : (∀ {α β : Type} (f : β → α → β) (b : β), List.foldl f b [] = b) ∧ (∀ {α β : Type} (f : β → α → β) (b : β) (a : α) (l : List α), List.foldl f b (a :: l) = List.foldl f (f b a) l) ∧ (∀ {α : Type} (l : List α) (i : Nat) (a : α), l.toArray.setIfInBounds i a = (l.set i a).toArray) ∧ (∀ {α : Type} (x a : α) (l : List α), (x :: l).set 0 a = a :: l) ∧ (∀ {α : Type} (x a : α) (l : List α) (i : Nat), (x :: l).set (i + 1) a = x :: l.set i a) ∧ ∀ (a : Act) (d : Tmp) (v : Value), a.put (some d) v = ⟨a.tmps.setIfInBounds d v, a.defers⟩ :=
 ⟨fun _ _ => rfl, fun _ _ _ _ => rfl, List.setIfInBounds_toArray, fun _ _ _ => rfl, fun _ _ _ _ => rfl, fun _ _ _ => rfl⟩
theorem wpr {v : Value} (i d : Nat) {o : Oper} {fuel : Nat} {listed : Array Bool} {a : Act} {w : World} (h : wpAnyH P md ops Q S fuel (listed.setIfInBounds i true) (a.put (some d) v) w) (hi : ops[i]? = some o := by rfl) (hd : o.dst = some d := by rfl) (hv : ∀ w, S w → (execOp a.eval o).run P w = .ok (.value v) w := by intro w hSw; (try dsimp only at hSw); go_simp <;> with_reducible rfl)
 (hs : Region.noSelect ops = true := by kernel_rfl) (hf : Region.free md ops listed i = true := by kernel_rfl) (hr : (Region.ready md ops listed).contains i = true := by kernel_rfl)
 (hQ : ∀ c a w, Q (.panic c) (a.put (some d) v) w → Q (.panic c) a w := by exact fun _ _ _ h => h) (hw : Region.wanted o (yielded ops a.tmps) = true := by rfl) (hS : S w := by assumption) : wpAnyH P md ops Q S (fuel + 1) listed a w :=
 wpAnyH_one hi hd hs hf hr hQ hw hS hv h
theorem wpy (i : Nat) {o : Oper} {fuel : Nat} {listed : Array Bool} {a : Act} {w : World} (h : ∀ K' : Act → World → Prop, Shut (∀ a w, S w → (S w → wpAnyH P md ops Q S fuel (listed.setIfInBounds i true) a w) → K' a w) → if Region.wanted o (yielded ops a.tmps) = true then Oper.wp P o a w K' Q else K' (a.put o.dst undef) w) (ho : ops[i]? = some o := by rfl) (hr : Region.ready md ops listed = [i] := by kernel_rfl) : wpAnyH P md ops Q S (fuel + 1) listed a w := wpAnyH_ready hr (by simp) (AllReadyH.cons ho h AllReadyH.nil)
end
end
section
open Go.RowKit
theorem NewR.sl {w : World} {f : Value → OR} {n : Nat} {e : Ending} {w' : World} (h : NewR w f e w') (hv : ∀ v, (f v).v = v) (hn : ∀ v, (f v).n = n) : ∃ s c, e = .returned (.slice s n c) ∧ (f (.slice s n c)).on w' w.heap.size ∧ Below w.heap.size w w' := by
 obtain ⟨v, rfl, h1, h2⟩ := h
 obtain ⟨s, c, e⟩ := h1.shape
 rw [hv, hn] at e
 subst e
 exact ⟨s, c, rfl, h1, h2⟩
theorem Owns.two {w w' : World} {B : Nat} {r q : OR} (h : r.on w B) (hb : Below w.heap.size w w') (g : q.on w' w.heap.size) (hB : B ≤ w.heap.size) : Owns w' B [r, q] := (Owns.one h).add hb (Owns.one g) hB
theorem Owns.putC {w : World} {B : Nat} {R : List OR} (h : Owns w B R) {p : Addr} (hn : p.block < B) (u : Value) : Owns (w.setCell p u) B R :=
 h.same fun g hg => Below.heap_setCell w p u g (by have := (h.lt hg).1; omega)
end
section
open Go.RowKit
def rB (k : Nat) (T : TypeId) (cs : List Value) : OR := ⟨T, cs.length, .slice (some ⟨k, 0, none⟩) 1 1, 1, cs⟩
theorem rB_blk {w : World} {B k : Nat} {T : TypeId} {cs : List Value} (h : (rB k T cs).on w B) : Blk w k cs.toArray T := by
 rcases h.2 with ⟨e, _⟩ | ⟨g, cap, cur, e, hb, hg, h1, h2, h3, h4⟩
 ·
  cases e
 simp only [rB, Value.slice.injEq, Option.some.injEq, Addr.mk.injEq] at e
 obtain ⟨⟨rfl, _⟩, _, rfl⟩ := e
 have e : cur = cs.toArray := by
  apply Array.toList_inj.1
  have h4 : cur.toList.take (1 * cs.length) = cs := h4
  have h3 : cur.size = 1 * cs.length := h3
  rw [← h4, List.take_of_length_le (by rw [Array.length_toList, h3]; exact Nat.le_refl _)]
 rw [← e]; exact hg
theorem blk_rB {w : World} {B k : Nat} {T : TypeId} {cs : List Value} (h : Blk w k cs.toArray T) (hB : B ≤ k) : (rB k T cs).on w B :=
 ⟨by simp [rB], Or.inr ⟨k, 1, cs.toArray, rfl, hB, h, Nat.le_refl _, by unfold maxLen; omega, by simp [rB], by simp [rB, List.take_of_length_le]⟩⟩
structure Rs (X : World) (B : Nat) (W : World) (R : List OR) : Prop where
 l : Below B X W
 o : Owns W B R
 s : B ≤ W.heap.size
theorem Rs.nil (X : World) : Rs X X.heap.size X [] := ⟨Below.refl _ _, Owns.nil _ _, Nat.le_refl _⟩
theorem Rs.drew {X W : World} {B : Nat} {R : List OR} (h : Rs X B W R) : Rs X B W.drew R := ⟨h.l.drew, h.o.same fun _ _ => rfl, h.s⟩
theorem Rs.perm {X W : World} {B : Nat} {R S : List OR} (h : Rs X B W R) (hp : R.Perm S) : Rs X B W S := ⟨h.l, h.o.perm hp, h.s⟩
theorem perm_ins {α : Type} (P S : List α) (r : α) : (P ++ S ++ [r]).Perm (P ++ r :: S) := by
 rw [List.append_assoc]
 exact List.Perm.append_left P List.perm_append_comm
theorem perm_mid {α : Type} (P S : List α) (r : α) : (P ++ r :: S).Perm (r :: (P ++ S)) := List.perm_middle
theorem Rs.later {X W W' : World} {B : Nat} {R : List OR} (h : Rs X B W R) (hb : Below W.heap.size W W') : Rs X B W' R :=
 ⟨h.l.trans (hb.mono h.s), h.o.later hb, Nat.le_trans h.s hb.size⟩
theorem Rs.ins {X W W' : World} {B : Nat} (P S : List OR) {r : OR} (h : Rs X B W (P ++ S)) (hb : Below W.heap.size W W') (hr : r.on W' W.heap.size) : Rs X B W' (P ++ r :: S) :=
 ⟨h.l.trans (hb.mono h.s), (h.o.add hb (Owns.one hr) h.s).perm (perm_ins P S r), Nat.le_trans h.s hb.size⟩
theorem Rs.turn {X W W' : World} {B : Nat} (P S : List OR) {r r' : OR} (h : Rs X B W (P ++ r :: S)) (hg : W.grownBy W' r.v.ownBlock) (hr : r'.on W' B) (hn : ∀ g, r'.v.ownBlock = some g → r.v.ownBlock = some g ∨ W.heap.size ≤ g) : Rs X B W' (P ++ r' :: S) := by
 have ho := h.o.perm (perm_mid P S r)
 refine ⟨h.l.grown hg h.s (fun k e => (ho.head.lt k e).1), (ho.turn hg hr hn).perm (perm_mid P S r').symm, Nat.le_trans h.s hg.size⟩
theorem Rs.less {X W : World} {B : Nat} (P S : List OR) {r : OR} (h : Rs X B W (P ++ r :: S)) : Rs X B W (P ++ S) := ⟨h.l, (h.o.perm (perm_mid P S r)).tail, h.s⟩
theorem Rs.at {X W : World} {B : Nat} (P S : List OR) {r : OR} (h : Rs X B W (P ++ r :: S)) : r.on W B := h.o.on r (by simp)
theorem Rs.box {X W : World} {B : Nat} (P S : List OR) {k : Nat} {T : TypeId} {cs : List Value} (h : Rs X B W (P ++ rB k T cs :: S)) : Blk W k cs.toArray T := rB_blk (h.at P S)
theorem Rs.putB {X W : World} {B : Nat} (P S : List OR) {k : Nat} {T : TypeId} {cs ds : List Value} (h : Rs X B W (P ++ rB k T cs :: S)) : Rs X B (W.setRow k ds.toArray) (P ++ rB k T ds :: S) := by
 have hb := h.box P S
 have hB : B ≤ k := ((h.at P S).lt k rfl).1
 refine h.turn P S ⟨rfl, rfl, rfl, by simp [World.setRow], fun q hq hne => setRow_other W k q _ (fun e => hne (by rw [e]; rfl))⟩ (blk_rB (setRow_heap W k _ _ _ _ hb) hB) (fun g hg => Or.inl hg)
theorem Rs.setB {X W : World} {B : Nat} (P S : List OR) {k : Nat} {T : TypeId} {cs : List Value} (i : Nat) (u : Value) (h : Rs X B W (P ++ rB k T cs :: S)) : Rs X B (W.setCell ⟨k, i, none⟩ u) (P ++ rB k T (cs.set i u) :: S) := by
 have hb := h.box P S
 have hB : B ≤ k := ((h.at P S).lt k rfl).1
 refine h.turn P S ⟨rfl, rfl, rfl, by simp, fun q hq hne => Below.heap_setCell W ⟨k, i, none⟩ u q (fun e => hne (by dsimp only at e; rw [e]; rfl))⟩ (blk_rB ?_ hB) (fun g hg => Or.inl hg)
 have := hb.set i u
 rw [List.setIfInBounds_toArray] at this
 exact this
theorem step_exec {P : Program} {ops : Array Oper} {o : Oper} {a : Act} {w w' : World} {K : Act → World → Prop} {Q : Exit → Act → World → Prop} {E : Prop} {v : Value} (hg : o.guard = none) {d0 : Option Nat} (hd : o.dst = d0) (hr : (execOp a.eval o).run P w = .ok (.value v) w') (hK : K (a.put d0 v) w') :
  if Region.wanted o (yielded ops a.tmps) = true then Oper.wp P o a w K Q else E := by
 have hw : Region.wanted o (yielded ops a.tmps) = true := by simp [Region.wanted, hg]
 rw [if_pos hw]
 unfold Oper.wp
 rw [← hd] at hK
 simp [hr]
 exact hK
theorem run_append_zeroK {P : Program} {t e : TypeId} {i : TypeInfo} (hu : P.underlying t = some (.slice e)) (hi : P.info? e = some i) (w : World) (ty : TypeId) (s x : Option Addr) (n c d : Nat) (h : n ≤ c) : (Builtin.append_ #[t, t] ty #[.slice s n c, .slice x 0 d]).run P w = .ok (.slice s n c) w := by
 cases x with
 | none => cases s <;> simp [Builtin.append_, run_underlying hu, sizeOf, typeInfo, hi, Builtin.lenOf, Builtin.firstCells, storeCells, h]
 | some a =>
  have hl := run_loadCells_list (P := P) w a [] (by simp)
  simp only [List.length_nil] at hl
  cases s <;> simp [Builtin.append_, run_underlying hu, sizeOf, typeInfo, hi, Builtin.lenOf, Builtin.firstCells, hl, storeCells, h]
section
variable {P : Program} {md : Region.Mode} {ops : Array Oper} {Q : Exit → Act → World → Prop} {S : World → Prop} {n n' : Nat} {l l' : Array Bool} {a a' : Act} {w : World}
end
section
variable {X : World} {B : Nat} {ops : Array Oper} {o : Oper} {a : Act} {w : World} {K : Act → World → Prop} {Q : Exit → Act → World → Prop} {E : Prop}
theorem step_app (P S : List OR) {r : OR} (hR : Rs X B w (P ++ r :: S)) (hg : o.guard = none) {d0 : Option Nat} (hd : o.dst = d0) (s x : Operand) (t : TypeId) {i : TypeInfo} {z : Value} (bytes : Nat) (ho : o.op = .call { callee := .builtin .append, args := #[s, x], argTypes := #[t, t] })
  (hu : Tryz.prog.underlying t = some (.slice r.T)) (hi : Tryz.prog.info? r.T = some i) (hz : i.zero = some z) (hsize : i.size = r.k) (hby : i.bytes = bytes) (hzs : z.cells.size = r.k) (hsz : 0 < r.k) (hs : a.eval s = r.v)
  (xs : Option Addr) (m d : Nat) (news : List Value) (hx : a.eval x = .slice xs m d) (hl : news.length = m * r.k) (hnews : m = 0 ∨ ∃ ad, xs = some ad ∧ ∀ j u, news[j]? = some u → w.cell? (ad.add j) = some u) (h1 : ∀ u ∈ news, u.oneCell' = true)
  (h63 : r.n + m ≤ maxLen) (hbytes : (r.n + m) * bytes ≤ 140737488355328) (N : Nat) (hN : r.n + m = N) (f : Value → OR) (hf : ∀ v, f v = ⟨r.T, r.k, v, N, r.cs ++ news⟩)
  (hK : ∀ s' c' w', Rs X B w' (P ++ f (.slice s' N c') :: S) → K (a.put d0 (.slice s' N c')) w') :
  if Region.wanted o (yielded ops a.tmps) = true then Oper.wp Tryz.prog o a w K Q else E := by
 subst hN
 have hr := hR.at P S
 have exec : ∀ (v' : Value) (w' : World), (Builtin.append_ #[t, t] o.type #[r.v, .slice xs m d]).run Tryz.prog w = .ok v' w' → (execOp a.eval o).run Tryz.prog w = .ok (.value v') w' := by
  intro v' w' h
  simp [execOp, ho, resolve, invoke, builtin, hs, hx, h, Result.andThen]
 rcases hnews with rfl | ⟨ad, rfl, hnews⟩
 ·
  obtain ⟨s', c', e'⟩ := hr.shape
  have hc : r.n ≤ c' := by
   rcases hr.2 with ⟨q, _⟩ | ⟨g, cap, cur, q, _, _, h, _⟩
   ·
    rw [e'] at q; simp only [Value.slice.injEq] at q; omega
   rw [e'] at q; simp only [Value.slice.injEq] at q; obtain ⟨_, _, rfl⟩ := q; exact h
  have e0 : news = [] := List.eq_nil_of_length_eq_zero (by simpa using hl)
  have hrun := run_append_zeroK (P := Tryz.prog) hu hi w o.type s' xs r.n c' d hc
  rw [← e'] at hrun
  refine step_exec hg hd (exec _ _ hrun) ?_
  rw [e']
  refine hK s' c' w ?_
  have e1 : f (.slice s' (r.n + 0) c') = r := by rw [hf, e0, List.append_nil]; show (⟨r.T, r.k, .slice s' r.n c', r.n, r.cs⟩ : OR) = r; rw [← e']
  rw [e1]; exact hR
 obtain ⟨v', w', hrun, h2, h3, _, h5⟩ := run_append_own_at (P := Tryz.prog) w B t o.type r.T i z r.k bytes hu hi hz hsize hby hzs hsz r.v r.n r.cs hr ad m d news hl hnews h1 h63 hbytes hR.s
 have hO : (⟨r.T, r.k, v', r.n + m, r.cs ++ news⟩ : OR).on w' B := h2
 obtain ⟨s', c', e'⟩ := hO.shape
 have e' : v' = .slice s' (r.n + m) c' := e'
 subst e'
 refine step_exec hg hd (exec _ _ hrun) (hK s' c' w' (hR.turn P S h3 (by rw [hf]; exact hO) ?_))
 rw [hf]
 intro g hg
 have hg : (Value.slice s' (r.n + m) c').ownBlock = some g := hg
 rcases h5 with h5 | h5
 ·
  left; rw [← h5]; exact hg
 right; rw [h5] at hg; cases hg; exact Nat.le_refl _
end
end
section
open Go.RowKit
def dgB (c : Nat) : Bool := decide ((48 : Int) ≤ c) && decide ((c : Int) ≤ 57)
def dgAt (s : ByteArray) (k : Nat) : Bool := dgB (s.data[k]?.getD 0).toNat
def RunIs (s : ByteArray) (k b : Nat) : Prop := k ≤ b ∧ b ≤ s.size ∧ (∀ j, k ≤ j → j < b → dgAt s j = true) ∧ (b < s.size → dgAt s b = false)
theorem dgB_iff (c : Nat) : dgB c = true ↔ 48 ≤ c ∧ c ≤ 57 := by simp [dgB]; omega
theorem dgAt_eq {s : ByteArray} {k : Nat} (h : k < s.size) : dgB (s[k]'h).toNat = dgAt s k := by
 unfold dgAt
 have : s.data[k]? = some (s[k]'h) := Array.getElem?_eq_getElem h
 rw [this]; rfl
theorem run_index_at (s : ByteArray) (k : Nat) (h : k < s.size) (w : World) : (Instr.index 9 (.string s) (.int .i64 (k : Int))).run Tryz.prog w = .ok (.int .u8 ((s[k]'h).toNat : Int)) w := by
 rw [run_index_string w 9 s .i64 k Tryz.underlying9]
 have h' : 0 ≤ (k : Int) ∧ (k : Int) < s.size := by omega
 rw [dif_pos h']
 simp
set_option maxHeartbeats 1000000 in
theorem isDigit_any (c : Nat) (w : World) :
  Calls Tryz.prog 22 #[.int .i32 (c : Int)] w fun e w' => e = .returned (.bool (dgB c)) ∧ w' = w := by
 cases h1 : decide ((48 : Int) ≤ c) <;> cases h2 : decide ((c : Int) ≤ 57)
 all_goals
  have E : Hid (_ = dgB c) := (by unfold Hid dgB; rw [h1, h2])
  go_enter Tryz.func22, Tryz.ntmps22
  go_wp2
  go_ret; exact ⟨ret_bool E.out, rfl⟩
def numIs (s : ByteArray) (n : Nat) : Prop := Lib.decFrom 0 s.data.toList = some n
theorem toList_at {s : ByteArray} {k : Nat} (h : k < s.size) : s.data.toList[k]? = some (s[k]'h) := by
 rw [Array.getElem?_toList]; exact Array.getElem?_eq_getElem h
end
end Go.Proofs.YtkkofminndboaaaGreatDoor
