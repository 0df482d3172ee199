import Derived.Test.YtncknfkinmjmdaaGreatDoorSp01
import Derived.Maps.AppendAt
import Derived.Deep.RegionLaw
import Derived.Laws.AppendOwn
import Derived.Deep.RegionHeld3
import Derived.Laws.CopyOwn
namespace Go.Proofs.YtncknfkinmjmdaaGreatDoor
set_option linter.unusedVariables false
set_option linter.unusedSimpArgs false
section
open Go.RowKit
theorem flat_at {k : Nat} : ∀ (U : List (List Value)) (j : Nat) (c : List Value), (∀ c ∈ U, c.length = k) → U[j]? = some c → ∀ i, i < k → U.flatten[j * k + i]? = c[i]?
 | q :: U, 0, c, hU, h, i, hi => by
  simp at h; subst h
  rw [List.flatten_cons, List.getElem?_append_left (by rw [hU q (by simp)]; omega)]
  congr 1; omega
 | q :: U, j + 1, c, hU, h, i, hi => by
  have := flat_at U j c (fun c hc => hU c (by simp [hc])) (by simpa using h) i hi
  have hq := hU q (by simp)
  rw [List.flatten_cons, List.getElem?_append_right (by rw [hq, Nat.succ_mul]; omega), hq, ← this]
  congr 1; rw [Nat.succ_mul]; omega
theorem flat_size {k : Nat} : ∀ U : List (List Value), (∀ c ∈ U, c.length = k) → U.flatten.length = U.length * k
 | [], _ => by simp
 | q :: U, hU => by
  have := flat_size U (fun c hc => hU c (by simp [hc]))
  rw [List.flatten_cons, List.length_append, hU q (by simp), this, List.length_cons, Nat.succ_mul]; omega
def Mk {α : Type} (q : Nat) (E : World → Nat → List Value → α → Prop) (z : List Value) (T : TypeId) (w : World) (B g : Nat) (L : List α) (k : Nat) : Prop :=
 z.length = q ∧ k ≤ L.length ∧ ∃ U : List (List Value), U.length = k ∧ (∀ c ∈ U, c.length = q) ∧ (∀ (j : Nat) c a, U[j]? = some c → L[j]? = some a → E w (g + 1) c a) ∧ w.ownsRow B T q (.slice (some ⟨g, 0, none⟩) L.length L.length) L.length (U ++ List.replicate (L.length - k) z).flatten
theorem Mk.later {α : Type} {q : Nat} {E : World → Nat → List Value → α → Prop} (hE : KeepsE E) {z : List Value} {T : TypeId} {w w' : World} {B g : Nat} {L : List α} {k : Nat} (h : Mk q E z T w B g L k) (hb : Below w.heap.size w w') : Mk q E z T w' B g L k := by
 obtain ⟨h1, h2, U, h3, h4, h5, h6⟩ := h
 refine ⟨h1, h2, U, h3, h4, fun j c a hc ha => hE _ _ _ _ _ (Kept.of hb _) (h5 j c a hc ha), ?_⟩
 refine World.ownsRow.kept h6 (grown_of_below hb) ?_
 cases (Value.slice (some ⟨g, 0, none⟩) L.length L.length).ownBlock with
 | none => exact Or.inl rfl
 | some b => exact Or.inr (by simp)
theorem Mk.at {α : Type} {q : Nat} {E : World → Nat → List Value → α → Prop} {z : List Value} {T : TypeId} {w : World} {B g : Nat} {L : List α} {k : Nat} (h : Mk q E z T w B g L k) (hk : k < L.length) : B ≤ g ∧ g < w.heap.size ∧ (∀ o, w.frozen? ⟨g, o, none⟩ = false) ∧ ∀ i u, z[i]? = some u → w.cell? ⟨g, k * q + i, none⟩ = some u := by
 obtain ⟨h1, h2, U, h3, h4, h5, h6⟩ := h
 have hlt := World.ownsRow.lt h6 g rfl
 refine ⟨hlt.1, hlt.2, fun o => World.ownsRow.frozenAt h6 o, fun i u hu => ?_⟩
 have hi : i < q := by rw [← h1]; exact (List.getElem?_eq_some_iff.1 hu).1
 have hx : (k + 1) * q ≤ L.length * q := Nat.mul_le_mul_right _ hk
 rw [Nat.succ_mul] at hx
 have hU : ∀ c ∈ U ++ List.replicate (L.length - k) z, c.length = q := by
  intro c hc
  rcases List.mem_append.1 hc with hc | hc
  ·
   exact h4 c hc
  rw [List.eq_of_mem_replicate hc]; exact h1
 have hz : (U ++ List.replicate (L.length - k) z)[k]? = some z := by
  rw [List.getElem?_append_right (by omega), h3, Nat.sub_self, List.getElem?_replicate, if_pos (by omega)]
 rw [World.ownsRow.cellAt h6 (k * q + i) (by omega), flat_at _ k z hU hz i hi, hu]
theorem Mk.push {α : Type} {q : Nat} {E : World → Nat → List Value → α → Prop} (hE : KeepsE E) {z c : List Value} {T : TypeId} {w w' : World} {B g : Nat} {L : List α} {k : Nat} {a : α} (h : Mk q E z T w B g L k) (hk : L[k]? = some a) (hc : c.length = q) (hEc : E w (g + 1) c a) (hkept : Kept (g + 1) w w')
  (hrow : ∀ A C : List Value, A.length = k * q → w.ownsRow B T q (.slice (some ⟨g, 0, none⟩) L.length L.length) L.length (A ++ (z ++ C)) → w'.ownsRow B T q (.slice (some ⟨g, 0, none⟩) L.length L.length) L.length (A ++ (c ++ C))) : Mk q E z T w' B g L (k + 1) := by
 obtain ⟨h1, h2, U, h3, h4, h5, h6⟩ := h
 have hlt : k < L.length := (List.getElem?_eq_some_iff.1 hk).1
 refine ⟨h1, hlt, U ++ [c], by simp [h3], ?_, ?_, ?_⟩
 ·
  intro d hd
  rcases List.mem_append.1 hd with hd | hd
  ·
   exact h4 d hd
  simp at hd; subst hd; exact hc
 ·
  intro j d b hd hb
  by_cases e : j < k
  ·
   rw [List.getElem?_append_left (by omega)] at hd
   exact hE _ _ _ _ _ hkept (h5 j d b hd hb)
  have ej : j = k := by
   have := (List.getElem?_eq_some_iff.1 hd).1
   simp [h3] at this; omega
  subst ej
  rw [hk] at hb
  cases hb
  rw [List.getElem?_append_right (by omega), h3] at hd
  simp at hd
  subst hd
  exact hE _ _ _ _ _ hkept hEc
 have e : L.length - k = (L.length - (k + 1)) + 1 := by omega
 rw [e, List.replicate_succ] at h6
 have := hrow U.flatten (List.replicate (L.length - (k + 1)) z).flatten (by rw [flat_size U h4, h3]) (by simpa using h6)
 simpa using this
theorem Mk.done {α : Type} {q : Nat} {E : World → Nat → List Value → α → Prop} (hD : DropsE E) {z : List Value} {T : TypeId} {w : World} {B g : Nat} {L : List α} (h : Mk q E z T w B g L L.length) : Els q E w g (some ⟨g, 0, none⟩) L := by
 obtain ⟨h1, h2, U, h3, h4, h5, h6⟩ := h
 have hlt := World.ownsRow.lt h6 g rfl
 rw [Nat.sub_self] at h6
 simp only [List.replicate_zero, List.append_nil] at h6
 refine Or.inr ⟨g, 0, rfl, Nat.le_refl _, hlt.2, fun j a ha => ?_, fun _ j => World.ownsRow.frozenAt h6 j⟩
 have hj : j < L.length := (List.getElem?_eq_some_iff.1 ha).1
 obtain ⟨c, hc⟩ := get_some (L := U) (k := j) (by omega)
 refine ⟨c, h4 c (List.mem_of_getElem? hc), fun i u hu => ?_, hD _ _ _ _ _ (Nat.le_succ g) (h5 j c a hc ha)⟩
 have hi : i < q := by rw [← h4 c (List.mem_of_getElem? hc)]; exact (List.getElem?_eq_some_iff.1 hu).1
 have hx : (j + 1) * q ≤ L.length * q := Nat.mul_le_mul_right _ hj
 rw [Nat.succ_mul] at hx
 rw [Nat.zero_add, World.ownsRow.cellAt h6 (j * q + i) (by omega), flat_at U j c h4 hc i hi, hu]
end
section
open Go.RowKit
theorem Rows2.ints {w : World} {B g f : Nat} {G F : List Int} (h : Rows2 w B g f G F) : Ints w (some ⟨g, 0, none⟩) G ∧ Ints w (some ⟨f, 0, none⟩) F := ⟨h.1.ints.1, h.2.1.ints.1⟩
end
section
open Go.RowKit
theorem Blk.one {w : World} {n : Nat} {a b : Value} {t : TypeId} (h : Blk w n #[a, b] t) : w.cell? ⟨n, 0, none⟩ = some a ∧ w.cell? ⟨n, 1, none⟩ = some b := ⟨h.cell 0, h.cell 1⟩
end
section
open Go.RowKit
theorem Blk.four' {w : World} {n : Nat} {a b c d : Value} {t : TypeId} (h : Blk w n #[a, b, c, d] t) : w.cell? ⟨n, 0, none⟩ = some a ∧ w.cell? ⟨n, 1, none⟩ = some b ∧ w.cell? ⟨n, 2, none⟩ = some c ∧ w.cell? ⟨n, 3, none⟩ = some d ∧ ∀ o, w.frozen? ⟨n, o, none⟩ = false := ⟨h.cell 0, h.cell 1, h.cell 2, h.cell 3, h.frozen⟩
end
section
open Go.RowKit
structure Nd where
 kind : Int
 text : ByteArray
 num : Int
 kids : List Int
structure Tre where
 nodes : List Nd
 tops : List Int
def cNode (w : World) (B : Nat) (cs : List Value) (n : Nd) : Prop := ∃ s c, cs = [.int .i64 n.kind, .string n.text, .int .i64 n.num, .slice s n.kids.length c] ∧ Els 1 cInt w B s n.kids
theorem cNode_keeps : KeepsE cNode := fun _ _ _ _ _ hk ⟨s, c, e, h⟩ => ⟨s, c, e, h.kept cInt_keeps hk⟩
theorem cNode_drops : DropsE cNode := fun _ _ _ _ _ hB ⟨s, c, e, h⟩ => ⟨s, c, e, h.drop cInt_drops hB⟩
theorem eNode_cells {w : World} {B : Nat} {s : Option Addr} {L : List Nd} (h : Els 4 cNode w B s L) {j : Nat} {n : Nd} (ha : L[j]? = some n) :
  ∃ b o, s = some ⟨b, o, none⟩ ∧ B ≤ b ∧ b < w.heap.size ∧ ∃ s' c', w.cell? ⟨b, o + j * 4, none⟩ = some (.int .i64 n.kind) ∧ w.cell? ⟨b, o + j * 4 + 1, none⟩ = some (.string n.text) ∧ w.cell? ⟨b, o + j * 4 + 2, none⟩ = some (.int .i64 n.num) ∧ w.cell? ⟨b, o + j * 4 + 3, none⟩ = some (.slice s' n.kids.length c') ∧ Els 1 cInt w B s' n.kids := by
 rcases h with rfl | ⟨b, o, rfl, h1, h2, h3, hz⟩
 ·
  simp at ha
 obtain ⟨cs, e1, e2, s', c', rfl, e5⟩ := h3 j n ha
 exact ⟨b, o, rfl, h1, h2, s', c', e2 0 _ rfl, e2 1 _ rfl, e2 2 _ rfl, e2 3 _ rfl, e5⟩
structure InT (w : World) (B : Nat) (s1 s2 : Option Addr) (t : Tre) : Prop where
 n : Els 4 cNode w B s1 t.nodes
 t : Els 1 cInt w B s2 t.tops
theorem InT.later {w w' : World} {B : Nat} {s1 s2 : Option Addr} {t : Tre} (h : InT w B s1 s2 t) (hb : Below w.heap.size w w') : InT w' B s1 s2 t := ⟨h.n.later cNode_keeps hb, h.t.later cInt_keeps hb⟩
theorem InT.kept {w w' : World} {B : Nat} {s1 s2 : Option Addr} {t : Tre} (h : InT w B s1 s2 t) (hb : Kept B w w') : InT w' B s1 s2 t := ⟨h.n.kept cNode_keeps hb, h.t.kept cInt_keeps hb⟩
theorem InT.drop {w : World} {B B' : Nat} {s1 s2 : Option Addr} {t : Tre} (h : InT w B s1 s2 t) (hB : B' ≤ B) : InT w B' s1 s2 t := ⟨h.n.drop cNode_drops hB, h.t.drop cInt_drops hB⟩
end
section
open Go.RowKit
structure OR where
 T : TypeId
 k : Nat
 v : Value
 n : Nat
 cs : List Value
def OR.on (w : World) (B : Nat) (r : OR) : Prop := w.ownsRow B r.T r.k r.v r.n r.cs
def blks (R : List OR) : List Nat := R.filterMap fun r => r.v.ownBlock
structure Owns (w : World) (B : Nat) (R : List OR) : Prop where
 on : ∀ r ∈ R, r.on w B
 nd : (blks R).Nodup
theorem OR.on.lt {w : World} {B : Nat} {r : OR} (h : r.on w B) : ∀ g, r.v.ownBlock = some g → B ≤ g ∧ g < w.heap.size := World.ownsRow.lt h
theorem OR.on.same {w w' : World} {B : Nat} {r : OR} (h : r.on w B) (hs : ∀ g, r.v.ownBlock = some g → w'.heap[g]? = w.heap[g]?) : r.on w' B := by
 refine ⟨h.1, ?_⟩
 rcases h.2 with h' | ⟨g, cap', cur, h', hb, hg, r'⟩
 ·
  exact Or.inl h'
 exact Or.inr ⟨g, cap', cur, h', hb, (hs g (by rw [h']; rfl)).trans hg, r'⟩
theorem OR.on.mono {w : World} {B B' : Nat} {r : OR} (h : r.on w B) (hB : B' ≤ B) : r.on w B' := Go.Joins.ownsRow_le h hB
theorem mem_blks {R : List OR} {g : Nat} : g ∈ blks R ↔ ∃ r ∈ R, r.v.ownBlock = some g := by simp [blks]
theorem blks_cons (r : OR) (R : List OR) : blks (r :: R) = r.v.ownBlock.toList ++ blks R := by
 unfold blks
 rw [List.filterMap_cons]
 cases h : r.v.ownBlock <;> simp
theorem blks_append (R S : List OR) : blks (R ++ S) = blks R ++ blks S := by simp [blks]
theorem Owns.nil (w : World) (B : Nat) : Owns w B [] := ⟨fun r h => by simp at h, by simp [blks]⟩
theorem Owns.perm {w : World} {B : Nat} {R S : List OR} (h : Owns w B R) (hp : R.Perm S) : Owns w B S :=
 ⟨fun r hr => h.on r (hp.mem_iff.2 hr), (hp.filterMap _).nodup_iff.1 h.nd⟩
theorem Owns.mono {w : World} {B B' : Nat} {R : List OR} (h : Owns w B R) (hB : B' ≤ B) : Owns w B' R := ⟨fun r hr => (h.on r hr).mono hB, h.nd⟩
theorem Owns.lt {w : World} {B : Nat} {R : List OR} (h : Owns w B R) {g : Nat} (hg : g ∈ blks R) : B ≤ g ∧ g < w.heap.size := by
 obtain ⟨r, hr, e⟩ := mem_blks.1 hg
 exact (h.on r hr).lt g e
theorem Owns.same {w w' : World} {B : Nat} {R : List OR} (h : Owns w B R) (hs : ∀ g, g ∈ blks R → w'.heap[g]? = w.heap[g]?) : Owns w' B R :=
 ⟨fun r hr => (h.on r hr).same fun g hg => hs g (mem_blks.2 ⟨r, hr, hg⟩), h.nd⟩
theorem Owns.later {w w' : World} {B : Nat} {R : List OR} (h : Owns w B R) (hb : Below w.heap.size w w') : Owns w' B R :=
 h.same fun g hg => hb.block g (h.lt hg).2
theorem Owns.kept {w w' : World} {B : Nat} {R : List OR} (h : Owns w B R) (hk : Kept B w w') : Owns w' B R :=
 h.same fun g hg => hk.2 g (h.lt hg).1 (h.lt hg).2
theorem Owns.grown {w w' : World} {B : Nat} {R : List OR} {r : Option Nat} (h : Owns w B R) (hg : w.grownBy w' r) (hn : ∀ g, r = some g → ¬ g ∈ blks R) : Owns w' B R :=
 h.same fun g hg' => hg.block g (h.lt hg').2 (fun e => hn g e.symm hg')
theorem Owns.tail {w : World} {B : Nat} {r : OR} {R : List OR} (h : Owns w B (r :: R)) : Owns w B R := by
 refine ⟨fun q hq => h.on q (by simp [hq]), ?_⟩
 have := h.nd
 rw [blks_cons] at this
 exact (List.nodup_append.1 this).2.1
theorem Owns.head {w : World} {B : Nat} {r : OR} {R : List OR} (h : Owns w B (r :: R)) : r.on w B := h.on r (by simp)
theorem Owns.off {w : World} {B : Nat} {r : OR} {R : List OR} (h : Owns w B (r :: R)) {g : Nat} (hg : r.v.ownBlock = some g) : ¬ g ∈ blks R := by
 have := h.nd
 rw [blks_cons, hg] at this
 intro hm
 exact (List.nodup_append.1 this).2.2 g (by simp) g hm rfl
theorem Owns.left {w : World} {B : Nat} {R S : List OR} (h : Owns w B (R ++ S)) : Owns w B R := by
 refine ⟨fun q hq => h.on q (by simp [hq]), ?_⟩
 have := h.nd
 rw [blks_append] at this
 exact (List.nodup_append.1 this).1
theorem Owns.right {w : World} {B : Nat} {R S : List OR} (h : Owns w B (R ++ S)) : Owns w B S := by
 refine ⟨fun q hq => h.on q (by simp [hq]), ?_⟩
 have := h.nd
 rw [blks_append] at this
 exact (List.nodup_append.1 this).2.1
theorem Owns.join {w : World} {B : Nat} {R S : List OR} (h : Owns w B R) (g : Owns w B S) (ha : ∀ b, b ∈ blks R → ¬ b ∈ blks S) : Owns w B (R ++ S) := by
 refine ⟨fun q hq => ?_, ?_⟩
 ·
  rcases List.mem_append.1 hq with h' | h'
  ·
   exact h.on q h'
  exact g.on q h'
 rw [blks_append]
 exact List.nodup_append.2 ⟨h.nd, g.nd, fun a ha' b hb e => ha a ha' (e ▸ hb)⟩
theorem Owns.add {w w' : World} {B : Nat} {R S : List OR} (h : Owns w B R) (hb : Below w.heap.size w w') (g : Owns w' w.heap.size S) (hB : B ≤ w.heap.size) : Owns w' B (R ++ S) :=
 (h.later hb).join (g.mono hB) fun b h1 h2 => by
  have := (h.lt h1).2
  have := (g.lt h2).1
  omega
theorem Owns.one {w : World} {B : Nat} {r : OR} (h : r.on w B) : Owns w B [r] := by
 refine ⟨fun q hq => ?_, ?_⟩
 ·
  simp at hq; subst hq; exact h
 rw [blks_cons]; cases r.v.ownBlock <;> simp [blks]
theorem Owns.turn {w w' : World} {B : Nat} {r r' : OR} {R : List OR} (h : Owns w B (r :: R)) (hg : w.grownBy w' r.v.ownBlock) (hr : r'.on w' B) (hn : ∀ g, r'.v.ownBlock = some g → r.v.ownBlock = some g ∨ w.heap.size ≤ g) : Owns w' B (r' :: R) := by
 have ht := h.tail.grown hg (fun g e => h.off e)
 refine (Owns.one hr).join ht fun b h1 h2 => ?_
 obtain ⟨q, hq, e⟩ := mem_blks.1 h1
 simp at hq
 subst hq
 rcases hn b e with e' | e'
 ·
  exact h.off e' h2
 have := (h.tail.lt h2).2
 omega
end
section
open Go.RowKit
structure TV where
 c : Value
 r : Value
 x : Value
 xs : List Value
structure WV where
 g : Value
 f : Value
 t : Value
 r : Value
 ts : List TV
def rI (v : Value) (L : List Int) : OR := ⟨3, 1, v, L.length, L.map (Value.int .i64)⟩
theorem els_own {α : Type} {k : Nat} {E : World → Nat → List Value → α → Prop} {f : α → List Value} (hf : ∀ a, (f a).length = k) {w : World} {B : Nat} {T : TypeId} {s : Option Addr} {c : Nat} {L : List α} (h : w.ownsRow B T k (.slice s L.length c) L.length (L.flatMap f)) (hE : ∀ a ∈ L, E w B (f a) a) : Els k E w B s L := by
 rcases Go.Joins.ownsRow_forms h with ⟨_, h0⟩ | ⟨g, cap, e⟩
 ·
  exact Or.inl (List.length_eq_zero_iff.1 h0)
 cases e; exact els_of_row hf h hE
theorem OR.on.shape {w : World} {B : Nat} {r : OR} (h : r.on w B) : ∃ s c, r.v = .slice s r.n c := by
 rcases Go.Joins.ownsRow_forms h with ⟨e, h0⟩ | ⟨g, cap, e⟩
 ·
  exact ⟨_, _, by rw [e, h0]⟩
 exact ⟨_, _, e⟩
theorem map_flat (L : List Int) : L.map (Value.int .i64) = L.flatMap fun n => [Value.int .i64 n] := by
 induction L with
 | nil => rfl
 | cons a L ih => rw [List.map_cons, List.flatMap_cons, ih]; rfl
theorem rI_els {w : World} {B : Nat} {s : Option Addr} {c : Nat} {L : List Int} (h : (rI (.slice s L.length c) L).on w B) : Els 1 cInt w B s L := by
 refine els_own (f := fun n => [Value.int .i64 n]) (fun _ => rfl) (T := 3) (c := c) ?_ (fun a _ => rfl)
 rw [← map_flat]; exact h
end
section
open Go.RowKit
def VRow (w : World) (B : Nat) (v : Value) (G : List Int) : Prop := w.ownsRow B 3 1 v G.length (G.map (Value.int .i64))
theorem VRow.later {w w' : World} {B : Nat} {v : Value} {G : List Int} (h : VRow w B v G) (hb : Below w.heap.size w w') : VRow w' B v G := by
 refine World.ownsRow.kept h (show w.grownBy w' none from ⟨hb.os, hb.tape, hb.output, hb.size, fun k hk _ => hb.block k hk⟩) ?_
 cases v.ownBlock with
 | none => exact Or.inl rfl
 | some b => exact Or.inr (by simp)
theorem VRow.mono {w : World} {B B' : Nat} {v : Value} {G : List Int} (h : VRow w B v G) (hB : B' ≤ B) : VRow w B' v G := by
 refine ⟨h.1, ?_⟩
 rcases h.2 with h' | ⟨g, cap', cur, h', hb, r⟩
 ·
  exact Or.inl h'
 exact Or.inr ⟨g, cap', cur, h', Nat.le_trans hB hb, r⟩
theorem VRow.lt {w : World} {B : Nat} {v : Value} {G : List Int} (h : VRow w B v G) : ∀ k, v.ownBlock = some k → B ≤ k ∧ k < w.heap.size := World.ownsRow.lt h
theorem VRow.form {w : World} {B : Nat} {v : Value} {G : List Int} (h : VRow w B v G) : (v = .slice none 0 0 ∧ G = []) ∨ ∃ g cap, v = .slice (some ⟨g, 0, none⟩) G.length cap ∧ G.length ≤ cap ∧ Row w B (some ⟨g, 0, none⟩) G.length cap G := by
 rcases h.2 with ⟨h1, h2⟩ | ⟨g, cap, cur, rfl, hb, hg, hc, r⟩
 ·
  exact Or.inl ⟨h1, List.length_eq_zero_iff.1 h2⟩
 exact Or.inr ⟨g, cap, rfl, hc, h⟩
theorem VRow.slice {w : World} {B : Nat} {v : Value} {G : List Int} (h : VRow w B v G) : ∃ s c, v = .slice s G.length c ∧ Ints w s G := by
 rcases h.form with ⟨rfl, rfl⟩ | ⟨g, cap, rfl, _, hr⟩
 ·
  exact ⟨none, 0, rfl, Or.inl rfl⟩
 exact ⟨_, cap, rfl, hr.ints.1⟩
end
section
open Go.RowKit
theorem VRow.kept {w w' : World} {B : Nat} {v : Value} {G : List Int} {r : Option Nat} (h : VRow w B v G) (hg : w.grownBy w' r) (hn : ∀ k, v.ownBlock = some k → ¬ r = some k) : VRow w' B v G := by
 refine World.ownsRow.kept h hg ?_
 cases hv : v.ownBlock with
 | none => exact Or.inl rfl
 | some k => exact Or.inr (fun e => hn k hv e.symm)
theorem grown_setCell (w : World) (n o : Nat) (u : Value) : w.grownBy (w.setCell ⟨n, o, none⟩ u) (some n) :=
 ⟨rfl, rfl, rfl, by simp, fun k _ hk => heap_setCell_other w ⟨n, o, none⟩ k u (fun e => hk (by simp [e]))⟩
theorem VRow.other {w : World} {B : Nat} {v : Value} {G : List Int} (h : VRow w B v G) {n : Nat} (hn : ¬ v.ownBlock = some n) (o : Nat) (u : Value) : VRow (w.setCell ⟨n, o, none⟩ u) B v G :=
 h.kept (grown_setCell w n o u) (fun k hk e => hn (by rw [hk]; exact e.symm))
end
section
open Go.RowKit
def NewR (w : World) (f : Value → OR) (e : Ending) (w' : World) : Prop := ∃ v, e = .returned v ∧ (f v).on w' w.heap.size ∧ Below w.heap.size w w'
end
section
open Go.RowKit
section
variable {P : Program} {md : Region.Mode} {ops : Array Oper} {Q : Exit → Act → World → Prop} {S : World → Prop}
def skipOk (md : Region.Mode) (ops : Array Oper) : List (Nat × Nat) → Array Bool → Act → Bool
 | [], _, _ => true
 | j :: js, listed, a =>
  (match ops[j.1]? with | some o => o.dst == some j.2 && !Region.wanted o (yielded ops a.tmps) | none => false) && Region.free md ops listed j.1 && (Region.ready md ops listed).contains j.1 && skipOk md ops js (listed.setIfInBounds j.1 true) (a.put (some j.2) undef)
theorem wpAnyH_skip (hs : Region.noSelect ops = true) (hQ : ∀ c a (d : Nat) w, Q (.panic c) (a.put (some d) undef) w → Q (.panic c) a w) : ∀ (js : List (Nat × Nat)) (fuel : Nat) (listed : Array Bool) (a : Act) (w : World), S w → skipOk md ops js listed a = true →
  wpAnyH P md ops Q S fuel (js.foldl (fun l j => l.setIfInBounds j.1 true) listed) (js.foldl (fun a j => a.put (some j.2) undef) a) w → ∀ F, F = fuel + js.length → wpAnyH P md ops Q S F listed a w
 | [], fuel, listed, a, w, hS, _, h, F, hF => by
  have : F = fuel := by simpa using hF
  subst this
  simpa using h
 | j :: js, fuel, listed, a, w, hS, hk, h, F, hF => by
  have e : F = (fuel + js.length) + 1 := by rw [hF, List.length_cons]; omega
  subst e
  simp only [skipOk, Bool.and_eq_true] at hk
  obtain ⟨⟨⟨h1, h2⟩, h3⟩, h4⟩ := hk
  cases ho : ops[j.1]? with
  | none => rw [ho] at h1; cases h1
  | some o =>
   rw [ho] at h1
   simp only [Bool.and_eq_true, Bool.not_eq_true', beq_iff_eq] at h1
   obtain ⟨h5, h6⟩ := h1
   refine wpAnyH_take (i := j.1) (oi := o) (v := undef) ho hs h2 h3 (by rw [h5]; exact fun c a w => hQ c a _ w) (Or.inr ⟨h6, rfl⟩) hS ?_
   rw [h5]
   exact wpAnyH_skip hs hQ js fuel _ _ w hS h4 (by simpa only [List.foldl_cons] using h) _ rfl
theorem wpAnyH_one {i d : Nat} {o : Oper} {v : Value} {fuel : Nat} {listed : Array Bool} {a : Act} {w : World} (hi : ops[i]? = some o) (hd : o.dst = some d)
  (hs : Region.noSelect ops = true) (hf : Region.free md ops listed i = true) (hr : (Region.ready md ops listed).contains i = true)
  (hQ : ∀ c a w, Q (.panic c) (a.put (some d) v) w → Q (.panic c) a w) (hw : Region.wanted o (yielded ops a.tmps) = true) (hS : S w) (hv : ∀ w, S w → (execOp a.eval o).run P w = .ok (.value v) w)
  (h : wpAnyH P md ops Q S fuel (listed.setIfInBounds i true) (a.put (some d) v) w) : wpAnyH P md ops Q S (fuel + 1) listed a w :=
 wpAnyH_take (i := i) (oi := o) (v := v) hi hs hf hr (by rw [hd]; exact hQ) (Or.inl ⟨hw, hv⟩) hS (by rw [hd]; exact h)
theorem wpq {v : Value} (i d : Nat) {o : Oper} {fuel : Nat} {listed : Array Bool} {a : Act} {w : World} (hi : ops[i]? = some o) (hd : o.dst = some d) (hv : ∀ w, S w → (execOp a.eval o).run P w = .ok (.value v) w)
 (h : wpAnyH P md ops Q S fuel (listed.setIfInBounds i true) (a.put (some d) v) w) (hs : Region.noSelect ops = true := by kernel_rfl) (hf : Region.free md ops listed i = true := by kernel_rfl) (hr : (Region.ready md ops listed).contains i = true := by kernel_rfl)
 (hQ : ∀ c a w, Q (.panic c) (a.put (some d) v) w → Q (.panic c) a w := by exact fun _ _ _ h => h) (hw : Region.wanted o (yielded ops a.tmps) = true := by rfl) (hS : S w := by assumption) : wpAnyH P md ops Q S (fuel + 1) listed a w :=
 wpAnyH_one hi hd hs hf hr hQ hw hS hv h
theorem zs : (∀ {α β : Type} (f : β → α → β) (b : β), List.foldl f b [] = b) ∧ (∀ {α β : Type} (f : β → α → β) (b : β) (a : α) (l : List α), List.foldl f b (a :: l) = List.foldl f (f b a) l) ∧ (∀ {α : Type} (l : List α) (i : Nat) (a : α), l.toArray.setIfInBounds i a = (l.set i a).toArray) ∧ (∀ {α : Type} (x a : α) (l : List α), (x :: l).set 0 a = a :: l) ∧ (∀ {α : Type} (x a : α) (l : List α) (i : Nat), (x :: l).set (i + 1) a = x :: l.set i a) ∧ ∀ (a : Act) (d : Tmp) (v : Value), a.put (some d) v = ⟨a.tmps.setIfInBounds d v, a.defers⟩ :=
 ⟨fun _ _ => rfl, fun _ _ _ _ => rfl, List.setIfInBounds_toArray, fun _ _ _ => rfl, fun _ _ _ _ => rfl, fun _ _ _ => rfl⟩
theorem wpr {v : Value} (i d : Nat) {o : Oper} {fuel : Nat} {listed : Array Bool} {a : Act} {w : World} (h : wpAnyH P md ops Q S fuel (listed.setIfInBounds i true) (a.put (some d) v) w) (hi : ops[i]? = some o := by rfl) (hd : o.dst = some d := by rfl) (hv : ∀ w, S w → (execOp a.eval o).run P w = .ok (.value v) w := by intro w hSw; (try dsimp only at hSw); go_simp <;> with_reducible rfl)
 (hs : Region.noSelect ops = true := by kernel_rfl) (hf : Region.free md ops listed i = true := by kernel_rfl) (hr : (Region.ready md ops listed).contains i = true := by kernel_rfl)
 (hQ : ∀ c a w, Q (.panic c) (a.put (some d) v) w → Q (.panic c) a w := by exact fun _ _ _ h => h) (hw : Region.wanted o (yielded ops a.tmps) = true := by rfl) (hS : S w := by assumption) : wpAnyH P md ops Q S (fuel + 1) listed a w :=
 wpAnyH_one hi hd hs hf hr hQ hw hS hv h
theorem wpy (i : Nat) {o : Oper} {fuel : Nat} {listed : Array Bool} {a : Act} {w : World} (h : ∀ K' : Act → World → Prop, Shut (∀ a w, S w → (S w → wpAnyH P md ops Q S fuel (listed.setIfInBounds i true) a w) → K' a w) → if Region.wanted o (yielded ops a.tmps) = true then Oper.wp P o a w K' Q else K' (a.put o.dst undef) w) (ho : ops[i]? = some o := by rfl) (hr : Region.ready md ops listed = [i] := by kernel_rfl) : wpAnyH P md ops Q S (fuel + 1) listed a w := wpAnyH_ready hr (by simp) (AllReadyH.cons ho h AllReadyH.nil)
end
end
section
open Go.RowKit
theorem NewR.sl {w : World} {f : Value → OR} {n : Nat} {e : Ending} {w' : World} (h : NewR w f e w') (hv : ∀ v, (f v).v = v) (hn : ∀ v, (f v).n = n) : ∃ s c, e = .returned (.slice s n c) ∧ (f (.slice s n c)).on w' w.heap.size ∧ Below w.heap.size w w' := by
 obtain ⟨v, rfl, h1, h2⟩ := h
 obtain ⟨s, c, e⟩ := h1.shape
 rw [hv, hn] at e
 subst e
 exact ⟨s, c, rfl, h1, h2⟩
theorem Owns.two {w w' : World} {B : Nat} {r q : OR} (h : r.on w B) (hb : Below w.heap.size w w') (g : q.on w' w.heap.size) (hB : B ≤ w.heap.size) : Owns w' B [r, q] := (Owns.one h).add hb (Owns.one g) hB
theorem Owns.putC {w : World} {B : Nat} {R : List OR} (h : Owns w B R) {p : Addr} (hn : p.block < B) (u : Value) : Owns (w.setCell p u) B R :=
 h.same fun g hg => Below.heap_setCell w p u g (by have := (h.lt hg).1; omega)
end
end Go.Proofs.YtncknfkinmjmdaaGreatDoor
