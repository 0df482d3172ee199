import Derived.Test.YtpfamdpgcbpiaaaDz
import Derived.Test.YtpfamdpgcbpiaaaMm
import Derived.Test.YtpfamdpgcbpiaaaMo
import Derived.Test.YtpfamdpgcbpiaaaUz
namespace Go.Proofs.Ytpfamdpgcbpiaaa
open Go.RowKit Go.Maps Go.WideMaps
set_option linter.unusedVariables false
set_option linter.unusedSimpArgs false
set_option maxRecDepth 100000

/-- the rows of the Reg that most draws go by. -/
def stdP : Array Value := #[.string ⟨#[80, 111, 115]⟩, .int .i64 3, .string ⟨#[86, 101, 108]⟩, .int .i64 3, .string ⟨#[72, 112]⟩, .int .i64 1, .string ⟨#[77, 97, 115, 115]⟩, .int .i64 2, .string ⟨#[84, 97, 103]⟩, .int .i64 4]
def stdQ : Array Value := #[.string ⟨#[83, 99, 111, 114, 101]⟩, .int .i64 1, .string ⟨#[87, 105, 110, 100]⟩, .int .i64 2, .string ⟨#[70, 108, 111, 119]⟩, .int .i64 3, .string ⟨#[79, 112, 101, 110]⟩, .int .i64 4]
def stdS : Array Value := #[.string ⟨#[72, 105, 116]⟩, .int .i64 1, .string ⟨#[80, 105, 110, 103]⟩, .int .i64 2]

set_option maxHeartbeats 1000000 in
theorem l3Std_any (w : World) :
    Calls Try.prog 51 #[] w fun e w' => ∃ g, e = .returned (.agg #[.slice (some ⟨g, 0, none⟩) 5 5, .slice (some ⟨g + 1, 0, none⟩) 4 4, .slice (some ⟨g + 2, 0, none⟩) 2 2]) ∧ w.heap.size ≤ g ∧ Blk w' g stdP 38 ∧ Blk w' (g + 1) stdQ 38 ∧ Blk w' (g + 2) stdS 38 ∧ Below w.heap.size w w' := by
  go_enter Try.func51, Try.ntmps51
  go_wp2_with fail
  refine bodyPost_ret (v := .agg #[.slice (some ⟨w.heap.size + 1, 0, none⟩) 5 5, .slice (some ⟨w.heap.size + 1 + 1, 0, none⟩) 4 4, .slice (some ⟨w.heap.size + 1 + 2, 0, none⟩) 2 2]) (by simp [results, Try.results51, go_sem]) rfl ⟨w.heap.size + 1, rfl, by omega, ?_, ?_, ?_, ?_⟩
  · exact ((Blk.new' _ _ _ (by simp)).alloc _).alloc _
  · exact (Blk.new' _ _ _ (by simp)).alloc _
  · exact Blk.new' _ _ _ (by simp)
  · exact bl_alloc (bl_alloc (bl_alloc (bl_alloc (Below.refl _ _) _) _) _) _

/-- an array of declarations: names that are not too long, kinds. -/
def DArr (P : Array Value) (m : Nat) : Prop := P.size = 2 * m ∧ ∀ j, j < m → (∃ s : ByteArray, s.size ≤ maxLen ∧ P[j * 2]? = some (.string s)) ∧ ∃ i : Int, P[j * 2 + 1]? = some (.int .i64 i)
theorem dAllB {P : Array Value} {m : Nat} (hs : P.size = 2 * m) (h : (List.range m).all (fun j => (match P[j * 2]? with | some (.string s) => decide (s.size ≤ 100) | _ => false) && (match P[j * 2 + 1]? with | some (.int .i64 _) => true | _ => false)) = true) : DArr P m := by
  refine ⟨hs, fun j hj => ?_⟩
  have := List.all_eq_true.1 h j (by simpa using hj)
  rw [Bool.and_eq_true] at this
  obtain ⟨h1, h2⟩ := this
  constructor
  · split at h1
    · rename_i s hs'
      exact ⟨s, by have := of_decide_eq_true h1; unfold maxLen; omega, hs'⟩
    · cases h1
  · split at h2
    · rename_i i hi
      exact ⟨i, hi⟩
    · cases h2
theorem stdP_arr : DArr stdP 5 := dAllB rfl (by decide +kernel)
theorem stdQ_arr : DArr stdQ 4 := dAllB rfl (by decide +kernel)
theorem stdS_arr : DArr stdS 2 := dAllB rfl (by decide +kernel)
theorem DArr.setS {P : Array Value} {m j : Nat} (h : DArr P m) (hj : j < m) (s : ByteArray) (hs : s.size ≤ maxLen) : DArr (P.setIfInBounds (j * 2) (.string s)) m := by
  refine ⟨by simpa using h.1, fun i hi => ?_⟩
  obtain ⟨⟨s', a, b⟩, ⟨k, c⟩⟩ := h.2 i hi
  have hz := h.1
  constructor
  · by_cases e : i = j
    · subst e
      exact ⟨s, hs, by rw [Array.getElem?_setIfInBounds]; simp; omega⟩
    · exact ⟨s', a, by rw [Array.getElem?_setIfInBounds, if_neg (by omega)]; exact b⟩
  · exact ⟨k, by rw [Array.getElem?_setIfInBounds, if_neg (by omega)]; exact c⟩
theorem DArr.setK {P : Array Value} {m j : Nat} (h : DArr P m) (hj : j < m) (k : Int) : DArr (P.setIfInBounds (j * 2 + 1) (.int .i64 k)) m := by
  refine ⟨by simpa using h.1, fun i hi => ?_⟩
  obtain ⟨⟨s', a, b⟩, ⟨k', c⟩⟩ := h.2 i hi
  have hz := h.1
  constructor
  · exact ⟨s', a, by rw [Array.getElem?_setIfInBounds, if_neg (by omega)]; exact b⟩
  · by_cases e : i = j
    · subst e
      exact ⟨k, by rw [Array.getElem?_setIfInBounds]; simp; omega⟩
    · exact ⟨k', by rw [Array.getElem?_setIfInBounds, if_neg (by omega)]; exact c⟩
/-- what such an array reads. -/
theorem DArr.reads {P : Array Value} {m : Nat} (h : DArr P m) {w : World} {g : Nat} (hb : Blk w g P 38) {l : Nat} (hl : l ≤ m) : ∃ L : List (ByteArray × Int), L.length = l ∧ Nms L ∧ Decls w (some ⟨g, 0, none⟩) L := by
  have each : ∀ i, i < m → ∃ p : ByteArray × Int, p.1.size ≤ maxLen ∧ P[i * 2]? = some (.string p.1) ∧ P[i * 2 + 1]? = some (.int .i64 p.2) := by
    intro i hi
    obtain ⟨⟨s, a, b⟩, ⟨k, c⟩⟩ := h.2 i hi
    exact ⟨(s, k), a, b, c⟩
  let f : Nat → ByteArray × Int := fun i => if h : i < m then Classical.choose (each i h) else (ByteArray.empty, 0)
  have hf : ∀ i, i < m → (f i).1.size ≤ maxLen ∧ P[i * 2]? = some (.string (f i).1) ∧ P[i * 2 + 1]? = some (.int .i64 (f i).2) := by
    intro i hi
    have : f i = Classical.choose (each i hi) := by simp [f, hi]
    rw [this]
    exact Classical.choose_spec (each i hi)
  refine ⟨(List.range l).map f, by simp, ?_, Or.inr ⟨g, 0, rfl, hb.lt, fun j hj => ?_⟩⟩
  · intro p hp
    simp only [List.mem_map, List.mem_range] at hp
    obtain ⟨i, hi, rfl⟩ := hp
    exact (hf i (by omega)).1
  · simp at hj
    have e : dAt ((List.range l).map f) j = f j := by simp [dAt, hj]
    rw [e, Nat.zero_add, hb.cell, hb.cell]
    exact ⟨(hf j (by omega)).2.1, (hf j (by omega)).2.2⟩

/-- a Reg under way in a draw. -/
structure Rg (n : Nat) (W X : World) (zb rb g1 g2 g3 : Nat) (Z R P Q S : Array Value) : Prop where
  z : Blk X zb Z 34
  k : Blk X rb R 34
  p : Blk X g1 P 38
  q : Blk X g2 Q 38
  s : Blk X g3 S 38
  u : Cur n X
  kp : Keep n W X
  ne : (¬ zb = rb ∧ ¬ zb = g1 ∧ ¬ zb = g2 ∧ ¬ zb = g3 ∧ ¬ rb = g1 ∧ ¬ rb = g2 ∧ ¬ rb = g3) ∧ ¬ g1 = g2 ∧ ¬ g1 = g3 ∧ ¬ g2 = g3
  ge : W.heap.size ≤ zb ∧ W.heap.size ≤ rb ∧ W.heap.size ≤ g1 ∧ W.heap.size ≤ g2 ∧ W.heap.size ≤ g3 ∧ n < W.heap.size
theorem Rg.keep {n : Nat} {W X Y : World} {zb rb g1 g2 g3 : Nat} {Z R P Q S : Array Value} (h : Rg n W X zb rb g1 g2 g3 Z R P Q S) (hK : Keep n X Y) (hC : Cur n Y) : Rg n W Y zb rb g1 g2 g3 Z R P Q S := by
  have e := h.ge
  exact ⟨h.z.keep hK (by omega), h.k.keep hK (by omega), h.p.keep hK (by omega), h.q.keep hK (by omega), h.s.keep hK (by omega), hC, h.kp.trans hK, h.ne, h.ge⟩
theorem Rg.alloc {n : Nat} {W X : World} {zb rb g1 g2 g3 : Nat} {Z R P Q S : Array Value} (h : Rg n W X zb rb g1 g2 g3 Z R P Q S) (o : Obj) : Rg n W (X.alloc o) zb rb g1 g2 g3 Z R P Q S :=
  ⟨h.z.alloc o, h.k.alloc o, h.p.alloc o, h.q.alloc o, h.s.alloc o, h.u.alloc o, h.kp.alloc (Nat.le_of_lt h.u.lt) o, h.ne, h.ge⟩
theorem Rg.drew {n : Nat} {W X : World} {zb rb g1 g2 g3 : Nat} {Z R P Q S : Array Value} (h : Rg n W X zb rb g1 g2 g3 Z R P Q S) : Rg n W X.drew zb rb g1 g2 g3 Z R P Q S :=
  ⟨h.z, h.k, h.p, h.q, h.s, h.u, h.kp.drew, h.ne, h.ge⟩
theorem Rg.setR {n : Nat} {W X : World} {zb rb g1 g2 g3 : Nat} {Z R P Q S : Array Value} (h : Rg n W X zb rb g1 g2 g3 Z R P Q S) (o : Nat) (v : Value) : Rg n W (X.setCell ⟨rb, o, none⟩ v) zb rb g1 g2 g3 Z (R.setIfInBounds o v) P Q S := by
  have e := h.ge
  have d := h.ne
  exact ⟨h.z.other (by omega) _ _, h.k.set _ _, h.p.other (by omega) _ _, h.q.other (by omega) _ _, h.s.other (by omega) _ _, h.u.set (by dsimp only; omega) _, h.kp.setNew (by dsimp only; omega) (by dsimp only; omega) _, h.ne, h.ge⟩
theorem Rg.setP {n : Nat} {W X : World} {zb rb g1 g2 g3 : Nat} {Z R P Q S : Array Value} (h : Rg n W X zb rb g1 g2 g3 Z R P Q S) (o : Nat) (v : Value) : Rg n W (X.setCell ⟨g1, o, none⟩ v) zb rb g1 g2 g3 Z R (P.setIfInBounds o v) Q S := by
  have e := h.ge
  have d := h.ne
  exact ⟨h.z.other (by omega) _ _, h.k.other (by omega) _ _, h.p.set _ _, h.q.other (by omega) _ _, h.s.other (by omega) _ _, h.u.set (by dsimp only; omega) _, h.kp.setNew (by dsimp only; omega) (by dsimp only; omega) _, h.ne, h.ge⟩
theorem Rg.setQ {n : Nat} {W X : World} {zb rb g1 g2 g3 : Nat} {Z R P Q S : Array Value} (h : Rg n W X zb rb g1 g2 g3 Z R P Q S) (o : Nat) (v : Value) : Rg n W (X.setCell ⟨g2, o, none⟩ v) zb rb g1 g2 g3 Z R P (Q.setIfInBounds o v) S := by
  have e := h.ge
  have d := h.ne
  exact ⟨h.z.other (by omega) _ _, h.k.other (by omega) _ _, h.p.other (by omega) _ _, h.q.set _ _, h.s.other (by omega) _ _, h.u.set (by dsimp only; omega) _, h.kp.setNew (by dsimp only; omega) (by dsimp only; omega) _, h.ne, h.ge⟩
theorem Rg.setS {n : Nat} {W X : World} {zb rb g1 g2 g3 : Nat} {Z R P Q S : Array Value} (h : Rg n W X zb rb g1 g2 g3 Z R P Q S) (o : Nat) (v : Value) : Rg n W (X.setCell ⟨g3, o, none⟩ v) zb rb g1 g2 g3 Z R P Q (S.setIfInBounds o v) := by
  have e := h.ge
  have d := h.ne
  exact ⟨h.z.other (by omega) _ _, h.k.other (by omega) _ _, h.p.other (by omega) _ _, h.q.other (by omega) _ _, h.s.set _ _, h.u.set (by dsimp only; omega) _, h.kp.setNew (by dsimp only; omega) (by dsimp only; omega) _, h.ne, h.ge⟩
theorem Rg.setZ {n : Nat} {W X : World} {zb rb g1 g2 g3 : Nat} {Z R P Q S : Array Value} (h : Rg n W X zb rb g1 g2 g3 Z R P Q S) (o : Nat) (v : Value) : Rg n W (X.setCell ⟨zb, o, none⟩ v) zb rb g1 g2 g3 (Z.setIfInBounds o v) R P Q S := by
  have e := h.ge
  have d := h.ne
  exact ⟨h.z.set _ _, h.k.other (by omega) _ _, h.p.other (by omega) _ _, h.q.other (by omega) _ _, h.s.other (by omega) _ _, h.u.set (by dsimp only; omega) _, h.kp.setNew (by dsimp only; omega) (by dsimp only; omega) _, h.ne, h.ge⟩
/-- what a draw of a Reg leaves. -/
def Rgd (n : Nat) (w : World) (e : Ending) (w' : World) : Prop :=
  ∃ (p1 p2 : Nat) (s3 : Option Addr) (c1 c2 c3 : Nat) (A B C : List (ByteArray × Int)), e = .returned (.agg #[.slice (some ⟨p1, 0, none⟩) A.length c1, .slice (some ⟨p2, 0, none⟩) B.length c2, .slice s3 C.length c3]) ∧
    Decls w' (some ⟨p1, 0, none⟩) A ∧ Decls w' (some ⟨p2, 0, none⟩) B ∧ Decls w' s3 C ∧ (Nms A ∧ Nms B ∧ Nms C) ∧ (A.length ≤ 20 ∧ B.length ≤ 20 ∧ C.length ≤ 20) ∧ (w.heap.size ≤ p1 ∧ w.heap.size ≤ p2 ∧ ∀ p3, s3 = some ⟨p3, 0, none⟩ → w.heap.size ≤ p3) ∧ ((s3 = none ∧ c3 = 0 ∧ C = []) ∨ ∃ p3, s3 = some ⟨p3, 0, none⟩) ∧ Keep n w w' ∧ Cur n w'
theorem Rg.leaves {n : Nat} {W X : World} {zb rb g1 g2 g3 c1 c2 c3 m1 m2 m3 l1 l2 l3 : Nat} {Z R P Q S : Array Value} (h : Rg n W X zb rb g1 g2 g3 Z R P Q S) (hP : DArr P m1) (hQ : DArr Q m2) (hS : DArr S m3) (e1 : l1 ≤ m1) (e2 : l2 ≤ m2) (e3 : l3 ≤ m3) (b : m1 ≤ 20 ∧ m2 ≤ 20 ∧ m3 ≤ 20) : Rgd n W (.returned (.agg #[.slice (some ⟨g1, 0, none⟩) l1 c1, .slice (some ⟨g2, 0, none⟩) l2 c2, .slice (some ⟨g3, 0, none⟩) l3 c3])) X := by
  obtain ⟨A, rfl, nA, dA⟩ := hP.reads h.p e1
  obtain ⟨B, rfl, nB, dB⟩ := hQ.reads h.q e2
  obtain ⟨C, rfl, nC, dC⟩ := hS.reads h.s e3
  exact ⟨g1, g2, some ⟨g3, 0, none⟩, c1, c2, c3, A, B, C, rfl, dA, dB, dC, ⟨nA, nB, nC⟩, by omega, ⟨h.ge.2.2.1, h.ge.2.2.2.1, fun p3 e => by cases e; exact h.ge.2.2.2.2.1⟩, Or.inr ⟨g3, rfl⟩, h.kp, h.u⟩
theorem Rg.leaves0 {n : Nat} {W X : World} {zb rb g1 g2 g3 c1 c2 m1 m2 l1 l2 : Nat} {Z R P Q S : Array Value} (h : Rg n W X zb rb g1 g2 g3 Z R P Q S) (hP : DArr P m1) (hQ : DArr Q m2) (e1 : l1 ≤ m1) (e2 : l2 ≤ m2) (b : m1 ≤ 20 ∧ m2 ≤ 20) : Rgd n W (.returned (.agg #[.slice (some ⟨g1, 0, none⟩) l1 c1, .slice (some ⟨g2, 0, none⟩) l2 c2, .slice none 0 0])) X := by
  obtain ⟨A, rfl, nA, dA⟩ := hP.reads h.p e1
  obtain ⟨B, rfl, nB, dB⟩ := hQ.reads h.q e2
  exact ⟨g1, g2, none, c1, c2, 0, A, B, [], rfl, dA, dB, Or.inl rfl, ⟨nA, nB, fun p hp => by simp at hp⟩, by simp; omega, ⟨h.ge.2.2.1, h.ge.2.2.2.1, fun p3 e => by cases e⟩, Or.inl ⟨rfl, rfl, rfl⟩, h.kp, h.u⟩
end Go.Proofs.Ytpfamdpgcbpiaaa
