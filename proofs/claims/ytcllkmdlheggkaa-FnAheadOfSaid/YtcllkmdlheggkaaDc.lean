import Derived.Test.YtcllkmdlheggkaaDa
import Derived.Test.YtcllkmdlheggkaaDb
import Derived.Test.YtcllkmdlheggkaaGc
import Derived.Test.YtcllkmdlheggkaaGd
namespace Go.Proofs.Ytcllkmdlheggkaa
open Go.RowKit
set_option linter.unusedVariables false
set_option linter.unusedSimpArgs false

theorem okE_iff (G F : List Int) : okE G F = true ↔ G.length ≤ 2000 ∧ (∀ g ∈ G, 0 ≤ g ∧ g ≤ 1000000) ∧ (∀ f ∈ F, 0 ≤ f ∧ f < G.length) ∧ F.Nodup := by simp [okE]
theorem okE_push {G : List Int} (h : okE G [] = true) (hl : G.length < 2000) : okE (G ++ [0]) [] = true := by
  rw [okE_iff] at h ⊢
  refine ⟨by simp; omega, ?_, by simp, by simp⟩
  intro g hg
  rw [List.mem_append] at hg
  rcases hg with hg | hg
  · exact h.2.1 g hg
  · simp at hg; omega
theorem nodup_dropLast {F : List Int} (h : F.Nodup) : F.dropLast.Nodup := h.sublist (List.dropLast_sublist F)
/-- a take keeps right things right. -/
theorem okE_take1 {G F : List Int} (h : okE G F = true) : okE (take1 G F).1 (take1 G F).2.1 = true := by
  have h0 := h
  rw [okE_iff] at h
  unfold take1
  split
  · show okE G F.dropLast = true
    rw [okE_iff]
    exact ⟨h.1, h.2.1, fun f hf => h.2.2.1 f ((List.dropLast_sublist F).subset hf), nodup_dropLast h.2.2.2⟩
  · rename_i hF
    have e : F = [] := List.length_eq_zero_iff.1 (by omega)
    split
    · exact h0
    · subst e
      exact okE_push h0 (by omega)
theorem take1_at {G F : List Int} (h : okE G F = true) (hc : (take1 G F).2.2.2 = 0) : ∃ q : Nat, (take1 G F).2.2.1.1 = (q : Int) ∧ q < (take1 G F).1.length := by
  rw [okE_iff] at h
  unfold take1 at hc ⊢
  split
  · rename_i hF
    have := h.2.2.1 (F.getLastD 0) (by rw [← last_eq hF]; exact getD_mem (by omega))
    exact ⟨(F.getLastD 0).toNat, by show F.getLastD 0 = _; omega, by show _ < G.length; omega⟩
  · rename_i hF
    rw [if_neg hF] at hc
    split
    · rename_i hG
      rw [if_pos hG] at hc
      simp at hc
    · exact ⟨G.length, rfl, by simp⟩
theorem okE_set {G F : List Int} (h : okE G F = true) (q : Nat) (x : Int) (hx : 0 ≤ x ∧ x ≤ 1000000) : okE (G.set q x) F = true := by
  rw [okE_iff] at h ⊢
  refine ⟨by simp; exact h.1, ?_, by simpa using h.2.2.1, h.2.2.2⟩
  intro g hg
  rcases List.mem_or_eq_of_mem_set hg with hg | hg
  · exact h.2.1 g hg
  · subst hg; exact hx
theorem ng_in {g : Int} (h : 0 ≤ g ∧ g ≤ 1000000) : 0 ≤ ng g ∧ ng g ≤ 1000000 := by unfold ng; split <;> omega
/-- a give keeps right things right. -/
theorem okE_give {G F : List Int} {q : Nat} {x : Int} (h : okE G F = true) (hq : q < G.length) (hn : ¬ (q : Int) ∈ F) (hx : 0 ≤ x ∧ x ≤ 1000000) : okE (G.set q (ng x)) (F ++ [(q : Int)]) = true := by
  have h1 := okE_set h q (ng x) (ng_in hx)
  rw [okE_iff] at h h1 ⊢
  refine ⟨h1.1, h1.2.1, ?_, ?_⟩
  · intro f hf
    rw [List.mem_append] at hf
    rcases hf with hf | hf
    · exact h1.2.2.1 f hf
    · simp at hf; subst hf; simp; omega
  · rw [List.nodup_append]
    refine ⟨h.2.2.2, by simp, ?_⟩
    intro a ha b hb e
    simp at hb
    subst hb e
    exact hn ha

theorem last_inE {G F : List Int} (h : okE G F = true) (hF : 0 < F.length) : ∃ q : Nat, F.getLastD 0 = (q : Int) ∧ q < G.length := by
  rw [okE_iff] at h
  have := h.2.2.1 (F.getLastD 0) (by rw [← last_eq hF]; exact getD_mem (by omega))
  exact ⟨(F.getLastD 0).toNat, by omega, by omega⟩
theorem take1_code (G F : List Int) : (take1 G F).2.2.2 = 0 ∨ (take1 G F).2.2.2 = 3 := by
  unfold take1; split
  · exact Or.inl rfl
  · split
    · exact Or.inr rfl
    · exact Or.inl rfl
theorem l2Take_all2 (B g0 c0 f0 d0 : Nat) (G F : List Int) (O : List Int × List Int × (Int × Int) × Int) (w : World) (h1 : VRow w B (.slice (some ⟨g0, 0, none⟩) G.length c0) G) (h2 : VRow w B (.slice (some ⟨f0, 0, none⟩) F.length d0) F) (hne : ¬ g0 = f0)
    (hin : 0 < F.length → ∃ q : Nat, F.getLastD 0 = (q : Int) ∧ q < G.length) (l1 : G.length ≤ 1048576) (l2 : F.length ≤ 1048576) (hB : B ≤ w.heap.size) (hO : take1 G F = O) :
    Calls Try.prog 37 #[.agg #[.slice (some ⟨g0, 0, none⟩) G.length c0, .slice (some ⟨f0, 0, none⟩) F.length d0]] w fun e w' => Took O B g0 w e w' ∧ (O.2.2.2 = 3 → Below w.heap.size w w') := by
  subst hO
  by_cases hF : 0 < F.length
  · refine (l2Take_all B g0 c0 f0 d0 G F w h1 h2 hne hin l1 l2 hB).mono ?_
    intro e w' h
    refine ⟨h, fun h3 => ?_⟩
    simp [take1, if_pos hF] at h3
  · by_cases hG : 2000 ≤ G.length
    · clear hin
      refine (l2Take_full' g0 c0 f0 d0 G F w hF hG l1).mono ?_
      rintro e w' ⟨rfl, hb⟩
      rw [show take1 G F = (G, F, (0, 0), 3) by simp only [take1, if_neg hF, if_pos hG]]
      exact ⟨⟨g0, c0, f0, d0, rfl, h1.later hb, h2.later hb, hne, grown1_below hb⟩, fun _ => hb⟩
    · refine (l2Take_all B g0 c0 f0 d0 G F w h1 h2 hne hin l1 l2 hB).mono ?_
      intro e w' h
      refine ⟨h, fun h3 => ?_⟩
      simp [take1, if_neg hF, if_neg hG] at h3

theorem Th.blkv {w : World} {B b g c f d : Nat} {G F : List Int} (h : Th w B b g c f d G F) : ¬ g = b ∧ ¬ f = b := by
  refine ⟨fun e => ?_, fun e => ?_⟩
  · exact (h.v.apartBox h.k (by decide)) (by simp [Value.ownBlock, e])
  · exact (h.u.apartBox h.k (by decide)) (by simp [Value.ownBlock, e])

/-- a draw under way: the cursor, the result's empty box, the things in their box. -/
structure Dr (n : Nat) (W w : World) (r b g c f d : Nat) (G F : List Int) : Prop where
  t : Th w W.heap.size b g c f d G F
  u : Cur n w
  k : Keep n W w
  l : n < W.heap.size
  bb : W.heap.size ≤ b
  rr : Blk w r #[.slice none 0 0, .slice none 0 0] 26
  ss : W.heap.size ≤ r
  ee : ¬ r = b
theorem Dr.ge {n : Nat} {W w : World} {r b g c f d : Nat} {G F : List Int} (h : Dr n W w r b g c f d G F) : W.heap.size ≤ g ∧ W.heap.size ≤ f ∧ ¬ g = f ∧ ¬ g = b ∧ ¬ f = b ∧ ¬ g = r ∧ ¬ f = r := by
  refine ⟨h.t.v.ge.1, h.t.u.ge.1, h.t.n, h.t.blkv.1, h.t.blkv.2, fun e => ?_, fun e => ?_⟩
  · exact (h.t.v.apartBox h.rr (by decide)) (by simp [Value.ownBlock, e])
  · exact (h.t.u.apartBox h.rr (by decide)) (by simp [Value.ownBlock, e])
theorem Dr.keep {n : Nat} {W w w' : World} {r b g c f d : Nat} {G F : List Int} (h : Dr n W w r b g c f d G F) (hK : Keep n w w') (hC : Cur n w') : Dr n W w' r b g c f d G F := by
  have hg := h.ge
  have hl := h.l
  have hb := h.bb
  have hs := h.ss
  exact ⟨h.t.kept hK.grown (by simp; omega) (by simp; omega) (by simp; omega), hC, h.k.trans hK, h.l, h.bb, h.rr.keep hK (by omega), h.ss, h.ee⟩
theorem Dr.below {n : Nat} {W w w' : World} {r b g c f d : Nat} {G F : List Int} (h : Dr n W w r b g c f d G F) (hb : Below w.heap.size w w') : Dr n W w' r b g c f d G F :=
  h.keep (Keep.of_below hb (Nat.le_of_lt h.u.lt)) (h.u.below (hb.mono h.u.lt))
theorem Dr.alloc {n : Nat} {W w : World} {r b g c f d : Nat} {G F : List Int} (h : Dr n W w r b g c f d G F) (o : Obj) : Dr n W (w.alloc o) r b g c f d G F := h.below (bl_alloc (Below.refl _ w) o)
theorem Dr.drew {n : Nat} {W w : World} {r b g c f d : Nat} {G F : List Int} (h : Dr n W w r b g c f d G F) : Dr n W w.drew r b g c f d G F := h.below (bl_drew (Below.refl _ w))
/-- a step that turned one old block beside the boxes, and left the things' rows as told. -/
theorem Dr.turn {n : Nat} {W w w' : World} {r b g c f d : Nat} {G F : List Int} (h : Dr n W w r b g c f d G F) {k : Nat} (hg : w.grownBy w' (some k)) (hk : W.heap.size ≤ k) (h1 : ¬ k = b) (h2 : ¬ k = r) :
    Cur n w' ∧ Keep n W w' ∧ Blk w' b #[.slice (some ⟨g, 0, none⟩) G.length c, .slice (some ⟨f, 0, none⟩) F.length d] 26 ∧ Blk w' r #[.slice none 0 0, .slice none 0 0] 26 := by
  have hl := h.l
  exact ⟨h.u.grown hg (by omega), h.k.of_grown hg hk (Nat.le_of_lt h.l), h.t.k.kept' hg (by simp; exact h1), h.rr.kept' hg (by simp; exact h2)⟩
/-- the box is given other things. -/
theorem Dr.put {n : Nat} {W w : World} {r b : Nat} {A : Array Value} {g c f d : Nat} {G F : List Int} (hk : Blk w b A 26) (hA : A.size = 2) (hv : VRow w W.heap.size (.slice (some ⟨g, 0, none⟩) G.length c) G) (hu : VRow w W.heap.size (.slice (some ⟨f, 0, none⟩) F.length d) F) (hn : ¬ g = f)
    (hC : Cur n w) (hK : Keep n W w) (hl : n < W.heap.size) (hb : W.heap.size ≤ b) (hr : Blk w r #[.slice none 0 0, .slice none 0 0] 26) (hs : W.heap.size ≤ r) (he : ¬ r = b) :
    Dr n W ((w.setCell ⟨b, 0, none⟩ (.slice (some ⟨g, 0, none⟩) G.length c)).setCell ⟨b, 1, none⟩ (.slice (some ⟨f, 0, none⟩) F.length d)) r b g c f d G F := by
  have a1 := hv.apartBox hk (by decide)
  have a2 := hu.apartBox hk (by decide)
  refine ⟨⟨?_, (hv.other a1 0 _).other a1 1 _, (hu.other a2 0 _).other a2 1 _, hn⟩, (hC.set (by dsimp only; omega) _).set (by dsimp only; omega) _, ?_, hl, hb, (hr.other he 0 _).other he 1 _, hs, he⟩
  · have := (hk.set 0 (.slice (some ⟨g, 0, none⟩) G.length c)).set 1 (.slice (some ⟨f, 0, none⟩) F.length d)
    match A, hA with
    | ⟨[x, y]⟩, _ => exact this
  · exact (hK.setNew hb (by dsimp only; omega) _).setNew hb (by dsimp only; omega) _
theorem Cur.fr {n g f : Nat} {a b : World} (h : Cur n a) (hf : Fr g f a b) (h1 : n < g) (h2 : n < f) : Cur n b := h.below (hf.below h1 h2 h.lt)
theorem Keep.of_fr {n g f : Nat} {W a b : World} (hW : Keep n W a) (h : Fr g f a b) (hg : W.heap.size ≤ g) (hf : W.heap.size ≤ f) (hn : n ≤ W.heap.size) : Keep n W b :=
  ⟨⟨h.os.trans hW.1.os, h.tape.trans hW.1.tape, h.output.trans hW.1.output, Nat.le_trans hW.1.size h.size, fun k hk => (h.block k (by have := hW.1.size; omega) (by omega) (by omega)).trans (hW.1.block k hk)⟩,
   fun k h1 h2 => (h.block k (by have := hW.1.size; omega) (by omega) (by omega)).trans (hW.2 k h1 h2)⟩
theorem Dr.setG {n : Nat} {W w : World} {r b g c f d : Nat} {G F : List Int} (D : Dr n W w r b g c f d G F) (q : Nat) (x : Int) : Dr n W (w.setCell ⟨g, q, none⟩ (.int .i64 x)) r b g c f d (G.set q x) F := by
  have e := D.ge
  have hl := D.l
  have hv := D.t.v.setv q x
  refine ⟨⟨?_, ?_, D.t.u.other (by simp [Value.ownBlock]; omega) _ _, D.t.n⟩, D.u.set (by dsimp only; omega) _, D.k.setNew (by dsimp only; omega) (by dsimp only; omega) _, D.l, D.bb, D.rr.other (by omega) _ _, D.ss, D.ee⟩
  · rw [List.length_set]; exact D.t.k.other (by omega) _ _
  · rw [List.length_set]; exact hv
end Go.Proofs.Ytcllkmdlheggkaa
