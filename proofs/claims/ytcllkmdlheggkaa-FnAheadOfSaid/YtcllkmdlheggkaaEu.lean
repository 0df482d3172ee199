import Derived.Test.YtcllkmdlheggkaaEt
namespace Go.Proofs.Ytcllkmdlheggkaa
open Go.RowKit
set_option linter.unusedVariables false

def Apart (v u : Value) : Prop := ∀ k, v.ownBlock = some k → ¬ u.ownBlock = some k

theorem copyInts_is (pb po c : Nat) (G : List Int) (w : World) (hG : Ints w (some ⟨pb, po, none⟩) G) (hl : G.length ≤ 1048576) :
    Calls Try.prog 55 #[.slice (some ⟨pb, po, none⟩) G.length c] w fun e w' => ∃ s c, e = .returned (.slice s G.length c) ∧ VRow w' w.heap.size (.slice s G.length c) G ∧ Below w.heap.size w w' := by
  refine (copyInts_any pb po c G w hG hl).mono ?_
  rintro e w' ⟨v, rfl, hv, hb⟩
  obtain ⟨s, c', rfl, _⟩ := hv.slice
  exact ⟨s, c', rfl, hv, hb⟩

theorem VRow.kept {w w' : World} {B : Nat} {v : Value} {G : List Int} {r : Option Nat} (h : VRow w B v G) (hg : w.grownBy w' r) (hn : ∀ k, v.ownBlock = some k → ¬ r = some k) : VRow w' B v G := by
  refine World.ownsRow.kept h hg ?_
  cases hv : v.ownBlock with
  | none => exact Or.inl rfl
  | some k => exact Or.inr (fun e => hn k hv e.symm)
theorem grown_setCell (w : World) (n o : Nat) (u : Value) : w.grownBy (w.setCell ⟨n, o, none⟩ u) (some n) :=
  ⟨rfl, rfl, rfl, by simp, fun k _ hk => heap_setCell_other w ⟨n, o, none⟩ k u (fun e => hk (by simp [e]))⟩
theorem VRow.other {w : World} {B : Nat} {v : Value} {G : List Int} (h : VRow w B v G) {n : Nat} (hn : ¬ v.ownBlock = some n) (o : Nat) (u : Value) : VRow (w.setCell ⟨n, o, none⟩ u) B v G :=
  h.kept (grown_setCell w n o u) (fun k hk e => hn (by rw [hk]; exact e.symm))

set_option maxHeartbeats 4000000 in
theorem copyEnts_any (p1 q1 c1 p2 q2 c2 : Nat) (G F : List Int) (w : World) (h1 : Ints w (some ⟨p1, q1, none⟩) G) (h2 : Ints w (some ⟨p2, q2, none⟩) F) (l1 : G.length ≤ 1048576) (l2 : F.length ≤ 1048576) :
    Calls Try.prog 32 #[.agg #[.slice (some ⟨p1, q1, none⟩) G.length c1, .slice (some ⟨p2, q2, none⟩) F.length c2]] w fun e w' => ∃ s c t d, e = .returned (.agg #[.slice s G.length c, .slice t F.length d]) ∧
      VRow w' w.heap.size (.slice s G.length c) G ∧ VRow w' w.heap.size (.slice t F.length d) F ∧ Apart (.slice s G.length c) (.slice t F.length d) ∧ Below w.heap.size w w' := by
  have hal := alloc_old
  have haf := alloc_oldf
  obtain ⟨K, J⟩ := blk2 w #[.slice (some ⟨p1, q1, none⟩) G.length c1, .slice (some ⟨p2, q2, none⟩) F.length c2] #[.slice none 0 0, .slice none 0 0] 26 26
  go_enter Try.func32, Try.ntmps32
  go_wp2_with fail
  obtain ⟨W, hW⟩ : ∃ W, W = ((w.alloc (.cells #[.slice (some ⟨p1, q1, none⟩) G.length c1, .slice (some ⟨p2, q2, none⟩) F.length c2] 26)).alloc (.cells #[.slice none 0 0, .slice none 0 0] 26)) := ⟨_, rfl⟩
  have L0 : Below w.heap.size w W := by rw [hW]; (repeat (first | with_reducible exact Below.refl _ _ | with_reducible refine bl_alloc ?_ _ | with_reducible refine bl_drewN ?_ _ | with_reducible refine bl_drew ?_ | with_reducible refine bl_setCell ?_ (by first | exact Nat.le_refl _ | (dsimp only; omega) | (simp <;> omega)) _ | with_reducible refine bl_trans ?_ (by with_reducible assumption)))
  have sW : W.heap.size = w.heap.size + 2 := by rw [hW]; simp
  rw [← hW] at K J ⊢
  clear hW
  have K : Blk W.drew w.heap.size #[.slice (some ⟨p1, q1, none⟩) G.length c1, .slice (some ⟨p2, q2, none⟩) F.length c2] 26 := K
  have J : Blk W.drew (w.heap.size + 1) #[.slice none 0 0, .slice none 0 0] 26 := J
  have L := bl_drew L0
  have dW : W.drew.heap.size = W.heap.size := rfl
  have M : Below W.heap.size W W.drew := bl_drew (Below.refl _ _)
  obtain ⟨x0, x1, x2⟩ := K.two
  obtain ⟨y0, y1, y2⟩ := J.two
  go_region_with (first
    | (go_at_call_of 55 (Value.slice (some ⟨p1, q1, none⟩) G.length c1); refine (copyInts_is p1 q1 c1 G _ (h1.later L) l1).mono ?_; rintro e w3 ⟨s, c, rfl, hv1, hb⟩; have hs3 := hb.size; have L := bl_trans L hb; have M := bl_trans M hb; have K := K.later hb; have J := J.later hb; obtain ⟨x0, x1, x2⟩ := K.two; obtain ⟨y0, y1, y2⟩ := J.two)
    | (go_at_call_of 55 (Value.slice (some ⟨p2, q2, none⟩) F.length c2); refine (copyInts_is p2 q2 c2 F _ (h2.later L) l2).mono ?_; rintro e w4 ⟨t, d, rfl, hv2, hb⟩; have L := bl_trans L hb; have M := bl_trans M hb; have K := K.later hb; have J := J.later hb; obtain ⟨x0, x1, x2⟩ := K.two; obtain ⟨y0, y1, y2⟩ := J.two; have hv1lt := (id hv1).lt; have hv1 := (id hv1).later hb))
  all_goals
    have a1 := hv1.lt
    have a2 := hv2.lt
    have hsz := hv1lt
    have m3 := hb.size
    have mM := M.size
    go_wp2_with fail
    refine bodyPost_ret (v := .agg #[.slice s G.length c, .slice t F.length d]) (by simp [results, Try.results32, go_sem, y0, y1]) rfl ⟨s, c, t, d, rfl, ?_, ?_, ?_, ?_⟩
    · exact ((hv1.mono (by omega)).other (fun e => by have := (a1 _ e).1; omega) _ _).other (fun e => by have := (a1 _ e).1; omega) _ _
    · exact ((hv2.mono (by have := L0.size; omega)).other (fun e => by have := (a2 _ e).1; omega) _ _).other (fun e => by have := (a2 _ e).1; omega) _ _
    · intro k hk1 hk2
      have := (hsz k hk1).2
      have := (a2 k hk2).1
      omega
    · (repeat (first | with_reducible exact Below.refl _ _ | with_reducible refine bl_alloc ?_ _ | with_reducible refine bl_drewN ?_ _ | with_reducible refine bl_drew ?_ | with_reducible refine bl_setCell ?_ (by first | exact Nat.le_refl _ | (dsimp only; omega) | (simp <;> omega)) _ | with_reducible refine bl_trans ?_ (by with_reducible assumption)))
end Go.Proofs.Ytcllkmdlheggkaa
