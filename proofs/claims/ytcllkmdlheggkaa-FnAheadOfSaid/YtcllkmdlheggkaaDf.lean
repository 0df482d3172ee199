import Derived.Test.YtcllkmdlheggkaaDe
namespace Go.Proofs.Ytcllkmdlheggkaa
open Go.RowKit
set_option linter.unusedVariables false
set_option linter.unusedSimpArgs false

theorem Drawn.imp {P Q : List Int → List Int → Prop} {n : Nat} {W : World} {e : Ending} {w' : World} (h : Drawn P n W e w') (hpq : ∀ G F, P G F → Q G F) : Drawn Q n W e w' := by
  obtain ⟨g, c, f, d, G, F, h1, h2, h3, h4, h5, h6, h7⟩ := h
  exact ⟨g, c, f, d, G, F, h1, h2, h3, h4, hpq G F h5, h6, h7⟩

set_option maxRecDepth 100000 in
set_option maxHeartbeats 4000000 in
theorem l2Some_any (n : Nat) (sl : Option Addr) (len cap : Nat) (W : World) (hC : Cur n W) (hl : len ≤ 1048576) :
    Calls Try.prog 31 #[.pointer (some ⟨n, 0, none⟩), .slice sl len cap] W fun e w' => Drawn (fun G F => G.length ≤ 3000 ∧ F.length ≤ 3000) n W e w' := by
  have hal := alloc_old
  have haf := alloc_oldf
  have hn := hC.lt
  have R0 := Blk.new W #[.slice none 0 0, .slice none 0 0] 26
  have C0 := hC.alloc (.cells #[.slice none 0 0, .slice none 0 0] 26)
  have K0 : Keep n W (W.alloc (.cells #[.slice none 0 0, .slice none 0 0] 26)) := (Keep.refl n W).alloc (Nat.le_of_lt hn) _
  go_enter Try.func31, Try.ntmps31
  go_wp2_with fail
  refine (l1Size_any sl len cap _ hl).mono ?_
  rintro e w0 ⟨⟨size, rfl, hsz⟩, rfl⟩
  go_wp2_with fail
  refine (l2Ents_any n size _ C0 hsz).mono ?_
  rintro e w1 ⟨g, c, f, d, G, F, rfl, v1, v2, hne, hok, K1, C1⟩
  obtain ⟨hg, hf, _⟩ := okE_parts hok
  have e1 := v1.ge
  have e2 := v2.ge
  simp only [World.size_alloc] at e1 e2
  have n1 := K1.1.size
  simp only [World.size_alloc] at n1
  have D : Dr n W (w1.alloc (.cells #[.slice (some ⟨g, 0, none⟩) G.length c, .slice (some ⟨f, 0, none⟩) F.length d] 26)) W.heap.size w1.heap.size g c f d G F :=
    ⟨⟨Blk.new _ _ _, (v1.mono (by simp)).alloc _, (v2.mono (by simp)).alloc _, hne⟩, C1.alloc _, (K0.trans K1).alloc (by omega) _, hn, by omega, (R0.keep K1 (by omega)).alloc _, Nat.le_refl _, by omega⟩
  have KA := K1.alloc (by omega) (.cells #[.slice (some ⟨g, 0, none⟩) G.length c, .slice (some ⟨f, 0, none⟩) F.length d] 26)
  have VA1 := v1.alloc (.cells #[.slice (some ⟨g, 0, none⟩) G.length c, .slice (some ⟨f, 0, none⟩) F.length d] 26)
  have VA2 := v2.alloc (.cells #[.slice (some ⟨g, 0, none⟩) G.length c, .slice (some ⟨f, 0, none⟩) F.length d] 26)
  clear v1 v2 K1 C1 C0 hC hok
  go_upto_region 2 with fail
  generalize hX : w1.alloc (.cells #[.slice (some ⟨g, 0, none⟩) G.length c, .slice (some ⟨f, 0, none⟩) F.length d] 26) = X at D KA VA1 VA2 ⊢
  generalize hb0 : w1.heap.size = b at D ⊢
  clear hX
  go_upto_if 11 with (go_at_call 53; refine (l1Once_any n 5 _ D.u (by omega)).mono ?_; rintro e w2 ⟨b5, rfl, hK2, hC2⟩)
  have D2 := D.keep hK2 hC2
  have KA := KA.trans hK2
  have VA1 := VA1.kept hK2.grown (fun k hk e' => by simp [Value.ownBlock] at hk e'; omega)
  have VA2 := VA2.kept hK2.grown (fun k hk e' => by simp [Value.ownBlock] at hk e'; omega)
  have e := D2.ge
  have eb := D2.bb
  have ee := D2.ee
  clear D hK2 hC2
  obtain ⟨x0, x1, x2⟩ := D2.t.k.two
  obtain ⟨y0, y1, y2⟩ := D2.rr.two
  cases b5
  · go_wp2_with fail
    refine bodyPost_ret (v := .agg #[.slice (some ⟨g, 0, none⟩) G.length c, .slice (some ⟨f, 0, none⟩) F.length d]) (by simp [results, Try.results31, go_sem, y0, y1]) rfl ⟨g, c, f, d, G, F, rfl, ?_, ?_, D2.t.n, ⟨by omega, by omega⟩, ?_, ?_⟩
    · exact (D2.t.v.other (by simp [Value.ownBlock]; omega) _ _).other (by simp [Value.ownBlock]; omega) _ _
    · exact (D2.t.u.other (by simp [Value.ownBlock]; omega) _ _).other (by simp [Value.ownBlock]; omega) _ _
    · exact (D2.k.setNew (by dsimp only; omega) (by dsimp only; omega) _).setNew (by dsimp only; omega) (by dsimp only; omega) _
    · exact (D2.u.set (by dsimp only; omega) _).set (by dsimp only; omega) _
  · go_wp2_with fail
    refine (l2Spoilt_any n (W.alloc (.cells #[.slice none 0 0, .slice none 0 0] 26)) _ g c f d G F D2.u KA (by simp; omega) VA1 VA2 D2.t.n (by omega) (by omega)).mono ?_
    rintro e' w3 ⟨g3, c3, f3, d3, G3, F3, rfl, v1, v2, hne3, hl3, K3, C3⟩
    have R3 := R0.keep K3 (by omega)
    have K4 := K0.trans K3
    have a1 := v1.ge
    have a2 := v2.ge
    simp only [World.size_alloc] at a1 a2
    clear y0 y1 y2 x0 x1 x2 D2 VA1 VA2 KA
    obtain ⟨y0, y1, y2⟩ := R3.two
    go_wp2_with fail
    refine bodyPost_ret (v := .agg #[.slice (some ⟨g3, 0, none⟩) G3.length c3, .slice (some ⟨f3, 0, none⟩) F3.length d3]) (by simp [results, Try.results31, go_sem, y0, y1]) rfl ⟨g3, c3, f3, d3, G3, F3, rfl, ?_, ?_, hne3, hl3, ?_, ?_⟩
    · exact ((v1.mono (by simp)).other (by simp [Value.ownBlock]; omega) _ _).other (by simp [Value.ownBlock]; omega) _ _
    · exact ((v2.mono (by simp)).other (by simp [Value.ownBlock]; omega) _ _).other (by simp [Value.ownBlock]; omega) _ _
    · exact (K4.setNew (by dsimp only; omega) (by dsimp only; omega) _).setNew (by dsimp only; omega) (by dsimp only; omega) _
    · exact (C3.set (by dsimp only; omega) _).set (by dsimp only; omega) _

/-- what a law is given of a draw of things: new memory, nothing old turned. -/
def Given (W : World) (g c f d : Nat) (G F : List Int) (w : World) : Prop :=
  VRow w W.heap.size (.slice (some ⟨g, 0, none⟩) G.length c) G ∧ VRow w W.heap.size (.slice (some ⟨f, 0, none⟩) F.length d) F ∧ ¬ g = f ∧ (G.length ≤ 3000 ∧ F.length ≤ 3000) ∧ Below W.heap.size W w

theorem Keep.to_below {n : Nat} {W w w' : World} (hW : Below W.heap.size W w) (hn : W.heap.size ≤ n) (h : Keep n w w') : Below W.heap.size W w' := hW.trans (h.1.mono hn)

set_option maxHeartbeats 2000000 in
theorem drawTake_any (sl : Option Addr) (len cap : Nat) (W : World) (hl : len ≤ 1048576) (hC : Code W sl len) :
    Calls Try.prog 8 #[.slice sl len cap] W fun e w' => ∃ g c f d G F, e = .returned (.agg #[.slice (some ⟨g, 0, none⟩) G.length c, .slice (some ⟨f, 0, none⟩) F.length d]) ∧ Given W g c f d G F w' := by
  have hal := alloc_old
  have haf := alloc_oldf
  have R0 := Blk.new W #[.slice none 0 0, .slice none 0 0] 26
  have B0 : Below W.heap.size W (W.alloc (.cells #[.slice none 0 0, .slice none 0 0] 26)) := by (repeat (first | with_reducible exact Below.refl _ _ | with_reducible refine bl_alloc ?_ _ | with_reducible refine bl_drewN ?_ _ | with_reducible refine bl_drew ?_ | with_reducible refine bl_setCell ?_ (by first | exact Nat.le_refl _ | (dsimp only; omega) | (simp <;> omega)) _ | with_reducible refine bl_trans ?_ (by with_reducible assumption)))
  go_enter Try.func8, Try.ntmps8
  go_wp2_with fail
  refine (l1New_any sl len cap _ hl (hC.alloc _)).mono ?_
  rintro e w1 ⟨n, rfl, hn, hb1, C1⟩
  have B1 := bl_trans B0 hb1
  have R1 := R0.later hb1
  simp only [World.size_alloc] at hn
  go_wp2_with fail
  refine (l2Some_any n sl len cap _ C1 hl).mono ?_
  rintro e w2 ⟨g, c, f, d, G, F, rfl, v1, v2, hne, hlen, K2, C2⟩
  have R2 := R1.keep K2 (by omega)
  have B2 := Keep.to_below B1 (by omega) K2
  have a1 := v1.ge
  have a2 := v2.ge
  have s1 := R1.lt
  obtain ⟨y0, y1, y2⟩ := R2.two
  go_wp2_with fail
  refine bodyPost_ret (v := .agg #[.slice (some ⟨g, 0, none⟩) G.length c, .slice (some ⟨f, 0, none⟩) F.length d]) (by simp [results, Try.results8, go_sem, y0, y1]) rfl ⟨g, c, f, d, G, F, rfl, ?_, ?_, hne, hlen, ?_⟩
  · exact ((v1.mono (by omega)).other (by simp [Value.ownBlock]; omega) _ _).other (by simp [Value.ownBlock]; omega) _ _
  · exact ((v2.mono (by omega)).other (by simp [Value.ownBlock]; omega) _ _).other (by simp [Value.ownBlock]; omega) _ _
  · (repeat (first | with_reducible exact Below.refl _ _ | with_reducible refine bl_alloc ?_ _ | with_reducible refine bl_drewN ?_ _ | with_reducible refine bl_drew ?_ | with_reducible refine bl_setCell ?_ (by first | exact Nat.le_refl _ | (dsimp only; omega) | (simp <;> omega)) _ | with_reducible refine bl_trans ?_ (by with_reducible assumption)))
end Go.Proofs.Ytcllkmdlheggkaa
