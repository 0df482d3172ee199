import Derived.Test.YtnockfpobpidgaaGreatSl01
import Derived.Laws.OwnMore
namespace Go.Proofs.YtnockfpobpidgaaGreat
section
open Go.RowKit
def Blk (w : World) (n : Nat) (c : Array Value) (t : TypeId) : Prop := w.heap[n]? = some (.cells c t (0, 0))
theorem Blk.lt {w : World} {n : Nat} {c : Array Value} {t : TypeId} (h : Blk w n c t) : n < w.heap.size := (Array.getElem?_eq_some_iff.1 h).1
theorem Blk.new (w : World) (c : Array Value) (t : TypeId) : Blk (w.alloc (.cells c t)) w.heap.size c t := heap_alloc_new w _
theorem Blk.new' (w : World) (c : Array Value) (t : TypeId) {n : Nat} (h : n = w.heap.size) : Blk (w.alloc (.cells c t)) n c t := by subst h; exact heap_alloc_new w _
theorem Blk.later {w w' : World} {n : Nat} {c : Array Value} {t : TypeId} (h : Blk w n c t) (hb : Below w.heap.size w w') : Blk w' n c t := by
 unfold Blk; rw [hb.block n h.lt]; exact h
theorem Blk.alloc {w : World} {n : Nat} {c : Array Value} {t : TypeId} (h : Blk w n c t) (o : Obj) : Blk (w.alloc o) n c t := h.later (bl_alloc (Below.refl _ w) o)
theorem Blk.set {w : World} {n : Nat} {c : Array Value} {t : TypeId} (h : Blk w n c t) (o : Nat) (u : Value) : Blk (w.setCell ⟨n, o, none⟩ u) n (c.setIfInBounds o u) t := heap_setCell_same w n o c t u h
theorem Blk.other {w : World} {n : Nat} {c : Array Value} {t : TypeId} (h : Blk w n c t) {m : Nat} (hm : ¬ n = m) (o : Nat) (u : Value) : Blk (w.setCell ⟨m, o, none⟩ u) n c t := by
 unfold Blk; rw [heap_setCell_other w ⟨m, o, none⟩ n u (fun e => hm (by simpa using e))]; exact h
theorem Blk.cell {w : World} {n : Nat} {c : Array Value} {t : TypeId} (h : Blk w n c t) (o : Nat) : w.cell? ⟨n, o, none⟩ = c[o]? := cell_of_row w n o c t (0, 0) h
theorem Blk.frozen {w : World} {n : Nat} {c : Array Value} {t : TypeId} (h : Blk w n c t) (o : Nat) : w.frozen? ⟨n, o, none⟩ = false := frozen_of_row w n o c t h
theorem Blk.two {w : World} {n : Nat} {a b : Value} {t : TypeId} (h : Blk w n #[a, b] t) : w.cell? ⟨n, 0, none⟩ = some a ∧ w.cell? ⟨n, 1, none⟩ = some b ∧ ∀ o, w.frozen? ⟨n, o, none⟩ = false := ⟨h.cell 0, h.cell 1, h.frozen⟩
end
section
open Go.RowKit
set_option linter.unusedVariables false
theorem Row.mono {w : World} {B B' : Nat} {sl : Option Addr} {n cap : Nat} {G : List Int} (h : Row w B sl n cap G) (hB : B' ≤ B) : Row w B' sl n cap G := by
 refine ⟨h.1, ?_⟩
 rcases h.2 with h' | ⟨g, cap', cur, h', hb, r⟩
 ·
  exact Or.inl h'
 ·
  exact Or.inr ⟨g, cap', cur, h', Nat.le_trans hB hb, r⟩
theorem Row.later {w w' : World} {B : Nat} {sl : Option Addr} {n cap : Nat} {G : List Int} (h : Row w B sl n cap G) (hb : Below w.heap.size w w') : Row w' B sl n cap G := by
 refine ⟨h.1, ?_⟩
 rcases h.2 with h' | ⟨g, cap', cur, h', hB, hg, r⟩
 ·
  exact Or.inl h'
 ·
  exact Or.inr ⟨g, cap', cur, h', hB, by rw [hb.block g (Array.getElem?_eq_some_iff.1 hg).1]; exact hg, r⟩
theorem Row.other {w : World} {B b : Nat} {g n cap : Nat} {G : List Int} (h : Row w B (some ⟨g, 0, none⟩) n cap G) (hb : ¬ g = b) (o : Nat) (u : Value) : Row (w.setCell ⟨b, o, none⟩ u) B (some ⟨g, 0, none⟩) n cap G := by
 refine ⟨h.1, ?_⟩
 rcases h.2 with h' | ⟨g', cap', cur, h', hB, hg, r⟩
 ·
  exact Or.inl h'
 ·
  simp only [Value.slice.injEq, Option.some.injEq, Addr.mk.injEq, and_true, true_and] at h'
  obtain ⟨rfl, rfl⟩ := h'
  exact Or.inr ⟨g, cap, cur, rfl, hB, by rw [Below.heap_setCell _ _ _ _ hb]; exact hg, r⟩
theorem Row.lt {w : World} {B : Nat} {g n cap : Nat} {G : List Int} (h : Row w B (some ⟨g, 0, none⟩) n cap G) : B ≤ g ∧ g < w.heap.size := by
 rcases h.2 with ⟨h', _⟩ | ⟨g', cap', cur, h', hB, hg, r⟩
 ·
  simp at h'
 ·
  simp only [Value.slice.injEq, Option.some.injEq, Addr.mk.injEq, and_true, true_and] at h'
  obtain ⟨rfl, rfl⟩ := h'
  exact ⟨hB, (Array.getElem?_eq_some_iff.1 hg).1⟩
theorem Ints.alloc {w : World} {sl : Option Addr} {G : List Int} (h : Ints w sl G) (o : Obj) : Ints (w.alloc o) sl G := h.later (bl_alloc (Below.refl _ w) o)
theorem bcell2 {W w1 : World} (hb : Below W.heap.size W w1) : (∀ b o, (W.cell? ⟨b, o, none⟩).isSome = true → w1.cell? ⟨b, o, none⟩ = W.cell? ⟨b, o, none⟩) ∧ (∀ b o, (W.cell? ⟨b, o, none⟩).isSome = true → w1.frozen? ⟨b, o, none⟩ = W.frozen? ⟨b, o, none⟩) := by
 refine ⟨fun b o h => ?_, fun b o h => ?_⟩
 ·
  obtain ⟨v, hv⟩ := Option.isSome_iff_exists.1 h
  exact hb.cell (p := ⟨b, o, none⟩) (World.block_lt_of_cell? _ _ hv)
 ·
  obtain ⟨v, hv⟩ := Option.isSome_iff_exists.1 h
  exact hb.frozen (p := ⟨b, o, none⟩) (World.block_lt_of_cell? _ _ hv)
theorem alloc_old (W : World) (ob : Obj) (b o : Nat) (h : (W.cell? ⟨b, o, none⟩).isSome = true) : (W.alloc ob).cell? ⟨b, o, none⟩ = W.cell? ⟨b, o, none⟩ :=
 (bcell2 (bl_alloc (Below.refl _ W) ob)).1 b o h
theorem alloc_oldf (W : World) (ob : Obj) (b o : Nat) (h : (W.cell? ⟨b, o, none⟩).isSome = true) : (W.alloc ob).frozen? ⟨b, o, none⟩ = W.frozen? ⟨b, o, none⟩ :=
 (bcell2 (bl_alloc (Below.refl _ W) ob)).2 b o h
def Rows2 (w : World) (B : Nat) (g f : Nat) (G F : List Int) : Prop :=
 Row w B (some ⟨g, 0, none⟩) G.length G.length G ∧ Row w B (some ⟨f, 0, none⟩) F.length F.length F ∧ ¬ g = f
theorem Rows2.later {w w' : World} {B g f : Nat} {G F : List Int} (h : Rows2 w B g f G F) (hb : Below w.heap.size w w') : Rows2 w' B g f G F := ⟨h.1.later hb, h.2.1.later hb, h.2.2⟩
theorem Rows2.mono {w : World} {B B' g f : Nat} {G F : List Int} (h : Rows2 w B g f G F) (hB : B' ≤ B) : Rows2 w B' g f G F := ⟨h.1.mono hB, h.2.1.mono hB, h.2.2⟩
set_option maxHeartbeats 2000000 in
theorem toEnts_any (s1 s2 : Option Addr) (c1 c2 : Nat) (G F : List Int) (w : World) (h1 : Ints w s1 G) (h2 : Ints w s2 F) (l1 : G.length ≤ 1048576) (l2 : F.length ≤ 1048576) :
  Calls Tryz.prog 39 #[.agg #[.slice s1 G.length c1, .slice s2 F.length c2]] w fun e w' => ∃ g f, e = .returned (.agg #[.slice (some ⟨g, 0, none⟩) G.length G.length, .slice (some ⟨f, 0, none⟩) F.length F.length]) ∧ Rows2 w' w.heap.size g f G F ∧ Below w.heap.size w w' := by
 have hal := alloc_old
 have haf := alloc_oldf
 go_enter Tryz.func39, Tryz.ntmps39
 go_wp2_with fail
 have b0 : Blk _ w.heap.size #[.slice s1 G.length c1, .slice s2 F.length c2] 27 := ((Blk.new w #[.slice s1 G.length c1, .slice s2 F.length c2] 27).alloc (.cells #[.slice none 0 0, .slice none 0 0] 36)).alloc (.cells #[.slice none 0 0, .slice none 0 0] 36)
 have b1 : Blk _ (w.heap.size + 1) #[.slice none 0 0, .slice none 0 0] 36 := (Blk.new' (w.alloc (.cells #[.slice s1 G.length c1, .slice s2 F.length c2] 27)) #[.slice none 0 0, .slice none 0 0] 36 (by simp)).alloc (.cells #[.slice none 0 0, .slice none 0 0] 36)
 have b2 : Blk _ (w.heap.size + 1 + 1) #[.slice none 0 0, .slice none 0 0] 36 := Blk.new' ((w.alloc (.cells #[.slice s1 G.length c1, .slice s2 F.length c2] 27)).alloc (.cells #[.slice none 0 0, .slice none 0 0] 36)) #[.slice none 0 0, .slice none 0 0] 36 (by simp)
 refine (toInts_any s1 c1 G _ (((h1.alloc _).alloc _).alloc _) l1).mono ?_
 rintro e w1 ⟨rfl, hr1, hb1⟩
 obtain ⟨g, hg⟩ : ∃ g, Hid (g = (((w.alloc (.cells #[.slice s1 G.length c1, .slice s2 F.length c2] 27)).alloc (.cells #[.slice none 0 0, .slice none 0 0] 36)).alloc (.cells #[.slice none 0 0, .slice none 0 0] 36)).heap.size) := ⟨_, rfl⟩
 rw [← hg.out] at hr1 ⊢
 have gs : w.heap.size + 1 + 1 < g := by have := hg.out; simp at this; omega
 have p0 := b0.later hb1
 have p1 := b1.later hb1
 have p2 := b2.later hb1
 have q0 := p0.other (m := w.heap.size + 1 + 1) (by omega) 0 (Value.slice (some ⟨g, 0, none⟩) G.length G.length)
 have q1 := p1.other (m := w.heap.size + 1 + 1) (by omega) 0 (Value.slice (some ⟨g, 0, none⟩) G.length G.length)
 have q2 := p2.set 0 (Value.slice (some ⟨g, 0, none⟩) G.length G.length)
 have hl1 : Below w.heap.size w w1 := by (repeat (first | with_reducible exact Below.refl _ _ | with_reducible refine bl_alloc ?_ _ | with_reducible refine bl_drewN ?_ _ | with_reducible refine bl_drew ?_ | with_reducible refine bl_setCell ?_ (by first | exact Nat.le_refl _ | (dsimp only; omega) | (simp <;> omega)) _ | with_reducible refine bl_trans ?_ (by with_reducible assumption)))
 have r1 := hr1.other (b := w.heap.size + 1 + 1) (by omega) 0 (Value.slice (some ⟨g, 0, none⟩) G.length G.length)
 obtain ⟨x0, x1, x2⟩ := p0.two
 obtain ⟨y0, y1, y2⟩ := p1.two
 obtain ⟨z0, z1, z2⟩ := p2.two
 have ne1 : ¬ w.heap.size = w.heap.size + 1 + 1 := by omega
 go_wp2_with fail
 refine (toInts_any s2 c2 F _ (h2.later (by (repeat (first | with_reducible exact Below.refl _ _ | with_reducible refine bl_alloc ?_ _ | with_reducible refine bl_drewN ?_ _ | with_reducible refine bl_drew ?_ | with_reducible refine bl_setCell ?_ (by first | exact Nat.le_refl _ | (dsimp only; omega) | (simp <;> omega)) _ | with_reducible refine bl_trans ?_ (by with_reducible assumption))))) l2).mono ?_
 rintro e w2 ⟨rfl, hr2, hb2⟩
 have hl2 : Below w.heap.size w w2 := by (repeat (first | with_reducible exact Below.refl _ _ | with_reducible refine bl_alloc ?_ _ | with_reducible refine bl_drewN ?_ _ | with_reducible refine bl_drew ?_ | with_reducible refine bl_setCell ?_ (by first | exact Nat.le_refl _ | (dsimp only; omega) | (simp <;> omega)) _ | with_reducible refine bl_trans ?_ (by with_reducible assumption)))
 obtain ⟨f, hf⟩ : ∃ f, Hid (f = w1.heap.size) := ⟨_, rfl⟩
 simp only [World.size_setCell] at hr2 ⊢
 rw [← hf.out] at hr2 ⊢
 have p0' := q0.later hb2
 have p1' := q1.later hb2
 have p2' := q2.later hb2
 have r1' := r1.later hb2
 clear x0 x1 x2 y0 y1 y2 z0 z1 z2 p0 p1 p2 q0 q1 q2 r1 b0 b1 b2
 have gf : g < f := by have := hr1.lt.2; rw [hf.out]; exact this
 obtain ⟨x0, x1, x2⟩ := p0'.two
 obtain ⟨y0, y1, y2⟩ := p1'.two
 obtain ⟨z0, z1, z2⟩ := Blk.two (b := .slice none 0 0) p2'
 have ne2 : ¬ w.heap.size + 1 = w.heap.size + 1 + 1 := by omega
 go_wp2_with fail
 refine bodyPost_ret (v := .agg #[.slice (some ⟨g, 0, none⟩) G.length G.length, .slice (some ⟨f, 0, none⟩) F.length F.length]) (by simp [results, Tryz.results39, go_sem, y0, y1]) rfl ⟨g, f, rfl, ⟨?_, ?_, ?_⟩, ?_⟩
 ·
  exact ((((r1'.mono (by omega)).other (by omega) _ _).other (by omega) _ _).other (by omega) _ _)
 ·
  exact ((((hr2.mono (by omega)).other (by omega) _ _).other (by omega) _ _).other (by omega) _ _)
 ·
  omega
 ·
  (repeat (first | with_reducible exact Below.refl _ _ | with_reducible refine bl_alloc ?_ _ | with_reducible refine bl_drewN ?_ _ | with_reducible refine bl_drew ?_ | with_reducible refine bl_setCell ?_ (by first | exact Nat.le_refl _ | (dsimp only; omega) | (simp <;> omega)) _ | with_reducible refine bl_trans ?_ (by with_reducible assumption)))
theorem ext_getD {A B : List Int} (hl : A.length = B.length) (h : ∀ j, j < A.length → A[j]?.getD 0 = B[j]?.getD 0) : A = B := by
 apply List.ext_getElem hl
 intro j h1 h2
 have := h j h1
 simpa [h1, h2] using this
set_option maxHeartbeats 2000000 in
theorem eqInts_any (sA sB : Option Addr) (cA cB : Nat) (A B : List Int) (w : World) (hA : Ints w sA A) (hB : Ints w sB B) (l1 : A.length ≤ 1048576) :
  Calls Tryz.prog 91 #[.slice sA A.length cA, .slice sB B.length cB] w fun e w' => e = .returned (.bool (decide (A = B))) ∧ Below w.heap.size w w' := by
 by_cases hl : A.length = B.length
 ·
  go_enter Tryz.func91, Tryz.ntmps91
  go_wp2
  go_loopw [5] (fun i wr => ∃ k : Nat, k ≤ A.length ∧ i = .int .i64 k ∧ Hid (∀ j, j < k → A[j]?.getD 0 = B[j]?.getD 0) ∧ Hid (Below w.heap.size w wr)) (fun i _ => A.length - (intOf i).toNat)
  case atStart => exact ⟨0, Nat.zero_le _, rfl, fun j hj => absurd hj (by omega), Below.refl _ _⟩
  case round =>
   obtain ⟨k, hk, rfl, hall, hbel⟩ := hrel
   by_cases hlt : k < A.length
   ·
    obtain ⟨pb, po, rfl, hp, hc⟩ := hA.get hlt
    obtain ⟨qb, qo, rfl, hq, hd⟩ := hB.get (k := k) (by omega)
    obtain ⟨x, hx⟩ : ∃ x, Hid (A[k]?.getD 0 = x) := ⟨_, rfl⟩
    obtain ⟨y, hy⟩ : ∃ x, Hid (B[k]?.getD 0 = x) := ⟨_, rfl⟩
    have d1 : wr.cell? ⟨pb, po + k, none⟩ = some (.int .i64 x) := by rw [← hx.out]; exact (hbel.out.cell (p := ⟨pb, po + k, none⟩) hp).trans (hc k hlt)
    have d2 : wr.cell? ⟨qb, qo + k, none⟩ = some (.int .i64 y) := by rw [← hy.out]; exact (hbel.out.cell (p := ⟨qb, qo + k, none⟩) hq).trans (hd k (by omega))
    have hlt' : k < B.length := by omega
    clear hc hd hA hB
    by_cases he : x = y
    ·
     have g : (x != y) = false := by simp [he]
     have hstep : Hid (∀ j, j < k + 1 → A[j]?.getD 0 = B[j]?.getD 0) := fun j hj => by
      by_cases h : j < k
      ·
       exact hall.out j h
      ·
       have : j = k := by omega
       subst this; rw [hx.out, hy.out, he]
     clear he hx hy
     go_wp2
     go_region
     go_wp2
     go_roundw
     case rel => exact ⟨k + 1, by omega, by go_num, hstep, bl_drewN hbel.out _⟩
     case measure => simp [intOf]; omega
    ·
     have g : (x != y) = true := by simp [he]
     have hne : Hid (decide (A = B) = false) := by
      simp only [Hid, decide_eq_false_iff_not]
      intro h
      apply he
      rw [← hx.out, ← hy.out, h]
     clear he hx hy
     go_wp2
     go_region
     go_wp2
     go_ret
     exact ⟨ret_bool' hne.out.symm, bl_drewN hbel.out _⟩
   ·
    have hk' : k = A.length := by omega
    have hlt' : ¬ k < B.length := by omega
    have he : Hid (decide (A = B) = true) := by
     simp only [Hid, decide_eq_true_eq]
     exact ext_getD hl (fun j hj => hall.out j (by omega))
    clear hk'
    go_wp2
    go_ret
    exact ⟨ret_bool' he.out.symm, hbel.out⟩
 ·
  have hne : Hid (decide (A = B) = false) := by
   simp only [Hid, decide_eq_false_iff_not]
   intro h; exact hl (by rw [h])
  have g : ((A.length : Int) != (B.length : Int)) = true := by simp; omega
  clear hl
  go_enter Tryz.func91, Tryz.ntmps91
  go_wp2
  go_ret
  exact ⟨ret_bool' hne.out.symm, Below.refl _ _⟩
end
section
open Go.RowKit
set_option linter.unusedVariables false
theorem blk2 (w : World) (c d : Array Value) (t u : TypeId) : Blk ((w.alloc (.cells c t)).alloc (.cells d u)) w.heap.size c t ∧ Blk ((w.alloc (.cells c t)).alloc (.cells d u)) (w.heap.size + 1) d u :=
 ⟨(Blk.new w c t).alloc _, Blk.new' _ d u (by simp)⟩
set_option maxHeartbeats 2000000 in
theorem eqEnts_any (a1 a2 b1 b2 : Option Addr) (c1 c2 d1 d2 : Nat) (A B C D : List Int) (w : World) (hA : Ints w a1 A) (hB : Ints w a2 B) (hC : Ints w b1 C) (hD : Ints w b2 D) (l1 : A.length ≤ 1048576) (l2 : B.length ≤ 1048576) :
  Calls Tryz.prog 44 #[.agg #[.slice a1 A.length c1, .slice a2 B.length c2], .agg #[.slice b1 C.length d1, .slice b2 D.length d2]] w fun e w' => e = .returned (.bool (decide (A = C ∧ B = D))) ∧ Below w.heap.size w w' := by
 have hal := alloc_old
 have haf := alloc_oldf
 obtain ⟨k0, k1⟩ := blk2 w #[.slice a1 A.length c1, .slice a2 B.length c2] #[.slice b1 C.length d1, .slice b2 D.length d2] 36 36
 cases h1 : decide (A = C)
 ·
  have hne : Hid (decide (A = C ∧ B = D) = false) := by
   simp only [Hid, decide_eq_false_iff_not]
   exact fun h => absurd h.1 (of_decide_eq_false h1)
  go_enter Tryz.func44, Tryz.ntmps44
  go_wp2_with fail
  refine (eqInts_any a1 b1 c1 d1 A C _ (hA.later (by (repeat (first | with_reducible exact Below.refl _ _ | with_reducible refine bl_alloc ?_ _ | with_reducible refine bl_drewN ?_ _ | with_reducible refine bl_drew ?_ | with_reducible refine bl_setCell ?_ (by first | exact Nat.le_refl _ | (dsimp only; omega) | (simp <;> omega)) _ | with_reducible refine bl_trans ?_ (by with_reducible assumption))))) (hC.later (by (repeat (first | with_reducible exact Below.refl _ _ | with_reducible refine bl_alloc ?_ _ | with_reducible refine bl_drewN ?_ _ | with_reducible refine bl_drew ?_ | with_reducible refine bl_setCell ?_ (by first | exact Nat.le_refl _ | (dsimp only; omega) | (simp <;> omega)) _ | with_reducible refine bl_trans ?_ (by with_reducible assumption))))) l1).mono ?_
  rintro e w1 ⟨rfl, hb1⟩
  rw [h1]
  go_wp2_with fail
  go_ret
  refine ⟨ret_bool' hne.out.symm, ?_⟩
  (repeat (first | with_reducible exact Below.refl _ _ | with_reducible refine bl_alloc ?_ _ | with_reducible refine bl_drewN ?_ _ | with_reducible refine bl_drew ?_ | with_reducible refine bl_setCell ?_ (by first | exact Nat.le_refl _ | (dsimp only; omega) | (simp <;> omega)) _ | with_reducible refine bl_trans ?_ (by with_reducible assumption)))
 ·
  have e1 : A = C := of_decide_eq_true h1
  have hH : Hid (decide (A = C ∧ B = D) = decide (B = D)) := by simp [Hid, e1]
  clear e1
  cases h2 : decide (B = D)
  all_goals
   rw [h2] at hH
   go_enter Tryz.func44, Tryz.ntmps44
   go_wp2_with fail
   refine (eqInts_any a1 b1 c1 d1 A C _ (hA.later (by (repeat (first | with_reducible exact Below.refl _ _ | with_reducible refine bl_alloc ?_ _ | with_reducible refine bl_drewN ?_ _ | with_reducible refine bl_drew ?_ | with_reducible refine bl_setCell ?_ (by first | exact Nat.le_refl _ | (dsimp only; omega) | (simp <;> omega)) _ | with_reducible refine bl_trans ?_ (by with_reducible assumption))))) (hC.later (by (repeat (first | with_reducible exact Below.refl _ _ | with_reducible refine bl_alloc ?_ _ | with_reducible refine bl_drewN ?_ _ | with_reducible refine bl_drew ?_ | with_reducible refine bl_setCell ?_ (by first | exact Nat.le_refl _ | (dsimp only; omega) | (simp <;> omega)) _ | with_reducible refine bl_trans ?_ (by with_reducible assumption))))) l1).mono ?_
   rintro e w1 ⟨rfl, hb1⟩
   rw [h1]
   obtain ⟨x0, x1, x2⟩ := (k0.later hb1).two
   obtain ⟨y0, y1, y2⟩ := (k1.later hb1).two
   go_wp2_with fail
   refine (eqInts_any a2 b2 c2 d2 B D _ (hB.later (by (repeat (first | with_reducible exact Below.refl _ _ | with_reducible refine bl_alloc ?_ _ | with_reducible refine bl_drewN ?_ _ | with_reducible refine bl_drew ?_ | with_reducible refine bl_setCell ?_ (by first | exact Nat.le_refl _ | (dsimp only; omega) | (simp <;> omega)) _ | with_reducible refine bl_trans ?_ (by with_reducible assumption))))) (hD.later (by (repeat (first | with_reducible exact Below.refl _ _ | with_reducible refine bl_alloc ?_ _ | with_reducible refine bl_drewN ?_ _ | with_reducible refine bl_drew ?_ | with_reducible refine bl_setCell ?_ (by first | exact Nat.le_refl _ | (dsimp only; omega) | (simp <;> omega)) _ | with_reducible refine bl_trans ?_ (by with_reducible assumption))))) l2).mono ?_
   rintro e w2 ⟨rfl, hb2⟩
   rw [h2]
   go_wp2_with fail
   go_ret
   refine ⟨ret_bool' hH.out.symm, ?_⟩
   (repeat (first | with_reducible exact Below.refl _ _ | with_reducible refine bl_alloc ?_ _ | with_reducible refine bl_drewN ?_ _ | with_reducible refine bl_drew ?_ | with_reducible refine bl_setCell ?_ (by first | exact Nat.le_refl _ | (dsimp only; omega) | (simp <;> omega)) _ | with_reducible refine bl_trans ?_ (by with_reducible assumption)))
set_option maxHeartbeats 1000000 in
theorem l1In_any (x lo hi : Int) (w : World) :
  Calls Tryz.prog 55 #[.int .i64 x, .int .i64 lo, .int .i64 hi] w fun e w' => e = .returned (.bool (decide (lo ≤ x) && decide (x ≤ hi))) ∧ w' = w := by
 by_cases h1 : lo ≤ x
 ·
  go_enter Tryz.func55, Tryz.ntmps55
  go_wp2
  go_ret
  exact ⟨ret_bool' (by simp [h1]), rfl⟩
 ·
  go_enter Tryz.func55, Tryz.ntmps55
  go_wp2
  go_ret
  exact ⟨ret_bool' (by simp; omega), rfl⟩
theorem okE_badG {G F : List Int} {k : Nat} (hk : k < G.length) (h : ¬ (0 ≤ G[k]?.getD 0 ∧ G[k]?.getD 0 ≤ 1000000)) : okE G F = false := by
 simp only [okE, decide_eq_false_iff_not]
 exact fun g => h (g.2.1 _ (getD_mem hk))
theorem okE_badF {G F : List Int} {k : Nat} (hk : k < F.length) (h : ¬ (0 ≤ F[k]?.getD 0 ∧ F[k]?.getD 0 < G.length)) : okE G F = false := by
 simp only [okE, decide_eq_false_iff_not]
 exact fun g => h (g.2.2.1 _ (getD_mem hk))
theorem nodup_take {F : List Int} (h : F.Nodup) (k : Nat) : (F.take k).Nodup := h.sublist (List.take_sublist k F)
theorem nodup_snoc {A : List Int} {x : Int} : (A ++ [x]).Nodup ↔ A.Nodup ∧ ¬ x ∈ A := by
 rw [List.nodup_append]
 constructor
 ·
  rintro ⟨h1, _, h3⟩
  exact ⟨h1, fun hx => h3 x hx x (by simp) rfl⟩
 ·
  rintro ⟨h1, h2⟩
  refine ⟨h1, by simp, fun a ha b hb e => ?_⟩
  simp at hb
  subst hb
  exact h2 (e ▸ ha)
theorem okE_dup {G F : List Int} {k : Nat} (hk : k < F.length) (h : F[k]?.getD 0 ∈ F.take k) : okE G F = false := by
 simp only [okE, decide_eq_false_iff_not]
 intro g
 have := nodup_take g.2.2.2 (k + 1)
 rw [take_succ' F k hk, nodup_snoc] at this
 exact this.2 h
theorem okE_long {G F : List Int} (h : ¬ G.length ≤ 2000) : okE G F = false := by
 simp only [okE, decide_eq_false_iff_not]
 exact fun g => h g.1
theorem okE_much {G F : List Int} (h : ¬ F.length ≤ G.length) : okE G F = false := by
 rw [okE_eq]
 cases hb : freeB F G.length
 ·
  simp
 ·
  exact absurd (free_len hb) h
theorem okE_good {G F : List Int} (hn : G.length ≤ 2000) (hG : ∀ g ∈ G, 0 ≤ g ∧ g ≤ 1000000) (hF : ∀ f ∈ F, 0 ≤ f ∧ f < G.length) (hd : F.Nodup) : okE G F = true := by
 simp only [okE, decide_eq_true_eq]
 exact ⟨hn, hG, hF, hd⟩
def Seen (w : World) (B sb n : Nat) (A : List Int) : Prop :=
 ∃ bs : List Bool, w.ownsRow B 4 1 (.slice (some ⟨sb, 0, none⟩) n n) n (bs.map Value.bool) ∧ ∀ p, p < n → bs[p]? = some (decide ((p : Int) ∈ A))
theorem Seen.new {w : World} {B sb n : Nat} (h : w.ownsRow B 4 1 (.slice (some ⟨sb, 0, none⟩) n n) n (List.replicate n (.bool false))) : Seen w B sb n [] :=
 ⟨List.replicate n false, by rw [List.map_replicate]; exact h, fun p hp => by simp [hp]⟩
theorem Seen.cell {w : World} {B sb n : Nat} {A : List Int} (h : Seen w B sb n A) {p : Nat} (hp : p < n) : w.cell? ⟨sb, p, none⟩ = some (.bool (decide ((p : Int) ∈ A))) ∧ w.frozen? ⟨sb, p, none⟩ = false := by
 obtain ⟨bs, h1, h2⟩ := h
 refine ⟨?_, World.ownsRow.frozenAt h1 p⟩
 rw [World.ownsRow.cellAt h1 p (by omega)]
 simp [h2 p hp]
theorem Seen.set {w : World} {B sb n : Nat} {A : List Int} (h : Seen w B sb n A) {p : Nat} (hp : p < n) : Seen (w.setCell ⟨sb, p, none⟩ (.bool true)) B sb n (A ++ [(p : Int)]) := by
 obtain ⟨bs, h1, h2⟩ := h
 have hl : bs.length = n := by have := h1.1; simp at this; exact this
 refine ⟨bs.set p true, by rw [List.map_set]; exact (World.ownsRow.stored h1 p _).1, fun q hq => ?_⟩
 by_cases e : p = q
 ·
  subst e; simp [hl, hp]
 ·
  rw [List.getElem?_set_ne e, h2 q hq]
  have : ¬ (q : Int) = (p : Int) := by omega
  simp [this]
theorem Tryz.infoB : (Tryz.prog.info? 4).map (fun i => (i.zero, i.size, i.bytes)) = some (some (.bool false), 1, 1) := by kernel_rfl
set_option maxHeartbeats 2000000 in
theorem specEntsOk_main (s1 s2 : Option Addr) (c1 c2 : Nat) (G F : List Int) (w : World) (h1 : Ints w s1 G) (h2 : Ints w s2 F) (hn : G.length ≤ 2000) (hf : F.length ≤ G.length) :
  Calls Tryz.prog 73 #[.agg #[.slice s1 G.length c1, .slice s2 F.length c2]] w fun e w' => e = .returned (.bool (okE G F)) ∧ Below w.heap.size w w' := by
 have hal := alloc_old
 have haf := alloc_oldf
 have t1 : decide (2000 < (G.length : Int)) = false := by simp; omega
 have t2 : decide (G.length < F.length) = false := by simp; omega
 go_enter Tryz.func73, Tryz.ntmps73
 go_wp2
 go_loop [4] (fun i => ∃ k : Nat, k ≤ G.length ∧ i = .int .i64 k ∧ Hid (∀ g ∈ G.take k, 0 ≤ g ∧ g ≤ 1000000)) (fun i => G.length - (intOf i).toNat)
 case atStart => exact ⟨0, Nat.zero_le _, rfl, by simp [Hid]⟩
 case round =>
  obtain ⟨k, hk, rfl, hall⟩ := hrel
  by_cases hlt : k < G.length
  ·
   obtain ⟨pb, po, rfl, hp, hc⟩ := h1.get hlt
   obtain ⟨x, hx⟩ : ∃ x, Hid (G[k]?.getD 0 = x) := ⟨_, rfl⟩
   have d1 : w.cell? ⟨pb, po + k, none⟩ = some (.int .i64 x) := by rw [← hx.out]; exact hc k hlt
   by_cases hin : 0 ≤ x ∧ x ≤ 1000000
   ·
    obtain ⟨i1, i2⟩ := hin
    have hstep : Hid (∀ g ∈ G.take (k + 1), 0 ≤ g ∧ g ≤ 1000000) := by
     intro g hg
     rw [take_succ' G k hlt, List.mem_append] at hg
     rcases hg with hg | hg
     ·
      exact hall.out g hg
     ·
      simp at hg; subst hg; rw [hx.out]; exact ⟨i1, i2⟩
    clear hc h1 h2
    go_wp2_with (go_at_call 55; refine (l1In_any _ _ _ _).mono ?_; rintro e w' ⟨rfl, rfl⟩)
    go_round
    case rel => exact ⟨k + 1, by omega, by go_num, hstep⟩
    case measure => simp [intOf]; omega
   ·
    have hbad : Hid (okE G F = false) := okE_badG hlt (by rw [hx.out]; exact hin)
    have hin' : (decide (0 ≤ x) && decide (x ≤ 1000000)) = false := by simp; omega
    clear hc h1 h2 hin
    go_wp2_with (go_at_call 55; refine (l1In_any _ _ _ _).mono ?_; rintro e w' ⟨rfl, rfl⟩; rw [hin'])
    go_ret
    refine ⟨ret_bool' hbad.out.symm, ?_⟩
    (repeat (first | with_reducible exact Below.refl _ _ | with_reducible refine bl_alloc ?_ _ | with_reducible refine bl_drewN ?_ _ | with_reducible refine bl_drew ?_ | with_reducible refine bl_setCell ?_ (by first | exact Nat.le_refl _ | (dsimp only; omega) | (simp <;> omega)) _ | with_reducible refine bl_trans ?_ (by with_reducible assumption)))
  ·
   have hG : Hid (∀ g ∈ G, 0 ≤ g ∧ g ≤ 1000000) := by
    have := hall.out
    rw [List.take_of_length_le (by omega)] at this
    exact this
   obtain ⟨i0, hi, hz0, hz1, hz2⟩ := info_parts Tryz.infoB
   go_wp2_with (at_make; refine wpList_make_full _ rfl _ _ 133 rfl w.heap.size 4 i0 (.bool false) 1 Tryz.underlying133 hi hz0 hz1 .i64 .i64 _ _ G.length rfl rfl rfl rfl (by rw [hz2]; omega) (by unfold maxLen; omega) (by simp) ?_)
   intro w1 hown hgrow
   have b0 : Blk w1 w.heap.size #[.slice s1 G.length c1, .slice s2 F.length c2] 36 := by
    have hB : Below (w.heap.size + 1) (w.alloc (.cells #[.slice s1 G.length c1, .slice s2 F.length c2] 36)) w1 := (Below.refl _ _).grown hgrow (by simp) (fun k h => by cases h)
    exact (Blk.new w #[.slice s1 G.length c1, .slice s2 F.length c2] 36).later (by simpa using hB)
   have hbel : Below w.heap.size w w1 := (bl_alloc (Below.refl _ w) _).grown hgrow (by simp) (fun k h => by cases h)
   have hseen : Seen w1 w.heap.size (w.heap.size + 1) G.length [] := by
    rw [toList_madeCells_one] at hown
    exact Seen.new hown
   clear hown hgrow hi hz0 hz1 hz2 hall hlt h1
   obtain ⟨x0, x1, x2⟩ := b0.two
   go_wp2_with fail
   go_loopw [6] (fun i wr => ∃ k : Nat, k ≤ F.length ∧ i = .int .i64 k ∧ Seen wr w.heap.size (w.heap.size + 1) G.length (F.take k) ∧ Hid (∀ f ∈ F.take k, 0 ≤ f ∧ f < G.length) ∧ Hid ((F.take k).Nodup) ∧ Blk wr w.heap.size #[.slice s1 G.length c1, .slice s2 F.length c2] 36 ∧ Below w.heap.size w wr) (fun i _ => F.length - (intOf i).toNat)
   case atStart => exact ⟨0, Nat.zero_le _, rfl, hseen, by simp [Hid], by simp [Hid], b0, hbel⟩
   case round =>
    clear x0 x1 x2 b0 hseen hbel
    obtain ⟨m, hm, rfl, hseen, hr, hd, b0, hbel⟩ := hrel
    obtain ⟨x0, x1, x2⟩ := b0.two
    by_cases hlt : m < F.length
    ·
     obtain ⟨pb, po, rfl, hp, hc⟩ := h2.get hlt
     obtain ⟨x, hx⟩ : ∃ x, Hid (F[m]?.getD 0 = x) := ⟨_, rfl⟩
     have d1 : wr.cell? ⟨pb, po + m, none⟩ = some (.int .i64 x) := by rw [← hx.out]; exact (hbel.cell (p := ⟨pb, po + m, none⟩) hp).trans (hc m hlt)
     clear hc h2
     by_cases hin : 0 ≤ x ∧ x < G.length
     ·
      obtain ⟨q, rfl⟩ : ∃ q : Nat, x = (q : Int) := ⟨x.toNat, by omega⟩
      have hq : q < G.length := by omega
      obtain ⟨cq, fq⟩ := hseen.cell hq
      have t3 : (decide (0 ≤ (q : Int)) && decide ((q : Int) ≤ (G.length : Int) - 1)) = true := by simp; omega
      cases hmem : decide ((q : Int) ∈ F.take m)
      ·
       rw [hmem] at cq
       have hs' := hseen.set hq
       have hrng : Hid (∀ f ∈ F.take (m + 1), 0 ≤ f ∧ f < G.length) := by
        intro g hg
        rw [take_succ' F m hlt, List.mem_append] at hg
        rcases hg with hg | hg
        ·
         exact hr.out g hg
        ·
         simp at hg; subst hg; rw [hx.out]; exact hin
       have hnd : Hid ((F.take (m + 1)).Nodup) := by
        show List.Nodup _
        rw [take_succ' F m hlt, nodup_snoc, hx.out]
        exact ⟨hd.out, of_decide_eq_false hmem⟩
       rw [show F.take m ++ [(q : Int)] = F.take (m + 1) by rw [take_succ' F m hlt, hx.out]] at hs'
       have b0' := b0.other (m := w.heap.size + 1) (by omega) q (.bool true)
       clear hmem hin hseen hr hd
       go_wp2_with (go_at_call 55; refine (l1In_any _ _ _ _).mono ?_; rintro e w' ⟨rfl, rfl⟩; rw [t3])
       go_roundw
       case rel => exact ⟨m + 1, by omega, by go_num, hs', hrng, hnd, b0', hbel.setCell (by simp) _⟩
       case measure => simp [intOf]; omega
      ·
       rw [hmem] at cq
       have hbad : Hid (okE G F = false) := okE_dup hlt (by rw [hx.out]; exact of_decide_eq_true hmem)
       clear hmem hin hseen hr hd
       go_wp2_with (go_at_call 55; refine (l1In_any _ _ _ _).mono ?_; rintro e w' ⟨rfl, rfl⟩; rw [t3])
       go_ret
       exact ⟨ret_bool' hbad.out.symm, hbel⟩
     ·
      have t3 : (decide (0 ≤ x) && decide (x ≤ (G.length : Int) - 1)) = false := by simp; omega
      have hbad : Hid (okE G F = false) := okE_badF hlt (by rw [hx.out]; exact hin)
      clear hin hseen hr hd
      go_wp2_with (go_at_call 55; refine (l1In_any _ _ _ _).mono ?_; rintro e w' ⟨rfl, rfl⟩; rw [t3])
      go_ret
      exact ⟨ret_bool' hbad.out.symm, hbel⟩
    ·
     have hgood : Hid (okE G F = true) := by
      have e1 := hr.out
      have e2 := hd.out
      rw [List.take_of_length_le (by omega)] at e1 e2
      exact okE_good hn hG.out e1 e2
     clear hseen hr hd
     go_wp2_with fail
     go_ret
     exact ⟨ret_bool' hgood.out.symm, hbel⟩
set_option maxHeartbeats 2000000 in
theorem specEntsOk_any (s1 s2 : Option Addr) (c1 c2 : Nat) (G F : List Int) (w : World) (h1 : Ints w s1 G) (h2 : Ints w s2 F) :
  Calls Tryz.prog 73 #[.agg #[.slice s1 G.length c1, .slice s2 F.length c2]] w fun e w' => e = .returned (.bool (okE G F)) ∧ Below w.heap.size w w' := by
 by_cases hn : G.length ≤ 2000
 ·
  by_cases hf : F.length ≤ G.length
  ·
   exact specEntsOk_main s1 s2 c1 c2 G F w h1 h2 hn hf
  ·
   have hbad : Hid (okE G F = false) := okE_much hf
   have t1 : decide (2000 < (G.length : Int)) = false := by simp; omega
   have t2 : decide (G.length < F.length) = true := by simp; omega
   go_enter Tryz.func73, Tryz.ntmps73
   go_wp2
   go_ret
   refine ⟨ret_bool' hbad.out.symm, ?_⟩
   (repeat (first | with_reducible exact Below.refl _ _ | with_reducible refine bl_alloc ?_ _ | with_reducible refine bl_drewN ?_ _ | with_reducible refine bl_drew ?_ | with_reducible refine bl_setCell ?_ (by first | exact Nat.le_refl _ | (dsimp only; omega) | (simp <;> omega)) _ | with_reducible refine bl_trans ?_ (by with_reducible assumption)))
 ·
  have hbad : Hid (okE G F = false) := okE_long hn
  have t1 : decide (2000 < (G.length : Int)) = true := by simp; omega
  go_enter Tryz.func73, Tryz.ntmps73
  go_wp2
  go_ret
  refine ⟨ret_bool' hbad.out.symm, ?_⟩
  (repeat (first | with_reducible exact Below.refl _ _ | with_reducible refine bl_alloc ?_ _ | with_reducible refine bl_drewN ?_ _ | with_reducible refine bl_drew ?_ | with_reducible refine bl_setCell ?_ (by first | exact Nat.le_refl _ | (dsimp only; omega) | (simp <;> omega)) _ | with_reducible refine bl_trans ?_ (by with_reducible assumption)))
end
end Go.Proofs.YtnockfpobpidgaaGreat
