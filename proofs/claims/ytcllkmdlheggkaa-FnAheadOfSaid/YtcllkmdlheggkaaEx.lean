import Derived.Test.YtcllkmdlheggkaaEw
import Derived.Test.YtcllkmdlheggkaaEv
namespace Go.Proofs.Ytcllkmdlheggkaa
open Go.RowKit
set_option linter.unusedVariables false

/-- the generation behind one. -/
def ng (g : Int) : Int := if 1000000 ≤ g then 0 else g + 1

theorem blk3 (w : World) (c d e : Array Value) (t u v : TypeId) : Blk (((w.alloc (.cells c t)).alloc (.cells d u)).alloc (.cells e v)) w.heap.size c t ∧ Blk (((w.alloc (.cells c t)).alloc (.cells d u)).alloc (.cells e v)) (w.heap.size + 1) d u ∧ Blk (((w.alloc (.cells c t)).alloc (.cells d u)).alloc (.cells e v)) (w.heap.size + 1 + 1) e v :=
  ⟨((Blk.new w c t).alloc _).alloc _, (Blk.new' _ d u (by simp)).alloc _, Blk.new' _ e v (by simp)⟩

theorem VRow.alloc' {w : World} {B : Nat} {v : Value} {G : List Int} (h : VRow w B v G) (o : Obj) : VRow (w.alloc o) B v G := h.later (bl_alloc (Below.refl _ w) o)
theorem VRow.cell {w : World} {B g c : Nat} {G : List Int} (h : VRow w B (.slice (some ⟨g, 0, none⟩) G.length c) G) {q : Nat} (hq : q < G.length) : w.cell? ⟨g, q, none⟩ = some (.int .i64 (G[q]?.getD 0)) ∧ w.frozen? ⟨g, q, none⟩ = false := Row.cell h q hq
theorem VRow.setv {w : World} {B g c : Nat} {G : List Int} (h : VRow w B (.slice (some ⟨g, 0, none⟩) G.length c) G) (q : Nat) (x : Int) : VRow (w.setCell ⟨g, q, none⟩ (.int .i64 x)) B (.slice (some ⟨g, 0, none⟩) G.length c) (G.set q x) := by
  have := Row.set h q x
  unfold VRow
  rw [List.length_set]
  exact this
theorem VRow.ge {w : World} {B g n c : Nat} {G : List Int} (h : VRow w B (.slice (some ⟨g, 0, none⟩) n c) G) : B ≤ g ∧ g < w.heap.size := World.ownsRow.lt h g rfl

/-- of what was there only blocks g and f may have turned. -/
structure Fr (g f : Nat) (w w' : World) : Prop where
  os : w'.os = w.os
  tape : w'.tape = w.tape
  output : w'.output = w.output
  size : w.heap.size ≤ w'.heap.size
  block : ∀ k, k < w.heap.size → ¬ k = g → ¬ k = f → w'.heap[k]? = w.heap[k]?
theorem Fr.refl (g f : Nat) (w : World) : Fr g f w w := ⟨rfl, rfl, rfl, Nat.le_refl _, fun _ _ _ _ => rfl⟩
theorem Fr.of_below {g f : Nat} {a b : World} (h : Below a.heap.size a b) : Fr g f a b := ⟨h.os, h.tape, h.output, h.size, fun k hk _ _ => h.block k hk⟩
theorem Fr.alloc {g f : Nat} {a b : World} (h : Fr g f a b) (o : Obj) : Fr g f a (b.alloc o) :=
  ⟨h.os, h.tape, h.output, by simp; have := h.size; omega, fun k hk h1 h2 => by rw [Below.heap_alloc b o k (Nat.lt_of_lt_of_le hk h.size)]; exact h.block k hk h1 h2⟩
theorem Fr.setCell {g f : Nat} {a b : World} (h : Fr g f a b) {n : Nat} (hn : n = g ∨ n = f ∨ a.heap.size ≤ n) (o : Nat) (u : Value) : Fr g f a (b.setCell ⟨n, o, none⟩ u) :=
  ⟨h.os, h.tape, h.output, by simp; exact h.size, fun k hk h1 h2 => by rw [Below.heap_setCell b ⟨n, o, none⟩ u k (by simp; omega)]; exact h.block k hk h1 h2⟩
theorem Fr.grown {g f : Nat} {a b c : World} (h : Fr g f a b) (hg : b.grownBy c (some f)) : Fr g f a c :=
  ⟨hg.os.trans h.os, hg.tape.trans h.tape, hg.output.trans h.output, Nat.le_trans h.size hg.size, fun k hk h1 h2 => (hg.block k (Nat.lt_of_lt_of_le hk h.size) (by simp; omega)).trans (h.block k hk h1 h2)⟩
theorem Fr.below {g f B : Nat} {a b : World} (h : Fr g f a b) (h1 : B ≤ g) (h2 : B ≤ f) (h3 : B ≤ a.heap.size) : Below B a b := ⟨h.os, h.tape, h.output, h.size, fun k hk => h.block k (by omega) (by omega) (by omega)⟩
theorem Blk.fr {g f : Nat} {a b : World} {n : Nat} {c : Array Value} {t : TypeId} (h : Blk a n c t) (hf : Fr g f a b) (h1 : ¬ n = g) (h2 : ¬ n = f) : Blk b n c t := by
  unfold Blk; rw [hf.block n h.lt h1 h2]; exact h

set_option maxHeartbeats 4000000 in
theorem l2Give_any (B g0 c0 f0 d0 : Nat) (G F : List Int) (q : Nat) (gen : Int) (w : World) (h1 : VRow w B (.slice (some ⟨g0, 0, none⟩) G.length c0) G) (h2 : VRow w B (.slice (some ⟨f0, 0, none⟩) F.length d0) F) (hne : ¬ g0 = f0)
    (hq : q < G.length) (n1 : 0 ≤ gen) (n2 : gen ≤ 1000000) (l1 : G.length ≤ 1048576) (l2 : F.length ≤ 1048576) (hB : B ≤ w.heap.size) :
    Calls Try.prog 65 #[.agg #[.slice (some ⟨g0, 0, none⟩) G.length c0, .slice (some ⟨f0, 0, none⟩) F.length d0], .agg #[.int .i64 (q : Int), .int .i64 gen]] w fun e w' => ∃ f1 d1, e = .returned (.agg #[.slice (some ⟨g0, 0, none⟩) G.length c0, .slice (some ⟨f1, 0, none⟩) (F.length + 1) d1]) ∧
      VRow w' B (.slice (some ⟨g0, 0, none⟩) G.length c0) (G.set q (ng gen)) ∧ VRow w' B (.slice (some ⟨f1, 0, none⟩) (F.length + 1) d1) (F ++ [(q : Int)]) ∧ ¬ g0 = f1 ∧ Fr g0 f0 w w' := by
  have hal := alloc_old
  have haf := alloc_oldf
  obtain ⟨k0, k1, k2⟩ := blk3 w #[.slice (some ⟨g0, 0, none⟩) G.length c0, .slice (some ⟨f0, 0, none⟩) F.length d0] #[.int .i64 (q : Int), .int .i64 gen] #[.slice none 0 0, .slice none 0 0] 26 29 26
  have eg := h1.ge
  have ef := h2.ge
  have v1 := ((h1.alloc' (.cells #[.slice (some ⟨g0, 0, none⟩) G.length c0, .slice (some ⟨f0, 0, none⟩) F.length d0] 26)).alloc' (.cells #[.int .i64 (q : Int), .int .i64 gen] 29)).alloc' (.cells #[.slice none 0 0, .slice none 0 0] 26)
  have v2 := ((h2.alloc' (.cells #[.slice (some ⟨g0, 0, none⟩) G.length c0, .slice (some ⟨f0, 0, none⟩) F.length d0] 26)).alloc' (.cells #[.int .i64 (q : Int), .int .i64 gen] 29)).alloc' (.cells #[.slice none 0 0, .slice none 0 0] 26)
  have hL0 : Fr g0 f0 w (((w.alloc (.cells #[.slice (some ⟨g0, 0, none⟩) G.length c0, .slice (some ⟨f0, 0, none⟩) F.length d0] 26)).alloc (.cells #[.int .i64 (q : Int), .int .i64 gen] 29)).alloc (.cells #[.slice none 0 0, .slice none 0 0] 26)) :=
    ((Fr.refl g0 f0 w).alloc _ |>.alloc _).alloc _
  go_enter Try.func65, Try.ntmps65
  obtain ⟨x0, x1, x2⟩ := k0.two
  obtain ⟨y0, y1, y2⟩ := k1.two
  obtain ⟨z0, z1, z2⟩ := k2.two
  obtain ⟨old, hold⟩ : ∃ x, Hid (G[q]?.getD 0 = x) := ⟨_, rfl⟩
  obtain ⟨u1, u2⟩ := v1.cell hq
  rw [hold.out] at u1
  have e1 : ¬ w.heap.size = g0 := by omega
  have e2 : ¬ w.heap.size + 1 = g0 := by omega
  have e3 : ¬ w.heap.size + 1 + 1 = g0 := by omega
  have hqI : (q : Int) < (G.length : Int) := by omega
  have hfo : ¬ (Value.slice (some ⟨f0, 0, none⟩) F.length d0).ownBlock = some g0 := by simp [Value.ownBlock]; omega
  have hfo : ¬ (Value.slice (some ⟨f0, 0, none⟩) F.length d0).ownBlock = some g0 := by simp [Value.ownBlock]; omega
  by_cases hg : gen = 1000000
  · have hge : 1000000 ≤ gen := by omega
    have hNG : Hid (ng gen = 0) := by simp [Hid, ng]; omega
    clear hg
    go_upto_region 4 with fail
    generalize hX : (((((w.alloc (.cells #[.slice (some ⟨g0, 0, none⟩) G.length c0, .slice (some ⟨f0, 0, none⟩) F.length d0] 26)).alloc (.cells #[.int .i64 (q : Int), .int .i64 gen] 29)).alloc (.cells #[.slice none 0 0, .slice none 0 0] 26)).setCell ⟨g0, q, none⟩ (.int .i64 (gen + 1))).setCell ⟨g0, q, none⟩ (.int .i64 0)) = X
    have K0 := (k0.other e1 q (.int .i64 (gen + 1))).other e1 q (.int .i64 0)
    rw [hX] at K0
    have K1 := (k1.other e2 q (.int .i64 (gen + 1))).other e2 q (.int .i64 0)
    rw [hX] at K1
    have K2 := (k2.other e3 q (.int .i64 (gen + 1))).other e3 q (.int .i64 0)
    rw [hX] at K2
    have vF := (v2.other hfo q (.int .i64 (gen + 1))).other hfo q (.int .i64 0)
    rw [hX] at vF
    have vG : VRow X B (.slice (some ⟨g0, 0, none⟩) G.length c0) (G.set q 0) := by
      rw [← hX]
      have a := v1.setv q (gen + 1)
      unfold VRow at a
      rw [List.length_set] at a
      have b := Row.set (G := G.set q (gen + 1)) (n := G.length) (cap := c0) (g := g0) a q 0
      rw [List.set_set] at b
      unfold VRow
      rw [List.length_set]
      exact b
    have LX : Fr g0 f0 w X := by rw [← hX]; exact (hL0.setCell (Or.inl rfl) _ _).setCell (Or.inl rfl) _ _
    have sX : Hid (X.heap.size = w.heap.size + 3) := by show _ = _; rw [← hX]; simp
    clear hX
    clear x0 x1 x2 y0 y1 y2 z0 z1 z2 u1 u2 k0 k1 k2 v1 v2 hL0
    obtain ⟨x0, x1, x2⟩ := K0.two
    obtain ⟨y0, y1, y2⟩ := K1.two
    obtain ⟨z0, z1, z2⟩ := K2.two
    have hz := (Blk.new X #[.int .i64 (q : Int)] 3).cell 0
    have vFa := vF.alloc' (.cells #[.int .i64 (q : Int)] 3)
    go_wp2_with (at_builtin; refine wpList_append_one _ rfl (.tmp 22) (.tmp 25) rfl B (.slice (some ⟨f0, 0, none⟩) F.length d0) F rfl vFa X.heap.size (q : Int) rfl hz l2 ?_)
    intro f1 d1 w5 hv5 hg5 ho5 hl5
    have sx := sX.out
    have hg5' : (X.alloc (.cells #[.int .i64 (q : Int)] 3)).grownBy w5 (some f0) := hg5
    have ho5' : f0 = f1 ∨ X.heap.size + 1 ≤ f1 := by
      rcases ho5 with h | h
      · left; simpa [Value.ownBlock] using h
      · right; simpa using h
    have K05 := (K0.alloc (.cells #[.int .i64 (q : Int)] 3)).kept' hg5' (by simp; omega)
    have K15 := (K1.alloc (.cells #[.int .i64 (q : Int)] 3)).kept' hg5' (by simp; omega)
    have K25 := (K2.alloc (.cells #[.int .i64 (q : Int)] 3)).kept' hg5' (by simp; omega)
    have vG5 := (vG.alloc' (.cells #[.int .i64 (q : Int)] 3)).keptS hg5' hne
    have LX5 : Fr g0 f0 w w5 := (LX.alloc (.cells #[.int .i64 (q : Int)] 3)).grown hg5'
    have hf1 : ¬ g0 = f1 ∧ B ≤ f1 ∧ ¬ w.heap.size = f1 ∧ ¬ w.heap.size + 1 + 1 = f1 := by omega
    clear x0 x1 x2 y0 y1 y2 z0 z1 z2 hz vFa hg5 ho5 hg5' ho5' K0 K1 K2 vG vF LX sx
    obtain ⟨x0, x1, x2⟩ := K05.two
    obtain ⟨z0, z1, z2⟩ := K25.two
    have e5 : ¬ w.heap.size + 1 + 1 = w.heap.size := by omega
    have e6 : ¬ w.heap.size = w.heap.size + 1 + 1 := by omega
    go_wp2_with fail
    refine bodyPost_ret (v := .agg #[.slice (some ⟨g0, 0, none⟩) G.length c0, .slice (some ⟨f1, 0, none⟩) (F.length + 1) d1]) (by simp [results, Try.results65, go_sem, z0, z1]) rfl ⟨f1, d1, rfl, ?_, ?_, hf1.1, ?_⟩
    · rw [hNG.out]
      exact ((vG5.other (by simp [Value.ownBlock]; omega) _ _).other (by simp [Value.ownBlock]; omega) _ _).other (by simp [Value.ownBlock]; omega) _ _
    · exact (((hv5.raise hf1.2.1).other (by simp [Value.ownBlock]; omega) _ _).other (by simp [Value.ownBlock]; omega) _ _).other (by simp [Value.ownBlock]; omega) _ _
    · exact ((LX5.setCell (by omega) _ _).setCell (by omega) _ _).setCell (by omega) _ _
  · have hg' : gen < 1000000 := by omega
    have hE : Hid (ng gen = gen + 1) := by simp [Hid, ng]; omega
    clear hg
    go_upto_region 4 with fail
    generalize hX : ((((w.alloc (.cells #[.slice (some ⟨g0, 0, none⟩) G.length c0, .slice (some ⟨f0, 0, none⟩) F.length d0] 26)).alloc (.cells #[.int .i64 (q : Int), .int .i64 gen] 29)).alloc (.cells #[.slice none 0 0, .slice none 0 0] 26)).setCell ⟨g0, q, none⟩ (.int .i64 (gen + 1))) = X
    have K0 := k0.other e1 q (.int .i64 (gen + 1))
    rw [hX] at K0
    have K1 := k1.other e2 q (.int .i64 (gen + 1))
    rw [hX] at K1
    have K2 := k2.other e3 q (.int .i64 (gen + 1))
    rw [hX] at K2
    have vF := v2.other hfo q (.int .i64 (gen + 1))
    rw [hX] at vF
    have vG : VRow X B (.slice (some ⟨g0, 0, none⟩) G.length c0) (G.set q (gen + 1)) := by rw [← hX]; exact v1.setv q (gen + 1)
    have LX : Fr g0 f0 w X := by rw [← hX]; exact hL0.setCell (Or.inl rfl) _ _
    have sX : Hid (X.heap.size = w.heap.size + 3) := by show _ = _; rw [← hX]; simp
    clear hX
    clear x0 x1 x2 y0 y1 y2 z0 z1 z2 u1 u2 k0 k1 k2 v1 v2 hL0
    obtain ⟨x0, x1, x2⟩ := K0.two
    obtain ⟨y0, y1, y2⟩ := K1.two
    obtain ⟨z0, z1, z2⟩ := K2.two
    have hz := (Blk.new X #[.int .i64 (q : Int)] 3).cell 0
    have vFa := vF.alloc' (.cells #[.int .i64 (q : Int)] 3)
    go_wp2_with (at_builtin; refine wpList_append_one _ rfl (.tmp 22) (.tmp 25) rfl B (.slice (some ⟨f0, 0, none⟩) F.length d0) F rfl vFa X.heap.size (q : Int) rfl hz l2 ?_)
    intro f1 d1 w5 hv5 hg5 ho5 hl5
    have sx := sX.out
    have hg5' : (X.alloc (.cells #[.int .i64 (q : Int)] 3)).grownBy w5 (some f0) := hg5
    have ho5' : f0 = f1 ∨ X.heap.size + 1 ≤ f1 := by
      rcases ho5 with h | h
      · left; simpa [Value.ownBlock] using h
      · right; simpa using h
    have K05 := (K0.alloc (.cells #[.int .i64 (q : Int)] 3)).kept' hg5' (by simp; omega)
    have K15 := (K1.alloc (.cells #[.int .i64 (q : Int)] 3)).kept' hg5' (by simp; omega)
    have K25 := (K2.alloc (.cells #[.int .i64 (q : Int)] 3)).kept' hg5' (by simp; omega)
    have vG5 := (vG.alloc' (.cells #[.int .i64 (q : Int)] 3)).keptS hg5' hne
    have LX5 : Fr g0 f0 w w5 := (LX.alloc (.cells #[.int .i64 (q : Int)] 3)).grown hg5'
    have hf1 : ¬ g0 = f1 ∧ B ≤ f1 ∧ ¬ w.heap.size = f1 ∧ ¬ w.heap.size + 1 + 1 = f1 := by omega
    clear x0 x1 x2 y0 y1 y2 z0 z1 z2 hz vFa hg5 ho5 hg5' ho5' K0 K1 K2 vG vF LX sx
    obtain ⟨x0, x1, x2⟩ := K05.two
    obtain ⟨z0, z1, z2⟩ := K25.two
    have e5 : ¬ w.heap.size + 1 + 1 = w.heap.size := by omega
    have e6 : ¬ w.heap.size = w.heap.size + 1 + 1 := by omega
    go_wp2_with fail
    refine bodyPost_ret (v := .agg #[.slice (some ⟨g0, 0, none⟩) G.length c0, .slice (some ⟨f1, 0, none⟩) (F.length + 1) d1]) (by simp [results, Try.results65, go_sem, z0, z1]) rfl ⟨f1, d1, rfl, ?_, ?_, hf1.1, ?_⟩
    · rw [hE.out]
      exact ((vG5.other (by simp [Value.ownBlock]; omega) _ _).other (by simp [Value.ownBlock]; omega) _ _).other (by simp [Value.ownBlock]; omega) _ _
    · exact (((hv5.raise hf1.2.1).other (by simp [Value.ownBlock]; omega) _ _).other (by simp [Value.ownBlock]; omega) _ _).other (by simp [Value.ownBlock]; omega) _ _
    · exact ((LX5.setCell (by omega) _ _).setCell (by omega) _ _).setCell (by omega) _ _
end Go.Proofs.Ytcllkmdlheggkaa
