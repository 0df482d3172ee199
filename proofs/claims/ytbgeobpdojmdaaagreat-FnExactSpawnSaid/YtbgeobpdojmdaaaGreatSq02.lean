import Derived.Test.YtbgeobpdojmdaaaGreatSq01
namespace Go.Proofs.YtbgeobpdojmdaaaGreat
set_option linter.unusedVariables false
section
open Go.RowKit
theorem ret_bool' {a b : Bool} (h : a = b) : Ending.returned (.bool a) = .returned (.bool b) := by rw [h]
set_option maxHeartbeats 1000000 in
theorem szInts_neg (sl : Option Addr) (n cap : Nat) (left : Int) (w : World) (h0 : 0 ≤ left) (h1 : left ≤ 1048576) (hn : n ≤ 9223372036854775807) (h : left < n) :
  Calls Tryz.prog 49 #[.slice sl n cap, .int .i64 left] w fun e w' => e = .returned (.int .i64 (-1)) ∧ w' = w := by
 go_enter Tryz.func49, Tryz.ntmps49
 go_wp2
 go_ret; exact ⟨rfl, rfl⟩
set_option maxHeartbeats 1000000 in
theorem szInts_pos (sl : Option Addr) (n cap : Nat) (left : Int) (w : World) (h0 : 0 ≤ left) (h1 : left ≤ 1048576) (hn : n ≤ 9223372036854775807) (h : ¬ left < n) :
  Calls Tryz.prog 49 #[.slice sl n cap, .int .i64 left] w fun e w' => e = .returned (.int .i64 (left - n)) ∧ w' = w := by
 go_enter Tryz.func49, Tryz.ntmps49
 go_wp2
 go_ret; exact ⟨rfl, rfl⟩
theorem Tryz.infoI : (Tryz.prog.info? 3).map (fun i => (i.zero, i.size, i.bytes)) = some (some (.int .i64 0), 1, 8) := by kernel_rfl
def part (G : List Int) (k : Nat) : List Int := G.take k ++ List.replicate (G.length - k) 0
theorem part_zero (G : List Int) : part G 0 = List.replicate G.length 0 := by simp [part]
theorem part_all (G : List Int) : part G G.length = G := by simp [part]
theorem part_set (G : List Int) (k : Nat) (h : k < G.length) : (part G k).set k (G[k]?.getD 0) = part G (k + 1) := by
 unfold part
 rw [take_succ' G k h, List.set_append_right _ _ (by simp; omega)]
 have e : G.length - k = (G.length - (k + 1)) + 1 := by omega
 rw [e, List.replicate_succ, List.length_take, Nat.min_eq_left (by omega), Nat.sub_self, List.set_cons_zero]
 simp
theorem Row.set {w : World} {B g n cap : Nat} {G : List Int} (h : Row w B (some ⟨g, 0, none⟩) n cap G) (j : Nat) (x : Int) : Row (w.setCell ⟨g, j, none⟩ (.int .i64 x)) B (some ⟨g, 0, none⟩) n cap (G.set j x) := by
 have := (World.ownsRow.stored h j (.int .i64 x)).1
 unfold Row
 rw [List.map_set]; exact this
theorem Row.cell {w : World} {B g n cap : Nat} {G : List Int} (h : Row w B (some ⟨g, 0, none⟩) n cap G) (j : Nat) (hj : j < n) : w.cell? ⟨g, j, none⟩ = some (.int .i64 (G[j]?.getD 0)) ∧ w.frozen? ⟨g, j, none⟩ = false := by
 have hl : n = G.length := by have := h.1; simp at this; omega
 refine ⟨?_, World.ownsRow.frozenAt h j⟩
 rw [World.ownsRow.cellAt h j (by omega)]
 have : j < G.length := by omega
 simp [this]
theorem Ints.get {w : World} {sl : Option Addr} {G : List Int} (h : Ints w sl G) {k : Nat} (hk : k < G.length) :
  ∃ pb po, sl = some ⟨pb, po, none⟩ ∧ pb < w.heap.size ∧ ∀ j, j < G.length → w.cell? ⟨pb, po + j, none⟩ = some (.int .i64 (G[j]?.getD 0)) := by
 rcases h with h0 | ⟨pb, po, h0, h1, h2⟩
 ·
  subst h0; simp at hk
 exact ⟨pb, po, h0, h1, fun j hj => by rw [h2 j hj]; simp⟩
set_option maxHeartbeats 2000000 in
theorem toInts_any (sl : Option Addr) (cap : Nat) (G : List Int) (w : World) (hG : Ints w sl G) (hl : G.length ≤ 1048576) :
  Calls Tryz.prog 64 #[.slice sl G.length cap] w fun e w' => e = .returned (.slice (some ⟨w.heap.size, 0, none⟩) G.length G.length) ∧ Row w' w.heap.size (some ⟨w.heap.size, 0, none⟩) G.length G.length G ∧ Below w.heap.size w w' := by
 obtain ⟨i0, hi, hz0, hz1, hz2⟩ := info_parts Tryz.infoI
 go_enter Tryz.func64, Tryz.ntmps64
 go_wp2_with (at_make; refine wpList_make_full _ rfl _ _ 25 rfl w.heap.size 3 i0 (.int .i64 0) 1 Tryz.underlying25 hi hz0 hz1 .i64 .i64 _ _ G.length rfl rfl rfl rfl (by rw [hz2]; omega) (by unfold maxLen; omega) (Nat.le_refl _) ?_)
 intro w1 hown hgrow
 have hrow : Hid (Row w1 w.heap.size (some ⟨w.heap.size, 0, none⟩) G.length G.length (part G 0)) := by
  show World.ownsRow _ _ _ _ _ _ _
  rw [part_zero, List.map_replicate]
  rw [toList_madeCells_one] at hown
  exact hown
 have hbel : Hid (Below w.heap.size w w1) := (Below.refl _ w).grown hgrow (Nat.le_refl _) (fun k h => by cases h)
 clear hown hgrow hi hz0 hz1 hz2; go_wp2
 go_loopw [4] (fun i wr => ∃ k : Nat, k ≤ G.length ∧ i = .int .i64 k ∧ Hid (Row wr w.heap.size (some ⟨w.heap.size, 0, none⟩) G.length G.length (part G k)) ∧ Hid (Below w.heap.size w wr)) (fun i _ => G.length - (intOf i).toNat)
 case atStart => exact ⟨0, Nat.zero_le _, rfl, hrow, hbel⟩
 obtain ⟨k, hk, rfl, hrow, hbel⟩ := hrel
 by_cases hlt : k < G.length
 ·
  obtain ⟨pb, po, rfl, hp, hc⟩ := hG.get hlt
  obtain ⟨x, hx⟩ : ∃ x, Hid (G[k]?.getD 0 = x) := ⟨_, rfl⟩
  have c1 : wr.cell? ⟨pb, po + k, none⟩ = some (.int .i64 x) := by rw [← hx.out]; exact (hbel.out.cell (p := ⟨pb, po + k, none⟩) hp).trans (hc k hlt)
  obtain ⟨y, hy⟩ : ∃ y, wr.cell? ⟨w.heap.size, k, none⟩ = some (.int .i64 y) := ⟨_, (hrow.out.cell k hlt).1⟩
  have f2 := (hrow.out.cell k hlt).2
  clear hc hG; go_wp2
  go_roundw
  case rel =>
   refine ⟨k + 1, by omega, by go_num, ?_, ?_⟩
   ·
    have := hrow.out.set k x
    rw [← hx.out, part_set G k hlt, hx.out] at this
    exact this
   exact hbel.out.setCell (Nat.le_refl _) _
  case measure => simp [intOf]; omega
 have hk' : k = G.length := by omega
 go_wp2
 go_ret; have := hrow.out
 rw [hk', part_all] at this
 exact ⟨rfl, this, hbel.out⟩
end
section
open Go.RowKit
def Blk (w : World) (n : Nat) (c : Array Value) (t : TypeId) : Prop := w.heap[n]? = some (.cells c t (0, 0))
theorem Blk.lt {w : World} {n : Nat} {c : Array Value} {t : TypeId} (h : Blk w n c t) : n < w.heap.size := (Array.getElem?_eq_some_iff.1 h).1
theorem Blk.new (w : World) (c : Array Value) (t : TypeId) : Blk (w.alloc (.cells c t)) w.heap.size c t := heap_alloc_new w _
theorem Blk.new' (w : World) (c : Array Value) (t : TypeId) {n : Nat} (h : n = w.heap.size) : Blk (w.alloc (.cells c t)) n c t := by subst h; exact heap_alloc_new w _
theorem Blk.later {w w' : World} {n : Nat} {c : Array Value} {t : TypeId} (h : Blk w n c t) (hb : Below w.heap.size w w') : Blk w' n c t := by
 unfold Blk; rw [hb.block n h.lt]; exact h
theorem Blk.alloc {w : World} {n : Nat} {c : Array Value} {t : TypeId} (h : Blk w n c t) (o : Obj) : Blk (w.alloc o) n c t := h.later (bl_alloc (Below.refl _ w) o)
theorem Blk.set {w : World} {n : Nat} {c : Array Value} {t : TypeId} (h : Blk w n c t) (o : Nat) (u : Value) : Blk (w.setCell ⟨n, o, none⟩ u) n (c.setIfInBounds o u) t := heap_setCell_same w n o c t u h
theorem Blk.other {w : World} {n : Nat} {c : Array Value} {t : TypeId} (h : Blk w n c t) {m : Nat} (hm : ¬ n = m) (o : Nat) (u : Value) : Blk (w.setCell ⟨m, o, none⟩ u) n c t := by
 unfold Blk; rw [heap_setCell_other w ⟨m, o, none⟩ n u (fun e => hm (by simpa using e))]; exact h
theorem Blk.cell {w : World} {n : Nat} {c : Array Value} {t : TypeId} (h : Blk w n c t) (o : Nat) : w.cell? ⟨n, o, none⟩ = c[o]? := cell_of_row w n o c t (0, 0) h
theorem Blk.frozen {w : World} {n : Nat} {c : Array Value} {t : TypeId} (h : Blk w n c t) (o : Nat) : w.frozen? ⟨n, o, none⟩ = false := frozen_of_row w n o c t h
theorem Blk.two {w : World} {n : Nat} {a b : Value} {t : TypeId} (h : Blk w n #[a, b] t) : w.cell? ⟨n, 0, none⟩ = some a ∧ w.cell? ⟨n, 1, none⟩ = some b ∧ ∀ o, w.frozen? ⟨n, o, none⟩ = false := ⟨h.cell 0, h.cell 1, h.frozen⟩
end
section
open Go.RowKit
theorem Row.mono {w : World} {B B' : Nat} {sl : Option Addr} {n cap : Nat} {G : List Int} (h : Row w B sl n cap G) (hB : B' ≤ B) : Row w B' sl n cap G := by
 refine ⟨h.1, ?_⟩
 rcases h.2 with h' | ⟨g, cap', cur, h', hb, r⟩
 ·
  exact Or.inl h'
 exact Or.inr ⟨g, cap', cur, h', Nat.le_trans hB hb, r⟩
theorem Row.later {w w' : World} {B : Nat} {sl : Option Addr} {n cap : Nat} {G : List Int} (h : Row w B sl n cap G) (hb : Below w.heap.size w w') : Row w' B sl n cap G := by
 refine ⟨h.1, ?_⟩
 rcases h.2 with h' | ⟨g, cap', cur, h', hB, hg, r⟩
 ·
  exact Or.inl h'
 exact Or.inr ⟨g, cap', cur, h', hB, by rw [hb.block g (Array.getElem?_eq_some_iff.1 hg).1]; exact hg, r⟩
theorem Row.other {w : World} {B b : Nat} {g n cap : Nat} {G : List Int} (h : Row w B (some ⟨g, 0, none⟩) n cap G) (hb : ¬ g = b) (o : Nat) (u : Value) : Row (w.setCell ⟨b, o, none⟩ u) B (some ⟨g, 0, none⟩) n cap G := by
 refine ⟨h.1, ?_⟩
 rcases h.2 with h' | ⟨g', cap', cur, h', hB, hg, r⟩
 ·
  exact Or.inl h'
 simp only [Value.slice.injEq, Option.some.injEq, Addr.mk.injEq, and_true, true_and] at h'
 obtain ⟨rfl, rfl⟩ := h'
 exact Or.inr ⟨g, cap, cur, rfl, hB, by rw [Below.heap_setCell _ _ _ _ hb]; exact hg, r⟩
theorem Row.lt {w : World} {B : Nat} {g n cap : Nat} {G : List Int} (h : Row w B (some ⟨g, 0, none⟩) n cap G) : B ≤ g ∧ g < w.heap.size := by
 rcases h.2 with ⟨h', _⟩ | ⟨g', cap', cur, h', hB, hg, r⟩
 ·
  simp at h'
 simp only [Value.slice.injEq, Option.some.injEq, Addr.mk.injEq, and_true, true_and] at h'
 obtain ⟨rfl, rfl⟩ := h'
 exact ⟨hB, (Array.getElem?_eq_some_iff.1 hg).1⟩
theorem Ints.alloc {w : World} {sl : Option Addr} {G : List Int} (h : Ints w sl G) (o : Obj) : Ints (w.alloc o) sl G := h.later (bl_alloc (Below.refl _ w) o)
theorem bcell2 {W w1 : World} (hb : Below W.heap.size W w1) : (∀ b o, (W.cell? ⟨b, o, none⟩).isSome = true → w1.cell? ⟨b, o, none⟩ = W.cell? ⟨b, o, none⟩) ∧ (∀ b o, (W.cell? ⟨b, o, none⟩).isSome = true → w1.frozen? ⟨b, o, none⟩ = W.frozen? ⟨b, o, none⟩) := by
 refine ⟨fun b o h => ?_, fun b o h => ?_⟩
 ·
  obtain ⟨v, hv⟩ := Option.isSome_iff_exists.1 h
  exact hb.cell (p := ⟨b, o, none⟩) (World.block_lt_of_cell? _ _ hv)
 obtain ⟨v, hv⟩ := Option.isSome_iff_exists.1 h
 exact hb.frozen (p := ⟨b, o, none⟩) (World.block_lt_of_cell? _ _ hv)
theorem alloc_old (W : World) (ob : Obj) (b o : Nat) (h : (W.cell? ⟨b, o, none⟩).isSome = true) : (W.alloc ob).cell? ⟨b, o, none⟩ = W.cell? ⟨b, o, none⟩ :=
 (bcell2 (bl_alloc (Below.refl _ W) ob)).1 b o h
theorem alloc_oldf (W : World) (ob : Obj) (b o : Nat) (h : (W.cell? ⟨b, o, none⟩).isSome = true) : (W.alloc ob).frozen? ⟨b, o, none⟩ = W.frozen? ⟨b, o, none⟩ :=
 (bcell2 (bl_alloc (Below.refl _ W) ob)).2 b o h
def Rows2 (w : World) (B : Nat) (g f : Nat) (G F : List Int) : Prop :=
 Row w B (some ⟨g, 0, none⟩) G.length G.length G ∧ Row w B (some ⟨f, 0, none⟩) F.length F.length F ∧ ¬ g = f
theorem Rows2.later {w w' : World} {B g f : Nat} {G F : List Int} (h : Rows2 w B g f G F) (hb : Below w.heap.size w w') : Rows2 w' B g f G F := ⟨h.1.later hb, h.2.1.later hb, h.2.2⟩
theorem Rows2.mono {w : World} {B B' g f : Nat} {G F : List Int} (h : Rows2 w B g f G F) (hB : B' ≤ B) : Rows2 w B' g f G F := ⟨h.1.mono hB, h.2.1.mono hB, h.2.2⟩
set_option maxHeartbeats 2000000 in
theorem toEnts_any (s1 s2 : Option Addr) (c1 c2 : Nat) (G F : List Int) (w : World) (h1 : Ints w s1 G) (h2 : Ints w s2 F) (l1 : G.length ≤ 1048576) (l2 : F.length ≤ 1048576) :
  Calls Tryz.prog 29 #[.agg #[.slice s1 G.length c1, .slice s2 F.length c2]] w fun e w' => ∃ g f, e = .returned (.agg #[.slice (some ⟨g, 0, none⟩) G.length G.length, .slice (some ⟨f, 0, none⟩) F.length F.length]) ∧ Rows2 w' w.heap.size g f G F ∧ Below w.heap.size w w' := by
 have hal := alloc_old
 have haf := alloc_oldf
 go_enter Tryz.func29, Tryz.ntmps29
 go_wp2_with fail; have b0 : Blk _ w.heap.size #[.slice s1 G.length c1, .slice s2 F.length c2] 27 := ((Blk.new w #[.slice s1 G.length c1, .slice s2 F.length c2] 27).alloc (.cells #[.slice none 0 0, .slice none 0 0] 36)).alloc (.cells #[.slice none 0 0, .slice none 0 0] 36)
 have b1 : Blk _ (w.heap.size + 1) #[.slice none 0 0, .slice none 0 0] 36 := (Blk.new' (w.alloc (.cells #[.slice s1 G.length c1, .slice s2 F.length c2] 27)) #[.slice none 0 0, .slice none 0 0] 36 (by simp)).alloc (.cells #[.slice none 0 0, .slice none 0 0] 36)
 have b2 : Blk _ (w.heap.size + 1 + 1) #[.slice none 0 0, .slice none 0 0] 36 := Blk.new' ((w.alloc (.cells #[.slice s1 G.length c1, .slice s2 F.length c2] 27)).alloc (.cells #[.slice none 0 0, .slice none 0 0] 36)) #[.slice none 0 0, .slice none 0 0] 36 (by simp)
 refine (toInts_any s1 c1 G _ (((h1.alloc _).alloc _).alloc _) l1).mono ?_
 rintro e w1 ⟨rfl, hr1, hb1⟩
 obtain ⟨g, hg⟩ : ∃ g, Hid (g = (((w.alloc (.cells #[.slice s1 G.length c1, .slice s2 F.length c2] 27)).alloc (.cells #[.slice none 0 0, .slice none 0 0] 36)).alloc (.cells #[.slice none 0 0, .slice none 0 0] 36)).heap.size) := ⟨_, rfl⟩
 rw [← hg.out] at hr1 ⊢
 have gs : w.heap.size + 1 + 1 < g := by have := hg.out; simp at this; omega
 have p0 := b0.later hb1
 have p1 := b1.later hb1
 have p2 := b2.later hb1
 have q0 := p0.other (m := w.heap.size + 1 + 1) (by omega) 0 (Value.slice (some ⟨g, 0, none⟩) G.length G.length)
 have q1 := p1.other (m := w.heap.size + 1 + 1) (by omega) 0 (Value.slice (some ⟨g, 0, none⟩) G.length G.length)
 have q2 := p2.set 0 (Value.slice (some ⟨g, 0, none⟩) G.length G.length)
 have hl1 : Below w.heap.size w w1 := blq
 have r1 := hr1.other (b := w.heap.size + 1 + 1) (by omega) 0 (Value.slice (some ⟨g, 0, none⟩) G.length G.length)
 obtain ⟨x0, x1, x2⟩ := p0.two
 obtain ⟨y0, y1, y2⟩ := p1.two
 obtain ⟨z0, z1, z2⟩ := p2.two
 have ne1 : ¬ w.heap.size = w.heap.size + 1 + 1 := by omega
 go_wp2_with fail; refine (toInts_any s2 c2 F _ (h2.later blq) l2).mono ?_
 rintro e w2 ⟨rfl, hr2, hb2⟩
 have hl2 : Below w.heap.size w w2 := blq
 obtain ⟨f, hf⟩ : ∃ f, Hid (f = w1.heap.size) := ⟨_, rfl⟩
 simp only [World.size_setCell] at hr2 ⊢
 rw [← hf.out] at hr2 ⊢
 have p0' := q0.later hb2
 have p1' := q1.later hb2
 have p2' := q2.later hb2
 have r1' := r1.later hb2
 clear x0 x1 x2 y0 y1 y2 z0 z1 z2 p0 p1 p2 q0 q1 q2 r1 b0 b1 b2; have gf : g < f := by have := hr1.lt.2; rw [hf.out]; exact this
 obtain ⟨x0, x1, x2⟩ := p0'.two
 obtain ⟨y0, y1, y2⟩ := p1'.two
 obtain ⟨z0, z1, z2⟩ := Blk.two (b := .slice none 0 0) p2'
 have ne2 : ¬ w.heap.size + 1 = w.heap.size + 1 + 1 := by omega
 go_wp2_with fail; refine bodyPost_ret (v := .agg #[.slice (some ⟨g, 0, none⟩) G.length G.length, .slice (some ⟨f, 0, none⟩) F.length F.length]) (by simp [results, Tryz.results29, go_sem, y0, y1]) rfl ⟨g, f, rfl, ⟨?_, ?_, ?_⟩, ?_⟩
 ·
  exact ((((r1'.mono (by omega)).other (by omega) _ _).other (by omega) _ _).other (by omega) _ _)
 ·
  exact ((((hr2.mono (by omega)).other (by omega) _ _).other (by omega) _ _).other (by omega) _ _)
 ·
  omega
 exact blq
theorem ext_getD {A B : List Int} (hl : A.length = B.length) (h : ∀ j, j < A.length → A[j]?.getD 0 = B[j]?.getD 0) : A = B := by
 apply List.ext_getElem hl
 intro j h1 h2
 have := h j h1
 simpa [h1, h2] using this
set_option maxHeartbeats 2000000 in
theorem eqInts_any (sA sB : Option Addr) (cA cB : Nat) (A B : List Int) (w : World) (hA : Ints w sA A) (hB : Ints w sB B) (l1 : A.length ≤ 1048576) :
  Calls Tryz.prog 78 #[.slice sA A.length cA, .slice sB B.length cB] w fun e w' => e = .returned (.bool (decide (A = B))) ∧ Below w.heap.size w w' := by
 by_cases hl : A.length = B.length
 ·
  go_enter Tryz.func78, Tryz.ntmps78
  go_wp2
  go_loopw [5] (fun i wr => ∃ k : Nat, k ≤ A.length ∧ i = .int .i64 k ∧ Hid (∀ j, j < k → A[j]?.getD 0 = B[j]?.getD 0) ∧ Hid (Below w.heap.size w wr)) (fun i _ => A.length - (intOf i).toNat)
  case atStart => exact ⟨0, Nat.zero_le _, rfl, fun j hj => absurd hj (by omega), Below.refl _ _⟩
  obtain ⟨k, hk, rfl, hall, hbel⟩ := hrel
  by_cases hlt : k < A.length
  ·
   obtain ⟨pb, po, rfl, hp, hc⟩ := hA.get hlt
   obtain ⟨qb, qo, rfl, hq, hd⟩ := hB.get (k := k) (by omega)
   obtain ⟨x, hx⟩ : ∃ x, Hid (A[k]?.getD 0 = x) := ⟨_, rfl⟩
   obtain ⟨y, hy⟩ : ∃ x, Hid (B[k]?.getD 0 = x) := ⟨_, rfl⟩
   have d1 : wr.cell? ⟨pb, po + k, none⟩ = some (.int .i64 x) := by rw [← hx.out]; exact (hbel.out.cell (p := ⟨pb, po + k, none⟩) hp).trans (hc k hlt)
   have d2 : wr.cell? ⟨qb, qo + k, none⟩ = some (.int .i64 y) := by rw [← hy.out]; exact (hbel.out.cell (p := ⟨qb, qo + k, none⟩) hq).trans (hd k (by omega))
   have hlt' : k < B.length := by omega
   clear hc hd hA hB; by_cases he : x = y
   ·
    have g : (x != y) = false := by simp [he]
    have hstep : Hid (∀ j, j < k + 1 → A[j]?.getD 0 = B[j]?.getD 0) := fun j hj => by
     by_cases h : j < k
     ·
      exact hall.out j h
     have : j = k := by omega
     subst this; rw [hx.out, hy.out, he]
    clear he hx hy; go_wp2
    go_region
    go_wp2
    go_roundw
    case rel => exact ⟨k + 1, by omega, by go_num, hstep, bl_drewN hbel.out _⟩
    case measure => simp [intOf]; omega
   have g : (x != y) = true := by simp [he]
   have hne : Hid (decide (A = B) = false) := by
    simp only [Hid, decide_eq_false_iff_not]
    intro h
    apply he
    rw [← hx.out, ← hy.out, h]
   clear he hx hy; go_wp2
   go_region
   go_wp2
   go_ret; exact ⟨ret_bool' hne.out.symm, bl_drewN hbel.out _⟩
  have hk' : k = A.length := by omega
  have hlt' : ¬ k < B.length := by omega
  have he : Hid (decide (A = B) = true) := by
   simp only [Hid, decide_eq_true_eq]
   exact ext_getD hl (fun j hj => hall.out j (by omega))
  clear hk'; go_wp2
  go_ret; exact ⟨ret_bool' he.out.symm, hbel.out⟩
 have hne : Hid (decide (A = B) = false) := by
  simp only [Hid, decide_eq_false_iff_not]
  intro h; exact hl (by rw [h])
 have g : ((A.length : Int) != (B.length : Int)) = true := by simp; omega
 clear hl; go_enter Tryz.func78, Tryz.ntmps78
 go_wp2
 go_ret; exact ⟨ret_bool' hne.out.symm, Below.refl _ _⟩
end
end Go.Proofs.YtbgeobpdojmdaaaGreat
