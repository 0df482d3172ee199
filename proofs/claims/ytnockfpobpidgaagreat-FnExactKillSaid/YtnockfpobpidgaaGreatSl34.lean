import Derived.Test.YtnockfpobpidgaaGreatSl14
import Derived.Test.YtnockfpobpidgaaGreatSl13
namespace Go.Proofs.YtnockfpobpidgaaGreat
section
open Go.RowKit
set_option linter.unusedVariables false
theorem wpList_append_one (w : World) {ops : Array Oper} {rest : List Oper} {o : Oper} {a : Act} {Q : Exit → Act → World → Prop}
  (hg : o.guard = none) (s x : Operand) (hop : o.op = Op.call { callee := Callee.builtin Builtin.append, args := #[s, x], argTypes := #[25, 25] })
  (B : Nat) (v : Value) (F : List Int) (hs : a.eval s = v) (hv : VRow w B v F) (sb : Nat) (z : Int) (hx : a.eval x = .slice (some ⟨sb, 0, none⟩) 1 1) (hz : w.cell? ⟨sb, 0, none⟩ = some (.int .i64 z)) (hl : F.length ≤ 1048576)
  (hK : ∀ g d w', VRow w' 0 (.slice (some ⟨g, 0, none⟩) (F.length + 1) d) (F ++ [z]) → w.grownBy w' v.ownBlock → (v.ownBlock = some g ∨ w.heap.size ≤ g) → g < w'.heap.size → wpList Tryz.prog ops Q rest (a.put o.dst (.slice (some ⟨g, 0, none⟩) (F.length + 1) d)) w') :
  wpList Tryz.prog ops Q (o :: rest) a w := by
 refine wpList_plain hg fun K hK' => ?_
 obtain ⟨i0, hi, hz0, hz1, hz2⟩ := info_parts Tryz.infoI
 have hnews : ∀ j u, [Value.int .i64 z][j]? = some u → w.cell? ((⟨sb, 0, none⟩ : Addr).add j) = some u := by
  intro j u hj
  match j, hj with
  | 0, hj => simp at hj; subst hj; simpa [Addr.add] using hz
 have hone : ∀ u ∈ [Value.int .i64 z], u.oneCell' = true := by intro u hu; simp at hu; subst hu; rfl
 have fin : ∀ (w' : World) (g d : Nat), w'.ownsRow 0 3 1 (.slice (some ⟨g, 0, none⟩) (F.length + 1) d) (F.length + 1) (F.map (Value.int .i64) ++ [Value.int .i64 z]) → VRow w' 0 (.slice (some ⟨g, 0, none⟩) (F.length + 1) d) (F ++ [z]) := by
  intro w' g d h
  unfold VRow
  rw [List.length_append, List.map_append]
  exact h
 have low : ∀ {w' : World} {b : Nat} {u : Value} {n : Nat} {xs : List Value}, w'.ownsRow b 3 1 u n xs → w'.ownsRow 0 3 1 u n xs := by
  intro w' b u n xs h
  refine ⟨h.1, ?_⟩
  rcases h.2 with h' | ⟨g, cap', cur, h', hb, r⟩
  ·
   exact Or.inl h'
  ·
   exact Or.inr ⟨g, cap', cur, h', Nat.zero_le _, r⟩
 have new : ∀ {w' : World} {u : Value}, w'.ownsRow w.heap.size 3 1 u (F.length + 1) (F.map (Value.int .i64) ++ [Value.int .i64 z]) → ∃ g d, u = .slice (some ⟨g, 0, none⟩) (F.length + 1) d ∧ w.heap.size ≤ g ∧ g < w'.heap.size := by
  intro w' u h
  rcases h.2 with ⟨_, h0⟩ | ⟨g, cap, cur, rfl, hb, hgg, r⟩
  ·
   omega
  ·
   exact ⟨g, cap, rfl, hb, (Array.getElem?_eq_some_iff.1 hgg).1⟩
 rcases hv.form with ⟨rfl, rfl⟩ | ⟨g, cap, rfl, hcap, hr⟩
 ·
  obtain ⟨v', w', hrun, r1, r2, _⟩ := run_append_own (P := Tryz.prog) w w.heap.size 25 o.type 3 i0 (.int .i64 0) 1 8 Tryz.underlying25 hi hz0 hz1 hz2 rfl (by decide) (.slice none 0 0) 0 [] (World.ownsRow_nil _ _ _ _) ⟨sb, 0, none⟩ 1 1 [.int .i64 z] rfl hnews hone (by unfold maxLen; omega) (by omega) (Nat.le_refl _)
  obtain ⟨g, d, rfl, e1, e2⟩ := new (by simpa using r1)
  unfold Oper.wp
  simp [execOp, hop, resolve, invoke, builtin, hs, hx, hrun, Result.andThen]
  exact hK' _ _ (hK g d w' (fin w' g d (low (by simpa using r1))) r2 (Or.inr e1) e2)
 ·
  by_cases hroom : F.length + 1 ≤ cap
  ·
   obtain ⟨w', hrun, r1, r2⟩ := run_append_fits (P := Tryz.prog) w 0 25 o.type 3 i0 1 Tryz.underlying25 hi hz1 g F.length cap (F.map (Value.int .i64)) (low hr) ⟨sb, 0, none⟩ 1 1 [.int .i64 z] rfl hnews hone hroom
   unfold Oper.wp
   simp [execOp, hop, resolve, invoke, builtin, hs, hx, hrun, Result.andThen]
   exact hK' _ _ (hK g cap w' (fin w' g cap r1) r2 (Or.inl rfl) (World.ownsRow.lt r1 g rfl).2)
  ·
   obtain ⟨v', w', hrun, r1, r2⟩ := run_append_arg_grows (P := Tryz.prog) w 25 o.type 3 i0 (.int .i64 0) 1 8 Tryz.underlying25 hi hz0 hz1 hz2 rfl (by decide) ⟨g, 0, none⟩ F.length cap (F.map (Value.int .i64)) (by simp) (ints_cells hr.ints.1) ⟨sb, 0, none⟩ 1 1 [.int .i64 z] rfl hnews (by omega) (by unfold maxLen; omega) (by omega)
   obtain ⟨g', d, rfl, e1, e2⟩ := new r1
   unfold Oper.wp
   simp [execOp, hop, resolve, invoke, builtin, hs, hx, hrun, Result.andThen]
   exact hK' _ _ (hK g' d w' (fin w' g' d (low r1)) ⟨r2.os, r2.tape, r2.output, r2.size, fun k hk _ => r2.block k hk (by simp)⟩ (Or.inr e1) e2)
end
section
open Go.RowKit
set_option linter.unusedVariables false
set_option linter.unusedSimpArgs false
theorem Blk.kept' {w w' : World} {n : Nat} {c : Array Value} {t : TypeId} {r : Option Nat} (h : Blk w n c t) (hg : w.grownBy w' r) (hr : ¬ r = some n) : Blk w' n c t := by
 unfold Blk; rw [hg.block n h.lt (fun e => hr e.symm)]; exact h
theorem Blk.drew {w : World} {n : Nat} {c : Array Value} {t : TypeId} (h : Blk w n c t) : Blk w.drew n c t := h
structure St (w : World) (A : Array Value) (X : World) : Prop where
 l : Below w.heap.size w X
 k : Blk X w.heap.size A 36
 j : Blk X (w.heap.size + 1) #[.slice none 0 0, .slice none 0 0] 36
 s : w.heap.size + 2 ≤ X.heap.size
theorem St.alloc {w X : World} {A : Array Value} (h : St w A X) (o : Obj) : St w A (X.alloc o) := ⟨bl_alloc h.l o, h.k.alloc o, h.j.alloc o, by simp; have := h.s; omega⟩
theorem St.drew {w X : World} {A : Array Value} (h : St w A X) : St w A X.drew := ⟨bl_drew h.l, h.k, h.j, h.s⟩
theorem St.grow {w X Y : World} {A : Array Value} {n : Nat} (h : St w A X) (hg : X.grownBy Y (some n)) (hn : w.heap.size + 2 ≤ n) : St w A Y :=
 ⟨h.l.grown hg h.l.size (fun k e => by simp at e; omega), h.k.kept' hg (by simp; omega), h.j.kept' hg (by simp; omega), Nat.le_trans h.s hg.size⟩
structure New (w : World) (X : World) (n : Nat) : Prop where
 b : Blk X n #[] 3
 s : w.heap.size + 2 ≤ n
theorem New.new {w X : World} {A : Array Value} (h : St w A X) : New w (X.alloc (.cells #[] 3)) X.heap.size := ⟨Blk.new _ _ _, h.s⟩
theorem New.alloc {w X : World} {n : Nat} (h : New w X n) (o : Obj) : New w (X.alloc o) n := ⟨h.b.alloc o, h.s⟩
theorem New.drew {w X : World} {n : Nat} (h : New w X n) : New w X.drew n := ⟨h.b, h.s⟩
theorem New.kept {w X Y : World} {n m : Nat} (h : New w X n) (hg : X.grownBy Y (some m)) (hn : ¬ m = n) : New w Y n := ⟨h.b.kept' hg (by simp; exact hn), h.s⟩
theorem VRow.alloc {w : World} {B : Nat} {v : Value} {G : List Int} (h : VRow w B v G) (o : Obj) : VRow (w.alloc o) B v G := h.later (bl_alloc (Below.refl _ w) o)
theorem VRow.raise {w : World} {B B' g len c : Nat} {G : List Int} (h : VRow w B (.slice (some ⟨g, 0, none⟩) len c) G) (hB : B' ≤ g) : VRow w B' (.slice (some ⟨g, 0, none⟩) len c) G := by
 refine ⟨h.1, ?_⟩
 rcases h.2 with h' | ⟨g', cap', cur, h', hb, r⟩
 ·
  exact Or.inl h'
 ·
  have e := h'
  simp only [Value.slice.injEq, Option.some.injEq, Addr.mk.injEq, and_true] at e
  exact Or.inr ⟨g', cap', cur, h', by omega, r⟩
end
section
open Go.RowKit
set_option linter.unusedVariables false
def ng (g : Int) : Int := if 1000000 ≤ g then 0 else g + 1
theorem blk3 (w : World) (c d e : Array Value) (t u v : TypeId) : Blk (((w.alloc (.cells c t)).alloc (.cells d u)).alloc (.cells e v)) w.heap.size c t ∧ Blk (((w.alloc (.cells c t)).alloc (.cells d u)).alloc (.cells e v)) (w.heap.size + 1) d u ∧ Blk (((w.alloc (.cells c t)).alloc (.cells d u)).alloc (.cells e v)) (w.heap.size + 1 + 1) e v :=
 ⟨((Blk.new w c t).alloc _).alloc _, (Blk.new' _ d u (by simp)).alloc _, Blk.new' _ e v (by simp)⟩
theorem VRow.cell {w : World} {B g c : Nat} {G : List Int} (h : VRow w B (.slice (some ⟨g, 0, none⟩) G.length c) G) {q : Nat} (hq : q < G.length) : w.cell? ⟨g, q, none⟩ = some (.int .i64 (G[q]?.getD 0)) ∧ w.frozen? ⟨g, q, none⟩ = false := Row.cell h q hq
theorem VRow.setv {w : World} {B g c : Nat} {G : List Int} (h : VRow w B (.slice (some ⟨g, 0, none⟩) G.length c) G) (q : Nat) (x : Int) : VRow (w.setCell ⟨g, q, none⟩ (.int .i64 x)) B (.slice (some ⟨g, 0, none⟩) G.length c) (G.set q x) := by
 have := Row.set h q x
 unfold VRow
 rw [List.length_set]
 exact this
theorem VRow.ge {w : World} {B g n c : Nat} {G : List Int} (h : VRow w B (.slice (some ⟨g, 0, none⟩) n c) G) : B ≤ g ∧ g < w.heap.size := World.ownsRow.lt h g rfl
structure Fr (g f : Nat) (w w' : World) : Prop where
 os : w'.os = w.os
 tape : w'.tape = w.tape
 output : w'.output = w.output
 size : w.heap.size ≤ w'.heap.size
 block : ∀ k, k < w.heap.size → ¬ k = g → ¬ k = f → w'.heap[k]? = w.heap[k]?
theorem Fr.refl (g f : Nat) (w : World) : Fr g f w w := ⟨rfl, rfl, rfl, Nat.le_refl _, fun _ _ _ _ => rfl⟩
theorem Fr.alloc {g f : Nat} {a b : World} (h : Fr g f a b) (o : Obj) : Fr g f a (b.alloc o) :=
 ⟨h.os, h.tape, h.output, by simp; have := h.size; omega, fun k hk h1 h2 => by rw [Below.heap_alloc b o k (Nat.lt_of_lt_of_le hk h.size)]; exact h.block k hk h1 h2⟩
theorem Fr.setCell {g f : Nat} {a b : World} (h : Fr g f a b) {n : Nat} (hn : n = g ∨ n = f ∨ a.heap.size ≤ n) (o : Nat) (u : Value) : Fr g f a (b.setCell ⟨n, o, none⟩ u) :=
 ⟨h.os, h.tape, h.output, by simp; exact h.size, fun k hk h1 h2 => by rw [Below.heap_setCell b ⟨n, o, none⟩ u k (by simp; omega)]; exact h.block k hk h1 h2⟩
theorem Fr.grown {g f : Nat} {a b c : World} (h : Fr g f a b) (hg : b.grownBy c (some f)) : Fr g f a c :=
 ⟨hg.os.trans h.os, hg.tape.trans h.tape, hg.output.trans h.output, Nat.le_trans h.size hg.size, fun k hk h1 h2 => (hg.block k (Nat.lt_of_lt_of_le hk h.size) (by simp; omega)).trans (h.block k hk h1 h2)⟩
theorem Blk.fr {g f : Nat} {a b : World} {n : Nat} {c : Array Value} {t : TypeId} (h : Blk a n c t) (hf : Fr g f a b) (h1 : ¬ n = g) (h2 : ¬ n = f) : Blk b n c t := by
 unfold Blk; rw [hf.block n h.lt h1 h2]; exact h
end
section
open Go.RowKit
set_option linter.unusedVariables false
set_option linter.unusedSimpArgs false
def giveB (G F : List Int) (a g : Int) : List Int × List Int × Int :=
 if okE G F = true then (if l2B G F a g = true then (G.set a.toNat (ng g), F ++ [a], 0) else (G, F, 2)) else (G, F, 1)
def Gives (O : List Int × List Int × Int) (w : World) (e : Ending) (w' : World) : Prop :=
 ∃ s c t d, e = .returned (.tuple #[.agg #[.slice s O.1.length c, .slice t O.2.1.length d], .int .i64 O.2.2]) ∧ VRow w' w.heap.size (.slice s O.1.length c) O.1 ∧ VRow w' w.heap.size (.slice t O.2.1.length d) O.2.1 ∧ Apart (.slice s O.1.length c) (.slice t O.2.1.length d) ∧ Below w.heap.size w w'
theorem l2B_parts {G F : List Int} {a g : Int} (h : l2B G F a g = true) (hk : okE G F = true) : ∃ q : Nat, a = (q : Int) ∧ q < G.length ∧ 0 ≤ g ∧ g ≤ 1000000 := by
 simp only [l2B, decide_eq_true_eq] at h
 simp only [okE, decide_eq_true_eq] at hk
 obtain ⟨h1, h2, h3, h4⟩ := h
 refine ⟨a.toNat, by omega, by omega, ?_⟩
 rw [← h3]
 exact hk.2.1 _ (getD_mem (by omega))
theorem okE_len {G F : List Int} (h : okE G F = true) : G.length ≤ 2000 ∧ F.length ≤ 2000 := by
 have h' := h
 rw [okE_eq] at h
 simp only [Bool.and_eq_true, decide_eq_true_eq] at h
 have := free_len h.2
 omega
theorem apartS {g f n m c d : Nat} (h : ¬ g = f) : Apart (.slice (some ⟨g, 0, none⟩) n c) (.slice (some ⟨f, 0, none⟩) m d) := by
 intro k h1 h2
 simp [Value.ownBlock] at h1 h2
 omega
end
section
open Go.RowKit
set_option linter.unusedVariables false
set_option maxHeartbeats 16000000 in
theorem implLive_any (s1 s2 : Option Addr) (c1 c2 : Nat) (G F : List Int) (a g : Int) (w : World) (h1 : Ints w s1 G) (h2 : Ints w s2 F) (l1 : G.length ≤ 1048576) (l2 : F.length ≤ 1048576) :
  Calls Tryz.prog 140 #[.agg #[.slice s1 G.length c1, .slice s2 F.length c2], .agg #[.int .i64 a, .int .i64 g]] w fun e w' => e = .returned (.bool (liveB G F a g)) ∧ Below w.heap.size w w' := by
 have hal := alloc_old
 have haf := alloc_oldf
 obtain ⟨k0, k1⟩ := blk2 w #[.slice s1 G.length c1, .slice s2 F.length c2] #[.int .i64 a, .int .i64 g] 36 48
 cases hk : okE G F
 ·
  have hbad : Hid (liveB G F a g = false) := by simp [Hid, liveB, hk]
  go_enter Tryz.func140, Tryz.ntmps140
  go_wp2_with fail
  refine (implEntsOk_any s1 s2 c1 c2 G F _ (h1.later (by (repeat (first | with_reducible exact Below.refl _ _ | with_reducible refine bl_alloc ?_ _ | with_reducible refine bl_drewN ?_ _ | with_reducible refine bl_drew ?_ | with_reducible refine bl_setCell ?_ (by first | exact Nat.le_refl _ | (dsimp only; omega) | (simp <;> omega)) _ | with_reducible refine bl_trans ?_ (by with_reducible assumption))))) (h2.later (by (repeat (first | with_reducible exact Below.refl _ _ | with_reducible refine bl_alloc ?_ _ | with_reducible refine bl_drewN ?_ _ | with_reducible refine bl_drew ?_ | with_reducible refine bl_setCell ?_ (by first | exact Nat.le_refl _ | (dsimp only; omega) | (simp <;> omega)) _ | with_reducible refine bl_trans ?_ (by with_reducible assumption))))) l2).mono ?_
  rintro e w1 ⟨rfl, hb1⟩
  rw [hk]
  go_wp2_with fail
  go_ret
  refine ⟨ret_bool' hbad.out.symm, ?_⟩
  (repeat (first | with_reducible exact Below.refl _ _ | with_reducible refine bl_alloc ?_ _ | with_reducible refine bl_drewN ?_ _ | with_reducible refine bl_drew ?_ | with_reducible refine bl_setCell ?_ (by first | exact Nat.le_refl _ | (dsimp only; omega) | (simp <;> omega)) _ | with_reducible refine bl_trans ?_ (by with_reducible assumption)))
 ·
  have hE : Hid (liveB G F a g = l2B G F a g) := by simp [Hid, liveB, hk]
  by_cases a0 : a < 0
  ·
   have hbad : Hid (liveB G F a g = false) := by
    show _ = _
    rw [hE.out]
    simp only [l2B, decide_eq_false_iff_not]
    rintro ⟨h3, _⟩
    omega
   go_enter Tryz.func140, Tryz.ntmps140
   go_wp2_with fail
   refine (implEntsOk_any s1 s2 c1 c2 G F _ (h1.later (by (repeat (first | with_reducible exact Below.refl _ _ | with_reducible refine bl_alloc ?_ _ | with_reducible refine bl_drewN ?_ _ | with_reducible refine bl_drew ?_ | with_reducible refine bl_setCell ?_ (by first | exact Nat.le_refl _ | (dsimp only; omega) | (simp <;> omega)) _ | with_reducible refine bl_trans ?_ (by with_reducible assumption))))) (h2.later (by (repeat (first | with_reducible exact Below.refl _ _ | with_reducible refine bl_alloc ?_ _ | with_reducible refine bl_drewN ?_ _ | with_reducible refine bl_drew ?_ | with_reducible refine bl_setCell ?_ (by first | exact Nat.le_refl _ | (dsimp only; omega) | (simp <;> omega)) _ | with_reducible refine bl_trans ?_ (by with_reducible assumption))))) l2).mono ?_
   rintro e w1 ⟨rfl, hb1⟩
   rw [hk]
   obtain ⟨x0, x1, x2⟩ := (k0.later hb1).two
   obtain ⟨y0, y1, y2⟩ := (k1.later hb1).two
   go_wp2_with fail
   go_ret
   refine ⟨ret_bool' hbad.out.symm, ?_⟩
   (repeat (first | with_reducible exact Below.refl _ _ | with_reducible refine bl_alloc ?_ _ | with_reducible refine bl_drewN ?_ _ | with_reducible refine bl_drew ?_ | with_reducible refine bl_setCell ?_ (by first | exact Nat.le_refl _ | (dsimp only; omega) | (simp <;> omega)) _ | with_reducible refine bl_trans ?_ (by with_reducible assumption)))
  by_cases a1 : (G.length : Int) ≤ a
  ·
   have hbad : Hid (liveB G F a g = false) := by
    show _ = _
    rw [hE.out]
    simp only [l2B, decide_eq_false_iff_not]
    rintro ⟨_, h3, _⟩
    omega
   go_enter Tryz.func140, Tryz.ntmps140
   go_wp2_with fail
   refine (implEntsOk_any s1 s2 c1 c2 G F _ (h1.later (by (repeat (first | with_reducible exact Below.refl _ _ | with_reducible refine bl_alloc ?_ _ | with_reducible refine bl_drewN ?_ _ | with_reducible refine bl_drew ?_ | with_reducible refine bl_setCell ?_ (by first | exact Nat.le_refl _ | (dsimp only; omega) | (simp <;> omega)) _ | with_reducible refine bl_trans ?_ (by with_reducible assumption))))) (h2.later (by (repeat (first | with_reducible exact Below.refl _ _ | with_reducible refine bl_alloc ?_ _ | with_reducible refine bl_drewN ?_ _ | with_reducible refine bl_drew ?_ | with_reducible refine bl_setCell ?_ (by first | exact Nat.le_refl _ | (dsimp only; omega) | (simp <;> omega)) _ | with_reducible refine bl_trans ?_ (by with_reducible assumption))))) l2).mono ?_
   rintro e w1 ⟨rfl, hb1⟩
   rw [hk]
   obtain ⟨x0, x1, x2⟩ := (k0.later hb1).two
   obtain ⟨y0, y1, y2⟩ := (k1.later hb1).two
   go_wp2_with fail
   go_ret
   refine ⟨ret_bool' hbad.out.symm, ?_⟩
   (repeat (first | with_reducible exact Below.refl _ _ | with_reducible refine bl_alloc ?_ _ | with_reducible refine bl_drewN ?_ _ | with_reducible refine bl_drew ?_ | with_reducible refine bl_setCell ?_ (by first | exact Nat.le_refl _ | (dsimp only; omega) | (simp <;> omega)) _ | with_reducible refine bl_trans ?_ (by with_reducible assumption)))
  obtain ⟨q, rfl⟩ : ∃ q : Nat, a = (q : Int) := ⟨a.toNat, by omega⟩
  have hq : q < G.length := by omega
  obtain ⟨x, hx⟩ : ∃ x, Hid (G[q]?.getD 0 = x) := ⟨_, rfl⟩
  clear a0 a1
  have hE2 : Hid (liveB G F q g = ((g == x) && !decide ((q : Int) ∈ F))) := by
   show _ = _
   rw [hE.out, l2B, Bool.eq_iff_iff]
   have e3 : G[((q : Int)).toNat]?.getD 0 = x := by simpa using hx.out
   rw [e3]
   simp
   constructor
   ·
    rintro ⟨_, h, h'⟩; exact ⟨h.symm, h'⟩
   ·
    rintro ⟨h, h'⟩; exact ⟨by omega, h.symm, h'⟩
  go_enter Tryz.func140, Tryz.ntmps140
  go_wp2_with fail
  refine (implEntsOk_any s1 s2 c1 c2 G F _ (h1.later (by (repeat (first | with_reducible exact Below.refl _ _ | with_reducible refine bl_alloc ?_ _ | with_reducible refine bl_drewN ?_ _ | with_reducible refine bl_drew ?_ | with_reducible refine bl_setCell ?_ (by first | exact Nat.le_refl _ | (dsimp only; omega) | (simp <;> omega)) _ | with_reducible refine bl_trans ?_ (by with_reducible assumption))))) (h2.later (by (repeat (first | with_reducible exact Below.refl _ _ | with_reducible refine bl_alloc ?_ _ | with_reducible refine bl_drewN ?_ _ | with_reducible refine bl_drew ?_ | with_reducible refine bl_setCell ?_ (by first | exact Nat.le_refl _ | (dsimp only; omega) | (simp <;> omega)) _ | with_reducible refine bl_trans ?_ (by with_reducible assumption))))) l2).mono ?_
  rintro e w1 ⟨rfl, hb1⟩
  rw [hk]
  have j0 := k0.later hb1
  have j1 := k1.later hb1
  have l1w : Below w.heap.size w w1 := by (repeat (first | with_reducible exact Below.refl _ _ | with_reducible refine bl_alloc ?_ _ | with_reducible refine bl_drewN ?_ _ | with_reducible refine bl_drew ?_ | with_reducible refine bl_setCell ?_ (by first | exact Nat.le_refl _ | (dsimp only; omega) | (simp <;> omega)) _ | with_reducible refine bl_trans ?_ (by with_reducible assumption)))
  obtain ⟨x0, x1, x2⟩ := j0.two
  obtain ⟨y0, y1, y2⟩ := j1.two
  clear k0 k1 hb1
  cases hgx : ((g == x) : Bool)
  ·
   have hbad : Hid (liveB G F q g = false) := by show _ = _; rw [hE2.out, hgx]; rfl
   go_wp2_with fail
   first | go_region_with (first
    | (go_at_call 151; refine (entAt_any s1 s2 c1 c2 G F q x _ (h1.later (by (repeat (first | with_reducible exact Below.refl _ _ | with_reducible refine bl_alloc ?_ _ | with_reducible refine bl_drewN ?_ _ | with_reducible refine bl_drew ?_ | with_reducible refine bl_setCell ?_ (by first | exact Nat.le_refl _ | (dsimp only; omega) | (simp <;> omega)) _ | with_reducible refine bl_trans ?_ (by with_reducible assumption))))) hq hx.out l1).mono ?_; rintro e w2 ⟨rfl, hb2⟩; have l2w : Below w1.heap.size w1 w2 := (by (repeat (first | with_reducible exact Below.refl _ _ | with_reducible refine bl_alloc ?_ _ | with_reducible refine bl_drewN ?_ _ | with_reducible refine bl_drew ?_ | with_reducible refine bl_setCell ?_ (by first | exact Nat.le_refl _ | (dsimp only; omega) | (simp <;> omega)) _ | with_reducible refine bl_trans ?_ (by with_reducible assumption)))); obtain ⟨u0, u1, u2⟩ := (j0.later l2w).two; obtain ⟨v0, v1, v2⟩ := (j1.later l2w).two)
    | (go_at_call 113; refine (contains_any s2 c2 F q _ (h2.later (by (repeat (first | with_reducible exact Below.refl _ _ | with_reducible refine bl_alloc ?_ _ | with_reducible refine bl_drewN ?_ _ | with_reducible refine bl_drew ?_ | with_reducible refine bl_setCell ?_ (by first | exact Nat.le_refl _ | (dsimp only; omega) | (simp <;> omega)) _ | with_reducible refine bl_trans ?_ (by with_reducible assumption))))) l2).mono ?_; rintro e w3 ⟨rfl, hb3⟩)) | fail
   all_goals
    go_wp2_with fail
    go_ret
    refine ⟨ret_bool' hbad.out.symm, ?_⟩
    (repeat (first | with_reducible exact Below.refl _ _ | with_reducible refine bl_alloc ?_ _ | with_reducible refine bl_drewN ?_ _ | with_reducible refine bl_drew ?_ | with_reducible refine bl_setCell ?_ (by first | exact Nat.le_refl _ | (dsimp only; omega) | (simp <;> omega)) _ | with_reducible refine bl_trans ?_ (by with_reducible assumption)))
  ·
   have hE3 : Hid (liveB G F q g = !decide ((q : Int) ∈ F)) := by show _ = _; rw [hE2.out, hgx]; rfl
   have hge : g = x := by simpa using hgx
   clear hgx hE2 hE
   subst hge
   go_wp2_with fail
   first | go_region_with (first
    | (go_at_call 151; refine (entAt_any s1 s2 c1 c2 G F q g _ (h1.later (by (repeat (first | with_reducible exact Below.refl _ _ | with_reducible refine bl_alloc ?_ _ | with_reducible refine bl_drewN ?_ _ | with_reducible refine bl_drew ?_ | with_reducible refine bl_setCell ?_ (by first | exact Nat.le_refl _ | (dsimp only; omega) | (simp <;> omega)) _ | with_reducible refine bl_trans ?_ (by with_reducible assumption))))) hq hx.out l1).mono ?_; rintro e w2 ⟨rfl, hb2⟩; have l2w : Below w1.heap.size w1 w2 := (by (repeat (first | with_reducible exact Below.refl _ _ | with_reducible refine bl_alloc ?_ _ | with_reducible refine bl_drewN ?_ _ | with_reducible refine bl_drew ?_ | with_reducible refine bl_setCell ?_ (by first | exact Nat.le_refl _ | (dsimp only; omega) | (simp <;> omega)) _ | with_reducible refine bl_trans ?_ (by with_reducible assumption)))); obtain ⟨u0, u1, u2⟩ := (j0.later l2w).two; obtain ⟨v0, v1, v2⟩ := (j1.later l2w).two)
    | (go_at_call 113; refine (contains_any s2 c2 F q _ (h2.later (by (repeat (first | with_reducible exact Below.refl _ _ | with_reducible refine bl_alloc ?_ _ | with_reducible refine bl_drewN ?_ _ | with_reducible refine bl_drew ?_ | with_reducible refine bl_setCell ?_ (by first | exact Nat.le_refl _ | (dsimp only; omega) | (simp <;> omega)) _ | with_reducible refine bl_trans ?_ (by with_reducible assumption))))) l2).mono ?_; rintro e w3 ⟨rfl, hb3⟩)) | fail
   all_goals
    go_wp2_with fail
    go_ret
    refine ⟨ret_bool' hE3.out.symm, ?_⟩
    (repeat (first | with_reducible exact Below.refl _ _ | with_reducible refine bl_alloc ?_ _ | with_reducible refine bl_drewN ?_ _ | with_reducible refine bl_drew ?_ | with_reducible refine bl_setCell ?_ (by first | exact Nat.le_refl _ | (dsimp only; omega) | (simp <;> omega)) _ | with_reducible refine bl_trans ?_ (by with_reducible assumption)))
end
section
open Go.RowKit
set_option linter.unusedVariables false
set_option linter.unusedSimpArgs false
set_option maxHeartbeats 1000000 in
theorem nextGen_any (g : Int) (w : World) (h1 : 0 ≤ g) (h2 : g ≤ 1000000) : Calls Tryz.prog 141 #[.int .i64 g] w fun e w' => e = .returned (.int .i64 (ng g)) ∧ w' = w := by
 by_cases h : g = 1000000
 ·
  have gg : (g == 1000000) = true := by simp [h]
  have hE : Hid (ng g = 0) := by simp [Hid, ng]; omega
  clear h
  go_enter Tryz.func141, Tryz.ntmps141
  go_wp2_with fail
  go_ret
  exact ⟨ret_int hE.out.symm, rfl⟩
 ·
  have gg : (g == 1000000) = false := by simp [h]
  have hE : Hid (ng g = g + 1) := by simp [Hid, ng]; omega
  go_enter Tryz.func141, Tryz.ntmps141
  go_wp2_with fail
  go_ret
  exact ⟨ret_int hE.out.symm, rfl⟩
end
end Go.Proofs.YtnockfpobpidgaaGreat
