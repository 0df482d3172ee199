import Derived.Test.YtbgeobpdojmdaaaGreatSq15
import Derived.Deep.AppendLies
import Derived.Great.BuildSlice
namespace Go.Proofs.YtbgeobpdojmdaaaGreat
set_option linter.unusedVariables false
set_option linter.unusedSimpArgs false
section
open Go.RowKit
theorem boxWE' (w : World) (c d : Array Value) (t u : TypeId) : Blk ((w.alloc (.cells c t)).alloc (.cells d u)) w.heap.size c t ∧ Blk ((w.alloc (.cells c t)).alloc (.cells d u)) (w.heap.size + 1) d u ∧ Below w.heap.size w ((w.alloc (.cells c t)).alloc (.cells d u)) :=
 ⟨(Blk.new w c t).alloc _, Blk.new' _ d u (by simp), bl_alloc (bl_alloc (Below.refl _ _) _) _⟩
theorem setTwo_far {w : World} {n b o : Nat} (u0 u1 : Value) (h : ¬ n = b) : ((w.setCell ⟨n, 0, none⟩ u0).setCell ⟨n, 1, none⟩ u1).cell? ⟨b, o, none⟩ = w.cell? ⟨b, o, none⟩ := by
 rw [World.cell?_setCell_far _ _ _ _ (by simpa using h), World.cell?_setCell_far _ _ _ _ (by simpa using h)]
theorem NewR.sl {w : World} {f : Value → OR} {n : Nat} {e : Ending} {w' : World} (h : NewR w f e w') (hv : ∀ v, (f v).v = v) (hn : ∀ v, (f v).n = n) : ∃ s c, e = .returned (.slice s n c) ∧ (f (.slice s n c)).on w' w.heap.size ∧ Below w.heap.size w w' := by
 obtain ⟨v, rfl, h1, h2⟩ := h
 obtain ⟨s, c, e⟩ := h1.shape
 rw [hv, hn] at e
 subst e
 exact ⟨s, c, rfl, h1, h2⟩
theorem Owns.two {w w' : World} {B : Nat} {r q : OR} (h : r.on w B) (hb : Below w.heap.size w w') (g : q.on w' w.heap.size) (hB : B ≤ w.heap.size) : Owns w' B [r, q] := (Owns.one h).add hb (Owns.one g) hB
theorem Owns.putC {w : World} {B : Nat} {R : List OR} (h : Owns w B R) {p : Addr} (hn : p.block < B) (u : Value) : Owns (w.setCell p u) B R :=
 h.same fun g hg => Below.heap_setCell w p u g (by have := (h.lt hg).1; omega)
set_option maxHeartbeats 2000000 in
theorem copyEnts_new (s1 s2 : Option Addr) (c1 c2 : Nat) (G F : List Int) (B : Nat) (w : World) (h1 : Els 1 cInt w B s1 G) (h2 : Els 1 cInt w B s2 F) (l1 : G.length ≤ 1048576) (l2 : F.length ≤ 1048576) :
  Calls Tryz.prog 103 #[.agg #[.slice s1 G.length c1, .slice s2 F.length c2]] w fun e w' => (∃ sa ca sb cb, e = .returned (.agg #[.slice sa G.length ca, .slice sb F.length cb]) ∧ Owns w' w.heap.size [rI (.slice sa G.length ca) G, rI (.slice sb F.length cb) F]) ∧ Below w.heap.size w w' := by
 have hal := alloc_old
 have haf := alloc_oldf
 obtain ⟨k0, k1, L0⟩ := boxWE' w #[.slice s1 G.length c1, .slice s2 F.length c2] #[.slice none 0 0, .slice none 0 0] 36 36
 obtain ⟨x0, x1, x2⟩ := k0.two
 go_enter Tryz.func103, Tryz.ntmps103
 go_wp2_with fail; generalize hX : (w.alloc (.cells #[.slice s1 G.length c1, .slice s2 F.length c2] 36)).alloc (.cells #[.slice none 0 0, .slice none 0 0] 36) = X at k0 k1 L0 x0 x1 x2 ⊢
 clear hX; have K0 : Hid (Blk X w.heap.size #[.slice s1 G.length c1, .slice s2 F.length c2] 36) := k0
 have K1 : Hid (Blk X (w.heap.size + 1) #[.slice none 0 0, .slice none 0 0] 36) := k1
 have h1X := h1.later cInt_keeps L0
 have h2X := h2.later cInt_keeps L0
 clear k0 k1; go_region_held3 (fun w' => w'.cell? ⟨w.heap.size, 0, none⟩ = some (.slice s1 G.length c1) ∧ w'.cell? ⟨w.heap.size, 1, none⟩ = some (.slice s2 F.length c2)) (first | (simp [x0, x1]; done) | (exact ⟨(setTwo_far _ _ (by omega)).trans x0, (setTwo_far _ _ (by omega)).trans x1⟩))
  (first
   | (go_at_call 123; refine (copyInts_new s2 c2 F B wa (h2X.later cInt_keeps hwa) l2).mono ?_; intro e wb hN; obtain ⟨sb, cb, rfl, hOb, hbb⟩ := NewR.sl (n := F.length) hN (fun _ => rfl) (fun _ => rfl); have hwb : Below X.heap.size X wb := (bl_trans hwa hbb); obtain ⟨x0, x1, x2⟩ := (K0.out.later hwb).two; obtain ⟨y0, y1, y2⟩ := (K1.out.later hwb).two)
   | (go_at_call 123; refine (copyInts_new s1 c1 G B _ (h1X.later cInt_keeps blq) l1).mono ?_; intro e wa hN; obtain ⟨sa, ca, rfl, hOa, hba⟩ := NewR.sl (n := G.length) hN (fun _ => rfl) (fun _ => rfl); have hwa : Below X.heap.size X wa := blq; obtain ⟨x0, x1, x2⟩ := (K0.out.later hwa).two; obtain ⟨y0, y1, y2⟩ := (K1.out.later hwa).two))
 have lb := K1.out.lt
 have la := hwa.size
 have lw := bl_trans L0 hwb
 have hO := Owns.two hOa hbb hOb (by rw [show X.drew.heap.size = X.heap.size from rfl]; omega)
 rw [show X.drew.heap.size = X.heap.size from rfl] at hO
 clear hOa hOb; go_wp2_with fail; refine bodyPost_ret (v := .agg #[.slice sa G.length ca, .slice sb F.length cb]) (by simp [results, Tryz.results103, go_sem, y0, y1]) rfl ⟨⟨sa, ca, sb, cb, rfl, ?_⟩, ?_⟩
 ·
  exact ((hO.putC (by simp <;> omega) _).putC (by simp <;> omega) _).mono (by omega)
 exact (lw.setCell (by simp <;> omega) _).setCell (by simp <;> omega) _
end
section
open Go.RowKit
def rB (k : Nat) (T : TypeId) (cs : List Value) : OR := ⟨T, cs.length, .slice (some ⟨k, 0, none⟩) 1 1, 1, cs⟩
theorem rB_blk {w : World} {B k : Nat} {T : TypeId} {cs : List Value} (h : (rB k T cs).on w B) : Blk w k cs.toArray T := by
 rcases h.2 with ⟨e, _⟩ | ⟨g, cap, cur, e, hb, hg, h1, h2, h3, h4⟩
 ·
  cases e
 simp only [rB, Value.slice.injEq, Option.some.injEq, Addr.mk.injEq] at e
 obtain ⟨⟨rfl, _⟩, _, rfl⟩ := e
 have e : cur = cs.toArray := by
  apply Array.toList_inj.1
  have h4 : cur.toList.take (1 * cs.length) = cs := h4
  have h3 : cur.size = 1 * cs.length := h3
  rw [← h4, List.take_of_length_le (by rw [Array.length_toList, h3]; exact Nat.le_refl _)]
 rw [← e]; exact hg
theorem blk_rB {w : World} {B k : Nat} {T : TypeId} {cs : List Value} (h : Blk w k cs.toArray T) (hB : B ≤ k) : (rB k T cs).on w B :=
 ⟨by simp [rB], Or.inr ⟨k, 1, cs.toArray, rfl, hB, h, Nat.le_refl _, by unfold maxLen; omega, by simp [rB], by simp [rB, List.take_of_length_le]⟩⟩
structure Rs (X : World) (B : Nat) (W : World) (R : List OR) : Prop where
 l : Below B X W
 o : Owns W B R
 s : B ≤ W.heap.size
theorem Rs.start {X : World} {B : Nat} {R : List OR} (h : Owns X B R) (hB : B ≤ X.heap.size) : Rs X B X R := ⟨Below.refl _ _, h, hB⟩
theorem Rs.nil (X : World) : Rs X X.heap.size X [] := ⟨Below.refl _ _, Owns.nil _ _, Nat.le_refl _⟩
theorem Rs.drew {X W : World} {B : Nat} {R : List OR} (h : Rs X B W R) : Rs X B W.drew R := ⟨h.l.drew, h.o.same fun _ _ => rfl, h.s⟩
theorem Rs.blk {X W : World} {B : Nat} {R : List OR} (h : Rs X B W R) {n : Nat} {c : Array Value} {t : TypeId} (hb : Blk X n c t) (hn : n < B) : Blk W n c t := by
 unfold Blk; rw [h.l.block n hn]; exact hb
theorem Rs.perm {X W : World} {B : Nat} {R S : List OR} (h : Rs X B W R) (hp : R.Perm S) : Rs X B W S := ⟨h.l, h.o.perm hp, h.s⟩
theorem perm_ins {α : Type} (P S : List α) (r : α) : (P ++ S ++ [r]).Perm (P ++ r :: S) := by
 rw [List.append_assoc]
 exact List.Perm.append_left P List.perm_append_comm
theorem perm_mid {α : Type} (P S : List α) (r : α) : (P ++ r :: S).Perm (r :: (P ++ S)) := List.perm_middle
theorem Rs.later {X W W' : World} {B : Nat} {R : List OR} (h : Rs X B W R) (hb : Below W.heap.size W W') : Rs X B W' R :=
 ⟨h.l.trans (hb.mono h.s), h.o.later hb, Nat.le_trans h.s hb.size⟩
theorem Rs.ins {X W W' : World} {B : Nat} (P S : List OR) {r : OR} (h : Rs X B W (P ++ S)) (hb : Below W.heap.size W W') (hr : r.on W' W.heap.size) : Rs X B W' (P ++ r :: S) :=
 ⟨h.l.trans (hb.mono h.s), (h.o.add hb (Owns.one hr) h.s).perm (perm_ins P S r), Nat.le_trans h.s hb.size⟩
theorem Rs.insM {X W W' : World} {B : Nat} (P M S : List OR) (h : Rs X B W (P ++ S)) (hb : Below W.heap.size W W') (hr : Owns W' W.heap.size M) : Rs X B W' (P ++ (M ++ S)) :=
 ⟨h.l.trans (hb.mono h.s), (h.o.add hb hr h.s).perm (by rw [List.append_assoc]; exact List.Perm.append_left P List.perm_append_comm), Nat.le_trans h.s hb.size⟩
theorem Rs.turn {X W W' : World} {B : Nat} (P S : List OR) {r r' : OR} (h : Rs X B W (P ++ r :: S)) (hg : W.grownBy W' r.v.ownBlock) (hr : r'.on W' B) (hn : ∀ g, r'.v.ownBlock = some g → r.v.ownBlock = some g ∨ W.heap.size ≤ g) : Rs X B W' (P ++ r' :: S) := by
 have ho := h.o.perm (perm_mid P S r)
 refine ⟨h.l.grown hg h.s (fun k e => (ho.head.lt k e).1), (ho.turn hg hr hn).perm (perm_mid P S r').symm, Nat.le_trans h.s hg.size⟩
theorem Rs.less {X W : World} {B : Nat} (P S : List OR) {r : OR} (h : Rs X B W (P ++ r :: S)) : Rs X B W (P ++ S) := ⟨h.l, (h.o.perm (perm_mid P S r)).tail, h.s⟩
theorem Rs.at {X W : World} {B : Nat} (P S : List OR) {r : OR} (h : Rs X B W (P ++ r :: S)) : r.on W B := h.o.on r (by simp)
theorem Rs.box {X W : World} {B : Nat} (P S : List OR) {k : Nat} {T : TypeId} {cs : List Value} (h : Rs X B W (P ++ rB k T cs :: S)) : Blk W k cs.toArray T := rB_blk (h.at P S)
theorem Rs.putB {X W : World} {B : Nat} (P S : List OR) {k : Nat} {T : TypeId} {cs ds : List Value} (h : Rs X B W (P ++ rB k T cs :: S)) : Rs X B (W.setRow k ds.toArray) (P ++ rB k T ds :: S) := by
 have hb := h.box P S
 have hB : B ≤ k := ((h.at P S).lt k rfl).1
 refine h.turn P S ⟨rfl, rfl, rfl, by simp [World.setRow], fun q hq hne => setRow_other W k q _ (fun e => hne (by rw [e]; rfl))⟩ (blk_rB (setRow_heap W k _ _ _ _ hb) hB) (fun g hg => Or.inl hg)
theorem Rs.setB {X W : World} {B : Nat} (P S : List OR) {k : Nat} {T : TypeId} {cs : List Value} (i : Nat) (u : Value) (h : Rs X B W (P ++ rB k T cs :: S)) : Rs X B (W.setCell ⟨k, i, none⟩ u) (P ++ rB k T (cs.set i u) :: S) := by
 have hb := h.box P S
 have hB : B ≤ k := ((h.at P S).lt k rfl).1
 refine h.turn P S ⟨rfl, rfl, rfl, by simp, fun q hq hne => Below.heap_setCell W ⟨k, i, none⟩ u q (fun e => hne (by dsimp only at e; rw [e]; rfl))⟩ (blk_rB ?_ hB) (fun g hg => Or.inl hg)
 have := hb.set i u
 rw [List.setIfInBounds_toArray] at this
 exact this
theorem rng0 : Array.range 0 = #[] := by apply Array.toList_inj.1; simp
theorem rng1 : Array.range 1 = #[0] := by apply Array.toList_inj.1; simp
theorem rng3 : Array.range 3 = #[0, 1, 2] := by apply Array.toList_inj.1; simp; rfl
theorem exec_alloc {P : Program} {t : TypeId} {i : TypeInfo} {z : Value} (hi : P.info? t = some i) (hz : i.zero = some z) (ρ : Operand → Value) (o : Oper) (ho : o.op = .alloc t) (w : World) : (execOp ρ o).run P w = .ok (.value (.pointer (some ⟨w.heap.size, 0, none⟩))) (w.alloc (.cells z.cells t)) := by
 simp [execOp, ho, Instr.alloc, sizeOf, typeInfo, zeroValue, hi, hz, newRow, newVar]
theorem exec_bs0 {P : Program} {t e : TypeId} {i : TypeInfo} (hu : P.underlying t = some (.slice e)) (hi : P.info? e = some i) (ρ : Operand → Value) (o : Oper) (ho : o.op = .buildSlice t 0 #[]) (w : World) : (execOp ρ o).run P w = .ok (.value (.slice (some ⟨w.heap.size, 0, none⟩) 0 0)) (w.alloc (.cells #[] e)) := by
 simp [execOp, ho, Instr.buildSlice, run_underlying hu, sizeOf, typeInfo, zeroValue, hi, newRow, newVar, Instr.fill, rng0]
theorem exec_bs1 {P : Program} {t e : TypeId} {i : TypeInfo} {z : Value} (hu : P.underlying t = some (.slice e)) (hi : P.info? e = some i) (hz : i.zero = some z) (hn : i.size = 1) (ρ : Operand → Value) (o : Oper) (x : Operand) (s : Option Addr) (n c : Nat) (hv : ρ x = .slice s n c) (ho : o.op = .buildSlice t 1 #[(0, x)]) (w : World) : (execOp ρ o).run P w = .ok (.value (.slice (some ⟨w.heap.size, 0, none⟩) 1 1)) (w.alloc (.cells #[.slice s n c] e)) := by
 have hf : Instr.fill (fun j => some (j * i.size, i.size)) ((Array.range (1 * i.size)).map (z.cells[· % z.cells.size]!)) ((#[(0, x)] : Array (Nat × Operand)).map fun (j, x) => (j, ρ x)).toList = some #[.slice s n c] := by
  rw [hn]
  simp [hv, Instr.fill, Value.cells, rng1]
 have hr := run_buildSlice (P := P) w t e 1 ((#[(0, x)] : Array (Nat × Operand)).map fun (j, x) => (j, ρ x)) _ i z hu hi hz (by rw [hn]; decide) (by rw [hn]; decide) hf
 simp only [execOp, ho, Sem.run_bind, hr, Result.andThen_ok, Sem.run_pure]
theorem exec_bs3 {P : Program} {t e : TypeId} {i : TypeInfo} {z : Value} (hu : P.underlying t = some (.slice e)) (hi : P.info? e = some i) (hz : i.zero = some z) (hn : i.size = 3) (ρ : Operand → Value) (o : Oper) (x : Operand) (u0 u1 u2 : Value) (hv : ρ x = .agg #[u0, u1, u2]) (ho : o.op = .buildSlice t 1 #[(0, x)]) (w : World) : (execOp ρ o).run P w = .ok (.value (.slice (some ⟨w.heap.size, 0, none⟩) 1 1)) (w.alloc (.cells #[u0, u1, u2] e)) := by
 have hf : Instr.fill (fun j => some (j * i.size, i.size)) ((Array.range (1 * i.size)).map (z.cells[· % z.cells.size]!)) ((#[(0, x)] : Array (Nat × Operand)).map fun (j, x) => (j, ρ x)).toList = some #[u0, u1, u2] := by
  rw [hn]
  simp [hv, Instr.fill, Value.cells, rng3]
 have hr := run_buildSlice (P := P) w t e 1 ((#[(0, x)] : Array (Nat × Operand)).map fun (j, x) => (j, ρ x)) _ i z hu hi hz (by rw [hn]; decide) (by rw [hn]; decide) hf
 simp only [execOp, ho, Sem.run_bind, hr, Result.andThen_ok, Sem.run_pure]
theorem step_exec {P : Program} {ops : Array Oper} {o : Oper} {a : Act} {w w' : World} {K : Act → World → Prop} {Q : Exit → Act → World → Prop} {E : Prop} {v : Value} (hg : o.guard = none) {d0 : Option Nat} (hd : o.dst = d0) (hr : (execOp a.eval o).run P w = .ok (.value v) w') (hK : K (a.put d0 v) w') :
  if Region.wanted o (yielded ops a.tmps) = true then Oper.wp P o a w K Q else E := by
 have hw : Region.wanted o (yielded ops a.tmps) = true := by simp [Region.wanted, hg]
 rw [if_pos hw]
 unfold Oper.wp
 rw [← hd] at hK
 simp [hr]
 exact hK
theorem run_append_zeroK {P : Program} {t e : TypeId} {i : TypeInfo} (hu : P.underlying t = some (.slice e)) (hi : P.info? e = some i) (w : World) (ty : TypeId) (s x : Option Addr) (n c d : Nat) (h : n ≤ c) : (Builtin.append_ #[t, t] ty #[.slice s n c, .slice x 0 d]).run P w = .ok (.slice s n c) w := by
 cases x with
 | none => cases s <;> simp [Builtin.append_, run_underlying hu, sizeOf, typeInfo, hi, Builtin.lenOf, Builtin.firstCells, storeCells, h]
 | some a =>
  have hl := run_loadCells_list (P := P) w a [] (by simp)
  simp only [List.length_nil] at hl
  cases s <;> simp [Builtin.append_, run_underlying hu, sizeOf, typeInfo, hi, Builtin.lenOf, Builtin.firstCells, hl, storeCells, h]
section
variable {P : Program} {md : Region.Mode} {ops : Array Oper} {Q : Exit → Act → World → Prop} {S : World → Prop} {n n' : Nat} {l l' : Array Bool} {a a' : Act} {w : World}
theorem dag_start (h : ∀ (G : Nat → Array Bool → Act → World → Prop) (a0 : Act), G = wpAnyH P md ops Q S → a0 = a → G n l a0 w) : wpAnyH P md ops Q S n l a w := h _ _ rfl rfl
theorem dag_to {G : Nat → Array Bool → Act → World → Prop} (hG : G = wpAnyH P md ops Q S) (h : G n' l' a' w) (hn : n = n') (hl : l = l') (ha : a = a') : wpAnyH P md ops Q S n l a w := by
 subst hn hl ha; rw [← hG]; exact h
end
section
variable {X : World} {B : Nat} {ops : Array Oper} {o : Oper} {a : Act} {w : World} {K : Act → World → Prop} {Q : Exit → Act → World → Prop} {E : Prop}
theorem step_box (P S : List OR) (hR : Rs X B w (P ++ S)) (hg : o.guard = none) {d0 : Option Nat} (hd : o.dst = d0) (t : TypeId) {i : TypeInfo} {z : Value} (hi : Tryz.prog.info? t = some i) (hz : i.zero = some z) (ho : o.op = .alloc t)
  (hK : ∀ k w', Rs X B w' (P ++ rB k t z.cells.toList :: S) → K (a.put d0 (.pointer (some ⟨k, 0, none⟩))) w') :
  if Region.wanted o (yielded ops a.tmps) = true then Oper.wp Tryz.prog o a w K Q else E :=
 step_exec hg hd (exec_alloc hi hz _ o ho w) (hK w.heap.size _ (hR.ins P S (bl_alloc (Below.refl _ _) _) (blk_rB (Blk.new w _ t) (Nat.le_refl _))))
theorem step_bs0 (P S : List OR) (hR : Rs X B w (P ++ S)) (hg : o.guard = none) {d0 : Option Nat} (hd : o.dst = d0) (t e : TypeId) {i : TypeInfo} (hu : Tryz.prog.underlying t = some (.slice e)) (hi : Tryz.prog.info? e = some i) (ho : o.op = .buildSlice t 0 #[]) (r : Value → OR) (sz : Nat) (hr : ∀ v, r v = ⟨e, sz, v, 0, []⟩)
  (hK : ∀ k w', Rs X B w' (P ++ r (.slice (some ⟨k, 0, none⟩) 0 0) :: S) → K (a.put d0 (.slice (some ⟨k, 0, none⟩) 0 0)) w') :
  if Region.wanted o (yielded ops a.tmps) = true then Oper.wp Tryz.prog o a w K Q else E := by
 refine step_exec hg hd (exec_bs0 hu hi _ o ho w) (hK w.heap.size _ (hR.ins P S (bl_alloc (Below.refl _ _) _) ?_))
 rw [hr]
 exact ⟨by simp, Or.inr ⟨w.heap.size, 0, #[], rfl, Nat.le_refl _, Blk.new w _ e, Nat.le_refl _, by unfold maxLen; omega, by simp, by simp⟩⟩
theorem step_bs1 (P S : List OR) (hR : Rs X B w (P ++ S)) (hg : o.guard = none) {d0 : Option Nat} (hd : o.dst = d0) (t e : TypeId) {i : TypeInfo} {z : Value} (hu : Tryz.prog.underlying t = some (.slice e)) (hi : Tryz.prog.info? e = some i) (hz : i.zero = some z) (hn : i.size = 1) (x : Operand) (ho : o.op = .buildSlice t 1 #[(0, x)]) (s : Option Addr) (n c : Nat) (hx : a.eval x = .slice s n c)
  (hK : ∀ k w', Rs X B w' (P ++ rB k e [.slice s n c] :: S) → K (a.put d0 (.slice (some ⟨k, 0, none⟩) 1 1)) w') :
  if Region.wanted o (yielded ops a.tmps) = true then Oper.wp Tryz.prog o a w K Q else E :=
 step_exec hg hd (exec_bs1 hu hi hz hn _ o x s n c hx ho w) (hK w.heap.size _ (hR.ins P S (bl_alloc (Below.refl _ _) _) (blk_rB (Blk.new w _ e) (Nat.le_refl _))))
theorem step_bs3 (P S : List OR) (hR : Rs X B w (P ++ S)) (hg : o.guard = none) {d0 : Option Nat} (hd : o.dst = d0) (t e : TypeId) {i : TypeInfo} {z : Value} (hu : Tryz.prog.underlying t = some (.slice e)) (hi : Tryz.prog.info? e = some i) (hz : i.zero = some z) (hn : i.size = 3) (x : Operand) (ho : o.op = .buildSlice t 1 #[(0, x)]) (u0 u1 u2 : Value) (hx : a.eval x = .agg #[u0, u1, u2])
  (hK : ∀ k w', Rs X B w' (P ++ rB k e [u0, u1, u2] :: S) → K (a.put d0 (.slice (some ⟨k, 0, none⟩) 1 1)) w') :
  if Region.wanted o (yielded ops a.tmps) = true then Oper.wp Tryz.prog o a w K Q else E :=
 step_exec hg hd (exec_bs3 hu hi hz hn _ o x u0 u1 u2 hx ho w) (hK w.heap.size _ (hR.ins P S (bl_alloc (Below.refl _ _) _) (blk_rB (Blk.new w _ e) (Nat.le_refl _))))
theorem step_app (P S : List OR) {r : OR} (hR : Rs X B w (P ++ r :: S)) (hg : o.guard = none) {d0 : Option Nat} (hd : o.dst = d0) (s x : Operand) (t : TypeId) {i : TypeInfo} {z : Value} (bytes : Nat) (ho : o.op = .call { callee := .builtin .append, args := #[s, x], argTypes := #[t, t] })
  (hu : Tryz.prog.underlying t = some (.slice r.T)) (hi : Tryz.prog.info? r.T = some i) (hz : i.zero = some z) (hsize : i.size = r.k) (hby : i.bytes = bytes) (hzs : z.cells.size = r.k) (hsz : 0 < r.k) (hs : a.eval s = r.v)
  (xs : Option Addr) (m d : Nat) (news : List Value) (hx : a.eval x = .slice xs m d) (hl : news.length = m * r.k) (hnews : m = 0 ∨ ∃ ad, xs = some ad ∧ ∀ j u, news[j]? = some u → w.cell? (ad.add j) = some u) (h1 : ∀ u ∈ news, u.oneCell' = true)
  (h63 : r.n + m ≤ maxLen) (hbytes : (r.n + m) * bytes ≤ 140737488355328) (N : Nat) (hN : r.n + m = N) (f : Value → OR) (hf : ∀ v, f v = ⟨r.T, r.k, v, N, r.cs ++ news⟩)
  (hK : ∀ s' c' w', Rs X B w' (P ++ f (.slice s' N c') :: S) → K (a.put d0 (.slice s' N c')) w') :
  if Region.wanted o (yielded ops a.tmps) = true then Oper.wp Tryz.prog o a w K Q else E := by
 subst hN
 have hr := hR.at P S
 have exec : ∀ (v' : Value) (w' : World), (Builtin.append_ #[t, t] o.type #[r.v, .slice xs m d]).run Tryz.prog w = .ok v' w' → (execOp a.eval o).run Tryz.prog w = .ok (.value v') w' := by
  intro v' w' h
  simp [execOp, ho, resolve, invoke, builtin, hs, hx, h, Result.andThen]
 rcases hnews with rfl | ⟨ad, rfl, hnews⟩
 ·
  obtain ⟨s', c', e'⟩ := hr.shape
  have hc : r.n ≤ c' := by
   rcases hr.2 with ⟨q, _⟩ | ⟨g, cap, cur, q, _, _, h, _⟩
   ·
    rw [e'] at q; simp only [Value.slice.injEq] at q; omega
   rw [e'] at q; simp only [Value.slice.injEq] at q; obtain ⟨_, _, rfl⟩ := q; exact h
  have e0 : news = [] := List.eq_nil_of_length_eq_zero (by simpa using hl)
  have hrun := run_append_zeroK (P := Tryz.prog) hu hi w o.type s' xs r.n c' d hc
  rw [← e'] at hrun
  refine step_exec hg hd (exec _ _ hrun) ?_
  rw [e']
  refine hK s' c' w ?_
  have e1 : f (.slice s' (r.n + 0) c') = r := by rw [hf, e0, List.append_nil]; show (⟨r.T, r.k, .slice s' r.n c', r.n, r.cs⟩ : OR) = r; rw [← e']
  rw [e1]; exact hR
 obtain ⟨v', w', hrun, h2, h3, _, h5⟩ := run_append_own_at (P := Tryz.prog) w B t o.type r.T i z r.k bytes hu hi hz hsize hby hzs hsz r.v r.n r.cs hr ad m d news hl hnews h1 h63 hbytes hR.s
 have hO : (⟨r.T, r.k, v', r.n + m, r.cs ++ news⟩ : OR).on w' B := h2
 obtain ⟨s', c', e'⟩ := hO.shape
 have e' : v' = .slice s' (r.n + m) c' := e'
 subst e'
 refine step_exec hg hd (exec _ _ hrun) (hK s' c' w' (hR.turn P S h3 (by rw [hf]; exact hO) ?_))
 rw [hf]
 intro g hg
 have hg : (Value.slice s' (r.n + m) c').ownBlock = some g := hg
 rcases h5 with h5 | h5
 ·
  left; rw [← h5]; exact hg
 right; rw [h5] at hg; cases hg; exact Nat.le_refl _
theorem step_put (P S : List OR) {k : Nat} {t ty : TypeId} {old : List Value} (hR : Rs X B w (P ++ rB k t old :: S)) (hg : o.guard = none) {d0 : Option Nat} (hd : o.dst = d0) (x y : Operand) (ho : o.op = .store ty x y) (cells : List Value) (hx : a.eval x = .pointer (some ⟨k, 0, none⟩)) (hy : a.eval y = .agg cells.toArray)
  (hi : (Tryz.prog.info? ty).map (·.size) = some cells.length) (hold : old.length = cells.length) (h1 : ∀ u ∈ cells, u.oneCell' = true)
  (hK : ∀ w', Rs X B w' (P ++ rB k t cells :: S) → K (a.put d0 undef) w') :
  if Region.wanted o (yielded ops a.tmps) = true then Oper.wp Tryz.prog o a w K Q else E := by
 have hw : Region.wanted o (yielded ops a.tmps) = true := by simp [Region.wanted, hg]
 rw [if_pos hw]
 exact wp_store_row ty x y ho k cells.toArray hx hy t old.toArray (hR.box P S) (by simpa using hi) (by simpa using hold) (by simp only [List.all_toArray, List.all_eq_true]; exact h1) (by rw [hd]; exact hK _ (hR.putB P S))
end
end
section
open Go.RowKit Go.Maps Go.WideMaps
theorem k2 {X W : World} {B : Nat} {R : List OR} {n0 : Nat} {c0 : Array Value} {t0 : TypeId} {n1 : Nat} {c1 : Array Value} {t1 : TypeId} (hR : Hid (Rs X B W R)) (h0 : Hid (Blk X n0 c0 t0)) (h1 : Hid (Blk X n1 c1 t1)) (l0 : n0 < B) (l1 : n1 < B) : Blk W n0 c0 t0 ∧ Blk W n1 c1 t1 := ⟨hR.out.blk h0.out l0, hR.out.blk h1.out l1⟩
theorem k3 {X W : World} {B : Nat} {R : List OR} {n0 : Nat} {c0 : Array Value} {t0 : TypeId} {n1 : Nat} {c1 : Array Value} {t1 : TypeId} {n2 : Nat} {c2 : Array Value} {t2 : TypeId} (hR : Hid (Rs X B W R)) (h0 : Hid (Blk X n0 c0 t0)) (h1 : Hid (Blk X n1 c1 t1)) (h2 : Hid (Blk X n2 c2 t2)) (l0 : n0 < B) (l1 : n1 < B) (l2 : n2 < B) : Blk W n0 c0 t0 ∧ Blk W n1 c1 t1 ∧ Blk W n2 c2 t2 := ⟨hR.out.blk h0.out l0, hR.out.blk h1.out l1, hR.out.blk h2.out l2⟩
theorem k4 {X W : World} {B : Nat} {R : List OR} {n0 : Nat} {c0 : Array Value} {t0 : TypeId} {n1 : Nat} {c1 : Array Value} {t1 : TypeId} {n2 : Nat} {c2 : Array Value} {t2 : TypeId} {n3 : Nat} {c3 : Array Value} {t3 : TypeId} (hR : Hid (Rs X B W R)) (h0 : Hid (Blk X n0 c0 t0)) (h1 : Hid (Blk X n1 c1 t1)) (h2 : Hid (Blk X n2 c2 t2)) (h3 : Hid (Blk X n3 c3 t3)) (l0 : n0 < B) (l1 : n1 < B) (l2 : n2 < B) (l3 : n3 < B) : Blk W n0 c0 t0 ∧ Blk W n1 c1 t1 ∧ Blk W n2 c2 t2 ∧ Blk W n3 c3 t3 := ⟨hR.out.blk h0.out l0, hR.out.blk h1.out l1, hR.out.blk h2.out l2, hR.out.blk h3.out l3⟩
end
end Go.Proofs.YtbgeobpdojmdaaaGreat
