import Derived.Test.YtkihhadcoclnaaaGreatSp35
namespace Go.Proofs.YtkihhadcoclnaaaGreat
set_option linter.unusedVariables false
set_option linter.unusedSimpArgs false
section
open Go.RowKit
theorem Blk.drew {w : World} {n : Nat} {c : Array Value} {t : TypeId} (h : Blk w n c t) : Blk w.drew n c t := h
structure St (w : World) (A : Array Value) (X : World) : Prop where
 l : Below w.heap.size w X
 k : Blk X w.heap.size A 36
 j : Blk X (w.heap.size + 1) #[.slice none 0 0, .slice none 0 0] 36
 s : w.heap.size + 2 ≤ X.heap.size
theorem St.alloc {w X : World} {A : Array Value} (h : St w A X) (o : Obj) : St w A (X.alloc o) := ⟨bl_alloc h.l o, h.k.alloc o, h.j.alloc o, by simp; have := h.s; omega⟩
theorem St.drew {w X : World} {A : Array Value} (h : St w A X) : St w A X.drew := ⟨bl_drew h.l, h.k, h.j, h.s⟩
theorem St.grow {w X Y : World} {A : Array Value} {n : Nat} (h : St w A X) (hg : X.grownBy Y (some n)) (hn : w.heap.size + 2 ≤ n) : St w A Y :=
 ⟨h.l.grown hg h.l.size (fun k e => by simp at e; omega), h.k.kept' hg (by simp; omega), h.j.kept' hg (by simp; omega), Nat.le_trans h.s hg.size⟩
structure New (w : World) (X : World) (n : Nat) : Prop where
 b : Blk X n #[] 3
 s : w.heap.size + 2 ≤ n
theorem New.new {w X : World} {A : Array Value} (h : St w A X) : New w (X.alloc (.cells #[] 3)) X.heap.size := ⟨Blk.new _ _ _, h.s⟩
theorem New.alloc {w X : World} {n : Nat} (h : New w X n) (o : Obj) : New w (X.alloc o) n := ⟨h.b.alloc o, h.s⟩
theorem New.drew {w X : World} {n : Nat} (h : New w X n) : New w X.drew n := ⟨h.b, h.s⟩
theorem New.kept {w X Y : World} {n m : Nat} (h : New w X n) (hg : X.grownBy Y (some m)) (hn : ¬ m = n) : New w Y n := ⟨h.b.kept' hg (by simp; exact hn), h.s⟩
theorem VRow.alloc {w : World} {B : Nat} {v : Value} {G : List Int} (h : VRow w B v G) (o : Obj) : VRow (w.alloc o) B v G := h.later (bl_alloc (Below.refl _ w) o)
end
section
open Go.RowKit
def ng (g : Int) : Int := if 1000000 ≤ g then 0 else g + 1
theorem VRow.cell {w : World} {B g c : Nat} {G : List Int} (h : VRow w B (.slice (some ⟨g, 0, none⟩) G.length c) G) {q : Nat} (hq : q < G.length) : w.cell? ⟨g, q, none⟩ = some (.int .i64 (G[q]?.getD 0)) ∧ w.frozen? ⟨g, q, none⟩ = false := Row.cell h q hq
structure Fr (g f : Nat) (w w' : World) : Prop where
 os : w'.os = w.os
 tape : w'.tape = w.tape
 output : w'.output = w.output
 size : w.heap.size ≤ w'.heap.size
 block : ∀ k, k < w.heap.size → ¬ k = g → ¬ k = f → w'.heap[k]? = w.heap[k]?
theorem Fr.refl (g f : Nat) (w : World) : Fr g f w w := ⟨rfl, rfl, rfl, Nat.le_refl _, fun _ _ _ _ => rfl⟩
theorem Fr.alloc {g f : Nat} {a b : World} (h : Fr g f a b) (o : Obj) : Fr g f a (b.alloc o) :=
 ⟨h.os, h.tape, h.output, by simp; have := h.size; omega, fun k hk h1 h2 => by rw [Below.heap_alloc b o k (Nat.lt_of_lt_of_le hk h.size)]; exact h.block k hk h1 h2⟩
theorem Fr.setCell {g f : Nat} {a b : World} (h : Fr g f a b) {n : Nat} (hn : n = g ∨ n = f ∨ a.heap.size ≤ n) (o : Nat) (u : Value) : Fr g f a (b.setCell ⟨n, o, none⟩ u) :=
 ⟨h.os, h.tape, h.output, by simp; exact h.size, fun k hk h1 h2 => by rw [Below.heap_setCell b ⟨n, o, none⟩ u k (by simp; omega)]; exact h.block k hk h1 h2⟩
theorem Fr.grown {g f : Nat} {a b c : World} (h : Fr g f a b) (hg : b.grownBy c (some f)) : Fr g f a c :=
 ⟨hg.os.trans h.os, hg.tape.trans h.tape, hg.output.trans h.output, Nat.le_trans h.size hg.size, fun k hk h1 h2 => (hg.block k (Nat.lt_of_lt_of_le hk h.size) (by simp; omega)).trans (h.block k hk h1 h2)⟩
theorem Blk.fr {g f : Nat} {a b : World} {n : Nat} {c : Array Value} {t : TypeId} (h : Blk a n c t) (hf : Fr g f a b) (h1 : ¬ n = g) (h2 : ¬ n = f) : Blk b n c t := by
 unfold Blk; rw [hf.block n h.lt h1 h2]; exact h
end
section
open Go.RowKit
theorem okE_len {G F : List Int} (h : okE G F = true) : G.length ≤ 2000 ∧ F.length ≤ 2000 := by
 have h' := h
 rw [okE_eq] at h
 simp only [Bool.and_eq_true, decide_eq_true_eq] at h
 have := free_len h.2
 omega
theorem apartS {g f n m c d : Nat} (h : ¬ g = f) : Apart (.slice (some ⟨g, 0, none⟩) n c) (.slice (some ⟨f, 0, none⟩) m d) := by
 intro k h1 h2
 simp [Value.ownBlock] at h1 h2
 omega
end
section
open Go.RowKit Go.Maps Go.WideMaps
set_option maxRecDepth 100000
def killW (W : Wd) (i j : Nat) (T : Tab) (e : E2) : Wd := ⟨W.gens.set e.1.toNat (ng e.2), W.free ++ [e.1], W.tabs.set i (gone T j), W.res⟩
end
section
open Go.RowKit Go.Maps Go.WideMaps
set_option maxRecDepth 100000
theorem box5 (w : World) (c d f g h : Array Value) (t u v x y : TypeId) : ∃ X, X = ((((w.alloc (.cells c t)).alloc (.cells d u)).alloc (.cells f v)).alloc (.cells g x)).alloc (.cells h y) ∧ Blk X w.heap.size c t ∧ Blk X (w.heap.size + 1) d u ∧ Blk X (w.heap.size + 1 + 1) f v ∧ Blk X (w.heap.size + 1 + 1 + 1) g x ∧ Blk X (w.heap.size + 1 + 1 + 1 + 1) h y ∧ Below w.heap.size w X :=
 ⟨_, rfl, (((Blk.new w c t).alloc _).alloc _).alloc _ |>.alloc _, (((Blk.new' _ d u (by simp)).alloc _).alloc _).alloc _, ((Blk.new' _ f v (by simp)).alloc _).alloc _, (Blk.new' _ g x (by simp)).alloc _, Blk.new' _ h y (by simp), bl_alloc (bl_alloc (bl_alloc (bl_alloc (bl_alloc (Below.refl _ _) _) _) _) _) _⟩
def WSays (R : Wd → Int → Prop) (w : World) (r : Ending) (w' : World) : Prop := ∃ (V : WV) (W' : Wd) (code : Int), r = .returned (.tuple #[.agg #[V.g, V.f, V.t, V.r], .int .i64 code]) ∧ OW w' w.heap.size V W' ∧ R W' code ∧ Below w.heap.size w w'
theorem Owns.put4 {w : World} {B : Nat} {R : List OR} (h : Owns w B R) {n : Nat} (hn : n < B) (u0 u1 u2 u3 : Value) : Owns ((((w.setCell ⟨n, 0, none⟩ u0).setCell ⟨n, 1, none⟩ u1).setCell ⟨n, 2, none⟩ u2).setCell ⟨n, 3, none⟩ u3) B R := (((h.putC hn _).putC hn _).putC hn _).putC hn _
theorem bl_put4 {w0 w : World} {B : Nat} (h : Below B w0 w) {n : Nat} (hn : B ≤ n) (u0 u1 u2 u3 : Value) : Below B w0 ((((w.setCell ⟨n, 0, none⟩ u0).setCell ⟨n, 1, none⟩ u1).setCell ⟨n, 2, none⟩ u2).setCell ⟨n, 3, none⟩ u3) := (((h.setCell hn _).setCell hn _).setCell hn _).setCell hn _
end
section
open Go.RowKit Go.Maps Go.WideMaps
set_option maxRecDepth 100000
def KillR (A B C : List (ByteArray × Int)) (W : Wd) (e : E2) (W' : Wd) (code : Int) : Prop :=
 (standB A B C W = false ∧ W' = W ∧ code = 1) ∨
 (standB A B C W = true ∧ ((¬ e ∈ rowsOf W.tabs ∧ W' = W ∧ code = 2) ∨
 (∃ (i j : Nat) (T : Tab), W.tabs[i]? = some T ∧ T.rows[j]? = some e ∧ W' = killW W i j T e ∧ code = 0)))
theorem KillR.same {A B C : List (ByteArray × Int)} {W : Wd} {e : E2} {W1 W2 : Wd} {c1 c2 : Int} (h1 : KillR A B C W e W1 c1) (h2 : KillR A B C W e W2 c2) : W1 = W2 ∧ c1 = c2 := by
 rcases h1 with ⟨hf, rfl, rfl⟩ | ⟨ht, h1⟩
 ·
  rcases h2 with ⟨_, rfl, rfl⟩ | ⟨ht, _⟩
  ·
   exact ⟨rfl, rfl⟩
  rw [hf] at ht; cases ht
 obtain ⟨hrt, hon⟩ := stand_tabs ht
 simp only [onceB, decide_eq_true_eq] at hon
 rcases h2 with ⟨hf, _⟩ | ⟨_, h2⟩
 ·
  rw [hf] at ht; cases ht
 rcases h1 with ⟨n1, rfl, rfl⟩ | ⟨i, j, T, hT, hj, rfl, rfl⟩
 ·
  rcases h2 with ⟨n2, rfl, rfl⟩ | ⟨i, j, T, hT, hj, rfl, rfl⟩
  ·
   exact ⟨rfl, rfl⟩
  exact absurd (mem_rows hT hj) n1
 rcases h2 with ⟨n2, rfl, rfl⟩ | ⟨i', j', T', hT', hj', rfl, rfl⟩
 ·
  exact absurd (mem_rows hT hj) n2
 obtain ⟨rfl, rfl⟩ := rows_unique hon.1 hT hj hT' hj'
 rw [hT] at hT'
 cases hT'
 exact ⟨rfl, rfl⟩
theorem stand_okE {A B C : List (ByteArray × Int)} {W : Wd} (h : standB A B C W = true) : okE W.gens W.free = true := by
 simp only [standB, Bool.and_eq_true] at h
 exact h.1.1.1.1.2
theorem wo_le {α : Type} (L : List α) (j : Nat) : (wo L j).length ≤ L.length := by
 unfold wo
 cases L[L.length - 1]? with
 | none => exact Nat.le_refl _
 | some x => simp
theorem kTab_gone {T : Tab} (h : kTab T) (j : Nat) : kTab (gone T j) := by
 refine ⟨h.1, Nat.le_trans (wo_le _ _) h.2.1, ?_, ?_⟩
 ·
  show (T.cells.map _).length ≤ _
  rw [List.length_map]; exact h.2.2.1
 intro L hL
 have hL : L ∈ T.cells.map fun L => wo L j := hL
 simp only [List.mem_map] at hL
 obtain ⟨M, hM, rfl⟩ := hL
 exact Nat.le_trans (wo_le _ _) (h.2.2.2 M hM)
theorem KillR.kW {A B C : List (ByteArray × Int)} {W : Wd} {e : E2} {W1 : Wd} {c1 : Int} (h : KillR A B C W e W1 c1) (hk : kW W) : kW W1 := by
 rcases h with ⟨_, rfl, _⟩ | ⟨hst, ⟨_, rfl, _⟩ | ⟨i, j, T, hT, hj, rfl, _⟩⟩
 ·
  exact hk
 ·
  exact hk
 obtain ⟨l1, l2⟩ := okE_len (stand_okE hst)
 refine ⟨?_, ?_, ⟨?_, ?_⟩, hk.2.2.2⟩
 ·
  show (W.gens.set _ _).length ≤ _
  rw [List.length_set]; exact hk.1
 ·
  show (W.free ++ [e.1]).length ≤ _
  rw [List.length_append]; simp; omega
 ·
  show (W.tabs.set _ _).length ≤ _
  rw [List.length_set]; exact hk.2.2.1.1
 intro U hU
 have hU : U ∈ W.tabs.set i (gone T j) := hU
 rcases List.mem_or_eq_of_mem_set hU with h' | rfl
 ·
  exact hk.2.2.1.2 U h'
 exact kTab_gone (hk.2.2.1.2 T (List.mem_of_getElem? hT)) j
end
section
open Go.RowKit Go.Maps Go.WideMaps
set_option maxRecDepth 100000
def rC (v : Value) (L : List C5) : OR := ⟨103, 5, v, L.length, L.flatMap ccells⟩
def okCs (L : List C5) : Prop := ∀ c ∈ L, okV c.2
theorem rC_els {w : World} {B : Nat} {s : Option Addr} {c : Nat} {L : List C5} (h : (rC (.slice s L.length c) L).on w B) (ok : okCs L) : Els 5 cCell w B s L :=
 els_own (f := ccells) (fun _ => rfl) (T := 103) (c := c) h (fun a ha => ⟨rfl, ok a ha⟩)
section
variable {ops : Array Oper} {o : Oper} {a : Act} {w : World} {K : Act → World → Prop} {Qx : Exit → Act → World → Prop} {E : Prop}
theorem step_appC {B : Nat} {Q : World → List OR → Prop} (c : Carr B Q) (P S : List OR) {r : OR} (hR : Q w (P ++ r :: S)) (hg : o.guard = none) {d0 : Option Nat} (hd : o.dst = d0) (s x : Operand) (t : TypeId) {i : TypeInfo} {z : Value} (bytes : Nat) (ho : o.op = .call { callee := .builtin .append, args := #[s, x], argTypes := #[t, t] })
  (hu : Tryz.prog.underlying t = some (.slice r.T)) (hi : Tryz.prog.info? r.T = some i) (hz : i.zero = some z) (hsize : i.size = r.k) (hby : i.bytes = bytes) (hzs : z.cells.size = r.k) (hsz : 0 < r.k) (hs : a.eval s = r.v)
  (ad : Addr) (m d : Nat) (hx : a.eval x = .slice (some ad) m d) (news : List Value) (hl : news.length = m * r.k) (hnews : ∀ j u, news[j]? = some u → w.cell? (ad.add j) = some u) (h1 : ∀ u ∈ news, u.oneCell' = true)
  (h63 : r.n + m ≤ maxLen) (hbytes : (r.n + m) * bytes ≤ 140737488355328) (N : Nat) (hN : r.n + m = N) (f : Value → OR) (hf : ∀ v, f v = ⟨r.T, r.k, v, N, r.cs ++ news⟩)
  (hK : ∀ s' c' w', Q w' (P ++ f (.slice s' N c') :: S) → w.grownBy w' r.v.ownBlock → K (a.put d0 (.slice s' N c')) w') :
  if Region.wanted o (yielded ops a.tmps) = true then Oper.wp Tryz.prog o a w K Qx else E := by
 subst hN
 obtain ⟨s', c', w', hrun, hq, hgr⟩ := c.app P S hR t o.type bytes hu hi hz hsize hby hzs hsz ad m d news hl hnews h1 h63 hbytes
 have exec : (execOp a.eval o).run Tryz.prog w = .ok (.value (.slice s' (r.n + m) c')) w' := by
  simp [execOp, ho, resolve, invoke, builtin, hs, hx, hrun, Result.andThen]
 exact step_exec hg hd exec (hK s' c' w' (by rw [hf]; exact hq) hgr)
end
def TwR (T : List Tab) (cols : List Int) (r : Int) : Prop := (r = -1 ∧ ∀ t ∈ T, ¬ t.cols = cols) ∨ ∃ (i : Nat) (t : Tab), r = i ∧ T[i]? = some t ∧ t.cols = cols
set_option maxHeartbeats 2000000 in
theorem tableWith_at (s : Option Addr) (c : Nat) (T : List Tab) (n : Nat) (sc : Option Addr) (cc : Nat) (cols : List Int) (Bs Bc : Nat) (w : World) (hn : T.length = n) (hT : Els 3 cTab w Bs s T) (hc : Els 1 cInt w Bc sc cols) (hk : kTabs T) (hl : cols.length ≤ 1048576) :
  Calls Tryz.prog 124 #[.slice s n c, .slice sc cols.length cc] w fun e w' => (∃ r : Int, e = .returned (.int .i64 r) ∧ TwR T cols r) ∧ Below w.heap.size w w' := by
 subst hn
 have hal := alloc_old
 have haf := alloc_oldf
 obtain ⟨kl, kt⟩ := hk
 have KT : Hid (∀ t ∈ T, kTab t) := kt
 have H1 : Hid (Els 3 cTab w Bs s T) := hT
 have H2 : Hid (Els 1 cInt w Bc sc cols) := hc
 clear kt hT hc; go_enter Tryz.func124, Tryz.ntmps124
 go_wp2_with fail; go_loopw [9] (fun i wr => ∃ k : Nat, k ≤ T.length ∧ i = .int .i64 k ∧ Hid (Below w.heap.size w wr ∧ ∀ (j : Nat) t, j < k → T[j]? = some t → sl eqI t.cols cols = false)) (fun i _ => T.length - (intOf i).toNat)
 case atStart => exact ⟨0, Nat.zero_le _, rfl, Below.refl _ _, fun j t hj => absurd hj (Nat.not_lt_zero _)⟩
 obtain ⟨k, hk, rfl, hN⟩ := hrel
 by_cases hlt : k < T.length
 ·
  obtain ⟨t, ha⟩ := get_some hlt
  obtain ⟨b, o, rfl, _, hp, s1, d1, s2, d2, s3, d3, e1, e2, e3, f1, f2, f3⟩ := eTab_cells (H1.out.later cTab_keeps hN.out.1) ha
  have HA : Hid (T[k]? = some t) := ha
  have hkt := (KT.out t (List.mem_of_getElem? ha)).1
  have F1 : Hid (Els 1 cInt wr Bs s1 t.cols) := f1
  clear ha f1 f2 f3; go_wp2_with fail; refine (equalI_any s1 sc d1 cc t.cols cols Bs Bc _ (F1.out.later cInt_keeps (bl_alloc (Below.refl _ _) _)) (H2.out.later cInt_keeps (bl_alloc hN.out.1 _)) hkt hl).mono ?_
  rintro e w2 ⟨rfl, hb2⟩
  have L2 : Hid (Below w.heap.size w w2) := bl_trans (bl_alloc hN.out.1 _) hb2
  clear hb2; cases hs : sl eqI t.cols cols
  ·
   go_wp2_with fail; go_roundw
   case rel => exact ⟨k + 1, by omega, by go_num, L2.out, fun j u hj hu => by
    by_cases hjk : j = k
    ·
     subst hjk
     rw [HA.out] at hu
     cases hu
     exact hs
    exact hN.out.2 j u (by omega) hu⟩
   case measure => simp [intOf]; omega
  have HR : Hid (TwR T cols (k : Int)) := by
   refine Or.inr ⟨k, t, rfl, HA.out, ?_⟩
   rw [sl_eqI, decide_eq_true_eq] at hs
   exact hs
  go_wp2_with fail; go_ret; exact ⟨⟨_, rfl, HR.out⟩, L2.out⟩
 have HR : Hid (TwR T cols (-1)) := by
  refine Or.inl ⟨rfl, fun t ht => ?_⟩
  obtain ⟨j, hj, rfl⟩ := List.getElem_of_mem ht
  have := hN.out.2 j _ (by omega) (List.getElem?_eq_getElem hj)
  rw [sl_eqI, decide_eq_false_iff_not] at this
  exact this
 go_wp2_with fail; go_ret; exact ⟨⟨_, rfl, HR.out⟩, hN.out.1⟩
end
end Go.Proofs.YtkihhadcoclnaaaGreat
