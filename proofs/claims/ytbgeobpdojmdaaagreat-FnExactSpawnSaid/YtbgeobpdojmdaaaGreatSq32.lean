import Derived.Test.YtbgeobpdojmdaaaGreatSq31
namespace Go.Proofs.YtbgeobpdojmdaaaGreat
set_option linter.unusedVariables false
set_option linter.unusedSimpArgs false
section
open Go.RowKit Go.Maps Go.WideMaps
set_option maxRecDepth 100000
structure Carr (B : Nat) (Q : World → List OR → Prop) : Prop where
 own : ∀ {W : World} {R : List OR}, Q W R → Owns W B R
 le : ∀ {W : World} {R : List OR}, Q W R → B ≤ W.heap.size
 later : ∀ {W W' : World} {R : List OR}, Q W R → Below W.heap.size W W' → Q W' R
 turn : ∀ {W W' : World} (P S : List OR) {r r' : OR}, Q W (P ++ r :: S) → W.grownBy W' r.v.ownBlock → r'.on W' B → (∀ g, r'.v.ownBlock = some g → r.v.ownBlock = some g ∨ W.heap.size ≤ g) → Q W' (P ++ r' :: S)
 ins : ∀ {W W' : World} (P S : List OR) {r : OR}, Q W (P ++ S) → Below W.heap.size W W' → r.on W' W.heap.size → Q W' (P ++ r :: S)
 less : ∀ {W : World} (P S : List OR) {r : OR}, Q W (P ++ r :: S) → Q W (P ++ S)
 insM : ∀ {W W' : World} (P M S : List OR), Q W (P ++ S) → Below W.heap.size W W' → Owns W' W.heap.size M → Q W' (P ++ (M ++ S))
 drew : ∀ {W : World} {R : List OR}, Q W R → Q W.drew R
theorem carr_Rs (X : World) (B : Nat) : Carr B (fun W R => Rs X B W R) := ⟨fun h => h.o, fun h => h.s, fun h hb => h.later hb, fun P S _ _ h hg hr hn => Rs.turn P S h hg hr hn, fun P S _ h hb hr => Rs.ins P S h hb hr, fun P S _ h => Rs.less P S h, fun P M S h hb hr => Rs.insM P M S h hb hr, fun h => h.drew⟩
theorem SM.kept {w w' : World} {b n : Nat} {f : E2 → Option E2} {r : Option Nat} (h : SM w b n f) (hg : w.grownBy w' r) (hr : ¬ r = some b) : SM w' b n f := by
 obtain ⟨D, h1, h2⟩ := h
 exact ⟨D, h1.kept hg (fun e => hr e.symm), h2⟩
structure Rm (X : World) (B b n : Nat) (f : E2 → Option E2) (W : World) (R : List OR) : Prop where
 rs : Rs X B W R
 sm : SM W b n f
 nb : ¬ b ∈ blks R
 lb : B ≤ b
theorem Rm.ins {X W W' : World} {B b n : Nat} {f : E2 → Option E2} (P S : List OR) {r : OR} (h : Rm X B b n f W (P ++ S)) (hb : Below W.heap.size W W') (hr : r.on W' W.heap.size) : Rm X B b n f W' (P ++ r :: S) := by
 refine ⟨Rs.ins P S h.rs hb hr, h.sm.later hb, fun hm => ?_, h.lb⟩
 obtain ⟨q, hq, e⟩ := mem_blks.1 hm
 rcases List.mem_append.1 hq with h1 | h1
 ·
  exact h.nb (mem_blks.2 ⟨q, by simp [h1], e⟩)
 rcases List.mem_cons.1 h1 with rfl | h1
 ·
  have := h.sm.lt
  have := (hr.lt b e).1
  omega
 exact h.nb (mem_blks.2 ⟨q, by simp [h1], e⟩)
theorem Rm.less {X W : World} {B b n : Nat} {f : E2 → Option E2} (P S : List OR) {r : OR} (h : Rm X B b n f W (P ++ r :: S)) : Rm X B b n f W (P ++ S) := by
 refine ⟨Rs.less P S h.rs, h.sm, fun hm => ?_, h.lb⟩
 obtain ⟨q, hq, e⟩ := mem_blks.1 hm
 refine h.nb (mem_blks.2 ⟨q, ?_, e⟩)
 rcases List.mem_append.1 hq with h1 | h1 <;> simp [h1]
theorem Rm.insM {X W W' : World} {B b n : Nat} {f : E2 → Option E2} (P M S : List OR) (h : Rm X B b n f W (P ++ S)) (hb : Below W.heap.size W W') (hr : Owns W' W.heap.size M) : Rm X B b n f W' (P ++ (M ++ S)) := by
 refine ⟨Rs.insM P M S h.rs hb hr, h.sm.later hb, fun hm => ?_, h.lb⟩
 obtain ⟨q, hq, e⟩ := mem_blks.1 hm
 rcases List.mem_append.1 hq with h1 | h1
 ·
  exact h.nb (mem_blks.2 ⟨q, by simp [h1], e⟩)
 rcases List.mem_append.1 h1 with h1 | h1
 ·
  have := h.sm.lt
  have := (hr.lt (mem_blks.2 ⟨q, h1, e⟩)).1
  omega
 exact h.nb (mem_blks.2 ⟨q, by simp [h1], e⟩)
theorem Rm.turn {X W W' : World} {B b n : Nat} {f : E2 → Option E2} (P S : List OR) {r r' : OR} (h : Rm X B b n f W (P ++ r :: S)) (hg : W.grownBy W' r.v.ownBlock) (hr : r'.on W' B) (hn : ∀ g, r'.v.ownBlock = some g → r.v.ownBlock = some g ∨ W.heap.size ≤ g) : Rm X B b n f W' (P ++ r' :: S) := by
 refine ⟨Rs.turn P S h.rs hg hr hn, h.sm.kept hg (fun e => h.nb (mem_blks.2 ⟨r, by simp, e⟩)), fun hm => ?_, h.lb⟩
 obtain ⟨q, hq, e⟩ := mem_blks.1 hm
 rcases List.mem_append.1 hq with h1 | h1
 ·
  exact h.nb (mem_blks.2 ⟨q, by simp [h1], e⟩)
 rcases List.mem_cons.1 h1 with rfl | h1
 ·
  rcases hn b e with e' | e'
  ·
   exact h.nb (mem_blks.2 ⟨r, by simp, e'⟩)
  have := h.sm.lt
  omega
 exact h.nb (mem_blks.2 ⟨q, by simp [h1], e⟩)
theorem carr_Rm (X : World) (B b n : Nat) (f : E2 → Option E2) : Carr B (fun W R => Rm X B b n f W R) :=
 ⟨fun h => h.rs.o, fun h => h.rs.s, fun h hb => ⟨h.rs.later hb, h.sm.later hb, h.nb, h.lb⟩, fun P S _ _ h hg hr hn => Rm.turn P S h hg hr hn, fun P S _ h hb hr => Rm.ins P S h hb hr, fun P S _ h => Rm.less P S h, fun P M S h hb hr => Rm.insM P M S h hb hr, fun h => ⟨h.rs.drew, h.sm, h.nb, h.lb⟩⟩
theorem Rm.write {X W W' : World} {B b n n' : Nat} {f f' : E2 → Option E2} {R : List OR} (h : Rm X B b n f W R) (hg : W.grownBy W' (some b)) (hs : SM W' b n' f') : Rm X B b n' f' W' R :=
 ⟨⟨h.rs.l.grown hg h.rs.s (fun k e => by cases e; exact h.lb), h.rs.o.grown hg (fun g e => by cases e; exact h.nb), Nat.le_trans h.rs.s hg.size⟩, hs, h.nb, h.lb⟩
theorem Carr.setK {B : Nat} {Q : World → List OR → Prop} (c : Carr B Q) {W : World} (P S : List OR) {T : TypeId} {k g n cap : Nat} {cs : List Value} (h : Q W (P ++ (⟨T, k, .slice (some ⟨g, 0, none⟩) n cap, n, cs⟩ : OR) :: S)) (i : Nat) (u : Value) :
  Q (W.setCell ⟨g, i, none⟩ u) (P ++ (⟨T, k, .slice (some ⟨g, 0, none⟩) n cap, n, cs.set i u⟩ : OR) :: S) := by
 have ho : World.ownsRow W B T k (.slice (some ⟨g, 0, none⟩) n cap) n cs := (c.own h).on (⟨T, k, .slice (some ⟨g, 0, none⟩) n cap, n, cs⟩ : OR) (by simp)
 exact c.turn P S h (grow_set (grown_refl _ _) _ _) (World.ownsRow.stored ho i u).1 (fun g hg => Or.inl hg)
theorem Carr.setB {B : Nat} {Q : World → List OR → Prop} (c : Carr B Q) {W : World} (P S : List OR) {k : Nat} {T : TypeId} {cs : List Value} (i : Nat) (u : Value) (h : Q W (P ++ rB k T cs :: S)) : Q (W.setCell ⟨k, i, none⟩ u) (P ++ rB k T (cs.set i u) :: S) := by
 have h1 := c.setK P S (T := T) (k := cs.length) (g := k) (n := 1) (cap := 1) (cs := cs) h i u
 have e : rB k T (cs.set i u) = ⟨T, cs.length, .slice (some ⟨k, 0, none⟩) 1 1, 1, cs.set i u⟩ := by unfold rB; rw [List.length_set]
 rw [e]; exact h1
theorem Carr.app {B : Nat} {Q : World → List OR → Prop} (c : Carr B Q) {w : World} (P S : List OR) {r : OR} (hR : Q w (P ++ r :: S)) (t ty : TypeId) {i : TypeInfo} {z : Value} (bytes : Nat)
  (hu : Tryz.prog.underlying t = some (.slice r.T)) (hi : Tryz.prog.info? r.T = some i) (hz : i.zero = some z) (hsize : i.size = r.k) (hby : i.bytes = bytes) (hzs : z.cells.size = r.k) (hsz : 0 < r.k)
  (ad : Addr) (m d : Nat) (news : List Value) (hl : news.length = m * r.k) (hnews : ∀ j u, news[j]? = some u → w.cell? (ad.add j) = some u) (h1 : ∀ u ∈ news, u.oneCell' = true)
  (h63 : r.n + m ≤ maxLen) (hbytes : (r.n + m) * bytes ≤ 140737488355328) :
  ∃ s' c' w', (Builtin.append_ #[t, t] ty #[r.v, .slice (some ad) m d]).run Tryz.prog w = .ok (.slice s' (r.n + m) c') w' ∧ Q w' (P ++ (⟨r.T, r.k, .slice s' (r.n + m) c', r.n + m, r.cs ++ news⟩ : OR) :: S) ∧ w.grownBy w' r.v.ownBlock := by
 have hr := (c.own hR).on r (by simp)
 obtain ⟨v', w', hrun, h2, h3, _, h5⟩ := run_append_own_at (P := Tryz.prog) w B t ty r.T i z r.k bytes hu hi hz hsize hby hzs hsz r.v r.n r.cs hr ad m d news hl hnews h1 h63 hbytes (c.le hR)
 have hO : (⟨r.T, r.k, v', r.n + m, r.cs ++ news⟩ : OR).on w' B := h2
 obtain ⟨s', c', e'⟩ := hO.shape
 have e' : v' = .slice s' (r.n + m) c' := e'
 subst e'
 refine ⟨s', c', w', hrun, c.turn P S hR h3 hO ?_, h3⟩
 intro g hg
 have hg : (Value.slice s' (r.n + m) c').ownBlock = some g := hg
 rcases h5 with h5 | h5
 ·
  left; rw [← h5]; exact hg
 right; rw [h5] at hg; cases hg; exact Nat.le_refl _
theorem flat_put {α : Type} {k : Nat} {f : α → List Value} (hf : ∀ a, (f a).length = k) : ∀ (L : List α) (j : Nat) (a a' : α) (q : Nat) (u : Value), L[j]? = some a → q < k → f a' = (f a).set q u → (L.flatMap f).set (j * k + q) u = (L.set j a').flatMap f
 | [], j, a, a', q, u, h, _, _ => by simp at h
 | b :: L, 0, a, a', q, u, h, hq, e => by
  simp at h
  subst h
  rw [List.flatMap_cons, List.set_cons_zero, List.flatMap_cons, Nat.zero_mul, Nat.zero_add, List.set_append_left _ _ (by rw [hf]; exact hq), e]
 | b :: L, j + 1, a, a', q, u, h, hq, e => by
  have h' : L[j]? = some a := by simpa using h
  have e2 : (j + 1) * k + q - (f b).length = j * k + q := by rw [hf, Nat.succ_mul]; omega
  rw [List.flatMap_cons, List.set_cons_succ, List.flatMap_cons, List.set_append_right _ _ (by rw [hf, Nat.succ_mul]; omega), e2, flat_put hf L j a a' q u h' hq e]
theorem flat_same {α : Type} {f : α → List Value} (L : List α) (j : Nat) (a a' : α) (h : L[j]? = some a) (e : f a' = f a) : (L.set j a').flatMap f = L.flatMap f := by
 rw [List.flatMap_def, List.flatMap_def, List.map_set, e]
 congr 1
 obtain ⟨hj, rfl⟩ := List.getElem?_eq_some_iff.1 h
 apply List.ext_getElem?
 intro k
 rw [List.getElem?_set]
 split
 ·
  next h1 => subst h1; simp [hj]
 rfl
def setTV (V : WV) (i : Nat) (t : TV) : WV := ⟨V.g, V.f, V.t, V.r, V.ts.set i t⟩
theorem rTabs_set2 {ts : List TV} {Ts : List Tab} {m : Nat} {t t' : TV} {T T' : Tab} (h1 : ts[m]? = some t) (h2 : Ts[m]? = some T) : rTabs (ts.set m t') (Ts.set m T') = rTabs (ts.take m) (Ts.take m) ++ (rTab t' T' ++ rTabs (ts.drop (m + 1)) (Ts.drop (m + 1))) := by
 have l1 := (List.getElem?_eq_some_iff.1 h1).1
 have l2 := (List.getElem?_eq_some_iff.1 h2).1
 have := rTabs_split (ts := ts.set m t') (Ts := Ts.set m T') (j := m) (t := t') (T := T') (by rw [List.getElem?_set_self l1]) (by rw [List.getElem?_set_self l2])
 rw [this, List.take_set_of_le (Nat.le_refl _), List.drop_set_of_lt (by omega), List.take_set_of_le (Nat.le_refl _), List.drop_set_of_lt (by omega)]
theorem rW_set2 {V : WV} {W : Wd} {i : Nat} {t t' : TV} {T T' : Tab} (h1 : V.ts[i]? = some t) (h2 : W.tabs[i]? = some T) : rW (setTV V i t') (setW W i T') = [rI V.g W.gens, rI V.f W.free, rT V.t (V.ts.set i t'), rV V.r W.res] ++ (rTabs (V.ts.take i) (W.tabs.take i) ++ (rTab t' T' ++ rTabs (V.ts.drop (i + 1)) (W.tabs.drop (i + 1)))) := by
 show rI V.g W.gens :: rI V.f W.free :: rT V.t (V.ts.set i t') :: rV V.r W.res :: rTabs (V.ts.set i t') (W.tabs.set i T') = _
 rw [rTabs_set2 h1 h2]
 rfl
theorem owf_set2 {V : WV} {W : Wd} (h : OWf V W) {i : Nat} {t' : TV} {T T' : Tab} (h2 : W.tabs[i]? = some T) (hl : t'.xs.length = T'.cells.length) (ok : ∀ L ∈ T'.cells, okVs L) : OWf (setTV V i t') (setW W i T') := by
 refine ⟨?_, ?_, ?_, h.okr⟩
 ·
  show (V.ts.set _ _).length = (W.tabs.set _ _).length
  rw [List.length_set, List.length_set]; exact h.len
 ·
  intro j t U ht hU
  have ht : (V.ts.set i t')[j]? = some t := ht
  have hU : (W.tabs.set i T')[j]? = some U := hU
  by_cases e : i = j
  ·
   subst e
   have l2 := (List.getElem?_eq_some_iff.1 h2).1
   rw [List.getElem?_set_self l2] at hU
   rw [List.getElem?_set_self (by rw [h.len]; exact l2)] at ht
   cases hU
   cases ht
   exact hl
  rw [List.getElem?_set_ne e] at hU ht
  exact h.lens j t U ht hU
 intro U hU M hM
 have hU : U ∈ W.tabs.set i T' := hU
 rcases List.mem_or_eq_of_mem_set hU with h' | rfl
 ·
  exact h.okc U h' M hM
 exact ok M hM
theorem cellT {w : World} {B tb n cp i : Nat} {ts : List TV} {t : TV} (h : (rT (.slice (some ⟨tb, 0, none⟩) n cp) ts).on w B) (hl : ts.length = n) (ht : ts[i]? = some t) : w.cell? ⟨tb, i * 3 + 1, none⟩ = some t.r ∧ w.cell? ⟨tb, i * 3 + 2, none⟩ = some t.x ∧ ∀ o, w.frozen? ⟨tb, o, none⟩ = false := by
 subst hl
 have oT : World.ownsRow w B 119 3 (.slice (some ⟨tb, 0, none⟩) ts.length cp) ts.length (ts.flatMap tc) := h
 have c := rT_cells oT (List.getElem?_eq_some_iff.1 ht).1 ht
 exact ⟨c.2.1, c.2.2, fun o => World.ownsRow.frozenAt oT o⟩
theorem Carr.rowsT {B : Nat} {Q : World → List OR → Prop} (c : Carr B Q) {w w1 : World} {P : List OR} {V : WV} {W : Wd} {i : Nat} {t : TV} {T : Tab} {tb n cap : Nat} {v' : Value} {R' : List E2} (hR : Q w (P ++ rW V W)) (ht : V.ts[i]? = some t) (hT : W.tabs[i]? = some T) (hv : V.t = .slice (some ⟨tb, 0, none⟩) n cap) (hn : n = V.ts.length)
  (hg : w.grownBy w1 t.r.ownBlock) (hr : (rE v' R').on w1 B) (ho : ∀ g, v'.ownBlock = some g → t.r.ownBlock = some g ∨ w.heap.size ≤ g) :
  (∀ o, w1.frozen? ⟨tb, o, none⟩ = false) ∧ w1.cell? ⟨tb, i * 3 + 1, none⟩ = some t.r ∧ Q (w1.setCell ⟨tb, i * 3 + 1, none⟩ v') (P ++ rW (setTV V i ⟨t.c, v', t.x, t.xs⟩) (setW W i ⟨T.cols, R', T.cells⟩)) := by
 rw [rW_split ht hT] at hR
 have h1 := c.turn ((P ++ [rI V.g W.gens, rI V.f W.free, rT V.t V.ts, rV V.r W.res] ++ rTabs (V.ts.take i) (W.tabs.take i)) ++ [rI t.c T.cols]) (rS t.x t.xs :: rVs t.xs T.cells ++ rTabs (V.ts.drop (i + 1)) (W.tabs.drop (i + 1))) (r := rE t.r T.rows) (r' := rE v' R') (by simpa [rTab] using hR) hg hr ho
 subst hn
 have h2 := c.setK (P ++ [rI V.g W.gens, rI V.f W.free]) (rV V.r W.res :: rTabs (V.ts.take i) (W.tabs.take i) ++ (rI t.c T.cols :: rE v' R' :: rS t.x t.xs :: rVs t.xs T.cells ++ rTabs (V.ts.drop (i + 1)) (W.tabs.drop (i + 1)))) (T := 119) (k := 3) (g := tb) (n := V.ts.length) (cap := cap) (cs := V.ts.flatMap tc) (by simpa [rT, hv] using h1) (i * 3 + 1) v'
 rw [flat_put (k := 3) (f := tc) (fun _ => rfl) V.ts i t ⟨t.c, v', t.x, t.xs⟩ 1 v' ht (by omega) rfl] at h2
 have oT : World.ownsRow w1 B 119 3 V.t V.ts.length (V.ts.flatMap tc) := (c.own h1).on (rT V.t V.ts) (by simp)
 rw [hv] at oT
 refine ⟨fun o => World.ownsRow.frozenAt oT o, (rT_cells oT (List.getElem?_eq_some_iff.1 ht).1 ht).2.1, ?_⟩
 rw [rW_set2 ht hT]
 simpa [rT, rTab, hv] using h2
theorem Carr.colT {B : Nat} {Q : World → List OR → Prop} (c : Carr B Q) {w w1 : World} {P : List OR} {V : WV} {W : Wd} {i m : Nat} {t : TV} {T : Tab} {xb n cap : Nat} {v v' : Value} {L L' : List V4} (hR : Q w (P ++ rW V W)) (ht : V.ts[i]? = some t) (hT : W.tabs[i]? = some T) (hv : t.x = .slice (some ⟨xb, 0, none⟩) n cap) (hn : n = t.xs.length) (hx : t.xs[m]? = some v) (hL : T.cells[m]? = some L)
  (hg : w.grownBy w1 v.ownBlock) (hr : (rV v' L').on w1 B) (ho : ∀ g, v'.ownBlock = some g → v.ownBlock = some g ∨ w.heap.size ≤ g) :
  (∀ o, w1.frozen? ⟨xb, o, none⟩ = false) ∧ w1.cell? ⟨xb, m, none⟩ = some v ∧ (∀ r ∈ P ++ [rI V.g W.gens, rI V.f W.free, rT V.t V.ts, rV V.r W.res], r.on w1 B) ∧ Q (w1.setCell ⟨xb, m, none⟩ v') (P ++ rW (setTV V i ⟨t.c, t.r, t.x, t.xs.set m v'⟩) (setW W i ⟨T.cols, T.rows, T.cells.set m L'⟩)) := by
 rw [rW_split ht hT] at hR
 have lx := (List.getElem?_eq_some_iff.1 hx).1
 have lL := (List.getElem?_eq_some_iff.1 hL).1
 have e0 := rVs_split hx hL
 have h1 := c.turn ((P ++ [rI V.g W.gens, rI V.f W.free, rT V.t V.ts, rV V.r W.res] ++ rTabs (V.ts.take i) (W.tabs.take i)) ++ [rI t.c T.cols, rE t.r T.rows, rS t.x t.xs] ++ rVs (t.xs.take m) (T.cells.take m)) (rVs (t.xs.drop (m + 1)) (T.cells.drop (m + 1)) ++ rTabs (V.ts.drop (i + 1)) (W.tabs.drop (i + 1))) (r := rV v L) (r' := rV v' L') (by rw [rTab, e0] at hR; simpa using hR) hg hr ho
 subst hn
 have h2 := c.setK ((P ++ [rI V.g W.gens, rI V.f W.free, rT V.t V.ts, rV V.r W.res] ++ rTabs (V.ts.take i) (W.tabs.take i)) ++ [rI t.c T.cols, rE t.r T.rows]) (rVs (t.xs.take m) (T.cells.take m) ++ (rV v' L' :: rVs (t.xs.drop (m + 1)) (T.cells.drop (m + 1)) ++ rTabs (V.ts.drop (i + 1)) (W.tabs.drop (i + 1)))) (T := 38) (k := 1) (g := xb) (n := t.xs.length) (cap := cap) (cs := t.xs) (by simpa [rS, hv] using h1) m v'
 have e1 := rVs_split (xs := t.xs.set m v') (C := T.cells.set m L') (m := m) (v := v') (L := L') (by rw [List.getElem?_set_self lx]) (by rw [List.getElem?_set_self lL])
 rw [List.take_set_of_le (Nat.le_refl _), List.drop_set_of_lt (by omega), List.take_set_of_le (Nat.le_refl _), List.drop_set_of_lt (by omega)] at e1
 have e2 : rT V.t (V.ts.set i ⟨t.c, t.r, t.x, t.xs.set m v'⟩) = rT V.t V.ts := by
  unfold rT
  rw [List.length_set, flat_same (f := tc) V.ts i t ⟨t.c, t.r, t.x, t.xs.set m v'⟩ ht rfl]
 have oX : World.ownsRow w1 B 38 1 t.x t.xs.length t.xs := (c.own h1).on (rS t.x t.xs) (by simp)
 rw [hv] at oX
 refine ⟨fun o => World.ownsRow.frozenAt oX o, by rw [World.ownsRow.cellAt oX m (by omega), hx], fun r hr => (c.own h1).on r (by rcases List.mem_append.1 hr with h | h <;> simp [h] <;> simp at h <;> rcases h with h | h | h | h <;> simp [h]), ?_⟩
 rw [rW_set2 ht hT, e2]
 unfold rTab
 dsimp only
 rw [e1]
 simpa [rS, hv] using h2
end
section
open Go.RowKit Go.Maps Go.WideMaps
set_option maxRecDepth 100000
def gone (T : Tab) (j : Nat) : Tab := ⟨T.cols, wo T.rows j, T.cells.map fun L => wo L j⟩
theorem tab_at {w : World} {B : Nat} {R : List OR} {V : WV} {W : Wd} {i : Nat} {T : Tab} (ho : Owns w B R) (hm : ∀ r ∈ rW V W, r ∈ R) (hF : OWf V W) (hT : W.tabs[i]? = some T) :
  ∃ t tb cp sr cr sx cx, V.ts[i]? = some t ∧ V.t = .slice (some ⟨tb, 0, none⟩) W.tabs.length cp ∧ t.r = .slice sr T.rows.length cr ∧ t.x = .slice sx T.cells.length cx ∧ t.xs.length = T.cells.length ∧ (rE t.r T.rows).on w B ∧ (rS t.x t.xs).on w B ∧
   w.cell? ⟨tb, i * 3 + 1, none⟩ = some t.r ∧ w.cell? ⟨tb, i * 3 + 2, none⟩ = some t.x ∧ (∀ o, w.frozen? ⟨tb, o, none⟩ = false) := by
 have hi : i < W.tabs.length := (List.getElem?_eq_some_iff.1 hT).1
 obtain ⟨t, ht⟩ := get_some (L := V.ts) (k := i) (by rw [hF.len]; exact hi)
 have mT : ∀ r ∈ rTab t T, r ∈ R := fun r hr => hm r (by have := rTabs_mem ht hT r hr; simp [rW, this])
 have oT := ho.on (rT V.t V.ts) (hm _ (by simp [rW]))
 obtain ⟨s, cp, e⟩ := oT.shape
 have e : V.t = .slice s V.ts.length cp := e
 have oT : World.ownsRow w B 119 3 V.t V.ts.length (V.ts.flatMap tc) := oT
 rw [e] at oT
 obtain ⟨tb, rfl⟩ := own_some oT (by rw [hF.len]; omega)
 have hc := rT_cells oT (by rw [hF.len]; exact hi) ht
 have oR := ho.on (rE t.r T.rows) (mT _ (by simp [rTab]))
 have oX := ho.on (rS t.x t.xs) (mT _ (by simp [rTab]))
 obtain ⟨sr, cr, er⟩ := oR.shape
 obtain ⟨sx, cx, ex⟩ := oX.shape
 have hl := hF.lens i t T ht hT
 refine ⟨t, tb, cp, sr, cr, sx, cx, ht, by rw [e, hF.len], er, ?_, hl, oR, oX, hc.2.1, hc.2.2, fun o => World.ownsRow.frozenAt oT o⟩
 rw [← hl]; exact ex
end
section
open Go.RowKit Go.Maps Go.WideMaps
set_option maxRecDepth 100000
theorem own_cap {w : World} {B n c : Nat} {T : TypeId} {K : Nat} {s : Option Addr} {xs : List Value} (h : w.ownsRow B T K (.slice s n c) n xs) : n ≤ c := by
 rcases h.2 with ⟨h1, h2⟩ | ⟨g, cap, cur, h1, hb, hg, hc, _⟩
 ·
  omega
 simp only [Value.slice.injEq] at h1
 obtain ⟨_, _, rfl⟩ := h1
 exact hc
theorem setW_setW (W : Wd) (i : Nat) (A C : Tab) : setW (setW W i A) i C = setW W i C := by simp [setW, List.set_set]
end
section
open Go.RowKit
theorem wpList_append_one (w : World) {ops : Array Oper} {rest : List Oper} {o : Oper} {a : Act} {Q : Exit → Act → World → Prop}
  (hg : o.guard = none) (s x : Operand) (hop : o.op = Op.call { callee := Callee.builtin Builtin.append, args := #[s, x], argTypes := #[25, 25] })
  (B : Nat) (v : Value) (F : List Int) (hs : a.eval s = v) (hv : VRow w B v F) (sb : Nat) (z : Int) (hx : a.eval x = .slice (some ⟨sb, 0, none⟩) 1 1) (hz : w.cell? ⟨sb, 0, none⟩ = some (.int .i64 z)) (hl : F.length ≤ 1048576)
  (hK : ∀ g d w', VRow w' 0 (.slice (some ⟨g, 0, none⟩) (F.length + 1) d) (F ++ [z]) → w.grownBy w' v.ownBlock → (v.ownBlock = some g ∨ w.heap.size ≤ g) → g < w'.heap.size → wpList Tryz.prog ops Q rest (a.put o.dst (.slice (some ⟨g, 0, none⟩) (F.length + 1) d)) w') :
  wpList Tryz.prog ops Q (o :: rest) a w := by
 refine wpList_plain hg fun K hK' => ?_
 obtain ⟨i0, hi, hz0, hz1, hz2⟩ := info_parts Tryz.infoI
 have hnews : ∀ j u, [Value.int .i64 z][j]? = some u → w.cell? ((⟨sb, 0, none⟩ : Addr).add j) = some u := by
  intro j u hj
  match j, hj with
  | 0, hj => simp at hj; subst hj; simpa [Addr.add] using hz
 have hone : ∀ u ∈ [Value.int .i64 z], u.oneCell' = true := by intro u hu; simp at hu; subst hu; rfl
 have fin : ∀ (w' : World) (g d : Nat), w'.ownsRow 0 3 1 (.slice (some ⟨g, 0, none⟩) (F.length + 1) d) (F.length + 1) (F.map (Value.int .i64) ++ [Value.int .i64 z]) → VRow w' 0 (.slice (some ⟨g, 0, none⟩) (F.length + 1) d) (F ++ [z]) := by
  intro w' g d h
  unfold VRow
  rw [List.length_append, List.map_append]
  exact h
 have low : ∀ {w' : World} {b : Nat} {u : Value} {n : Nat} {xs : List Value}, w'.ownsRow b 3 1 u n xs → w'.ownsRow 0 3 1 u n xs := by
  intro w' b u n xs h
  refine ⟨h.1, ?_⟩
  rcases h.2 with h' | ⟨g, cap', cur, h', hb, r⟩
  ·
   exact Or.inl h'
  exact Or.inr ⟨g, cap', cur, h', Nat.zero_le _, r⟩
 have new : ∀ {w' : World} {u : Value}, w'.ownsRow w.heap.size 3 1 u (F.length + 1) (F.map (Value.int .i64) ++ [Value.int .i64 z]) → ∃ g d, u = .slice (some ⟨g, 0, none⟩) (F.length + 1) d ∧ w.heap.size ≤ g ∧ g < w'.heap.size := by
  intro w' u h
  rcases h.2 with ⟨_, h0⟩ | ⟨g, cap, cur, rfl, hb, hgg, r⟩
  ·
   omega
  exact ⟨g, cap, rfl, hb, (Array.getElem?_eq_some_iff.1 hgg).1⟩
 rcases hv.form with ⟨rfl, rfl⟩ | ⟨g, cap, rfl, hcap, hr⟩
 ·
  obtain ⟨v', w', hrun, r1, r2, _⟩ := run_append_own (P := Tryz.prog) w w.heap.size 25 o.type 3 i0 (.int .i64 0) 1 8 Tryz.underlying25 hi hz0 hz1 hz2 rfl (by decide) (.slice none 0 0) 0 [] (World.ownsRow_nil _ _ _ _) ⟨sb, 0, none⟩ 1 1 [.int .i64 z] rfl hnews hone (by unfold maxLen; omega) (by omega) (Nat.le_refl _)
  obtain ⟨g, d, rfl, e1, e2⟩ := new (by simpa using r1)
  unfold Oper.wp
  simp [execOp, hop, resolve, invoke, builtin, hs, hx, hrun, Result.andThen]
  exact hK' _ _ (hK g d w' (fin w' g d (low (by simpa using r1))) r2 (Or.inr e1) e2)
 by_cases hroom : F.length + 1 ≤ cap
 ·
  obtain ⟨w', hrun, r1, r2⟩ := run_append_fits (P := Tryz.prog) w 0 25 o.type 3 i0 1 Tryz.underlying25 hi hz1 g F.length cap (F.map (Value.int .i64)) (low hr) ⟨sb, 0, none⟩ 1 1 [.int .i64 z] rfl hnews hone hroom
  unfold Oper.wp
  simp [execOp, hop, resolve, invoke, builtin, hs, hx, hrun, Result.andThen]
  exact hK' _ _ (hK g cap w' (fin w' g cap r1) r2 (Or.inl rfl) (World.ownsRow.lt r1 g rfl).2)
 obtain ⟨v', w', hrun, r1, r2⟩ := run_append_arg_grows (P := Tryz.prog) w 25 o.type 3 i0 (.int .i64 0) 1 8 Tryz.underlying25 hi hz0 hz1 hz2 rfl (by decide) ⟨g, 0, none⟩ F.length cap (F.map (Value.int .i64)) (by simp) (ints_cells hr.ints.1) ⟨sb, 0, none⟩ 1 1 [.int .i64 z] rfl hnews (by omega) (by unfold maxLen; omega) (by omega)
 obtain ⟨g', d, rfl, e1, e2⟩ := new r1
 unfold Oper.wp
 simp [execOp, hop, resolve, invoke, builtin, hs, hx, hrun, Result.andThen]
 exact hK' _ _ (hK g' d w' (fin w' g' d (low r1)) ⟨r2.os, r2.tape, r2.output, r2.size, fun k hk _ => r2.block k hk (by simp)⟩ (Or.inr e1) e2)
end
section
open Go.RowKit
theorem Blk.drew {w : World} {n : Nat} {c : Array Value} {t : TypeId} (h : Blk w n c t) : Blk w.drew n c t := h
structure St (w : World) (A : Array Value) (X : World) : Prop where
 l : Below w.heap.size w X
 k : Blk X w.heap.size A 36
 j : Blk X (w.heap.size + 1) #[.slice none 0 0, .slice none 0 0] 36
 s : w.heap.size + 2 ≤ X.heap.size
theorem St.alloc {w X : World} {A : Array Value} (h : St w A X) (o : Obj) : St w A (X.alloc o) := ⟨bl_alloc h.l o, h.k.alloc o, h.j.alloc o, by simp; have := h.s; omega⟩
theorem St.drew {w X : World} {A : Array Value} (h : St w A X) : St w A X.drew := ⟨bl_drew h.l, h.k, h.j, h.s⟩
theorem St.grow {w X Y : World} {A : Array Value} {n : Nat} (h : St w A X) (hg : X.grownBy Y (some n)) (hn : w.heap.size + 2 ≤ n) : St w A Y :=
 ⟨h.l.grown hg h.l.size (fun k e => by simp at e; omega), h.k.kept' hg (by simp; omega), h.j.kept' hg (by simp; omega), Nat.le_trans h.s hg.size⟩
structure New (w : World) (X : World) (n : Nat) : Prop where
 b : Blk X n #[] 3
 s : w.heap.size + 2 ≤ n
theorem New.new {w X : World} {A : Array Value} (h : St w A X) : New w (X.alloc (.cells #[] 3)) X.heap.size := ⟨Blk.new _ _ _, h.s⟩
theorem New.alloc {w X : World} {n : Nat} (h : New w X n) (o : Obj) : New w (X.alloc o) n := ⟨h.b.alloc o, h.s⟩
theorem New.drew {w X : World} {n : Nat} (h : New w X n) : New w X.drew n := ⟨h.b, h.s⟩
theorem New.kept {w X Y : World} {n m : Nat} (h : New w X n) (hg : X.grownBy Y (some m)) (hn : ¬ m = n) : New w Y n := ⟨h.b.kept' hg (by simp; exact hn), h.s⟩
theorem VRow.alloc {w : World} {B : Nat} {v : Value} {G : List Int} (h : VRow w B v G) (o : Obj) : VRow (w.alloc o) B v G := h.later (bl_alloc (Below.refl _ w) o)
theorem VRow.raise {w : World} {B B' g len c : Nat} {G : List Int} (h : VRow w B (.slice (some ⟨g, 0, none⟩) len c) G) (hB : B' ≤ g) : VRow w B' (.slice (some ⟨g, 0, none⟩) len c) G := by
 refine ⟨h.1, ?_⟩
 rcases h.2 with h' | ⟨g', cap', cur, h', hb, r⟩
 ·
  exact Or.inl h'
 have e := h'
 simp only [Value.slice.injEq, Option.some.injEq, Addr.mk.injEq, and_true] at e
 exact Or.inr ⟨g', cap', cur, h', by omega, r⟩
end
section
open Go.RowKit
def ng (g : Int) : Int := if 1000000 ≤ g then 0 else g + 1
theorem blk3 (w : World) (c d e : Array Value) (t u v : TypeId) : Blk (((w.alloc (.cells c t)).alloc (.cells d u)).alloc (.cells e v)) w.heap.size c t ∧ Blk (((w.alloc (.cells c t)).alloc (.cells d u)).alloc (.cells e v)) (w.heap.size + 1) d u ∧ Blk (((w.alloc (.cells c t)).alloc (.cells d u)).alloc (.cells e v)) (w.heap.size + 1 + 1) e v :=
 ⟨((Blk.new w c t).alloc _).alloc _, (Blk.new' _ d u (by simp)).alloc _, Blk.new' _ e v (by simp)⟩
theorem VRow.alloc' {w : World} {B : Nat} {v : Value} {G : List Int} (h : VRow w B v G) (o : Obj) : VRow (w.alloc o) B v G := h.later (bl_alloc (Below.refl _ w) o)
theorem VRow.cell {w : World} {B g c : Nat} {G : List Int} (h : VRow w B (.slice (some ⟨g, 0, none⟩) G.length c) G) {q : Nat} (hq : q < G.length) : w.cell? ⟨g, q, none⟩ = some (.int .i64 (G[q]?.getD 0)) ∧ w.frozen? ⟨g, q, none⟩ = false := Row.cell h q hq
structure Fr (g f : Nat) (w w' : World) : Prop where
 os : w'.os = w.os
 tape : w'.tape = w.tape
 output : w'.output = w.output
 size : w.heap.size ≤ w'.heap.size
 block : ∀ k, k < w.heap.size → ¬ k = g → ¬ k = f → w'.heap[k]? = w.heap[k]?
theorem Fr.refl (g f : Nat) (w : World) : Fr g f w w := ⟨rfl, rfl, rfl, Nat.le_refl _, fun _ _ _ _ => rfl⟩
theorem Fr.alloc {g f : Nat} {a b : World} (h : Fr g f a b) (o : Obj) : Fr g f a (b.alloc o) :=
 ⟨h.os, h.tape, h.output, by simp; have := h.size; omega, fun k hk h1 h2 => by rw [Below.heap_alloc b o k (Nat.lt_of_lt_of_le hk h.size)]; exact h.block k hk h1 h2⟩
theorem Fr.setCell {g f : Nat} {a b : World} (h : Fr g f a b) {n : Nat} (hn : n = g ∨ n = f ∨ a.heap.size ≤ n) (o : Nat) (u : Value) : Fr g f a (b.setCell ⟨n, o, none⟩ u) :=
 ⟨h.os, h.tape, h.output, by simp; exact h.size, fun k hk h1 h2 => by rw [Below.heap_setCell b ⟨n, o, none⟩ u k (by simp; omega)]; exact h.block k hk h1 h2⟩
theorem Fr.grown {g f : Nat} {a b c : World} (h : Fr g f a b) (hg : b.grownBy c (some f)) : Fr g f a c :=
 ⟨hg.os.trans h.os, hg.tape.trans h.tape, hg.output.trans h.output, Nat.le_trans h.size hg.size, fun k hk h1 h2 => (hg.block k (Nat.lt_of_lt_of_le hk h.size) (by simp; omega)).trans (h.block k hk h1 h2)⟩
end
section
open Go.RowKit
theorem okE_len {G F : List Int} (h : okE G F = true) : G.length ≤ 2000 ∧ F.length ≤ 2000 := by
 have h' := h
 rw [okE_eq] at h
 simp only [Bool.and_eq_true, decide_eq_true_eq] at h
 have := free_len h.2
 omega
theorem apartS {g f n m c d : Nat} (h : ¬ g = f) : Apart (.slice (some ⟨g, 0, none⟩) n c) (.slice (some ⟨f, 0, none⟩) m d) := by
 intro k h1 h2
 simp [Value.ownBlock] at h1 h2
 omega
end
end Go.Proofs.YtbgeobpdojmdaaaGreat
