import Derived.Test.YtbgeobpdojmdaaaGreatSq33
import Derived.Deep.OwnRows
namespace Go.Proofs.YtbgeobpdojmdaaaGreat
open Go.RowKit Go.Maps Go.WideMaps
set_option linter.unusedVariables false
set_option linter.unusedSimpArgs false
set_option maxRecDepth 100000
def addT (T : Tab) (e : E2) (L : List C5) : Tab := ⟨T.cols, T.rows ++ [e], List.zipWith (fun M c => M ++ [c.2]) T.cells L⟩
def newT (L : List C5) : Tab := ⟨L.map (·.1), [], List.replicate L.length []⟩
def apW (W : Wd) (T : Tab) : Wd := ⟨W.gens, W.free, W.tabs ++ [T], W.res⟩
def GoA (W W1 : Wd) (T1 : Tab) (L : List C5) (i : Nat) : Prop :=
 W1.tabs[i]? = some T1 ∧ T1.cols = L.map (·.1) ∧ (W1 = W ∨ (W1 = apW W (newT L) ∧ i = W.tabs.length ∧ T1 = newT L ∧ (∀ t ∈ W.tabs, ¬ t.cols = L.map (·.1)) ∧ ¬ W.tabs.length = 40))
theorem Rm.perm {X W : World} {B b n : Nat} {f : E2 → Option E2} {R S : List OR} (h : Rm X B b n f W R) (hp : R.Perm S) : Rm X B b n f W S :=
 ⟨h.rs.perm hp, h.sm, fun hm => h.nb (by obtain ⟨q, hq, e⟩ := mem_blks.1 hm; exact mem_blks.2 ⟨q, hp.mem_iff.2 hq, e⟩), h.lb⟩
theorem perm_tab {α : Type} (P X Y M : List α) (a b m : α) : (P ++ (a :: b :: (X ++ (Y ++ (m :: M))))).Perm (P ++ (X ++ (Y ++ (a :: m :: b :: M)))) := by
 refine List.Perm.append_left P ?_
 have h1 : (a :: b :: (X ++ (Y ++ (m :: M)))).Perm ((X ++ Y) ++ (a :: b :: m :: M)) := by
  have := (List.perm_append_comm_assoc [a, b] (X ++ Y) (m :: M))
  simpa using this
 refine h1.trans ?_
 rw [List.append_assoc]
 exact List.Perm.append_left X (List.Perm.append_left Y (List.Perm.cons a (List.Perm.swap m b M)))
section
variable {ops : Array Oper} {o : Oper} {a : Act} {w : World} {K : Act → World → Prop} {Qx : Exit → Act → World → Prop} {E : Prop}
theorem step_appO {B : Nat} {r : OR} (hr : r.on w B) (hB : B ≤ w.heap.size) (hg : o.guard = none) {d0 : Option Nat} (hd : o.dst = d0) (s x : Operand) (t : TypeId) {i : TypeInfo} {z : Value} (bytes : Nat) (ho : o.op = .call { callee := .builtin .append, args := #[s, x], argTypes := #[t, t] })
  (hu : Tryz.prog.underlying t = some (.slice r.T)) (hi : Tryz.prog.info? r.T = some i) (hz : i.zero = some z) (hsize : i.size = r.k) (hby : i.bytes = bytes) (hzs : z.cells.size = r.k) (hsz : 0 < r.k) (hs : a.eval s = r.v)
  (ad : Addr) (m d : Nat) (hx : a.eval x = .slice (some ad) m d) (news : List Value) (hl : news.length = m * r.k) (hnews : ∀ j u, news[j]? = some u → w.cell? (ad.add j) = some u) (h1 : ∀ u ∈ news, u.oneCell' = true)
  (h63 : r.n + m ≤ maxLen) (hbytes : (r.n + m) * bytes ≤ 140737488355328) (N : Nat) (hN : r.n + m = N) (f : Value → OR) (hf : ∀ v, f v = ⟨r.T, r.k, v, N, r.cs ++ news⟩)
  (hK : ∀ s' c' w', (f (.slice s' N c')).on w' B → w.grownBy w' r.v.ownBlock → (∀ g, (Value.slice s' N c').ownBlock = some g → r.v.ownBlock = some g ∨ w.heap.size ≤ g) → K (a.put d0 (.slice s' N c')) w') :
  if Region.wanted o (yielded ops a.tmps) = true then Oper.wp Tryz.prog o a w K Qx else E := by
 subst hN
 obtain ⟨v', w', hrun, h2, h3, _, h5⟩ := run_append_own_at (P := Tryz.prog) w B t o.type r.T i z r.k bytes hu hi hz hsize hby hzs hsz r.v r.n r.cs hr ad m d news hl hnews h1 h63 hbytes hB
 have hO : (⟨r.T, r.k, v', r.n + m, r.cs ++ news⟩ : OR).on w' B := h2
 obtain ⟨s', c', e'⟩ := hO.shape
 have e' : v' = .slice s' (r.n + m) c' := e'
 subst e'
 have exec : (execOp a.eval o).run Tryz.prog w = .ok (.value (.slice s' (r.n + m) c')) w' := by
  simp [execOp, ho, resolve, invoke, builtin, hs, hx, hrun, Result.andThen]
 refine step_exec hg hd exec (hK s' c' w' (by rw [hf]; exact hO) h3 ?_)
 intro g hg
 rcases h5 with h5 | h5
 ·
  left; rw [← h5]; exact hg
 right; rw [h5] at hg; cases hg; exact Nat.le_refl _
end
def addN (T : Tab) (e : E2) (L : List C5) (m : Nat) : Tab := ⟨T.cols, T.rows ++ [e], (List.zipWith (fun M c => M ++ [c.2]) T.cells L).take m ++ T.cells.drop m⟩
theorem addN_all {T : Tab} {e : E2} {L : List C5} (h : T.cells.length = L.length) : addN T e L L.length = addT T e L := by
 unfold addN addT
 rw [List.take_of_length_le (by simp [h]), List.drop_eq_nil_of_le (by omega), List.append_nil]
theorem addN_get {T : Tab} {e : E2} {L : List C5} {m : Nat} {M : List V4} (h0 : T.cells.length = L.length) (h : T.cells[m]? = some M) : (addN T e L m).cells[m]? = some M := by
 unfold addN
 dsimp only
 rw [take_drop_get (by simp [h0]) (List.getElem?_eq_some_iff.1 h).1, h]
theorem addN_set {T : Tab} {e : E2} {L : List C5} {m : Nat} {M : List V4} {c : C5} (h0 : T.cells.length = L.length) (h : T.cells[m]? = some M) (hc : L[m]? = some c) : (addN T e L m).cells.set m (M ++ [c.2]) = (addN T e L (m + 1)).cells := by
 unfold addN
 dsimp only
 rw [take_drop_set (by simp [h0]) (by rw [List.getElem?_zipWith, h, hc])]
theorem addN_len {T : Tab} {e : E2} {L : List C5} {m : Nat} (h0 : T.cells.length = L.length) : (addN T e L m).cells.length = T.cells.length := by
 unfold addN
 simp [h0]
 omega
theorem okc_addN {T : Tab} {e : E2} {L : List C5} {m : Nat} (h : ∀ M ∈ T.cells, okVs M) (okL : okCs L) : ∀ M ∈ (addN T e L m).cells, okVs M := by
 intro M hM
 unfold addN at hM
 dsimp only at hM
 rcases List.mem_append.1 hM with h' | h'
 ·
  have h1 := List.mem_of_mem_take h'
  obtain ⟨k, hk⟩ := List.mem_iff_getElem?.1 h1
  rw [List.getElem?_zipWith] at hk
  cases h2 : T.cells[k]? with
  | none => rw [h2] at hk; simp at hk
  | some M0 =>
   cases h3 : L[k]? with
   | none => rw [h2, h3] at hk; simp at hk
   | some c =>
    rw [h2, h3] at hk
    simp at hk
    subst hk
    intro v hv
    rcases List.mem_append.1 hv with h4 | h4
    ·
     exact h M0 (List.mem_of_getElem? h2) v h4
    simp at h4; subst h4; exact okL c (List.mem_of_getElem? h3)
 exact h M (List.mem_of_mem_drop h')
theorem perm_mid3 {α : Type} (P R : List α) (a b c : α) : ((P ++ [a, b]) ++ c :: R).Perm (P ++ c :: a :: b :: R) := by
 rw [List.append_assoc]
 exact List.Perm.append_left P (List.perm_middle (l₁ := [a, b]) (l₂ := R))
theorem nil_on (w : World) (B : Nat) (r : OR) (hv : r.v = .slice none 0 0) (hn : r.n = 0) (hc : r.cs = []) : r.on w B := by
 unfold OR.on
 rw [hv, hn, hc]
 exact World.ownsRow_nil _ _ _ _
theorem owns_nils (w : World) (B : Nat) (R : List OR) (h : ∀ r ∈ R, r.v = .slice none 0 0 ∧ r.n = 0 ∧ r.cs = []) : Owns w B R := by
 refine ⟨fun r hr => nil_on w B r (h r hr).1 (h r hr).2.1 (h r hr).2.2, ?_⟩
 have : blks R = [] := by
  unfold blks
  rw [List.filterMap_eq_nil_iff]
  intro r hr
  rw [(h r hr).1]
  rfl
 rw [this]
 exact List.nodup_nil
theorem made_row (w : World) (n : Nat) (hn : n ≤ 1000000) : (rS (.slice (some ⟨w.heap.size, 0, none⟩) n n) (List.replicate n (.slice none 0 0))).on (w.alloc (.cells (madeCells #[.slice none 0 0] n) 38)) w.heap.size := by
 obtain ⟨iS, hiS, hzS, hsS, hbS⟩ := info_parts Tryz.infoVS
 obtain ⟨w', h1, h2, _⟩ := run_make_full (P := Tryz.prog) (w := w) w.heap.size 117 38 iS (.slice none 0 0) 1 Tryz.underlying117 hiS hzS hsS .i64 .i64 n (by rw [hbS]; omega) (by unfold maxLen; omega) (Nat.le_refl _)
 have h3 := run_make_row (P := Tryz.prog) 117 38 iS (.slice none 0 0) Tryz.underlying117 hiS hzS hsS rfl .i64 .i64 n (by rw [hbS]; omega) (by omega) w
 rw [h3] at h1
 simp only [Result.ok.injEq, true_and] at h1
 rw [h1]
 have e : (madeCells (Value.slice none 0 0).cells (n * 1)).toList = List.replicate n (.slice none 0 0) := by
  have := made_flat #[Value.slice none 0 0] n
  have e2 : (Value.slice none 0 0).cells = #[Value.slice none 0 0] := rfl
  rw [e2]
  simpa using this
 rw [e] at h2
 show World.ownsRow w' w.heap.size 38 1 (.slice (some ⟨w.heap.size, 0, none⟩) n n) (List.replicate n (Value.slice none 0 0)).length (List.replicate n (.slice none 0 0))
 rw [List.length_replicate]
 exact h2
theorem owf_new {Vg Vf Vt Vt' Vr vc vx : Value} {ts : List TV} {W : Wd} {L : List C5} (h : OWf ⟨Vg, Vf, Vt, Vr, ts⟩ W) : OWf ⟨Vg, Vf, Vt', Vr, ts ++ [⟨vc, .slice none 0 0, vx, List.replicate L.length (.slice none 0 0)⟩]⟩ (apW W (newT L)) := by
 have hl : ts.length = W.tabs.length := h.len
 refine ⟨?_, ?_, ?_, h.okr⟩
 ·
  show (ts ++ [_]).length = (W.tabs ++ [_]).length
  simp [hl]
 ·
  intro j t T ht hT
  have ht : (ts ++ [(⟨vc, .slice none 0 0, vx, List.replicate L.length (.slice none 0 0)⟩ : TV)])[j]? = some t := ht
  have hT : (W.tabs ++ [newT L])[j]? = some T := hT
  by_cases hj : j < ts.length
  ·
   rw [List.getElem?_append_left hj] at ht
   rw [List.getElem?_append_left (by omega)] at hT
   exact h.lens j t T ht hT
  rw [List.getElem?_append_right (by omega)] at ht hT
  have hj0 : j - ts.length = 0 := by have := (List.getElem?_eq_some_iff.1 ht).1; simp at this; omega
  rw [hj0] at ht
  rw [← hl, hj0] at hT
  simp at ht hT
  subst ht hT
  simp [newT]
 intro T hT M hM
 have hT : T ∈ W.tabs ++ [newT L] := hT
 rcases List.mem_append.1 hT with h1 | h1
 ·
  exact h.okc T h1 M hM
 simp only [List.mem_singleton] at h1
 subst h1
 have hM : M ∈ List.replicate L.length ([] : List V4) := hM
 obtain rfl := (List.mem_replicate.1 hM).2
 intro v hv
 simp at hv
theorem Carr.newTab {B : Nat} {Q : World → List OR → Prop} (c : Carr B Q) (hp : ∀ {W : World} {R S : List OR}, Q W R → R.Perm S → Q W S) {w : World} {P : List OR} {Vg Vf vt Vr vc vx : Value} {ts : List TV} {W : Wd} {L : List C5} (hl : ts.length = W.tabs.length)
  (hR : Q w (P ++ (rI vc (L.map (·.1)) :: rS vx (List.replicate L.length (.slice none 0 0)) :: ([rI Vg W.gens, rI Vf W.free, rT vt (ts ++ [⟨vc, .slice none 0 0, vx, List.replicate L.length (.slice none 0 0)⟩]), rV Vr W.res] ++ rTabs ts W.tabs)))) :
  Q w (P ++ rW ⟨Vg, Vf, vt, Vr, ts ++ [⟨vc, .slice none 0 0, vx, List.replicate L.length (.slice none 0 0)⟩]⟩ (apW W (newT L))) := by
 have h1 := c.insM (P ++ (rI vc (L.map (·.1)) :: rS vx (List.replicate L.length (.slice none 0 0)) :: ([rI Vg W.gens, rI Vf W.free, rT vt (ts ++ [⟨vc, .slice none 0 0, vx, List.replicate L.length (.slice none 0 0)⟩]), rV Vr W.res] ++ rTabs ts W.tabs))) (rE (.slice none 0 0) [] :: rVs (List.replicate L.length (.slice none 0 0)) (List.replicate L.length [])) [] (by simpa using hR) (Below.refl _ _) (owns_nils _ _ _ (by
  intro r hr
  rcases List.mem_cons.1 hr with rfl | hr
  ·
   exact ⟨rfl, rfl, rfl⟩
  unfold rVs at hr
  rw [List.zipWith_replicate, Nat.min_self] at hr
  obtain rfl := (List.mem_replicate.1 hr).2
  exact ⟨rfl, rfl, rfl⟩))
 have h2 := hp h1 (S := P ++ ([rI Vg W.gens, rI Vf W.free, rT vt (ts ++ [⟨vc, .slice none 0 0, vx, List.replicate L.length (.slice none 0 0)⟩]), rV Vr W.res] ++ (rTabs ts W.tabs ++ (rI vc (L.map (·.1)) :: rE (.slice none 0 0) [] :: rS vx (List.replicate L.length (.slice none 0 0)) :: rVs (List.replicate L.length (.slice none 0 0)) (List.replicate L.length []))))) (by
  have := perm_tab P [rI Vg W.gens, rI Vf W.free, rT vt (ts ++ [⟨vc, .slice none 0 0, vx, List.replicate L.length (.slice none 0 0)⟩]), rV Vr W.res] (rTabs ts W.tabs) (rVs (List.replicate L.length (.slice none 0 0)) (List.replicate L.length [])) (rI vc (L.map (·.1))) (rS vx (List.replicate L.length (.slice none 0 0))) (rE (.slice none 0 0) [])
  simpa only [List.append_assoc, List.cons_append, List.nil_append, List.append_nil] using this)
 have e1 : rTabs (ts ++ [⟨vc, .slice none 0 0, vx, List.replicate L.length (.slice none 0 0)⟩]) (W.tabs ++ [newT L]) = rTabs ts W.tabs ++ (rI vc (L.map (·.1)) :: rE (.slice none 0 0) [] :: rS vx (List.replicate L.length (.slice none 0 0)) :: rVs (List.replicate L.length (.slice none 0 0)) (List.replicate L.length [])) := by
  unfold rTabs
  rw [List.zipWith_append hl, List.flatten_append]
  simp [rTab, newT]
 unfold rW apW
 dsimp only
 rw [e1]
 exact h2
set_option maxHeartbeats 16000000 in
theorem goTo_any {X : World} {B b n : Nat} {f : E2 → Option E2} (P : List OR) (bb : Nat) (Vg Vf Vr : Value) (g3 : Option Addr) (cp : Nat) (ts : List TV) (W : Wd) (e : E2) (sc : Option Addr) (cc : Nat) (L : List C5) (w : World) (hR : Rm X B b n f w (P ++ rB bb 88 [Vg, Vf, .slice g3 W.tabs.length cp, Vr, .map (some b)] :: rW ⟨Vg, Vf, .slice g3 W.tabs.length cp, Vr, ts⟩ W)) (hF : OWf ⟨Vg, Vf, .slice g3 W.tabs.length cp, Vr, ts⟩ W) (hk : kW W) (hC : rC (.slice sc L.length cc) L ∈ P) (okL : okCs L) (lL : L.length ≤ 1000) (hcl : ∀ T ∈ W.tabs, T.cells.length = T.cols.length) (hrl : ∀ T ∈ W.tabs, T.rows.length ≤ 100000) (hll : ∀ T ∈ W.tabs, ∀ M ∈ T.cells, M.length ≤ 100000) (h40 : W.tabs.length ≤ 40) (be : bE e) (hn : n ≤ 2000000000000) :
  Calls Tryz.prog 77 #[.pointer (some ⟨bb, 0, none⟩), .agg #[.int .i64 e.1, .int .i64 e.2], .slice sc L.length cc] w fun r w' =>
   (r = .returned (.bool false) ∧ (∀ t ∈ W.tabs, ¬ t.cols = L.map (·.1)) ∧ W.tabs.length = 40 ∧ Rm X B b n f w' (P ++ rB bb 88 [Vg, Vf, .slice g3 W.tabs.length cp, Vr, .map (some b)] :: rW ⟨Vg, Vf, .slice g3 W.tabs.length cp, Vr, ts⟩ W)) ∨
   (∃ (i : Nat) (T1 : Tab) (W1 : Wd) (st : Option Addr) (cp1 : Nat) (ts1 : List TV), r = .returned (.bool true) ∧ GoA W W1 T1 L i ∧ OWf ⟨Vg, Vf, .slice st W1.tabs.length cp1, Vr, ts1⟩ (setW W1 i (addT T1 e L)) ∧ Rm X B b (n + 1) (fun x => if x = e then some ((i : Int), (T1.rows.length : Int)) else f x) w' (P ++ rB bb 88 [Vg, Vf, .slice st W1.tabs.length cp1, Vr, .map (some b)] :: rW ⟨Vg, Vf, .slice st W1.tabs.length cp1, Vr, ts1⟩ (setW W1 i (addT T1 e L)))) := by
 have hal := alloc_old
 have haf := alloc_oldf
 have hR0 : Rm X B b n f (w.alloc (.cells #[.int .i64 e.1, .int .i64 e.2] 42)) (P ++ rB w.heap.size 42 [.int .i64 e.1, .int .i64 e.2] :: (rB bb 88 [Vg, Vf, .slice g3 W.tabs.length cp, Vr, .map (some b)] :: rW ⟨Vg, Vf, .slice g3 W.tabs.length cp, Vr, ts⟩ W)) :=
  Rm.ins P _ hR (bl_alloc (Below.refl _ _) _) (blk_rB (Blk.new w _ _) (Nat.le_refl _))
 go_enter Tryz.func77, Tryz.ntmps77
 go_wp2_with fail; generalize hX0 : w.alloc (.cells #[.int .i64 e.1, .int .i64 e.2] 42) = X0 at hR0 ⊢
 generalize hke : w.heap.size = ke at hR0 ⊢
 clear hX0 hke hR; have HR0 := Hid.mk' hR0
 have HF := Hid.mk' hF
 have HC := Hid.mk' hC
 have hCE := rC_els (HR0.out.rs.o.on _ (List.mem_append_left _ hC)) okL
 refine (compsOf_any sc cc L B X0 hCE (by omega)).mono ?_
 rintro r w1 ⟨vc, rfl, hvc, hb1⟩
 obtain ⟨s1, k1, ev⟩ := OR.on.shape (show OR.on w1 X0.heap.size (rI vc (L.map (·.1))) from hvc)
 have ev : vc = .slice s1 (L.map (·.1)).length k1 := ev
 subst ev
 obtain ⟨cols, hcols⟩ : ∃ cols, Hid ((L.map (·.1)) = cols) := ⟨_, rfl⟩
 have HR1 : Hid (Rm X B b n f w1 ((P ++ [rB ke 42 [.int .i64 e.1, .int .i64 e.2]]) ++ rI (.slice s1 (L.map (·.1)).length k1) (L.map (·.1)) :: (rB bb 88 [Vg, Vf, .slice g3 W.tabs.length cp, Vr, .map (some b)] :: rW ⟨Vg, Vf, .slice g3 W.tabs.length cp, Vr, ts⟩ W))) := by
  show Rm _ _ _ _ _ _ _
  exact Rm.ins (P ++ [rB ke 42 [.int .i64 e.1, .int .i64 e.2]]) _ (by simpa only [List.append_assoc, List.cons_append, List.nil_append] using HR0.out) hb1 hvc
 rw [hcols.out] at HR1 ⊢
 clear hvc hb1 hCE hF hC HR0 hR0; have b2 : w1.cell? ⟨bb, 2, none⟩ = some (.slice g3 W.tabs.length cp) := (rB_blk (HR1.out.rs.o.on (rB bb 88 [Vg, Vf, .slice g3 W.tabs.length cp, Vr, .map (some b)]) (by simp))).cell 2
 have oI : (rI (.slice s1 cols.length k1) cols).on w1 B := HR1.out.rs.o.on _ (by simp)
 have hcl1 : cols.length ≤ 1000 := by rw [← hcols.out, List.length_map]; exact lL
 obtain ⟨q1, r1, q2, r2, q3, r3, q4, r4, f1, f2, f3, f4, hIn⟩ := (HF.out.ow (HR1.out.rs.o.right.tail.tail)).inW
 simp only [Value.slice.injEq] at f3
 obtain ⟨rfl, -, rfl⟩ := f3
 have hIt := Hid.mk' hIn.t
 clear hIn f1 f2 f4; go_wp2_with fail; refine (tableWith_at g3 cp W.tabs W.tabs.length s1 k1 cols _ B w1 rfl hIt.out (rI_els oI) hk.2.2.1 (by omega)).mono ?_
 rintro r w2 ⟨⟨r, rfl, htw⟩, hb2⟩
 have HR2 := Hid.mk' ((carr_Rm X B b n f).later HR1.out hb2)
 have HTW := Hid.mk' htw
 clear hb2 HR1 b2 oI hIt htw; go_upto_if 22 with fail
 go_cut [8] (fun p0 wx => ∃ (i : Nat) (T1 : Tab) (W1 : Wd) (st : Option Addr) (cp1 : Nat) (ts1 : List TV), p0 = .int .i64 i ∧ GoA W W1 T1 L i ∧ OWf ⟨Vg, Vf, .slice st W1.tabs.length cp1, Vr, ts1⟩ W1 ∧ Rm X B b n f wx ((P ++ [rB ke 42 [.int .i64 e.1, .int .i64 e.2]]) ++ rB bb 88 [Vg, Vf, .slice st W1.tabs.length cp1, Vr, .map (some b)] :: rW ⟨Vg, Vf, .slice st W1.tabs.length cp1, Vr, ts1⟩ W1))
 case first =>
  have b2 : w2.cell? ⟨bb, 2, none⟩ = some (.slice g3 W.tabs.length cp) := (rB_blk (HR2.out.rs.o.on (rB bb 88 [Vg, Vf, .slice g3 W.tabs.length cp, Vr, .map (some b)]) (by simp))).cell 2
  rcases HTW.out with ⟨hr, hno⟩ | ⟨i, t, hr, ht, htc⟩
  ·
   subst hr
   have HNO : Hid (∀ t ∈ W.tabs, ¬ t.cols = L.map (·.1)) := by
    intro t ht
    rw [hcols.out]
    exact hno t ht
   clear HTW hno; by_cases h4 : W.tabs.length = 40
   ·
    have t4 : ((W.tabs.length : Int) == 40) = true := by simp; omega
    have HH4 := Hid.mk' h4
    have h9 : Rm X B b n f w2 (P ++ rB bb 88 [Vg, Vf, .slice g3 W.tabs.length cp, Vr, .map (some b)] :: rW ⟨Vg, Vf, .slice g3 W.tabs.length cp, Vr, ts⟩ W) := by
     have h := HR2.out
     simp only [List.append_assoc, List.cons_append, List.nil_append] at h
     exact Rm.less P _ (Rm.less P _ h)
    have H9 := Hid.mk' h9
    clear h4 h9 HR2; go_wp2_with fail; go_ret; exact Or.inl ⟨rfl, HNO.out, HH4.out, H9.out⟩
   have t4 : ((W.tabs.length : Int) == 40) = false := by simp; omega
   have HH4 := Hid.mk' h4
   clear h4; obtain ⟨iS, hiS, hzS, hsS, hbS⟩ := info_parts Tryz.infoVS
   have hmk : ∀ W, (Instr.makeSlice 117 (.int .i64 (cols.length : Int)) (.int .i64 (cols.length : Int))).run Tryz.prog W = .ok (.slice (some ⟨W.heap.size, 0, none⟩) cols.length cols.length) (W.alloc (.cells (madeCells #[.slice none 0 0] cols.length) 38)) := fun W => run_make_row 117 38 iS (.slice none 0 0) Tryz.underlying117 hiS hzS hsS rfl .i64 .i64 cols.length (by rw [hbS]; omega) (by omega) W
   clear hiS hzS hsS hbS; have hcL : Hid (cols.length = L.length) := by show _ = _; rw [← hcols.out, List.length_map]
   obtain ⟨iT, hiT, hzT, hsT, hbT⟩ := info_parts Tryz.infoT
   have hQ : Rm X B b n f (((w2.alloc (.cells (madeCells #[.slice none 0 0] cols.length) 38)).alloc (.cells #[.slice s1 cols.length k1, .slice none 0 0, .slice (some ⟨w2.heap.size, 0, none⟩) cols.length cols.length] 119)).drew) ((P ++ [rB ke 42 [.int .i64 e.1, .int .i64 e.2], rI (.slice s1 cols.length k1) cols, rS (.slice (some ⟨w2.heap.size, 0, none⟩) cols.length cols.length) (List.replicate L.length (.slice none 0 0)), rB bb 88 [Vg, Vf, .slice g3 W.tabs.length cp, Vr, .map (some b)], rI Vg W.gens, rI Vf W.free]) ++ rT (.slice g3 W.tabs.length cp) ts :: (rV Vr W.res :: rTabs ts W.tabs)) := by
    have h := made_row w2 cols.length (by omega)
    rw [hcL.out] at h
    have h1 := Rm.ins ((P ++ [rB ke 42 [.int .i64 e.1, .int .i64 e.2]]) ++ [rI (.slice s1 cols.length k1) cols]) (rB bb 88 [Vg, Vf, .slice g3 W.tabs.length cp, Vr, .map (some b)] :: rW ⟨Vg, Vf, .slice g3 W.tabs.length cp, Vr, ts⟩ W) (by simpa only [List.append_assoc, List.cons_append, List.nil_append] using HR2.out) (bl_alloc (Below.refl _ w2) (.cells (madeCells #[.slice none 0 0] L.length) 38)) h
    have h2 := (carr_Rm X B b n f).drew ((carr_Rm X B b n f).later h1 (bl_alloc (Below.refl _ _) (.cells #[.slice s1 cols.length k1, .slice none 0 0, .slice (some ⟨w2.heap.size, 0, none⟩) cols.length cols.length] 119)))
    simp only [rW, List.append_assoc, List.cons_append, List.nil_append] at h2 ⊢
    rw [hcL.out] at h2 ⊢
    exact h2
   have HQ := Hid.mk' hQ
   have HNW : Hid (∀ (jj : Nat) (u : Value), [Value.slice s1 cols.length k1, .slice none 0 0, .slice (some ⟨w2.heap.size, 0, none⟩) cols.length cols.length][jj]? = some u → (((w2.alloc (.cells (madeCells #[.slice none 0 0] cols.length) 38)).alloc (.cells #[.slice s1 cols.length k1, .slice none 0 0, .slice (some ⟨w2.heap.size, 0, none⟩) cols.length cols.length] 119)).drew).cell? ((⟨w2.heap.size + 1, 0, none⟩ : Addr).add jj) = some u) := by
    intro jj u hj
    have hb := Blk.new' (w2.alloc (.cells (madeCells #[.slice none 0 0] cols.length) 38)) #[.slice s1 cols.length k1, .slice none 0 0, .slice (some ⟨w2.heap.size, 0, none⟩) cols.length cols.length] 119 (n := w2.heap.size + 1) (by simp)
    match jj, hj with
    | 0, hj => simp at hj; subst hj; exact hb.cell 0
    | 1, hj => simp at hj; subst hj; exact hb.cell 1
    | 2, hj => simp at hj; subst hj; exact hb.cell 2
   have HON1 : Hid (∀ u ∈ [Value.slice s1 cols.length k1, .slice none 0 0, .slice (some ⟨w2.heap.size, 0, none⟩) cols.length cols.length], u.oneCell' = true) := by
    intro u hu
    simp only [List.mem_cons, List.not_mem_nil, or_false] at hu
    rcases hu with rfl | rfl | rfl <;> rfl
   have HLEN : Hid (ts.length = W.tabs.length) := HF.out.len
   have HM1 : Hid ((rT (.slice g3 W.tabs.length cp) ts).n + 1 ≤ maxLen) := by show ts.length + 1 ≤ _; rw [HLEN.out]; unfold maxLen; omega
   have HM2 : Hid (((rT (.slice g3 W.tabs.length cp) ts).n + 1) * 72 ≤ 140737488355328) := by show (ts.length + 1) * 72 ≤ _; rw [HLEN.out]; omega
   have HN1 : Hid ((rT (.slice g3 W.tabs.length cp) ts).n + 1 = W.tabs.length + 1) := by show ts.length + 1 = _; rw [HLEN.out]
   have HFE : Hid (∀ v : Value, (fun v => (⟨119, 3, v, W.tabs.length + 1, (ts ++ [(⟨.slice s1 cols.length k1, .slice none 0 0, .slice (some ⟨w2.heap.size, 0, none⟩) cols.length cols.length, List.replicate L.length (.slice none 0 0)⟩ : TV)]).flatMap tc⟩ : OR)) v = ⟨(rT (.slice g3 W.tabs.length cp) ts).T, (rT (.slice g3 W.tabs.length cp) ts).k, v, W.tabs.length + 1, (rT (.slice g3 W.tabs.length cp) ts).cs ++ [Value.slice s1 cols.length k1, .slice none 0 0, .slice (some ⟨w2.heap.size, 0, none⟩) cols.length cols.length]⟩) := by
    intro v
    simp only [rT, List.flatMap_append]
    rfl
   clear hQ; go_upto_region 7 with fail
   go_region_law (refine step_appC (carr_Rm X B b n f) (P ++ [rB ke 42 [.int .i64 e.1, .int .i64 e.2], rI (.slice s1 cols.length k1) cols, rS (.slice (some ⟨w2.heap.size, 0, none⟩) cols.length cols.length) (List.replicate L.length (.slice none 0 0)), rB bb 88 [Vg, Vf, .slice g3 W.tabs.length cp, Vr, .map (some b)], rI Vg W.gens, rI Vf W.free]) (rV Vr W.res :: rTabs ts W.tabs) (r := rT (.slice g3 W.tabs.length cp) ts) HQ.out rfl rfl (.tmp 41) (.tmp 47) 37 72 rfl Tryz.underlying37 hiT hzT hsT hbT rfl (Nat.zero_lt_succ 2) (by simp [Act.eval, Act.put, rT]) ⟨w2.heap.size + 1, 0, none⟩ 1 1 (by simp [Act.eval, Act.put]) [Value.slice s1 cols.length k1, .slice none 0 0, .slice (some ⟨w2.heap.size, 0, none⟩) cols.length cols.length] rfl HNW.out HON1.out HM1.out HM2.out (W.tabs.length + 1) HN1.out (fun v => (⟨119, 3, v, W.tabs.length + 1, (ts ++ [(⟨.slice s1 cols.length k1, .slice none 0 0, .slice (some ⟨w2.heap.size, 0, none⟩) cols.length cols.length, List.replicate L.length (.slice none 0 0)⟩ : TV)]).flatMap tc⟩ : OR)) HFE.out ?_; intro s' c' w3 hQ3 hgr3; have KB3 := (show Blk w3 bb #[Vg, Vf, .slice g3 W.tabs.length cp, Vr, .map (some b)] 88 from rB_blk (hQ3.rs.o.on (rB bb 88 [Vg, Vf, .slice g3 W.tabs.length cp, Vr, .map (some b)]) (by simp))); have b2 := KB3.cell 2; have fb := KB3.frozen)
   all_goals
    have e0 : rT (.slice s' (W.tabs.length + 1) c') (ts ++ [(⟨.slice s1 cols.length k1, .slice none 0 0, .slice (some ⟨w2.heap.size, 0, none⟩) cols.length cols.length, List.replicate L.length (.slice none 0 0)⟩ : TV)]) = (⟨119, 3, .slice s' (W.tabs.length + 1) c', W.tabs.length + 1, (ts ++ [(⟨.slice s1 cols.length k1, .slice none 0 0, .slice (some ⟨w2.heap.size, 0, none⟩) cols.length cols.length, List.replicate L.length (.slice none 0 0)⟩ : TV)]).flatMap tc⟩ : OR) := by
     unfold rT
     rw [List.length_append, HLEN.out]
     rfl
    have h4 : Rm X B b n f w3 (((P ++ [rB ke 42 [.int .i64 e.1, .int .i64 e.2]]) ++ [rI (.slice s1 cols.length k1) cols, rS (.slice (some ⟨w2.heap.size, 0, none⟩) cols.length cols.length) (List.replicate L.length (.slice none 0 0))]) ++ rB bb 88 [Vg, Vf, .slice g3 W.tabs.length cp, Vr, .map (some b)] :: (rI Vg W.gens :: rI Vf W.free :: rT (.slice s' (W.tabs.length + 1) c') (ts ++ [(⟨.slice s1 cols.length k1, .slice none 0 0, .slice (some ⟨w2.heap.size, 0, none⟩) cols.length cols.length, List.replicate L.length (.slice none 0 0)⟩ : TV)]) :: (rV Vr W.res :: rTabs ts W.tabs))) := by
     rw [e0]
     have h := hQ3
     simp only [List.append_assoc, List.cons_append, List.nil_append] at h ⊢
     exact h
    have h5 := (carr_Rm X B b n f).setB _ _ 2 (.slice s' (W.tabs.length + 1) c') h4
    have h6 : Rm X B b n f (w3.setCell ⟨bb, 2, none⟩ (.slice s' (W.tabs.length + 1) c')) ((P ++ [rB ke 42 [.int .i64 e.1, .int .i64 e.2], rB bb 88 [Vg, Vf, .slice s' (W.tabs.length + 1) c', Vr, .map (some b)]]) ++ (rI (.slice s1 cols.length k1) cols :: rS (.slice (some ⟨w2.heap.size, 0, none⟩) cols.length cols.length) (List.replicate L.length (.slice none 0 0)) :: ([rI Vg W.gens, rI Vf W.free, rT (.slice s' (W.tabs.length + 1) c') (ts ++ [(⟨.slice s1 cols.length k1, .slice none 0 0, .slice (some ⟨w2.heap.size, 0, none⟩) cols.length cols.length, List.replicate L.length (.slice none 0 0)⟩ : TV)]), rV Vr W.res] ++ rTabs ts W.tabs))) := by
     have h7 := Rm.perm h5 (perm_mid3 (P ++ [rB ke 42 [.int .i64 e.1, .int .i64 e.2]]) _ _ _ _)
     simp only [List.append_assoc, List.cons_append, List.nil_append] at h7 ⊢
     exact h7
    have hcx : cols = L.map (·.1) := hcols.out.symm
    have h8 := (carr_Rm X B b n f).newTab (fun h hp => Rm.perm h hp) (L := L) HLEN.out (by rw [← hcx]; exact h6)
    have HAP : Hid ((apW W (newT L)).tabs.length = W.tabs.length + 1) := by show (W.tabs ++ [newT L]).length = _; simp
    have H8 := Hid.mk' h8
    have HGA : Hid (GoA W (apW W (newT L)) (newT L) L W.tabs.length) := by
     refine ⟨?_, rfl, Or.inr ⟨rfl, rfl, rfl, HNO.out, HH4.out⟩⟩
     show (W.tabs ++ [newT L])[W.tabs.length]? = _
     simp
    clear h4 h5 h6 h8 e0 hQ3 hgr3 KB3 hcx; go_wp2_with fail; go_meet; refine ⟨W.tabs.length, newT L, apW W (newT L), s', c', ts ++ [(⟨.slice s1 cols.length k1, .slice none 0 0, .slice (some ⟨w2.heap.size, 0, none⟩) cols.length cols.length, List.replicate L.length (.slice none 0 0)⟩ : TV)], rfl, HGA.out, owf_new HF.out, ?_⟩
    rw [HAP.out]
    have h9 := H8.out
    simp only [List.append_assoc, List.cons_append, List.nil_append] at h9 ⊢
    exact h9
  subst hr
  have h9 : Rm X B b n f w2 ((P ++ [rB ke 42 [.int .i64 e.1, .int .i64 e.2]]) ++ rB bb 88 [Vg, Vf, .slice g3 W.tabs.length cp, Vr, .map (some b)] :: rW ⟨Vg, Vf, .slice g3 W.tabs.length cp, Vr, ts⟩ W) := Rm.less _ _ HR2.out
  have H9 := Hid.mk' h9
  have HT := Hid.mk' ht
  have HTC : Hid (t.cols = L.map (·.1)) := by show _ = _; rw [hcols.out]; exact htc
  have t8 : ¬ ((i : Int) < 0) := by omega
  clear h9 HR2 HTW ht htc; go_wp2_with fail; go_meet; exact ⟨i, t, W, g3, cp, ts, rfl, ⟨HT.out, HTC.out, Or.inl rfl⟩, HF.out, H9.out⟩
 obtain ⟨i, T1, W1, st, cp1, ts1, rfl, hGA, hF1, hR1⟩ := hcut
 have HGA := Hid.mk' hGA
 have HF1 := Hid.mk' hF1
 have hT1 := hGA.1
 have hi1 : i < W1.tabs.length := (List.getElem?_eq_some_iff.1 hT1).1
 have hcases : T1.cells.length = L.length ∧ T1.rows.length ≤ 100000 ∧ (∀ M ∈ T1.cells, M.length ≤ 100000) ∧ W1.tabs.length ≤ 41 := by
  obtain ⟨h1, h2, h3⟩ := hGA
  rcases h3 with rfl | ⟨rfl, rfl, rfl, _, _⟩
  ·
   have hm := List.mem_of_getElem? h1
   refine ⟨by rw [hcl T1 hm, h2, List.length_map], hrl T1 hm, hll T1 hm, by omega⟩
  refine ⟨by simp [newT], by simp [newT], fun M hM => ?_, by show (W.tabs ++ [_]).length ≤ _; simp; omega⟩
  have hM : M ∈ List.replicate L.length ([] : List V4) := hM
  obtain rfl := (List.mem_replicate.1 hM).2
  simp
 obtain ⟨hcL, hrL, hML, hwL⟩ := hcases
 have HML := Hid.mk' hML
 have HCL := Hid.mk' hcL
 have hcl41 : T1.cells.length ≤ 1000 := by omega
 clear hGA hF1 hML HTW HR2 hcL; have HR1 := Hid.mk' hR1
 obtain ⟨t, tb, cp', sr, cr, sx, cx, ht, eV, er, ex, hxl, oR, oX, c1, c2, fz⟩ := tab_at hR1.rs.o (V := ⟨Vg, Vf, .slice st W1.tabs.length cp1, Vr, ts1⟩) (W := W1) (fun r hr => by simp [hr]) HF1.out hT1
 simp only [Value.slice.injEq, true_and] at eV
 obtain ⟨rfl, rfl⟩ := eV
 obtain ⟨tc0, tr, tx, xs⟩ := t
 dsimp only at er ex hxl oR oX c1 c2
 subst er ex
 have Ht := Hid.mk' ht
 have HT := Hid.mk' hT1
 have HXL := Hid.mk' hxl
 have b2 : wc.cell? ⟨bb, 2, none⟩ = some (.slice (some ⟨tb, 0, none⟩) W1.tabs.length cp1) := (rB_blk (HR1.out.rs.o.on (rB bb 88 [Vg, Vf, .slice (some ⟨tb, 0, none⟩) W1.tabs.length cp1, Vr, .map (some b)]) (by simp))).cell 2
 have b4 : wc.cell? ⟨bb, 4, none⟩ = some (.map (some b)) := (rB_blk (HR1.out.rs.o.on (rB bb 88 [Vg, Vf, .slice (some ⟨tb, 0, none⟩) W1.tabs.length cp1, Vr, .map (some b)]) (by simp))).cell 4
 obtain ⟨y0, y1, y2⟩ := (show Blk wc ke #[.int .i64 e.1, .int .i64 e.2] 42 from rB_blk (HR1.out.rs.o.on (rB ke 42 [.int .i64 e.1, .int .i64 e.2]) (by simp))).two
 have i0 : (0 : Int) ≤ (i : Int) := by omega
 have i1 : (i : Int) < (W1.tabs.length : Int) := by omega
 obtain ⟨D, q1, q2⟩ := ((carr_Rm X B b n f).drew HR1.out).sm
 obtain ⟨w4, hrun, r1, r2⟩ := World.ownsMap.update (t := 86) q1 ekeyed Tryz.underlying86 (by unfold maxLen; omega) (key := .agg #[.int .i64 e.1, .int .i64 e.2]) (val := .agg #[.int .i64 i, .int .i64 T1.rows.length]) (keyOfE e be) (d := .held (stv ((i : Int), (T1.rows.length : Int)))) (ps := []) rfl
 have HR4 : Hid (Rm X B b (n + 1) (fun x => if x = e then some ((i : Int), (T1.rows.length : Int)) else f x) w4 ((P ++ [rB ke 42 [.int .i64 e.1, .int .i64 e.2]]) ++ rB bb 88 [Vg, Vf, .slice (some ⟨tb, 0, none⟩) W1.tabs.length cp1, Vr, .map (some b)] :: rW ⟨Vg, Vf, .slice (some ⟨tb, 0, none⟩) W1.tabs.length cp1, Vr, ts1⟩ W1)) := Rm.write ((carr_Rm X B b n f).drew HR1.out) r2 ⟨_, r1, q2.put be _⟩
 clear q1 q2 r1 r2 hT1 ht hxl oR oX hR1 HR1; go_wp2_with fail; go_region
 go_wp2_with fail; have HR4' : Hid (Rm X B b (n + 1) (fun x => if x = e then some ((i : Int), (T1.rows.length : Int)) else f x) w4 ((P ++ [rB ke 42 [.int .i64 e.1, .int .i64 e.2], rB bb 88 [Vg, Vf, .slice (some ⟨tb, 0, none⟩) W1.tabs.length cp1, Vr, .map (some b)]]) ++ rW ⟨Vg, Vf, .slice (some ⟨tb, 0, none⟩) W1.tabs.length cp1, Vr, ts1⟩ W1)) := by
  show Rm _ _ _ _ _ _ _
  simpa only [List.append_assoc, List.cons_append, List.nil_append] using HR4.out
 clear HR4 y0 y1 y2 b2 b4 c1 c2 fz hrun; have mT : ∀ r ∈ rTab ⟨tc0, .slice sr T1.rows.length cr, .slice sx T1.cells.length cx, xs⟩ T1, r ∈ (P ++ [rB ke 42 [.int .i64 e.1, .int .i64 e.2], rB bb 88 [Vg, Vf, .slice (some ⟨tb, 0, none⟩) W1.tabs.length cp1, Vr, .map (some b)]]) ++ rW ⟨Vg, Vf, .slice (some ⟨tb, 0, none⟩) W1.tabs.length cp1, Vr, ts1⟩ W1 := fun r hr => List.mem_append_right _ (by have := rTabs_mem Ht.out HT.out r hr; simp [rW, this])
 obtain ⟨c1, c2, fz⟩ := cellT (HR4'.out.rs.o.on (rT (.slice (some ⟨tb, 0, none⟩) W1.tabs.length cp1) ts1) (by simp [rW])) HF1.out.len Ht.out
 dsimp only at c1 c2
 obtain ⟨y0, y1, y2⟩ := (show Blk w4 ke #[.int .i64 e.1, .int .i64 e.2] 42 from rB_blk (HR4'.out.rs.o.on (rB ke 42 [.int .i64 e.1, .int .i64 e.2]) (by simp))).two
 have hQ10 := (carr_Rm X B b (n + 1) (fun x => if x = e then some ((i : Int), (T1.rows.length : Int)) else f x)).drew ((carr_Rm X B b (n + 1) (fun x => if x = e then some ((i : Int), (T1.rows.length : Int)) else f x)).later HR4'.out (bl_alloc (Below.refl _ w4) (.cells #[.int .i64 e.1, .int .i64 e.2] 42)))
 have OR10 : Hid (OR.on (w4.alloc (.cells #[.int .i64 e.1, .int .i64 e.2] 42)).drew B (rE (.slice sr T1.rows.length cr) T1.rows)) := hQ10.rs.o.on _ (mT _ (by simp [rTab]))
 have HQ10 := Hid.mk' hQ10
 have HB10 : Hid (B ≤ (w4.alloc (.cells #[.int .i64 e.1, .int .i64 e.2] 42)).drew.heap.size) := hQ10.rs.s
 obtain ⟨iE, hiE, hzE, hsE, hbE⟩ := info_parts Tryz.infoE
 have HNW : Hid (∀ (jj : Nat) (u : Value), [Value.int .i64 e.1, .int .i64 e.2][jj]? = some u → (w4.alloc (.cells #[.int .i64 e.1, .int .i64 e.2] 42)).drew.cell? ((⟨w4.heap.size, 0, none⟩ : Addr).add jj) = some u) := by
  intro jj u hj
  have hb := Blk.new w4 #[.int .i64 e.1, .int .i64 e.2] 42
  match jj, hj with
  | 0, hj => simp at hj; subst hj; exact hb.cell 0
  | 1, hj => simp at hj; subst hj; exact hb.cell 1
 have HON1 : Hid (∀ u ∈ [Value.int .i64 e.1, .int .i64 e.2], u.oneCell' = true) := by
  intro u hu
  simp only [List.mem_cons, List.not_mem_nil, or_false] at hu
  rcases hu with rfl | rfl <;> rfl
 have HM1 : Hid ((rE (.slice sr T1.rows.length cr) T1.rows).n + 1 ≤ maxLen) := by show T1.rows.length + 1 ≤ _; unfold maxLen; omega
 have HM2 : Hid (((rE (.slice sr T1.rows.length cr) T1.rows).n + 1) * 16 ≤ 140737488355328) := by show (T1.rows.length + 1) * 16 ≤ _; omega
 have HFE : Hid (∀ v : Value, (fun v => rE v (T1.rows ++ [e])) v = ⟨(rE (.slice sr T1.rows.length cr) T1.rows).T, (rE (.slice sr T1.rows.length cr) T1.rows).k, v, T1.rows.length + 1, (rE (.slice sr T1.rows.length cr) T1.rows).cs ++ [Value.int .i64 e.1, .int .i64 e.2]⟩) := by
  intro v
  show rE v (T1.rows ++ [e]) = _
  unfold rE ecells
  rw [List.length_append, List.flatMap_append]
  rfl
 clear hQ10 mT; go_cut [] (fun wx => ∃ (sr' : Option Addr) (cr' : Nat), Rm X B b (n + 1) (fun x => if x = e then some ((i : Int), (T1.rows.length : Int)) else f x) wx ((P ++ [rB ke 42 [.int .i64 e.1, .int .i64 e.2], rB bb 88 [Vg, Vf, .slice (some ⟨tb, 0, none⟩) W1.tabs.length cp1, Vr, .map (some b)]]) ++ rW ⟨Vg, Vf, .slice (some ⟨tb, 0, none⟩) W1.tabs.length cp1, Vr, (ts1.set i ⟨tc0, .slice sr' (T1.rows.length + 1) cr', .slice sx T1.cells.length cx, xs⟩)⟩ (setW W1 i (addN T1 e L 0))))
 case first =>
  go_region_law (refine step_appO (r := rE (.slice sr T1.rows.length cr) T1.rows) OR10.out HB10.out rfl rfl (.tmp 75) (.tmp 77) 115 16 rfl Tryz.underlying115 hiE hzE hsE hbE rfl (Nat.zero_lt_succ 1) (by simp [Act.eval, Act.put, rE]) ⟨w4.heap.size, 0, none⟩ 1 1 (by simp [Act.eval, Act.put]) [Value.int .i64 e.1, .int .i64 e.2] rfl HNW.out HON1.out HM1.out HM2.out (T1.rows.length + 1) rfl (fun v => rE v (T1.rows ++ [e])) HFE.out ?_; intro sr' cr' w5 hO5 hg5 hn5; obtain ⟨fz, c1, hR5⟩ := (carr_Rm X B b (n + 1) (fun x => if x = e then some ((i : Int), (T1.rows.length : Int)) else f x)).rowsT (P := (P ++ [rB ke 42 [.int .i64 e.1, .int .i64 e.2], rB bb 88 [Vg, Vf, .slice (some ⟨tb, 0, none⟩) W1.tabs.length cp1, Vr, .map (some b)]])) (V := ⟨Vg, Vf, .slice (some ⟨tb, 0, none⟩) W1.tabs.length cp1, Vr, ts1⟩) (W := W1) (i := i) (t := ⟨tc0, .slice sr T1.rows.length cr, .slice sx T1.cells.length cx, xs⟩) (T := T1) (tb := tb) (n := W1.tabs.length) (cap := cp1) HQ10.out Ht.out HT.out rfl HF1.out.len.symm hg5 hO5 hn5)
  all_goals
   go_wp2_with fail; go_meet; exact ⟨sr', cr', hR5⟩
 obtain ⟨sr', cr', hR5⟩ := hcut
 have HR5 := Hid.mk' hR5
 clear hR5 HQ10 OR10 HB10 HNW HON1 HM1 HM2 HFE hiE hzE hsE hbE HR4' y0 y1 y2 c1 c2 fz; go_wp2_with fail; go_loopw [83] (fun i' wr => ∃ (m : Nat) (ys : List Value), m ≤ L.length ∧ i' = .int .i64 m ∧ Hid (ys.length = T1.cells.length ∧ Rm X B b (n + 1) (fun x => if x = e then some ((i : Int), (T1.rows.length : Int)) else f x) wr ((P ++ [rB ke 42 [.int .i64 e.1, .int .i64 e.2], rB bb 88 [Vg, Vf, .slice (some ⟨tb, 0, none⟩) W1.tabs.length cp1, Vr, .map (some b)]]) ++ rW ⟨Vg, Vf, .slice (some ⟨tb, 0, none⟩) W1.tabs.length cp1, Vr, (ts1.set i ⟨tc0, .slice sr' (T1.rows.length + 1) cr', .slice sx T1.cells.length cx, ys⟩)⟩ (setW W1 i (addN T1 e L m))))) (fun i' _ => L.length - (intOf i').toNat)
 case atStart => exact ⟨0, xs, Nat.zero_le _, rfl, HXL.out, HR5.out⟩
 clear HR5; obtain ⟨m, ys, hm, rfl, hN⟩ := hrel
 by_cases hlt : m < L.length
 ·
  have Hts : Hid ((ts1.set i ⟨tc0, .slice sr' (T1.rows.length + 1) cr', .slice sx T1.cells.length cx, ys⟩)[i]? = some ⟨tc0, .slice sr' (T1.rows.length + 1) cr', .slice sx T1.cells.length cx, ys⟩) := List.getElem?_set_self (List.getElem?_eq_some_iff.1 Ht.out).1
  have HTs : Hid ((setW W1 i (addN T1 e L m)).tabs[i]? = some (addN T1 e L m)) := List.getElem?_set_self hi1
  obtain ⟨c, ha⟩ := get_some hlt
  obtain ⟨M, hM⟩ := get_some (L := T1.cells) (k := m) (by rw [HCL.out]; exact hlt)
  obtain ⟨v, hv⟩ := get_some (L := ys) (k := m) (by rw [hN.out.1, HCL.out]; exact hlt)
  have mT : ∀ r ∈ rTab ⟨tc0, .slice sr' (T1.rows.length + 1) cr', .slice sx T1.cells.length cx, ys⟩ (addN T1 e L m), r ∈ (P ++ [rB ke 42 [.int .i64 e.1, .int .i64 e.2], rB bb 88 [Vg, Vf, .slice (some ⟨tb, 0, none⟩) W1.tabs.length cp1, Vr, .map (some b)]]) ++ rW ⟨Vg, Vf, .slice (some ⟨tb, 0, none⟩) W1.tabs.length cp1, Vr, (ts1.set i ⟨tc0, .slice sr' (T1.rows.length + 1) cr', .slice sx T1.cells.length cx, ys⟩)⟩ (setW W1 i (addN T1 e L m)) := fun r hr => List.mem_append_right _ (by have := rTabs_mem Hts.out HTs.out r hr; simp [rW, this])
  obtain ⟨cb, co, rfl, _, hp, okc, e0, e1, e2, e3, e4⟩ := eCell_cells (rC_els (hN.out.2.rs.o.on _ (List.mem_append_left _ (List.mem_append_left _ HC.out))) okL) ha
  have hMk : M.length ≤ 100000 := HML.out M (List.mem_of_getElem? hM)
  have oX : World.ownsRow wr B 38 1 (.slice sx T1.cells.length cx) T1.cells.length ys := by
   have h := hN.out.2.rs.o.on (rS (.slice sx T1.cells.length cx) ys) (mT _ (by simp [rTab]))
   unfold OR.on rS at h
   dsimp only at h
   rw [hN.out.1] at h
   exact h
  have oV : (rV v M).on wr B := hN.out.2.rs.o.on _ (mT _ (by simp only [rTab, List.mem_cons]; exact Or.inr (Or.inr (Or.inr (mem_zipWith hv (addN_get HCL.out hM))))))
  obtain ⟨xb, rfl⟩ := own_some oX (by have := HCL.out; omega)
  obtain ⟨sv, cv, ev⟩ := oV.shape
  have ev : v = .slice sv M.length cv := ev
  subst ev
  have HLEN : Hid ((ts1.set i ⟨tc0, .slice sr' (T1.rows.length + 1) cr', .slice (some ⟨xb, 0, none⟩) T1.cells.length cx, ys⟩).length = W1.tabs.length) := by show _ = _; rw [List.length_set]; exact HF1.out.len
  have HNL := Hid.mk' hN.out.1
  have HL1 := Hid.mk' hM
  have HV1 := Hid.mk' hv
  have HA1 := Hid.mk' ha
  have hbz := bl_alloc (Below.refl wr.heap.size wr) (.cells #[.int .i64 c.1, .int .i64 c.2.1, .int .i64 c.2.2.1, .float .f64 c.2.2.2.1, .float .f64 c.2.2.2.2] 77)
  have HZ := Hid.mk' ((carr_Rm X B b (n + 1) (fun x => if x = e then some ((i : Int), (T1.rows.length : Int)) else f x)).later hN.out.2 hbz)
  have OVZ : Hid (OR.on (wr.alloc (.cells #[.int .i64 c.1, .int .i64 c.2.1, .int .i64 c.2.2.1, .float .f64 c.2.2.2.1, .float .f64 c.2.2.2.2] 77)) B (rV (.slice sv M.length cv) M)) := HZ.out.rs.o.on _ (mT _ (by simp only [rTab, List.mem_cons]; exact Or.inr (Or.inr (Or.inr (mem_zipWith hv (addN_get HCL.out hM))))))
  have m0 : (0 : Int) ≤ (m : Int) := by omega
  have m1 : (m : Int) < (T1.cells.length : Int) := by have := HCL.out; omega
  clear oX oV mT hM hv ha hN; go_upto_region 14 with fail
  have BZ := Blk.new wr #[.int .i64 c.1, .int .i64 c.2.1, .int .i64 c.2.2.1, .float .f64 c.2.2.2.1, .float .f64 c.2.2.2.2] 77
  have z1 := BZ.cell 1
  have z2 := BZ.cell 2
  have z3 := BZ.cell 3
  have z4 := BZ.cell 4
  have zf := BZ.frozen
  generalize hZ1 : wr.alloc (.cells #[.int .i64 c.1, .int .i64 c.2.1, .int .i64 c.2.2.1, .float .f64 c.2.2.2.1, .float .f64 c.2.2.2.2] 77) = Z1 at HZ OVZ z1 z2 z3 z4 zf ⊢
  generalize hkz : wr.heap.size = kz at z1 z2 z3 z4 zf ⊢
  clear hZ1 hkz hbz BZ e0 e1 e2 e3 e4; have c2 := (cellT (HZ.out.rs.o.on (rT (.slice (some ⟨tb, 0, none⟩) W1.tabs.length cp1) (ts1.set i ⟨tc0, .slice sr' (T1.rows.length + 1) cr', .slice (some ⟨xb, 0, none⟩) T1.cells.length cx, ys⟩)) (by simp [rW])) HLEN.out Hts.out).2.1
  dsimp only at c2
  have hc : Z1.cell? ⟨xb, m, none⟩ = some (.slice sv M.length cv) := by
   have oX : World.ownsRow Z1 B 38 1 (.slice (some ⟨xb, 0, none⟩) T1.cells.length cx) T1.cells.length ys := by
    have h := HZ.out.rs.o.on (rS (.slice (some ⟨xb, 0, none⟩) T1.cells.length cx) ys) (List.mem_append_right _ (by have := rTabs_mem Hts.out HTs.out (rS (.slice (some ⟨xb, 0, none⟩) T1.cells.length cx) ys) (by simp [rTab]); simp [rW, this]))
    unfold OR.on rS at h
    dsimp only at h
    rw [HNL.out] at h
    exact h
   have hc := World.ownsRow.cellAt oX m (by omega)
   rw [HV1.out] at hc
   exact hc
  have hY := (carr_Rm X B b (n + 1) (fun x => if x = e then some ((i : Int), (T1.rows.length : Int)) else f x)).drew ((carr_Rm X B b (n + 1) (fun x => if x = e then some ((i : Int), (T1.rows.length : Int)) else f x)).later HZ.out (bl_alloc (Below.refl _ Z1) (.cells #[.int .i64 c.2.1, .int .i64 c.2.2.1, .float .f64 c.2.2.2.1, .float .f64 c.2.2.2.2] 75)))
  have HY := Hid.mk' hY
  have OVY : Hid (OR.on (Z1.alloc (.cells #[.int .i64 c.2.1, .int .i64 c.2.2.1, .float .f64 c.2.2.2.1, .float .f64 c.2.2.2.2] 75)).drew B (rV (.slice sv M.length cv) M)) := hY.rs.o.on _ (List.mem_append_right _ (by have := rTabs_mem Hts.out HTs.out (rV (.slice sv M.length cv) M) (by simp only [rTab, List.mem_cons]; exact Or.inr (Or.inr (Or.inr (mem_zipWith HV1.out (addN_get HCL.out HL1.out))))); simp [rW, this]))
  have HBY : Hid (B ≤ (Z1.alloc (.cells #[.int .i64 c.2.1, .int .i64 c.2.2.1, .float .f64 c.2.2.2.1, .float .f64 c.2.2.2.2] 75)).drew.heap.size) := hY.rs.s
  obtain ⟨iV, hiV, hzV, hsV, hbV⟩ := info_parts Tryz.infoV
  have HNW : Hid (∀ (jj : Nat) (u : Value), [Value.int .i64 c.2.1, .int .i64 c.2.2.1, .float .f64 c.2.2.2.1, .float .f64 c.2.2.2.2][jj]? = some u → (Z1.alloc (.cells #[.int .i64 c.2.1, .int .i64 c.2.2.1, .float .f64 c.2.2.2.1, .float .f64 c.2.2.2.2] 75)).drew.cell? ((⟨Z1.heap.size, 0, none⟩ : Addr).add jj) = some u) := by
   intro jj u hj
   have hb := Blk.new Z1 #[.int .i64 c.2.1, .int .i64 c.2.2.1, .float .f64 c.2.2.2.1, .float .f64 c.2.2.2.2] 75
   match jj, hj with
   | 0, hj => simp at hj; subst hj; exact hb.cell 0
   | 1, hj => simp at hj; subst hj; exact hb.cell 1
   | 2, hj => simp at hj; subst hj; exact hb.cell 2
   | 3, hj => simp at hj; subst hj; exact hb.cell 3
  have HON1 : Hid (∀ u ∈ [Value.int .i64 c.2.1, .int .i64 c.2.2.1, .float .f64 c.2.2.2.1, .float .f64 c.2.2.2.2], u.oneCell' = true) := by
   intro u hu
   simp only [List.mem_cons, List.not_mem_nil, or_false] at hu
   rcases hu with rfl | rfl | rfl | rfl <;> rfl
  have HM1 : Hid ((rV (.slice sv M.length cv) M).n + 1 ≤ maxLen) := by show M.length + 1 ≤ _; unfold maxLen; omega
  have HM2 : Hid (((rV (.slice sv M.length cv) M).n + 1) * 32 ≤ 140737488355328) := by show (M.length + 1) * 32 ≤ _; omega
  have HFE : Hid (∀ v : Value, (fun v => rV v (M ++ [c.2])) v = ⟨(rV (.slice sv M.length cv) M).T, (rV (.slice sv M.length cv) M).k, v, M.length + 1, (rV (.slice sv M.length cv) M).cs ++ [Value.int .i64 c.2.1, .int .i64 c.2.2.1, .float .f64 c.2.2.2.1, .float .f64 c.2.2.2.2]⟩) := by
   intro v
   show rV v (M ++ [c.2]) = _
   unfold rV
   rw [List.length_append, List.flatMap_append]
   rfl
  clear hY OVZ HZ; go_region_law (refine step_appO (r := rV (.slice sv M.length cv) M) OVY.out HBY.out rfl rfl (.tmp 99) (.tmp 102) 38 32 rfl Tryz.underlying38 hiV hzV hsV hbV rfl (Nat.zero_lt_succ 3) (by simp [Act.eval, Act.put, rV]) ⟨Z1.heap.size, 0, none⟩ 1 1 (by simp [Act.eval, Act.put]) [Value.int .i64 c.2.1, .int .i64 c.2.2.1, .float .f64 c.2.2.2.1, .float .f64 c.2.2.2.2] rfl HNW.out HON1.out HM1.out HM2.out (M.length + 1) rfl (fun v => rV v (M ++ [c.2])) HFE.out ?_; intro sv' cv' w6 hO6 hg6 hn6; obtain ⟨fz, c3, hon, hR6⟩ := (carr_Rm X B b (n + 1) (fun x => if x = e then some ((i : Int), (T1.rows.length : Int)) else f x)).colT (P := (P ++ [rB ke 42 [.int .i64 e.1, .int .i64 e.2], rB bb 88 [Vg, Vf, .slice (some ⟨tb, 0, none⟩) W1.tabs.length cp1, Vr, .map (some b)]])) (V := ⟨Vg, Vf, .slice (some ⟨tb, 0, none⟩) W1.tabs.length cp1, Vr, (ts1.set i ⟨tc0, .slice sr' (T1.rows.length + 1) cr', .slice (some ⟨xb, 0, none⟩) T1.cells.length cx, ys⟩)⟩) (W := setW W1 i (addN T1 e L m)) (i := i) (m := m) (t := ⟨tc0, .slice sr' (T1.rows.length + 1) cr', .slice (some ⟨xb, 0, none⟩) T1.cells.length cx, ys⟩) (T := addN T1 e L m) (xb := xb) (n := T1.cells.length) (cap := cx) HY.out Hts.out HTs.out rfl HNL.out.symm HV1.out (addN_get HCL.out HL1.out) hg6 hO6 hn6; have c2 := (cellT (hon (rT (.slice (some ⟨tb, 0, none⟩) W1.tabs.length cp1) (ts1.set i ⟨tc0, .slice sr' (T1.rows.length + 1) cr', .slice (some ⟨xb, 0, none⟩) T1.cells.length cx, ys⟩)) (by simp)) HLEN.out Hts.out).2.1; dsimp only at c2)
  all_goals
   have e1 := addN_set (e := e) HCL.out HL1.out HA1.out
   have hR7 := hR6
   simp only [setTV, setW, List.set_set] at hR7
   rw [e1] at hR7
   have HR7 : Hid (Rm X B b (n + 1) (fun x => if x = e then some ((i : Int), (T1.rows.length : Int)) else f x) (w6.setCell ⟨xb, m, none⟩ (.slice sv' (M.length + 1) cv')) ((P ++ [rB ke 42 [.int .i64 e.1, .int .i64 e.2], rB bb 88 [Vg, Vf, .slice (some ⟨tb, 0, none⟩) W1.tabs.length cp1, Vr, .map (some b)]]) ++ rW ⟨Vg, Vf, .slice (some ⟨tb, 0, none⟩) W1.tabs.length cp1, Vr, (ts1.set i ⟨tc0, .slice sr' (T1.rows.length + 1) cr', .slice (some ⟨xb, 0, none⟩) T1.cells.length cx, (ys.set m (.slice sv' (M.length + 1) cv'))⟩)⟩ (setW W1 i (addN T1 e L (m + 1))))) := hR7
   clear hR7 hR6 e1 hon c2; go_wp2_with fail; go_roundw
   case rel => exact ⟨m + 1, ys.set m (.slice sv' (M.length + 1) cv'), by omega, by go_num, by rw [List.length_set]; exact HNL.out, HR7.out⟩
   case measure => simp [intOf]; omega
 have hm' : m = L.length := by omega
 subst hm'
 have HF3 : Hid (OWf ⟨Vg, Vf, .slice (some ⟨tb, 0, none⟩) W1.tabs.length cp1, Vr, (ts1.set i ⟨tc0, .slice sr' (T1.rows.length + 1) cr', .slice sx T1.cells.length cx, ys⟩)⟩ (setW W1 i (addN T1 e L L.length))) := owf_set2 HF1.out HT.out (by rw [addN_len HCL.out]; exact hN.out.1) (okc_addN (fun M hM => HF1.out.okc T1 (List.mem_of_getElem? HT.out) M hM) okL)
 have HN3 : Hid (Rm X B b (n + 1) (fun x => if x = e then some ((i : Int), (T1.rows.length : Int)) else f x) wr ((P ++ [rB ke 42 [.int .i64 e.1, .int .i64 e.2], rB bb 88 [Vg, Vf, .slice (some ⟨tb, 0, none⟩) W1.tabs.length cp1, Vr, .map (some b)]]) ++ rW ⟨Vg, Vf, .slice (some ⟨tb, 0, none⟩) W1.tabs.length cp1, Vr, (ts1.set i ⟨tc0, .slice sr' (T1.rows.length + 1) cr', .slice sx T1.cells.length cx, ys⟩)⟩ (setW W1 i (addN T1 e L L.length)))) := hN.out.2
 rw [addN_all HCL.out] at HN3 HF3
 clear hN; go_wp2_with fail; go_ret; exact Or.inr ⟨i, T1, W1, some ⟨tb, 0, none⟩, cp1, _, rfl, HGA.out, HF3.out, Rm.less P _ (by simpa only [List.append_assoc, List.cons_append, List.nil_append] using HN3.out)⟩
end Go.Proofs.YtbgeobpdojmdaaaGreat
