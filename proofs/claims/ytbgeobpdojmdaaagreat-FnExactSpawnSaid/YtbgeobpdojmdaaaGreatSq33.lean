import Derived.Test.YtbgeobpdojmdaaaGreatSq32
namespace Go.Proofs.YtbgeobpdojmdaaaGreat
set_option linter.unusedVariables false
set_option linter.unusedSimpArgs false
section
open Go.RowKit
set_option maxHeartbeats 2000000 in
theorem copyInts_gen (s : Option Addr) (c : Nat) (G : List Int) (w : World) (hG : Ints w s G) (hn : s = none → c = 0) (hl : G.length ≤ 1048576) :
  Calls Tryz.prog 123 #[.slice s G.length c] w fun e w' => ∃ s c, e = .returned (.slice s G.length c) ∧ VRow w' w.heap.size (.slice s G.length c) G ∧ Below w.heap.size w w' := by
 cases s with
 | none =>
  have hc := hn rfl
  subst hc
  have h0 : G = [] := by
   rcases hG with h | ⟨pb, po, h, _⟩
   ·
    exact h
   cases h
  subst h0
  go_enter Tryz.func123, Tryz.ntmps123
  go_wp2_with fail; go_ret; exact ⟨none, 0, rfl, World.ownsRow_nil _ _ _ _, Below.refl _ _⟩
 | some a =>
  by_cases h0 : G = []
  ·
   subst h0
   go_enter Tryz.func123, Tryz.ntmps123
   go_wp2_with fail; go_ret; exact ⟨none, 0, rfl, World.ownsRow_nil _ _ _ _, Below.refl _ _⟩
  obtain ⟨pb, po, h, _⟩ : ∃ pb po, some a = some (⟨pb, po, none⟩ : Addr) ∧ True := by
   rcases hG with h | ⟨pb, po, h, _⟩
   ·
    exact absurd h h0
   exact ⟨pb, po, h, trivial⟩
  rw [h] at hG ⊢
  exact copyInts_is pb po c G w hG hl
set_option maxHeartbeats 4000000 in
theorem copyEnts_gen (s1 s2 : Option Addr) (c1 c2 : Nat) (G F : List Int) (w : World) (h1 : Ints w s1 G) (h2 : Ints w s2 F) (l1 : G.length ≤ 1048576) (l2 : F.length ≤ 1048576) (n1 : s1 = none → c1 = 0) (n2 : s2 = none → c2 = 0) :
  Calls Tryz.prog 103 #[.agg #[.slice s1 G.length c1, .slice s2 F.length c2]] w fun e w' => ∃ s c t d, e = .returned (.agg #[.slice s G.length c, .slice t F.length d]) ∧
   VRow w' w.heap.size (.slice s G.length c) G ∧ VRow w' w.heap.size (.slice t F.length d) F ∧ Apart (.slice s G.length c) (.slice t F.length d) ∧ Below w.heap.size w w' := by
 have hal := alloc_old
 have haf := alloc_oldf
 obtain ⟨K, J⟩ := blk2 w #[.slice s1 G.length c1, .slice s2 F.length c2] #[.slice none 0 0, .slice none 0 0] 36 36
 go_enter Tryz.func103, Tryz.ntmps103
 go_wp2_with fail; obtain ⟨W, hW⟩ : ∃ W, W = ((w.alloc (.cells #[.slice s1 G.length c1, .slice s2 F.length c2] 36)).alloc (.cells #[.slice none 0 0, .slice none 0 0] 36)) := ⟨_, rfl⟩
 have L0 : Below w.heap.size w W := by rw [hW]; (repeat (first | with_reducible exact Below.refl _ _ | with_reducible refine bl_alloc ?_ _ | with_reducible refine bl_drewN ?_ _ | with_reducible refine bl_drew ?_ | with_reducible refine bl_setCell ?_ (by first | exact Nat.le_refl _ | (dsimp only; omega) | (simp <;> omega)) _ | with_reducible refine bl_trans ?_ (by with_reducible assumption)))
 have sW : W.heap.size = w.heap.size + 2 := by rw [hW]; simp
 rw [← hW] at K J ⊢
 clear hW; have K : Blk W.drew w.heap.size #[.slice s1 G.length c1, .slice s2 F.length c2] 36 := K
 have J : Blk W.drew (w.heap.size + 1) #[.slice none 0 0, .slice none 0 0] 36 := J
 have L := bl_drew L0
 have dW : W.drew.heap.size = W.heap.size := rfl
 have M : Below W.heap.size W W.drew := bl_drew (Below.refl _ _)
 obtain ⟨x0, x1, x2⟩ := K.two
 obtain ⟨y0, y1, y2⟩ := J.two
 go_region_with (first
  | (go_at_call_of 123 (Value.slice s1 G.length c1); refine (copyInts_gen s1 c1 G _ (h1.later L) n1 l1).mono ?_; rintro e w3 ⟨s, c, rfl, hv1, hb⟩; have hs3 := hb.size; have L := bl_trans L hb; have M := bl_trans M hb; have K := K.later hb; have J := J.later hb; obtain ⟨x0, x1, x2⟩ := K.two; obtain ⟨y0, y1, y2⟩ := J.two)
  | (go_at_call_of 123 (Value.slice s2 F.length c2); refine (copyInts_gen s2 c2 F _ (h2.later L) n2 l2).mono ?_; rintro e w4 ⟨t, d, rfl, hv2, hb⟩; have L := bl_trans L hb; have M := bl_trans M hb; have K := K.later hb; have J := J.later hb; obtain ⟨x0, x1, x2⟩ := K.two; obtain ⟨y0, y1, y2⟩ := J.two; have hv1lt := (id hv1).lt; have hv1 := (id hv1).later hb))
 all_goals
  have a1 := hv1.lt
  have a2 := hv2.lt
  have hsz := hv1lt
  have m3 := hb.size
  have mM := M.size
  go_wp2_with fail; refine bodyPost_ret (v := .agg #[.slice s G.length c, .slice t F.length d]) (by simp [results, Tryz.results103, go_sem, y0, y1]) rfl ⟨s, c, t, d, rfl, ?_, ?_, ?_, ?_⟩
  ·
   exact ((hv1.mono (by omega)).other (fun e => by have := (a1 _ e).1; omega) _ _).other (fun e => by have := (a1 _ e).1; omega) _ _
  ·
   exact ((hv2.mono (by have := L0.size; omega)).other (fun e => by have := (a2 _ e).1; omega) _ _).other (fun e => by have := (a2 _ e).1; omega) _ _
  ·
   intro k hk1 hk2
   have := (hsz k hk1).2
   have := (a2 k hk2).1
   omega
  exact blq
end
section
open Go.RowKit Go.Maps Go.WideMaps
set_option maxRecDepth 100000
theorem own_nil {w : World} {B n c : Nat} {s : Option Addr} {L : List Int} (h : (rI (.slice s n c) L).on w B) : s = none → c = 0 := by
 intro hs
 subst hs
 rcases h.2 with ⟨h1, _⟩ | ⟨g, cap, cur, h1, _⟩
 ·
  have h1 : Value.slice none n c = .slice none 0 0 := h1
  simp only [Value.slice.injEq] at h1
  exact h1.2.2
 have h1 : Value.slice none n c = .slice (some ⟨g, 0, none⟩) L.length cap := h1
 simp at h1
def killW (W : Wd) (i j : Nat) (T : Tab) (e : E2) : Wd := ⟨W.gens.set e.1.toNat (ng e.2), W.free ++ [e.1], W.tabs.set i (gone T j), W.res⟩
end
section
open Go.RowKit Go.Maps Go.WideMaps
set_option maxRecDepth 100000
theorem Owns.put4 {w : World} {B : Nat} {R : List OR} (h : Owns w B R) {n : Nat} (hn : n < B) (u0 u1 u2 u3 : Value) : Owns ((((w.setCell ⟨n, 0, none⟩ u0).setCell ⟨n, 1, none⟩ u1).setCell ⟨n, 2, none⟩ u2).setCell ⟨n, 3, none⟩ u3) B R := (((h.putC hn _).putC hn _).putC hn _).putC hn _
theorem bl_put4 {w0 w : World} {B : Nat} (h : Below B w0 w) {n : Nat} (hn : B ≤ n) (u0 u1 u2 u3 : Value) : Below B w0 ((((w.setCell ⟨n, 0, none⟩ u0).setCell ⟨n, 1, none⟩ u1).setCell ⟨n, 2, none⟩ u2).setCell ⟨n, 3, none⟩ u3) := (((h.setCell hn _).setCell hn _).setCell hn _).setCell hn _
end
section
open Go.RowKit Go.Maps Go.WideMaps
set_option maxRecDepth 100000
def KillR (A B C : List (ByteArray × Int)) (W : Wd) (e : E2) (W' : Wd) (code : Int) : Prop :=
 (standB A B C W = false ∧ W' = W ∧ code = 1) ∨
 (standB A B C W = true ∧ ((¬ e ∈ rowsOf W.tabs ∧ W' = W ∧ code = 2) ∨
 (∃ (i j : Nat) (T : Tab), W.tabs[i]? = some T ∧ T.rows[j]? = some e ∧ W' = killW W i j T e ∧ code = 0)))
theorem KillR.same {A B C : List (ByteArray × Int)} {W : Wd} {e : E2} {W1 W2 : Wd} {c1 c2 : Int} (h1 : KillR A B C W e W1 c1) (h2 : KillR A B C W e W2 c2) : W1 = W2 ∧ c1 = c2 := by
 rcases h1 with ⟨hf, rfl, rfl⟩ | ⟨ht, h1⟩
 ·
  rcases h2 with ⟨_, rfl, rfl⟩ | ⟨ht, _⟩
  ·
   exact ⟨rfl, rfl⟩
  rw [hf] at ht; cases ht
 obtain ⟨hrt, hon⟩ := stand_tabs ht
 simp only [onceB, decide_eq_true_eq] at hon
 rcases h2 with ⟨hf, _⟩ | ⟨_, h2⟩
 ·
  rw [hf] at ht; cases ht
 rcases h1 with ⟨n1, rfl, rfl⟩ | ⟨i, j, T, hT, hj, rfl, rfl⟩
 ·
  rcases h2 with ⟨n2, rfl, rfl⟩ | ⟨i, j, T, hT, hj, rfl, rfl⟩
  ·
   exact ⟨rfl, rfl⟩
  exact absurd (mem_rows hT hj) n1
 rcases h2 with ⟨n2, rfl, rfl⟩ | ⟨i', j', T', hT', hj', rfl, rfl⟩
 ·
  exact absurd (mem_rows hT hj) n2
 obtain ⟨rfl, rfl⟩ := rows_unique hon.1 hT hj hT' hj'
 rw [hT] at hT'
 cases hT'
 exact ⟨rfl, rfl⟩
theorem stand_okE {A B C : List (ByteArray × Int)} {W : Wd} (h : standB A B C W = true) : okE W.gens W.free = true := by
 simp only [standB, Bool.and_eq_true] at h
 exact h.1.1.1.1.2
theorem wo_le {α : Type} (L : List α) (j : Nat) : (wo L j).length ≤ L.length := by
 unfold wo
 cases L[L.length - 1]? with
 | none => exact Nat.le_refl _
 | some x => simp
theorem kTab_gone {T : Tab} (h : kTab T) (j : Nat) : kTab (gone T j) := by
 refine ⟨h.1, Nat.le_trans (wo_le _ _) h.2.1, ?_, ?_⟩
 ·
  show (T.cells.map _).length ≤ _
  rw [List.length_map]; exact h.2.2.1
 intro L hL
 have hL : L ∈ T.cells.map fun L => wo L j := hL
 simp only [List.mem_map] at hL
 obtain ⟨M, hM, rfl⟩ := hL
 exact Nat.le_trans (wo_le _ _) (h.2.2.2 M hM)
theorem KillR.kW {A B C : List (ByteArray × Int)} {W : Wd} {e : E2} {W1 : Wd} {c1 : Int} (h : KillR A B C W e W1 c1) (hk : kW W) : kW W1 := by
 rcases h with ⟨_, rfl, _⟩ | ⟨hst, ⟨_, rfl, _⟩ | ⟨i, j, T, hT, hj, rfl, _⟩⟩
 ·
  exact hk
 ·
  exact hk
 obtain ⟨l1, l2⟩ := okE_len (stand_okE hst)
 refine ⟨?_, ?_, ⟨?_, ?_⟩, hk.2.2.2⟩
 ·
  show (W.gens.set _ _).length ≤ _
  rw [List.length_set]; exact hk.1
 ·
  show (W.free ++ [e.1]).length ≤ _
  rw [List.length_append]; simp; omega
 ·
  show (W.tabs.set _ _).length ≤ _
  rw [List.length_set]; exact hk.2.2.1.1
 intro U hU
 have hU : U ∈ W.tabs.set i (gone T j) := hU
 rcases List.mem_or_eq_of_mem_set hU with h' | rfl
 ·
  exact hk.2.2.1.2 U h'
 exact kTab_gone (hk.2.2.1.2 T (List.mem_of_getElem? hT)) j
theorem box4y (w : World) (c d f g : Array Value) (t u v x : TypeId) : ∃ X, X = (((w.alloc (.cells c t)).alloc (.cells d u)).alloc (.cells f v)).alloc (.cells g x) ∧ Blk X w.heap.size c t ∧ Blk X (w.heap.size + 1) d u ∧ Blk X (w.heap.size + 1 + 1) f v ∧ Blk X (w.heap.size + 1 + 1 + 1) g x ∧ Below w.heap.size w X :=
 ⟨_, rfl, (((Blk.new w c t).alloc _).alloc _).alloc _, ((Blk.new' _ d u (by simp)).alloc _).alloc _, (Blk.new' _ f v (by simp)).alloc _, Blk.new' _ g x (by simp), bl_alloc (bl_alloc (bl_alloc (bl_alloc (Below.refl _ _) _) _) _) _⟩
end
section
open Go.RowKit Go.Maps Go.WideMaps
set_option maxRecDepth 100000
def rC (v : Value) (L : List C5) : OR := ⟨77, 5, v, L.length, L.flatMap ccells⟩
def okCs (L : List C5) : Prop := ∀ c ∈ L, okV c.2
theorem rC_els {w : World} {B : Nat} {s : Option Addr} {c : Nat} {L : List C5} (h : (rC (.slice s L.length c) L).on w B) (ok : okCs L) : Els 5 cCell w B s L :=
 els_own (f := ccells) (fun _ => rfl) (T := 77) (c := c) h (fun a ha => ⟨rfl, ok a ha⟩)
section
variable {ops : Array Oper} {o : Oper} {a : Act} {w : World} {K : Act → World → Prop} {Qx : Exit → Act → World → Prop} {E : Prop}
theorem step_appC {B : Nat} {Q : World → List OR → Prop} (c : Carr B Q) (P S : List OR) {r : OR} (hR : Q w (P ++ r :: S)) (hg : o.guard = none) {d0 : Option Nat} (hd : o.dst = d0) (s x : Operand) (t : TypeId) {i : TypeInfo} {z : Value} (bytes : Nat) (ho : o.op = .call { callee := .builtin .append, args := #[s, x], argTypes := #[t, t] })
  (hu : Tryz.prog.underlying t = some (.slice r.T)) (hi : Tryz.prog.info? r.T = some i) (hz : i.zero = some z) (hsize : i.size = r.k) (hby : i.bytes = bytes) (hzs : z.cells.size = r.k) (hsz : 0 < r.k) (hs : a.eval s = r.v)
  (ad : Addr) (m d : Nat) (hx : a.eval x = .slice (some ad) m d) (news : List Value) (hl : news.length = m * r.k) (hnews : ∀ j u, news[j]? = some u → w.cell? (ad.add j) = some u) (h1 : ∀ u ∈ news, u.oneCell' = true)
  (h63 : r.n + m ≤ maxLen) (hbytes : (r.n + m) * bytes ≤ 140737488355328) (N : Nat) (hN : r.n + m = N) (f : Value → OR) (hf : ∀ v, f v = ⟨r.T, r.k, v, N, r.cs ++ news⟩)
  (hK : ∀ s' c' w', Q w' (P ++ f (.slice s' N c') :: S) → w.grownBy w' r.v.ownBlock → K (a.put d0 (.slice s' N c')) w') :
  if Region.wanted o (yielded ops a.tmps) = true then Oper.wp Tryz.prog o a w K Qx else E := by
 subst hN
 obtain ⟨s', c', w', hrun, hq, hgr⟩ := c.app P S hR t o.type bytes hu hi hz hsize hby hzs hsz ad m d news hl hnews h1 h63 hbytes
 have exec : (execOp a.eval o).run Tryz.prog w = .ok (.value (.slice s' (r.n + m) c')) w' := by
  simp [execOp, ho, resolve, invoke, builtin, hs, hx, hrun, Result.andThen]
 exact step_exec hg hd exec (hK s' c' w' (by rw [hf]; exact hq) hgr)
end
def TwR (T : List Tab) (cols : List Int) (r : Int) : Prop := (r = -1 ∧ ∀ t ∈ T, ¬ t.cols = cols) ∨ ∃ (i : Nat) (t : Tab), r = i ∧ T[i]? = some t ∧ t.cols = cols
set_option maxHeartbeats 2000000 in
theorem tableWith_at (s : Option Addr) (c : Nat) (T : List Tab) (n : Nat) (sc : Option Addr) (cc : Nat) (cols : List Int) (Bs Bc : Nat) (w : World) (hn : T.length = n) (hT : Els 3 cTab w Bs s T) (hc : Els 1 cInt w Bc sc cols) (hk : kTabs T) (hl : cols.length ≤ 1048576) :
  Calls Tryz.prog 100 #[.slice s n c, .slice sc cols.length cc] w fun e w' => (∃ r : Int, e = .returned (.int .i64 r) ∧ TwR T cols r) ∧ Below w.heap.size w w' := by
 subst hn
 have hal := alloc_old
 have haf := alloc_oldf
 obtain ⟨kl, kt⟩ := hk
 have KT : Hid (∀ t ∈ T, kTab t) := kt
 have H1 : Hid (Els 3 cTab w Bs s T) := hT
 have H2 : Hid (Els 1 cInt w Bc sc cols) := hc
 clear kt hT hc; go_enter Tryz.func100, Tryz.ntmps100
 go_wp2_with fail; go_loopw [9] (fun i wr => ∃ k : Nat, k ≤ T.length ∧ i = .int .i64 k ∧ Hid (Below w.heap.size w wr ∧ ∀ (j : Nat) t, j < k → T[j]? = some t → sl eqI t.cols cols = false)) (fun i _ => T.length - (intOf i).toNat)
 case atStart => exact ⟨0, Nat.zero_le _, rfl, Below.refl _ _, fun j t hj => absurd hj (Nat.not_lt_zero _)⟩
 obtain ⟨k, hk, rfl, hN⟩ := hrel
 by_cases hlt : k < T.length
 ·
  obtain ⟨t, ha⟩ := get_some hlt
  obtain ⟨b, o, rfl, _, hp, s1, d1, s2, d2, s3, d3, e1, e2, e3, f1, f2, f3⟩ := eTab_cells (H1.out.later cTab_keeps hN.out.1) ha
  have HA : Hid (T[k]? = some t) := ha
  have hkt := (KT.out t (List.mem_of_getElem? ha)).1
  have F1 : Hid (Els 1 cInt wr Bs s1 t.cols) := f1
  clear ha f1 f2 f3; go_wp2_with fail; refine (equalI_any s1 sc d1 cc t.cols cols Bs Bc _ (F1.out.later cInt_keeps (bl_alloc (Below.refl _ _) _)) (H2.out.later cInt_keeps (bl_alloc hN.out.1 _)) hkt hl).mono ?_
  rintro e w2 ⟨rfl, hb2⟩
  have L2 : Hid (Below w.heap.size w w2) := bl_trans (bl_alloc hN.out.1 _) hb2
  clear hb2; cases hs : sl eqI t.cols cols
  ·
   go_wp2_with fail; go_roundw
   case rel => exact ⟨k + 1, by omega, by go_num, L2.out, fun j u hj hu => by
    by_cases hjk : j = k
    ·
     subst hjk
     rw [HA.out] at hu
     cases hu
     exact hs
    exact hN.out.2 j u (by omega) hu⟩
   case measure => simp [intOf]; omega
  have HR : Hid (TwR T cols (k : Int)) := by
   refine Or.inr ⟨k, t, rfl, HA.out, ?_⟩
   rw [sl_eqI, decide_eq_true_eq] at hs
   exact hs
  go_wp2_with fail; go_ret; exact ⟨⟨_, rfl, HR.out⟩, L2.out⟩
 have HR : Hid (TwR T cols (-1)) := by
  refine Or.inl ⟨rfl, fun t ht => ?_⟩
  obtain ⟨j, hj, rfl⟩ := List.getElem_of_mem ht
  have := hN.out.2 j _ (by omega) (List.getElem?_eq_getElem hj)
  rw [sl_eqI, decide_eq_false_iff_not] at this
  exact this
 go_wp2_with fail; go_ret; exact ⟨⟨_, rfl, HR.out⟩, hN.out.1⟩
end
end Go.Proofs.YtbgeobpdojmdaaaGreat
