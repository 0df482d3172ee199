import Derived.Test.YtbgeobpdojmdaaaGreatSq14
import Derived.Deep.RegionLaw
import Derived.Laws.AppendOwn
import Derived.Deep.RegionHeld3
import Derived.Laws.CopyOwn
namespace Go.Proofs.YtbgeobpdojmdaaaGreat
set_option linter.unusedVariables false
set_option linter.unusedSimpArgs false
section
open Go.RowKit
structure TV where
 c : Value
 r : Value
 x : Value
 xs : List Value
structure WV where
 g : Value
 f : Value
 t : Value
 r : Value
 ts : List TV
def rI (v : Value) (L : List Int) : OR := ⟨3, 1, v, L.length, L.map (Value.int .i64)⟩
def rE (v : Value) (L : List E2) : OR := ⟨42, 2, v, L.length, ecells L⟩
def rV (v : Value) (L : List V4) : OR := ⟨75, 4, v, L.length, L.flatMap vcells⟩
def rS (v : Value) (xs : List Value) : OR := ⟨38, 1, v, xs.length, xs⟩
def tc (t : TV) : List Value := [t.c, t.r, t.x]
def rT (v : Value) (ts : List TV) : OR := ⟨119, 3, v, ts.length, ts.flatMap tc⟩
def rVs (xs : List Value) (C : List (List V4)) : List OR := List.zipWith rV xs C
def rTab (t : TV) (T : Tab) : List OR := rI t.c T.cols :: rE t.r T.rows :: rS t.x t.xs :: rVs t.xs T.cells
def rTabs (ts : List TV) (Ts : List Tab) : List OR := (List.zipWith rTab ts Ts).flatten
def rW (V : WV) (W : Wd) : List OR := rI V.g W.gens :: rI V.f W.free :: rT V.t V.ts :: rV V.r W.res :: rTabs V.ts W.tabs
def okVs (L : List V4) : Prop := ∀ v ∈ L, okV v
structure OTb (w : World) (B : Nat) (t : TV) (T : Tab) : Prop where
 own : Owns w B (rTab t T)
 len : t.xs.length = T.cells.length
 ok : ∀ L ∈ T.cells, okVs L
structure OW (w : World) (B : Nat) (V : WV) (W : Wd) : Prop where
 own : Owns w B (rW V W)
 len : V.ts.length = W.tabs.length
 lens : ∀ (j : Nat) t T, V.ts[j]? = some t → W.tabs[j]? = some T → t.xs.length = T.cells.length
 okc : ∀ T ∈ W.tabs, ∀ L ∈ T.cells, okVs L
 okr : okVs W.res
theorem els_own {α : Type} {k : Nat} {E : World → Nat → List Value → α → Prop} {f : α → List Value} (hf : ∀ a, (f a).length = k) {w : World} {B : Nat} {T : TypeId} {s : Option Addr} {c : Nat} {L : List α} (h : w.ownsRow B T k (.slice s L.length c) L.length (L.flatMap f)) (hE : ∀ a ∈ L, E w B (f a) a) : Els k E w B s L := by
 rcases Go.Joins.ownsRow_forms h with ⟨_, h0⟩ | ⟨g, cap, e⟩
 ·
  exact Or.inl (List.length_eq_zero_iff.1 h0)
 cases e; exact els_of_row hf h hE
theorem OR.on.shape {w : World} {B : Nat} {r : OR} (h : r.on w B) : ∃ s c, r.v = .slice s r.n c := by
 rcases Go.Joins.ownsRow_forms h with ⟨e, h0⟩ | ⟨g, cap, e⟩
 ·
  exact ⟨_, _, by rw [e, h0]⟩
 exact ⟨_, _, e⟩
theorem map_flat (L : List Int) : L.map (Value.int .i64) = L.flatMap fun n => [Value.int .i64 n] := by
 induction L with
 | nil => rfl
 | cons a L ih => rw [List.map_cons, List.flatMap_cons, ih]; rfl
theorem rI_els {w : World} {B : Nat} {s : Option Addr} {c : Nat} {L : List Int} (h : (rI (.slice s L.length c) L).on w B) : Els 1 cInt w B s L := by
 refine els_own (f := fun n => [Value.int .i64 n]) (fun _ => rfl) (T := 3) (c := c) ?_ (fun a _ => rfl)
 rw [← map_flat]; exact h
theorem rE_els {w : World} {B : Nat} {s : Option Addr} {c : Nat} {L : List E2} (h : (rE (.slice s L.length c) L).on w B) : Els 2 cEnt w B s L :=
 els_own (α := E2) (f := fun p => [.int .i64 p.1, .int .i64 p.2]) (fun _ => rfl) (T := 42) (c := c) h (fun a _ => rfl)
theorem rV_els {w : World} {B : Nat} {s : Option Addr} {c : Nat} {L : List V4} (h : (rV (.slice s L.length c) L).on w B) (ok : okVs L) : Els 4 cVal w B s L :=
 els_own (f := vcells) (fun _ => rfl) (T := 75) (c := c) h (fun a ha => ⟨rfl, ok a ha⟩)
theorem mem_zipWith {α β γ : Type} {f : α → β → γ} {A : List α} {C : List β} {j : Nat} {a : α} {c : β} (h1 : A[j]? = some a) (h2 : C[j]? = some c) : f a c ∈ List.zipWith f A C := by
 refine List.mem_of_getElem? (i := j) ?_
 rw [List.getElem?_zipWith, h1, h2]
theorem rS_els {w : World} {B : Nat} {s : Option Addr} {c : Nat} {xs : List Value} {C : List (List V4)} (hl : xs.length = C.length) (h : (rS (.slice s C.length c) xs).on w B) (ho : ∀ (j : Nat) v L, xs[j]? = some v → C[j]? = some L → (rV v L).on w B) (ok : ∀ L ∈ C, okVs L) : Els 1 cVals w B s C := by
 have h' : w.ownsRow B 38 1 (.slice s C.length c) C.length xs := by rw [← hl]; rw [← hl] at h; exact h
 rcases Go.Joins.ownsRow_forms h' with ⟨_, h0⟩ | ⟨g, cap, e⟩
 ·
  exact Or.inl (List.length_eq_zero_iff.1 h0)
 cases e
 have hlt := World.ownsRow.lt h' g rfl
 refine Or.inr ⟨g, 0, rfl, hlt.1, hlt.2, fun j L hL => ?_, fun _ j => World.ownsRow.frozenAt h' j⟩
 have hj : j < C.length := (List.getElem?_eq_some_iff.1 hL).1
 obtain ⟨v, hv⟩ := get_some (L := xs) (k := j) (by omega)
 have hr := ho j v L hv hL
 obtain ⟨s', c', e'⟩ := hr.shape
 refine ⟨[v], rfl, fun i u hu => ?_, s', c', by rw [show v = _ from e']; rfl, ?_⟩
 ·
  match i, hu with
  | 0, hu =>
   simp at hu; subst hu
   rw [Nat.zero_add, Nat.mul_one, Nat.add_zero, World.ownsRow.cellAt h' j (by omega), hv]
 refine rV_els (c := c') ?_ (ok L (List.mem_of_getElem? hL))
 have e2 : v = .slice s' L.length c' := e'
 rw [← e2]; exact hr
theorem rVs_on {w : World} {B : Nat} {xs : List Value} {C : List (List V4)} (h : ∀ r ∈ rVs xs C, r.on w B) : ∀ (j : Nat) v L, xs[j]? = some v → C[j]? = some L → (rV v L).on w B :=
 fun j v L h1 h2 => h _ (mem_zipWith h1 h2)
theorem OTb.tab {w : World} {B : Nat} {t : TV} {T : Tab} (h : OTb w B t T) : cTab w B (tc t) T := by
 have hc := h.own.on _ (show rI t.c T.cols ∈ rTab t T by simp [rTab])
 have hr := h.own.on _ (show rE t.r T.rows ∈ rTab t T by simp [rTab])
 have hx := h.own.on _ (show rS t.x t.xs ∈ rTab t T by simp [rTab])
 obtain ⟨s1, c1, e1⟩ := hc.shape
 obtain ⟨s2, c2, e2⟩ := hr.shape
 obtain ⟨s3, c3, e3⟩ := hx.shape
 have e1 : t.c = .slice s1 T.cols.length c1 := e1
 have e2 : t.r = .slice s2 T.rows.length c2 := e2
 have e3 : t.x = .slice s3 T.cells.length c3 := by rw [← h.len]; exact e3
 rw [e1] at hc
 rw [e2] at hr
 rw [e3] at hx
 exact ⟨s1, c1, s2, c2, s3, c3, by rw [tc, e1, e2, e3], rI_els hc, rE_els hr, rS_els h.len hx (rVs_on fun r hr => h.own.on r (by simp [rTab, hr])) h.ok⟩
theorem rTabs_split {ts : List TV} {Ts : List Tab} {j : Nat} {t : TV} {T : Tab} (h1 : ts[j]? = some t) (h2 : Ts[j]? = some T) :
  rTabs ts Ts = rTabs (ts.take j) (Ts.take j) ++ (rTab t T ++ rTabs (ts.drop (j + 1)) (Ts.drop (j + 1))) := by
 have e1 : ts = ts.take j ++ t :: ts.drop (j + 1) := by
  have := (List.getElem?_eq_some_iff.1 h1)
  obtain ⟨hj, rfl⟩ := this
  rw [List.getElem_cons_drop, List.take_append_drop]
 have e2 : Ts = Ts.take j ++ T :: Ts.drop (j + 1) := by
  have := (List.getElem?_eq_some_iff.1 h2)
  obtain ⟨hj, rfl⟩ := this
  rw [List.getElem_cons_drop, List.take_append_drop]
 have hl : (ts.take j).length = (Ts.take j).length := by
  have := (List.getElem?_eq_some_iff.1 h1).1
  have := (List.getElem?_eq_some_iff.1 h2).1
  simp; omega
 conv => lhs; rw [e1, e2]
 unfold rTabs
 rw [List.zipWith_append hl, List.flatten_append, List.zipWith_cons_cons, List.flatten_cons]
theorem rTabs_mem {ts : List TV} {Ts : List Tab} {j : Nat} {t : TV} {T : Tab} (h1 : ts[j]? = some t) (h2 : Ts[j]? = some T) : ∀ r ∈ rTab t T, r ∈ rTabs ts Ts := by
 intro r hr
 rw [rTabs_split h1 h2]
 simp [hr]
theorem OW.tab {w : World} {B : Nat} {V : WV} {W : Wd} (h : OW w B V W) {j : Nat} {t : TV} {T : Tab} (h1 : V.ts[j]? = some t) (h2 : W.tabs[j]? = some T) : OTb w B t T := by
 refine ⟨?_, h.lens j t T h1 h2, h.okc T (List.mem_of_getElem? h2)⟩
 have := h.own
 unfold rW at this
 rw [rTabs_split h1 h2] at this
 exact this.tail.tail.tail.tail.right.left
theorem els_tabs {w : World} {B : Nat} {s : Option Addr} {c : Nat} {ts : List TV} {Ts : List Tab} (hl : ts.length = Ts.length) (h : (rT (.slice s Ts.length c) ts).on w B) (ho : ∀ (j : Nat) t T, ts[j]? = some t → Ts[j]? = some T → OTb w B t T) : Els 3 cTab w B s Ts := by
 have h' : w.ownsRow B 119 3 (.slice s Ts.length c) Ts.length (ts.flatMap tc) := by rw [← hl]; rw [← hl] at h; exact h
 rcases Go.Joins.ownsRow_forms h' with ⟨_, h0⟩ | ⟨g, cap, e⟩
 ·
  exact Or.inl (List.length_eq_zero_iff.1 h0)
 cases e
 have hlt := World.ownsRow.lt h' g rfl
 refine Or.inr ⟨g, 0, rfl, hlt.1, hlt.2, fun j T hT => ?_, fun _ j => World.ownsRow.frozenAt h' j⟩
 have hj : j < Ts.length := (List.getElem?_eq_some_iff.1 hT).1
 obtain ⟨t, ht⟩ := get_some (L := ts) (k := j) (by omega)
 refine ⟨tc t, rfl, fun i u hu => ?_, (ho j t T ht hT).tab⟩
 have hi : i < 3 := (List.getElem?_eq_some_iff.1 hu).1
 rw [Nat.zero_add, World.ownsRow.cellAt h' (j * 3 + i) (by omega), flat_get (k := 3) (f := tc) (fun _ => rfl) ts j t ht i hi, hu]
theorem OW.inW {w : World} {B : Nat} {V : WV} {W : Wd} (h : OW w B V W) : ∃ a1 c1 a2 c2 a3 c3 a4 c4, V.g = .slice a1 W.gens.length c1 ∧ V.f = .slice a2 W.free.length c2 ∧ V.t = .slice a3 W.tabs.length c3 ∧ V.r = .slice a4 W.res.length c4 ∧ InW w B a1 a2 a3 a4 W := by
 have hg := h.own.on _ (show rI V.g W.gens ∈ rW V W by simp [rW])
 have hf := h.own.on _ (show rI V.f W.free ∈ rW V W by simp [rW])
 have ht := h.own.on _ (show rT V.t V.ts ∈ rW V W by simp [rW])
 have hr := h.own.on _ (show rV V.r W.res ∈ rW V W by simp [rW])
 obtain ⟨a1, c1, e1⟩ := hg.shape
 obtain ⟨a2, c2, e2⟩ := hf.shape
 obtain ⟨a3, c3, e3⟩ := ht.shape
 obtain ⟨a4, c4, e4⟩ := hr.shape
 have e1 : V.g = .slice a1 W.gens.length c1 := e1
 have e2 : V.f = .slice a2 W.free.length c2 := e2
 have e3 : V.t = .slice a3 W.tabs.length c3 := by rw [← h.len]; exact e3
 have e4 : V.r = .slice a4 W.res.length c4 := e4
 rw [e1] at hg
 rw [e2] at hf
 rw [e3] at ht
 rw [e4] at hr
 exact ⟨a1, c1, a2, c2, a3, c3, a4, c4, e1, e2, e3, e4, rI_els hg, rI_els hf, els_tabs h.len ht (fun j t T h1 h2 => h.tab h1 h2), rV_els hr h.okr⟩
theorem OW.later {w w' : World} {B : Nat} {V : WV} {W : Wd} (h : OW w B V W) (hb : Below w.heap.size w w') : OW w' B V W := ⟨h.own.later hb, h.len, h.lens, h.okc, h.okr⟩
theorem OW.kept {w w' : World} {B : Nat} {V : WV} {W : Wd} (h : OW w B V W) (hk : Kept B w w') : OW w' B V W := ⟨h.own.kept hk, h.len, h.lens, h.okc, h.okr⟩
theorem OW.mono {w : World} {B B' : Nat} {V : WV} {W : Wd} (h : OW w B V W) (hB : B' ≤ B) : OW w B' V W := ⟨h.own.mono hB, h.len, h.lens, h.okc, h.okr⟩
theorem OTb.later {w w' : World} {B : Nat} {V : TV} {W : Tab} (h : OTb w B V W) (hb : Below w.heap.size w w') : OTb w' B V W := ⟨h.own.later hb, h.len, h.ok⟩
theorem OTb.kept {w w' : World} {B : Nat} {V : TV} {W : Tab} (h : OTb w B V W) (hk : Kept B w w') : OTb w' B V W := ⟨h.own.kept hk, h.len, h.ok⟩
theorem OTb.mono {w : World} {B B' : Nat} {V : TV} {W : Tab} (h : OTb w B V W) (hB : B' ≤ B) : OTb w B' V W := ⟨h.own.mono hB, h.len, h.ok⟩
end
section
open Go.RowKit
end
section
open Go.RowKit
def VRow (w : World) (B : Nat) (v : Value) (G : List Int) : Prop := w.ownsRow B 3 1 v G.length (G.map (Value.int .i64))
theorem VRow.later {w w' : World} {B : Nat} {v : Value} {G : List Int} (h : VRow w B v G) (hb : Below w.heap.size w w') : VRow w' B v G := by
 refine World.ownsRow.kept h (show w.grownBy w' none from ⟨hb.os, hb.tape, hb.output, hb.size, fun k hk _ => hb.block k hk⟩) ?_
 cases v.ownBlock with
 | none => exact Or.inl rfl
 | some b => exact Or.inr (by simp)
theorem VRow.mono {w : World} {B B' : Nat} {v : Value} {G : List Int} (h : VRow w B v G) (hB : B' ≤ B) : VRow w B' v G := by
 refine ⟨h.1, ?_⟩
 rcases h.2 with h' | ⟨g, cap', cur, h', hb, r⟩
 ·
  exact Or.inl h'
 exact Or.inr ⟨g, cap', cur, h', Nat.le_trans hB hb, r⟩
theorem VRow.lt {w : World} {B : Nat} {v : Value} {G : List Int} (h : VRow w B v G) : ∀ k, v.ownBlock = some k → B ≤ k ∧ k < w.heap.size := World.ownsRow.lt h
theorem VRow.form {w : World} {B : Nat} {v : Value} {G : List Int} (h : VRow w B v G) : (v = .slice none 0 0 ∧ G = []) ∨ ∃ g cap, v = .slice (some ⟨g, 0, none⟩) G.length cap ∧ G.length ≤ cap ∧ Row w B (some ⟨g, 0, none⟩) G.length cap G := by
 rcases h.2 with ⟨h1, h2⟩ | ⟨g, cap, cur, rfl, hb, hg, hc, r⟩
 ·
  exact Or.inl ⟨h1, List.length_eq_zero_iff.1 h2⟩
 exact Or.inr ⟨g, cap, rfl, hc, h⟩
theorem VRow.slice {w : World} {B : Nat} {v : Value} {G : List Int} (h : VRow w B v G) : ∃ s c, v = .slice s G.length c ∧ Ints w s G := by
 rcases h.form with ⟨rfl, rfl⟩ | ⟨g, cap, rfl, _, hr⟩
 ·
  exact ⟨none, 0, rfl, Or.inl rfl⟩
 exact ⟨_, cap, rfl, hr.ints.1⟩
theorem ints_cells {w : World} {pb po : Nat} {G : List Int} (h : Ints w (some ⟨pb, po, none⟩) G) : ∀ j u, (G.map (Value.int .i64))[j]? = some u → w.cell? ((⟨pb, po, none⟩ : Addr).add j) = some u := by
 intro j u hu
 have hj : j < G.length := by
  have := (List.getElem?_eq_some_iff.1 hu).1
  simpa using this
 rcases h with rfl | ⟨pb', po', he, _, hc⟩
 ·
  simp at hj
 simp only [Option.some.injEq, Addr.mk.injEq, and_true] at he
 obtain ⟨rfl, rfl⟩ := he
 have e : (⟨pb, po, none⟩ : Addr).add j = ⟨pb, po + j, none⟩ := by simp [Addr.add]
 rw [e, hc j hj]
 simp [hj] at hu
 subst hu
 simp [hj]
theorem ints_one (G : List Int) : ∀ u ∈ G.map (Value.int .i64), u.oneCell' = true := by
 intro u hu
 obtain ⟨x, _, rfl⟩ := List.mem_map.1 hu
 rfl
set_option maxHeartbeats 2000000 in
theorem copyInts_any (pb po c : Nat) (G : List Int) (w : World) (hG : Ints w (some ⟨pb, po, none⟩) G) (hl : G.length ≤ 1048576) :
  Calls Tryz.prog 123 #[.slice (some ⟨pb, po, none⟩) G.length c] w fun e w' => ∃ v, e = .returned v ∧ VRow w' w.heap.size v G ∧ Below w.heap.size w w' := by
 obtain ⟨i0, hi, hz0, hz1, hz2⟩ := info_parts Tryz.infoI
 go_enter Tryz.func123, Tryz.ntmps123
 go_wp2_with (at_builtin; refine wpList_append_own _ rfl _ _ 25 rfl w.heap.size 3 i0 (.int .i64 0) 1 8 Tryz.underlying25 hi hz0 hz1 hz2 rfl (by decide) _ _ _ rfl (World.ownsRow_nil _ _ _ _) ⟨pb, po, none⟩ G.length c (G.map (Value.int .i64)) rfl (by simp) (ints_cells hG) (ints_one G) (by unfold maxLen; omega) (by omega) (Nat.le_refl _) ?_)
 intro v' w1 hown hgrow _
 have hv : VRow w1 w.heap.size v' G := by
  unfold VRow
  simpa using hown
 have hb : Below w.heap.size w w1 := (Below.refl _ w).grown hgrow (Nat.le_refl _) (fun k h => by simp [Value.ownBlock] at h)
 clear hown hgrow; go_wp2_with fail; go_ret; exact ⟨v', rfl, hv, hb⟩
end
section
open Go.RowKit
def Apart (v u : Value) : Prop := ∀ k, v.ownBlock = some k → ¬ u.ownBlock = some k
theorem copyInts_is (pb po c : Nat) (G : List Int) (w : World) (hG : Ints w (some ⟨pb, po, none⟩) G) (hl : G.length ≤ 1048576) :
  Calls Tryz.prog 123 #[.slice (some ⟨pb, po, none⟩) G.length c] w fun e w' => ∃ s c, e = .returned (.slice s G.length c) ∧ VRow w' w.heap.size (.slice s G.length c) G ∧ Below w.heap.size w w' := by
 refine (copyInts_any pb po c G w hG hl).mono ?_
 rintro e w' ⟨v, rfl, hv, hb⟩
 obtain ⟨s, c', rfl, _⟩ := hv.slice
 exact ⟨s, c', rfl, hv, hb⟩
theorem VRow.kept {w w' : World} {B : Nat} {v : Value} {G : List Int} {r : Option Nat} (h : VRow w B v G) (hg : w.grownBy w' r) (hn : ∀ k, v.ownBlock = some k → ¬ r = some k) : VRow w' B v G := by
 refine World.ownsRow.kept h hg ?_
 cases hv : v.ownBlock with
 | none => exact Or.inl rfl
 | some k => exact Or.inr (fun e => hn k hv e.symm)
theorem grown_setCell (w : World) (n o : Nat) (u : Value) : w.grownBy (w.setCell ⟨n, o, none⟩ u) (some n) :=
 ⟨rfl, rfl, rfl, by simp, fun k _ hk => heap_setCell_other w ⟨n, o, none⟩ k u (fun e => hk (by simp [e]))⟩
theorem VRow.other {w : World} {B : Nat} {v : Value} {G : List Int} (h : VRow w B v G) {n : Nat} (hn : ¬ v.ownBlock = some n) (o : Nat) (u : Value) : VRow (w.setCell ⟨n, o, none⟩ u) B v G :=
 h.kept (grown_setCell w n o u) (fun k hk e => hn (by rw [hk]; exact e.symm))
end
section
open Go.RowKit
theorem run_copyK (w : World) (dT sT ty e : TypeId) (i0 : TypeInfo) (k : Nat) (g dLen dCap : Nat) (a : Addr) (sLen sCap : Nat) (cur : Array Value) (t : TypeId) (cs : List Value)
  (hu : Tryz.prog.underlying dT = some (.slice e)) (hi : Tryz.prog.info? e = some i0) (hz1 : i0.size = k) (hg : w.heap[g]? = some (.cells cur t (0, 0))) (hn : cs.length = Nat.min sLen dLen * k)
  (hsrc : ∀ j v, cs[j]? = some v → w.cell? (a.add j) = some v) (hfit : cs.length ≤ cur.size) (h1 : ∀ v ∈ cs, v.oneCell' = true) :
  (Builtin.copy_ #[dT, sT] ty #[.slice (some ⟨g, 0, none⟩) dLen dCap, .slice (some a) sLen sCap]).run Tryz.prog w =
   .ok (goInt (Nat.min sLen dLen)) (w.setRow g (cs ++ cur.toList.drop cs.length).toArray) := by
 have hl := run_loadCells_list (P := Tryz.prog) w a cs hsrc
 have hst := run_storeCells_at Tryz.prog g 0 t cs 0 cur w hg (by simpa using hfit) h1
 rw [hn] at hl
 simp [Builtin.copy_, run_underlying hu, Builtin.lenOf, Builtin.firstCells, sizeOf, typeInfo, hi, hz1, hl, hst]
theorem run_copyZ (w : World) (dT sT ty e : TypeId) (i0 : TypeInfo) (d s : Option Addr) (dc sc : Nat) (hu : Tryz.prog.underlying dT = some (.slice e)) (hi : Tryz.prog.info? e = some i0) :
  (Builtin.copy_ #[dT, sT] ty #[.slice d 0 dc, .slice s 0 sc]).run Tryz.prog w = .ok (goInt 0) w := by
 cases s with
 | none => cases d <;> simp [Builtin.copy_, run_underlying hu, Builtin.lenOf, Builtin.firstCells, sizeOf, typeInfo, hi, storeCells]
 | some a =>
  have hl := run_loadCells_list (P := Tryz.prog) w a [] (by simp)
  simp only [List.length_nil] at hl
  cases d <;> simp [Builtin.copy_, run_underlying hu, Builtin.lenOf, Builtin.firstCells, sizeOf, typeInfo, hi, hl, storeCells]
theorem copyK_own {w : World} (dT sT ty e : TypeId) (i0 : TypeInfo) (k : Nat) (hu : Tryz.prog.underlying dT = some (.slice e)) (hi : Tryz.prog.info? e = some i0) (hz1 : i0.size = k) (B g n : Nat) (s : Option Addr) (sCap : Nat) (cs xs : List Value)
  (hown : w.ownsRow B e k (.slice (some ⟨g, 0, none⟩) n n) n xs) (hcs : cs.length = n * k) (h1 : ∀ v ∈ cs, v.oneCell' = true) (hs : n = 0 ∨ ∃ a, s = some a ∧ ∀ j v, cs[j]? = some v → w.cell? (a.add j) = some v) (w0 : World) (hb : Below B w0 w) :
  ∃ w', (Builtin.copy_ #[dT, sT] ty #[.slice (some ⟨g, 0, none⟩) n n, .slice s n sCap]).run Tryz.prog w = .ok (goInt n) w' ∧ w'.ownsRow B e k (.slice (some ⟨g, 0, none⟩) n n) n cs ∧ Below B w0 w' := by
 rcases hs with rfl | ⟨a, rfl, hsrc⟩
 ·
  refine ⟨w, run_copyZ w dT sT ty e i0 _ _ _ _ hu hi, ?_, hb⟩
  have e1 : cs = [] := List.eq_nil_of_length_eq_zero (by simpa using hcs)
  have e2 : xs = [] := List.eq_nil_of_length_eq_zero (by simpa using hown.1)
  rw [e1, ← e2]; exact hown
 obtain ⟨h1', h2⟩ := hown
 rcases h2 with ⟨h2, _⟩ | ⟨g', cap, cur, h2, hBg, hg, hc1, hc2, hc3, hc4⟩
 ·
  cases h2
 simp only [Value.slice.injEq, Option.some.injEq, Addr.mk.injEq] at h2
 obtain ⟨⟨rfl, _⟩, _, rfl⟩ := h2
 have hrun := run_copyK w dT sT ty e i0 k g n n a n sCap cur _ cs hu hi hz1 hg (by rw [hcs, show Nat.min n n = n from Nat.min_self _]) hsrc (by rw [hcs, hc3]; exact Nat.le_refl _) h1
 rw [show Nat.min n n = n from Nat.min_self _, List.drop_eq_nil_of_le (by rw [hcs, Array.length_toList, hc3]; exact Nat.le_refl _), List.append_nil] at hrun
 refine ⟨_, hrun, ⟨hcs, Or.inr ⟨g, n, cs.toArray, rfl, hBg, setRow_heap w g _ _ _ _ hg, Nat.le_refl _, hc2, by simpa using hcs, ?_⟩⟩, below_setRow hb hBg _⟩
 exact List.take_of_length_le (by rw [List.toList_toArray, hcs]; exact Nat.le_refl _)
theorem els_src {α : Type} {k : Nat} {E : World → Nat → List Value → α → Prop} {f : α → List Value} (hf : ∀ a, (f a).length = k) (hk : 0 < k) (hE : ∀ w B cs a, E w B cs a → cs = f a) {w : World} {B : Nat} {s : Option Addr} {L : List α} (h : Els k E w B s L) : L.length = 0 ∨ ∃ a, s = some a ∧ ∀ j u, (L.flatMap f)[j]? = some u → w.cell? (a.add j) = some u := by
 rcases h with rfl | ⟨b, o, rfl, h1, h2, h3, _⟩
 ·
  exact Or.inl rfl
 refine Or.inr ⟨_, rfl, fun j u hu => ?_⟩
 have hj : j < L.length * k := by
  have := (List.getElem?_eq_some_iff.1 hu).1
  rwa [flat_len hf] at this
 have hd : j / k < L.length := Nat.div_lt_of_lt_mul (by rwa [Nat.mul_comm] at hj)
 obtain ⟨a, ha⟩ := get_some (L := L) (k := j / k) hd
 have hm : j % k < k := Nat.mod_lt _ hk
 have hdm : j / k * k + j % k = j := by rw [Nat.mul_comm]; exact Nat.div_add_mod j k
 have := flat_get hf L (j / k) a ha (j % k) hm
 rw [hdm, hu] at this
 obtain ⟨cs, e1, e2, e3⟩ := h3 _ a ha
 have e4 := hE _ _ _ _ e3
 subst e4
 have := e2 (j % k) u this.symm
 rw [Go.WideShapes.add_plain]
 rw [show o + j / k * k + j % k = o + j by omega] at this
 exact this
theorem vcells_one' (L : List V4) : ∀ u ∈ L.flatMap vcells, u.oneCell' = true := by
 intro u hu
 simp only [List.mem_flatMap] at hu
 obtain ⟨v, _, hv⟩ := hu
 simp only [vcells, List.mem_cons, List.not_mem_nil, or_false] at hv
 rcases hv with rfl | rfl | rfl | rfl <;> rfl
theorem ecells_one' (L : List E2) : ∀ u ∈ ecells L, u.oneCell' = true := by
 intro u hu
 simp only [ecells, List.mem_flatMap] at hu
 obtain ⟨v, _, hv⟩ := hu
 simp only [List.mem_cons, List.not_mem_nil, or_false] at hv
 rcases hv with rfl | rfl <;> rfl
theorem els_okVs {w : World} {B : Nat} {s : Option Addr} {L : List V4} (h : Els 4 cVal w B s L) : okVs L := by
 intro v hv
 obtain ⟨j, hj, rfl⟩ := List.getElem_of_mem hv
 obtain ⟨_, _, _, _, _, hok, _⟩ := eVal_cells h (j := j) (a := L[j]) (by simp [hj])
 exact hok
def NewR (w : World) (f : Value → OR) (e : Ending) (w' : World) : Prop := ∃ v, e = .returned v ∧ (f v).on w' w.heap.size ∧ Below w.heap.size w w'
set_option maxHeartbeats 2000000 in
theorem copiedV_any (s : Option Addr) (c : Nat) (L : List V4) (B : Nat) (w : World) (hL : Els 4 cVal w B s L) (hl : L.length ≤ 1048576) :
  Calls Tryz.prog 104 #[.slice s L.length c] w fun e w' => NewR w (fun v => rV v L) e w' := by
 obtain ⟨i0, hi, hz0, hz1, hz2⟩ := info_parts Tryz.infoV
 go_enter Tryz.func104, Tryz.ntmps104
 go_wp2_with (at_make; refine wpList_make_full _ rfl _ _ 159 rfl w.heap.size 75 i0 (.agg #[.int .i64 0, .int .i64 0, .float .f64 0, .float .f64 0]) 4 Tryz.underlying159 hi hz0 hz1 .i64 .i64 _ _ L.length rfl rfl rfl rfl (by rw [hz2]; omega) (by unfold maxLen; omega) (Nat.le_refl _) ?_)
 intro w1 hown hgrow
 have hbel : Below w.heap.size w w1 := (Below.refl _ w).grown hgrow (Nat.le_refl _) (fun k h => by cases h)
 obtain ⟨w2, hrun, hO, hb2⟩ := copyK_own 159 159 3 75 i0 4 Tryz.underlying159 hi hz1 w.heap.size w.heap.size L.length s c (L.flatMap vcells) _ hown (flat_len (k := 4) (f := vcells) (fun _ => rfl) L) (vcells_one' L) (els_src (k := 4) (E := cVal) (f := vcells) (fun _ => rfl) (by decide) (fun _ _ _ _ h => h.1) (hL.later cVal_keeps hbel)) w hbel
 clear hgrow hi hz0 hz1 hz2 hown hbel; go_wp2_with fail; go_ret; exact ⟨_, rfl, hO, hb2⟩
set_option maxHeartbeats 2000000 in
theorem copiedE_any (s : Option Addr) (c : Nat) (L : List E2) (B : Nat) (w : World) (hL : Els 2 cEnt w B s L) (hl : L.length ≤ 1048576) :
  Calls Tryz.prog 124 #[.slice s L.length c] w fun e w' => NewR w (fun v => rE v L) e w' := by
 obtain ⟨i0, hi, hz0, hz1, hz2⟩ := info_parts Tryz.infoE
 go_enter Tryz.func124, Tryz.ntmps124
 go_wp2_with (at_make; refine wpList_make_full _ rfl _ _ 183 rfl w.heap.size 42 i0 (.agg #[.int .i64 0, .int .i64 0]) 2 Tryz.underlying183 hi hz0 hz1 .i64 .i64 _ _ L.length rfl rfl rfl rfl (by rw [hz2]; omega) (by unfold maxLen; omega) (Nat.le_refl _) ?_)
 intro w1 hown hgrow
 have hbel : Below w.heap.size w w1 := (Below.refl _ w).grown hgrow (Nat.le_refl _) (fun k h => by cases h)
 obtain ⟨w2, hrun, hO, hb2⟩ := copyK_own 183 183 3 42 i0 2 Tryz.underlying183 hi hz1 w.heap.size w.heap.size L.length s c (ecells L) _ hown (ecells_len L) (ecells_one' L) (els_src (α := E2) (k := 2) (E := cEnt) (f := fun p => [.int .i64 p.1, .int .i64 p.2]) (fun _ => rfl) (by decide) (fun _ _ _ _ h => h) (hL.later cEnt_keeps hbel)) w hbel
 clear hgrow hi hz0 hz1 hz2 hown hbel; go_wp2_with fail; go_ret; exact ⟨_, rfl, hO, hb2⟩
theorem run_append_zero (w : World) (ty : TypeId) (b : Option Addr) (c d : Nat) : (Builtin.append_ #[25, 25] ty #[.slice none 0 0, .slice b 0 d]).run Tryz.prog w = .ok (.slice none 0 0) w := by
 obtain ⟨i0, hi, hz0, hz1, hz2⟩ := info_parts Tryz.infoI
 cases b with
 | none => simp [Builtin.append_, run_underlying Tryz.underlying25, sizeOf, typeInfo, hi, Builtin.lenOf, Builtin.firstCells, storeCells]
 | some a =>
  have hl := run_loadCells_list (P := Tryz.prog) w a [] (by simp)
  simp only [List.length_nil] at hl
  simp [Builtin.append_, run_underlying Tryz.underlying25, sizeOf, typeInfo, hi, Builtin.lenOf, Builtin.firstCells, hl, storeCells]
set_option maxRecDepth 100000 in
theorem copyInts_new (s : Option Addr) (c : Nat) (L : List Int) (B : Nat) (w : World) (hL : Els 1 cInt w B s L) (hl : L.length ≤ 1048576) :
  Calls Tryz.prog 123 #[.slice s L.length c] w fun e w' => NewR w (fun v => rI v L) e w' := by
 by_cases h0 : L = []
 ·
  subst h0
  cases s with
  | none =>
   have hrun := run_append_zero w 25 none c c
   go_enter Tryz.func123, Tryz.ntmps123
   go_wp2_with fail; go_ret; exact ⟨_, rfl, World.ownsRow_nil _ _ _ _, Below.refl _ _⟩
  | some a =>
   go_enter Tryz.func123, Tryz.ntmps123
   go_wp2_with fail; go_ret; exact ⟨_, rfl, World.ownsRow_nil _ _ _ _, Below.refl _ _⟩
 rcases hL with h | ⟨b, o, rfl, h⟩
 ·
  exact absurd h h0
 refine (copyInts_any b o c L w (Els.ints (Or.inr ⟨b, o, rfl, h⟩)) hl).mono ?_
 rintro e w' ⟨v, rfl, h1, h2⟩
 exact ⟨v, rfl, h1, h2⟩
end
section
open Go.RowKit
section
variable {P : Program} {md : Region.Mode} {ops : Array Oper} {Q : Exit → Act → World → Prop} {S : World → Prop}
def skipOk (md : Region.Mode) (ops : Array Oper) : List (Nat × Nat) → Array Bool → Act → Bool
 | [], _, _ => true
 | j :: js, listed, a =>
  (match ops[j.1]? with | some o => o.dst == some j.2 && !Region.wanted o (yielded ops a.tmps) | none => false) && Region.free md ops listed j.1 && (Region.ready md ops listed).contains j.1 && skipOk md ops js (listed.setIfInBounds j.1 true) (a.put (some j.2) undef)
theorem wpAnyH_skip (hs : Region.noSelect ops = true) (hQ : ∀ c a (d : Nat) w, Q (.panic c) (a.put (some d) undef) w → Q (.panic c) a w) : ∀ (js : List (Nat × Nat)) (fuel : Nat) (listed : Array Bool) (a : Act) (w : World), S w → skipOk md ops js listed a = true →
  wpAnyH P md ops Q S fuel (js.foldl (fun l j => l.setIfInBounds j.1 true) listed) (js.foldl (fun a j => a.put (some j.2) undef) a) w → ∀ F, F = fuel + js.length → wpAnyH P md ops Q S F listed a w
 | [], fuel, listed, a, w, hS, _, h, F, hF => by
  have : F = fuel := by simpa using hF
  subst this
  simpa using h
 | j :: js, fuel, listed, a, w, hS, hk, h, F, hF => by
  have e : F = (fuel + js.length) + 1 := by rw [hF, List.length_cons]; omega
  subst e
  simp only [skipOk, Bool.and_eq_true] at hk
  obtain ⟨⟨⟨h1, h2⟩, h3⟩, h4⟩ := hk
  cases ho : ops[j.1]? with
  | none => rw [ho] at h1; cases h1
  | some o =>
   rw [ho] at h1
   simp only [Bool.and_eq_true, Bool.not_eq_true', beq_iff_eq] at h1
   obtain ⟨h5, h6⟩ := h1
   refine wpAnyH_take (i := j.1) (oi := o) (v := undef) ho hs h2 h3 (by rw [h5]; exact fun c a w => hQ c a _ w) (Or.inr ⟨h6, rfl⟩) hS ?_
   rw [h5]
   exact wpAnyH_skip hs hQ js fuel _ _ w hS h4 (by simpa only [List.foldl_cons] using h) _ rfl
theorem wpAnyH_one {i d : Nat} {o : Oper} {v : Value} {fuel : Nat} {listed : Array Bool} {a : Act} {w : World} (hi : ops[i]? = some o) (hd : o.dst = some d)
  (hs : Region.noSelect ops = true) (hf : Region.free md ops listed i = true) (hr : (Region.ready md ops listed).contains i = true)
  (hQ : ∀ c a w, Q (.panic c) (a.put (some d) v) w → Q (.panic c) a w) (hw : Region.wanted o (yielded ops a.tmps) = true) (hS : S w) (hv : ∀ w, S w → (execOp a.eval o).run P w = .ok (.value v) w)
  (h : wpAnyH P md ops Q S fuel (listed.setIfInBounds i true) (a.put (some d) v) w) : wpAnyH P md ops Q S (fuel + 1) listed a w :=
 wpAnyH_take (i := i) (oi := o) (v := v) hi hs hf hr (by rw [hd]; exact hQ) (Or.inl ⟨hw, hv⟩) hS (by rw [hd]; exact h)
theorem wpq {v : Value} (i d : Nat) {o : Oper} {fuel : Nat} {listed : Array Bool} {a : Act} {w : World} (hi : ops[i]? = some o) (hd : o.dst = some d) (hv : ∀ w, S w → (execOp a.eval o).run P w = .ok (.value v) w)
 (h : wpAnyH P md ops Q S fuel (listed.setIfInBounds i true) (a.put (some d) v) w) (hs : Region.noSelect ops = true := by kernel_rfl) (hf : Region.free md ops listed i = true := by kernel_rfl) (hr : (Region.ready md ops listed).contains i = true := by kernel_rfl)
 (hQ : ∀ c a w, Q (.panic c) (a.put (some d) v) w → Q (.panic c) a w := by exact fun _ _ _ h => h) (hw : Region.wanted o (yielded ops a.tmps) = true := by rfl) (hS : S w := by assumption) : wpAnyH P md ops Q S (fuel + 1) listed a w :=
 wpAnyH_one hi hd hs hf hr hQ hw hS hv h
theorem zs : (∀ {α β : Type} (f : β → α → β) (b : β), List.foldl f b [] = b) ∧ (∀ {α β : Type} (f : β → α → β) (b : β) (a : α) (l : List α), List.foldl f b (a :: l) = List.foldl f (f b a) l) ∧ (∀ {α : Type} (l : List α) (i : Nat) (a : α), l.toArray.setIfInBounds i a = (l.set i a).toArray) ∧ (∀ {α : Type} (x a : α) (l : List α), (x :: l).set 0 a = a :: l) ∧ (∀ {α : Type} (x a : α) (l : List α) (i : Nat), (x :: l).set (i + 1) a = x :: l.set i a) ∧ ∀ (a : Act) (d : Tmp) (v : Value), a.put (some d) v = ⟨a.tmps.setIfInBounds d v, a.defers⟩ :=
 ⟨fun _ _ => rfl, fun _ _ _ _ => rfl, List.setIfInBounds_toArray, fun _ _ _ => rfl, fun _ _ _ _ => rfl, fun _ _ _ => rfl⟩
theorem wpr {v : Value} (i d : Nat) {o : Oper} {fuel : Nat} {listed : Array Bool} {a : Act} {w : World} (h : wpAnyH P md ops Q S fuel (listed.setIfInBounds i true) (a.put (some d) v) w) (hi : ops[i]? = some o := by rfl) (hd : o.dst = some d := by rfl) (hv : ∀ w, S w → (execOp a.eval o).run P w = .ok (.value v) w := by intro w hSw; (try dsimp only at hSw); go_simp <;> with_reducible rfl)
 (hs : Region.noSelect ops = true := by kernel_rfl) (hf : Region.free md ops listed i = true := by kernel_rfl) (hr : (Region.ready md ops listed).contains i = true := by kernel_rfl)
 (hQ : ∀ c a w, Q (.panic c) (a.put (some d) v) w → Q (.panic c) a w := by exact fun _ _ _ h => h) (hw : Region.wanted o (yielded ops a.tmps) = true := by rfl) (hS : S w := by assumption) : wpAnyH P md ops Q S (fuel + 1) listed a w :=
 wpAnyH_one hi hd hs hf hr hQ hw hS hv h
theorem wpy (i : Nat) {o : Oper} {fuel : Nat} {listed : Array Bool} {a : Act} {w : World} (h : ∀ K' : Act → World → Prop, Shut (∀ a w, S w → (S w → wpAnyH P md ops Q S fuel (listed.setIfInBounds i true) a w) → K' a w) → if Region.wanted o (yielded ops a.tmps) = true then Oper.wp P o a w K' Q else K' (a.put o.dst undef) w) (ho : ops[i]? = some o := by rfl) (hr : Region.ready md ops listed = [i] := by kernel_rfl) : wpAnyH P md ops Q S (fuel + 1) listed a w := wpAnyH_ready hr (by simp) (AllReadyH.cons ho h AllReadyH.nil)
end
end
end Go.Proofs.YtbgeobpdojmdaaaGreat
