import Derived.Test.YtnockfpobpidgaaGreatSl13
import Derived.Deep.RegionLaw
import Derived.Laws.AppendOwn
import Derived.Deep.RegionHeld3
import Derived.Laws.CopyOwn
import Derived.Test.YtnockfpobpidgaaGreatSl01
namespace Go.Proofs.YtnockfpobpidgaaGreat
section
open Go.RowKit
set_option linter.unusedVariables false
def VRow (w : World) (B : Nat) (v : Value) (G : List Int) : Prop := w.ownsRow B 3 1 v G.length (G.map (Value.int .i64))
theorem VRow.later {w w' : World} {B : Nat} {v : Value} {G : List Int} (h : VRow w B v G) (hb : Below w.heap.size w w') : VRow w' B v G := by
 refine World.ownsRow.kept h (show w.grownBy w' none from ⟨hb.os, hb.tape, hb.output, hb.size, fun k hk _ => hb.block k hk⟩) ?_
 cases v.ownBlock with
 | none => exact Or.inl rfl
 | some b => exact Or.inr (by simp)
theorem VRow.mono {w : World} {B B' : Nat} {v : Value} {G : List Int} (h : VRow w B v G) (hB : B' ≤ B) : VRow w B' v G := by
 refine ⟨h.1, ?_⟩
 rcases h.2 with h' | ⟨g, cap', cur, h', hb, r⟩
 ·
  exact Or.inl h'
 ·
  exact Or.inr ⟨g, cap', cur, h', Nat.le_trans hB hb, r⟩
theorem VRow.lt {w : World} {B : Nat} {v : Value} {G : List Int} (h : VRow w B v G) : ∀ k, v.ownBlock = some k → B ≤ k ∧ k < w.heap.size := World.ownsRow.lt h
theorem VRow.form {w : World} {B : Nat} {v : Value} {G : List Int} (h : VRow w B v G) : (v = .slice none 0 0 ∧ G = []) ∨ ∃ g cap, v = .slice (some ⟨g, 0, none⟩) G.length cap ∧ G.length ≤ cap ∧ Row w B (some ⟨g, 0, none⟩) G.length cap G := by
 rcases h.2 with ⟨h1, h2⟩ | ⟨g, cap, cur, rfl, hb, hg, hc, r⟩
 ·
  exact Or.inl ⟨h1, List.length_eq_zero_iff.1 h2⟩
 ·
  exact Or.inr ⟨g, cap, rfl, hc, h⟩
theorem VRow.slice {w : World} {B : Nat} {v : Value} {G : List Int} (h : VRow w B v G) : ∃ s c, v = .slice s G.length c ∧ Ints w s G := by
 rcases h.form with ⟨rfl, rfl⟩ | ⟨g, cap, rfl, _, hr⟩
 ·
  exact ⟨none, 0, rfl, Or.inl rfl⟩
 ·
  exact ⟨_, cap, rfl, hr.ints.1⟩
theorem ints_cells {w : World} {pb po : Nat} {G : List Int} (h : Ints w (some ⟨pb, po, none⟩) G) : ∀ j u, (G.map (Value.int .i64))[j]? = some u → w.cell? ((⟨pb, po, none⟩ : Addr).add j) = some u := by
 intro j u hu
 have hj : j < G.length := by
  have := (List.getElem?_eq_some_iff.1 hu).1
  simpa using this
 rcases h with rfl | ⟨pb', po', he, _, hc⟩
 ·
  simp at hj
 ·
  simp only [Option.some.injEq, Addr.mk.injEq, and_true] at he
  obtain ⟨rfl, rfl⟩ := he
  have e : (⟨pb, po, none⟩ : Addr).add j = ⟨pb, po + j, none⟩ := by simp [Addr.add]
  rw [e, hc j hj]
  simp [hj] at hu
  subst hu
  simp [hj]
theorem ints_one (G : List Int) : ∀ u ∈ G.map (Value.int .i64), u.oneCell' = true := by
 intro u hu
 obtain ⟨x, _, rfl⟩ := List.mem_map.1 hu
 rfl
set_option maxHeartbeats 2000000 in
theorem copyInts_any (pb po c : Nat) (G : List Int) (w : World) (hG : Ints w (some ⟨pb, po, none⟩) G) (hl : G.length ≤ 1048576) :
  Calls Tryz.prog 161 #[.slice (some ⟨pb, po, none⟩) G.length c] w fun e w' => ∃ v, e = .returned v ∧ VRow w' w.heap.size v G ∧ Below w.heap.size w w' := by
 obtain ⟨i0, hi, hz0, hz1, hz2⟩ := info_parts Tryz.infoI
 go_enter Tryz.func161, Tryz.ntmps161
 go_wp2_with (at_builtin; refine wpList_append_own _ rfl _ _ 25 rfl w.heap.size 3 i0 (.int .i64 0) 1 8 Tryz.underlying25 hi hz0 hz1 hz2 rfl (by decide) _ _ _ rfl (World.ownsRow_nil _ _ _ _) ⟨pb, po, none⟩ G.length c (G.map (Value.int .i64)) rfl (by simp) (ints_cells hG) (ints_one G) (by unfold maxLen; omega) (by omega) (Nat.le_refl _) ?_)
 intro v' w1 hown hgrow _
 have hv : VRow w1 w.heap.size v' G := by
  unfold VRow
  simpa using hown
 have hb : Below w.heap.size w w1 := (Below.refl _ w).grown hgrow (Nat.le_refl _) (fun k h => by simp [Value.ownBlock] at h)
 clear hown hgrow
 go_wp2_with fail
 go_ret
 exact ⟨v', rfl, hv, hb⟩
end
section
open Go.RowKit
set_option linter.unusedVariables false
def Apart (v u : Value) : Prop := ∀ k, v.ownBlock = some k → ¬ u.ownBlock = some k
theorem copyInts_is (pb po c : Nat) (G : List Int) (w : World) (hG : Ints w (some ⟨pb, po, none⟩) G) (hl : G.length ≤ 1048576) :
  Calls Tryz.prog 161 #[.slice (some ⟨pb, po, none⟩) G.length c] w fun e w' => ∃ s c, e = .returned (.slice s G.length c) ∧ VRow w' w.heap.size (.slice s G.length c) G ∧ Below w.heap.size w w' := by
 refine (copyInts_any pb po c G w hG hl).mono ?_
 rintro e w' ⟨v, rfl, hv, hb⟩
 obtain ⟨s, c', rfl, _⟩ := hv.slice
 exact ⟨s, c', rfl, hv, hb⟩
theorem VRow.kept {w w' : World} {B : Nat} {v : Value} {G : List Int} {r : Option Nat} (h : VRow w B v G) (hg : w.grownBy w' r) (hn : ∀ k, v.ownBlock = some k → ¬ r = some k) : VRow w' B v G := by
 refine World.ownsRow.kept h hg ?_
 cases hv : v.ownBlock with
 | none => exact Or.inl rfl
 | some k => exact Or.inr (fun e => hn k hv e.symm)
theorem grown_setCell (w : World) (n o : Nat) (u : Value) : w.grownBy (w.setCell ⟨n, o, none⟩ u) (some n) :=
 ⟨rfl, rfl, rfl, by simp, fun k _ hk => heap_setCell_other w ⟨n, o, none⟩ k u (fun e => hk (by simp [e]))⟩
theorem VRow.other {w : World} {B : Nat} {v : Value} {G : List Int} (h : VRow w B v G) {n : Nat} (hn : ¬ v.ownBlock = some n) (o : Nat) (u : Value) : VRow (w.setCell ⟨n, o, none⟩ u) B v G :=
 h.kept (grown_setCell w n o u) (fun k hk e => hn (by rw [hk]; exact e.symm))
end
section
open Go.RowKit
set_option linter.unusedVariables false
set_option linter.unusedSimpArgs false
theorem run_copyK (w : World) (dT sT ty e : TypeId) (i0 : TypeInfo) (k : Nat) (g dLen dCap : Nat) (a : Addr) (sLen sCap : Nat) (cur : Array Value) (t : TypeId) (cs : List Value)
  (hu : Tryz.prog.underlying dT = some (.slice e)) (hi : Tryz.prog.info? e = some i0) (hz1 : i0.size = k) (hg : w.heap[g]? = some (.cells cur t (0, 0))) (hn : cs.length = Nat.min sLen dLen * k)
  (hsrc : ∀ j v, cs[j]? = some v → w.cell? (a.add j) = some v) (hfit : cs.length ≤ cur.size) (h1 : ∀ v ∈ cs, v.oneCell' = true) :
  (Builtin.copy_ #[dT, sT] ty #[.slice (some ⟨g, 0, none⟩) dLen dCap, .slice (some a) sLen sCap]).run Tryz.prog w =
   .ok (goInt (Nat.min sLen dLen)) (w.setRow g (cs ++ cur.toList.drop cs.length).toArray) := by
 have hl := run_loadCells_list (P := Tryz.prog) w a cs hsrc
 have hst := run_storeCells_at Tryz.prog g 0 t cs 0 cur w hg (by simpa using hfit) h1
 rw [hn] at hl
 simp [Builtin.copy_, run_underlying hu, Builtin.lenOf, Builtin.firstCells, sizeOf, typeInfo, hi, hz1, hl, hst]
theorem run_copyZ (w : World) (dT sT ty e : TypeId) (i0 : TypeInfo) (d s : Option Addr) (dc sc : Nat) (hu : Tryz.prog.underlying dT = some (.slice e)) (hi : Tryz.prog.info? e = some i0) :
  (Builtin.copy_ #[dT, sT] ty #[.slice d 0 dc, .slice s 0 sc]).run Tryz.prog w = .ok (goInt 0) w := by
 cases s with
 | none => cases d <;> simp [Builtin.copy_, run_underlying hu, Builtin.lenOf, Builtin.firstCells, sizeOf, typeInfo, hi, storeCells]
 | some a =>
  have hl := run_loadCells_list (P := Tryz.prog) w a [] (by simp)
  simp only [List.length_nil] at hl
  cases d <;> simp [Builtin.copy_, run_underlying hu, Builtin.lenOf, Builtin.firstCells, sizeOf, typeInfo, hi, hl, storeCells]
theorem copyK_own {w : World} (dT sT ty e : TypeId) (i0 : TypeInfo) (k : Nat) (hu : Tryz.prog.underlying dT = some (.slice e)) (hi : Tryz.prog.info? e = some i0) (hz1 : i0.size = k) (B g n : Nat) (s : Option Addr) (sCap : Nat) (cs xs : List Value)
  (hown : w.ownsRow B e k (.slice (some ⟨g, 0, none⟩) n n) n xs) (hcs : cs.length = n * k) (h1 : ∀ v ∈ cs, v.oneCell' = true) (hs : n = 0 ∨ ∃ a, s = some a ∧ ∀ j v, cs[j]? = some v → w.cell? (a.add j) = some v) (w0 : World) (hb : Below B w0 w) :
  ∃ w', (Builtin.copy_ #[dT, sT] ty #[.slice (some ⟨g, 0, none⟩) n n, .slice s n sCap]).run Tryz.prog w = .ok (goInt n) w' ∧ w'.ownsRow B e k (.slice (some ⟨g, 0, none⟩) n n) n cs ∧ Below B w0 w' := by
 rcases hs with rfl | ⟨a, rfl, hsrc⟩
 ·
  refine ⟨w, run_copyZ w dT sT ty e i0 _ _ _ _ hu hi, ?_, hb⟩
  have e1 : cs = [] := List.eq_nil_of_length_eq_zero (by simpa using hcs)
  have e2 : xs = [] := List.eq_nil_of_length_eq_zero (by simpa using hown.1)
  rw [e1, ← e2]; exact hown
 ·
  obtain ⟨h1', h2⟩ := hown
  rcases h2 with ⟨h2, _⟩ | ⟨g', cap, cur, h2, hBg, hg, hc1, hc2, hc3, hc4⟩
  ·
   cases h2
  ·
   simp only [Value.slice.injEq, Option.some.injEq, Addr.mk.injEq] at h2
   obtain ⟨⟨rfl, _⟩, _, rfl⟩ := h2
   have hrun := run_copyK w dT sT ty e i0 k g n n a n sCap cur _ cs hu hi hz1 hg (by rw [hcs, show Nat.min n n = n from Nat.min_self _]) hsrc (by rw [hcs, hc3]; exact Nat.le_refl _) h1
   rw [show Nat.min n n = n from Nat.min_self _, List.drop_eq_nil_of_le (by rw [hcs, Array.length_toList, hc3]; exact Nat.le_refl _), List.append_nil] at hrun
   refine ⟨_, hrun, ⟨hcs, Or.inr ⟨g, n, cs.toArray, rfl, hBg, setRow_heap w g _ _ _ _ hg, Nat.le_refl _, hc2, by simpa using hcs, ?_⟩⟩, below_setRow hb hBg _⟩
   exact List.take_of_length_le (by rw [List.toList_toArray, hcs]; exact Nat.le_refl _)
theorem els_src {α : Type} {k : Nat} {E : World → Nat → List Value → α → Prop} {f : α → List Value} (hf : ∀ a, (f a).length = k) (hk : 0 < k) (hE : ∀ w B cs a, E w B cs a → cs = f a) {w : World} {B : Nat} {s : Option Addr} {L : List α} (h : Els k E w B s L) : L.length = 0 ∨ ∃ a, s = some a ∧ ∀ j u, (L.flatMap f)[j]? = some u → w.cell? (a.add j) = some u := by
 rcases h with rfl | ⟨b, o, rfl, h1, h2, h3, _⟩
 ·
  exact Or.inl rfl
 ·
  refine Or.inr ⟨_, rfl, fun j u hu => ?_⟩
  have hj : j < L.length * k := by
   have := (List.getElem?_eq_some_iff.1 hu).1
   rwa [flat_len hf] at this
  have hd : j / k < L.length := Nat.div_lt_of_lt_mul (by rwa [Nat.mul_comm] at hj)
  obtain ⟨a, ha⟩ := get_some (L := L) (k := j / k) hd
  have hm : j % k < k := Nat.mod_lt _ hk
  have hdm : j / k * k + j % k = j := by rw [Nat.mul_comm]; exact Nat.div_add_mod j k
  have := flat_get hf L (j / k) a ha (j % k) hm
  rw [hdm, hu] at this
  obtain ⟨cs, e1, e2, e3⟩ := h3 _ a ha
  have e4 := hE _ _ _ _ e3
  subst e4
  have := e2 (j % k) u this.symm
  rw [Go.WideShapes.add_plain]
  rw [show o + j / k * k + j % k = o + j by omega] at this
  exact this
theorem vcells_one' (L : List V4) : ∀ u ∈ L.flatMap vcells, u.oneCell' = true := by
 intro u hu
 simp only [List.mem_flatMap] at hu
 obtain ⟨v, _, hv⟩ := hu
 simp only [vcells, List.mem_cons, List.not_mem_nil, or_false] at hv
 rcases hv with rfl | rfl | rfl | rfl <;> rfl
theorem ecells_one' (L : List E2) : ∀ u ∈ ecells L, u.oneCell' = true := by
 intro u hu
 simp only [ecells, List.mem_flatMap] at hu
 obtain ⟨v, _, hv⟩ := hu
 simp only [List.mem_cons, List.not_mem_nil, or_false] at hv
 rcases hv with rfl | rfl <;> rfl
theorem els_okVs {w : World} {B : Nat} {s : Option Addr} {L : List V4} (h : Els 4 cVal w B s L) : okVs L := by
 intro v hv
 obtain ⟨j, hj, rfl⟩ := List.getElem_of_mem hv
 obtain ⟨_, _, _, _, _, hok, _⟩ := eVal_cells h (j := j) (a := L[j]) (by simp [hj])
 exact hok
def NewR (w : World) (f : Value → OR) (e : Ending) (w' : World) : Prop := ∃ v, e = .returned v ∧ (f v).on w' w.heap.size ∧ Below w.heap.size w w'
set_option maxHeartbeats 2000000 in
theorem copiedV_any (s : Option Addr) (c : Nat) (L : List V4) (B : Nat) (w : World) (hL : Els 4 cVal w B s L) (hl : L.length ≤ 1048576) :
  Calls Tryz.prog 136 #[.slice s L.length c] w fun e w' => NewR w (fun v => rV v L) e w' := by
 obtain ⟨i0, hi, hz0, hz1, hz2⟩ := info_parts Tryz.infoV
 go_enter Tryz.func136, Tryz.ntmps136
 go_wp2_with (at_make; refine wpList_make_full _ rfl _ _ 194 rfl w.heap.size 61 i0 (.agg #[.int .i64 0, .int .i64 0, .float .f64 0, .float .f64 0]) 4 Tryz.underlying194 hi hz0 hz1 .i64 .i64 _ _ L.length rfl rfl rfl rfl (by rw [hz2]; omega) (by unfold maxLen; omega) (Nat.le_refl _) ?_)
 intro w1 hown hgrow
 have hbel : Below w.heap.size w w1 := (Below.refl _ w).grown hgrow (Nat.le_refl _) (fun k h => by cases h)
 obtain ⟨w2, hrun, hO, hb2⟩ := copyK_own 194 194 3 61 i0 4 Tryz.underlying194 hi hz1 w.heap.size w.heap.size L.length s c (L.flatMap vcells) _ hown (flat_len (k := 4) (f := vcells) (fun _ => rfl) L) (vcells_one' L) (els_src (k := 4) (E := cVal) (f := vcells) (fun _ => rfl) (by decide) (fun _ _ _ _ h => h.1) (hL.later cVal_keeps hbel)) w hbel
 clear hgrow hi hz0 hz1 hz2 hown hbel
 go_wp2_with fail
 go_ret
 exact ⟨_, rfl, hO, hb2⟩
set_option maxHeartbeats 2000000 in
theorem copiedE_any (s : Option Addr) (c : Nat) (L : List E2) (B : Nat) (w : World) (hL : Els 2 cEnt w B s L) (hl : L.length ≤ 1048576) :
  Calls Tryz.prog 162 #[.slice s L.length c] w fun e w' => NewR w (fun v => rE v L) e w' := by
 obtain ⟨i0, hi, hz0, hz1, hz2⟩ := info_parts Tryz.infoE
 go_enter Tryz.func162, Tryz.ntmps162
 go_wp2_with (at_make; refine wpList_make_full _ rfl _ _ 197 rfl w.heap.size 48 i0 (.agg #[.int .i64 0, .int .i64 0]) 2 Tryz.underlying197 hi hz0 hz1 .i64 .i64 _ _ L.length rfl rfl rfl rfl (by rw [hz2]; omega) (by unfold maxLen; omega) (Nat.le_refl _) ?_)
 intro w1 hown hgrow
 have hbel : Below w.heap.size w w1 := (Below.refl _ w).grown hgrow (Nat.le_refl _) (fun k h => by cases h)
 obtain ⟨w2, hrun, hO, hb2⟩ := copyK_own 197 197 3 48 i0 2 Tryz.underlying197 hi hz1 w.heap.size w.heap.size L.length s c (ecells L) _ hown (ecells_len L) (ecells_one' L) (els_src (α := E2) (k := 2) (E := cEnt) (f := fun p => [.int .i64 p.1, .int .i64 p.2]) (fun _ => rfl) (by decide) (fun _ _ _ _ h => h) (hL.later cEnt_keeps hbel)) w hbel
 clear hgrow hi hz0 hz1 hz2 hown hbel
 go_wp2_with fail
 go_ret
 exact ⟨_, rfl, hO, hb2⟩
theorem run_append_zero (w : World) (ty : TypeId) (b : Option Addr) (c d : Nat) : (Builtin.append_ #[25, 25] ty #[.slice none 0 0, .slice b 0 d]).run Tryz.prog w = .ok (.slice none 0 0) w := by
 obtain ⟨i0, hi, hz0, hz1, hz2⟩ := info_parts Tryz.infoI
 cases b with
 | none => simp [Builtin.append_, run_underlying Tryz.underlying25, sizeOf, typeInfo, hi, Builtin.lenOf, Builtin.firstCells, storeCells]
 | some a =>
  have hl := run_loadCells_list (P := Tryz.prog) w a [] (by simp)
  simp only [List.length_nil] at hl
  simp [Builtin.append_, run_underlying Tryz.underlying25, sizeOf, typeInfo, hi, Builtin.lenOf, Builtin.firstCells, hl, storeCells]
set_option maxRecDepth 100000 in
theorem copyInts_new (s : Option Addr) (c : Nat) (L : List Int) (B : Nat) (w : World) (hL : Els 1 cInt w B s L) (hl : L.length ≤ 1048576) :
  Calls Tryz.prog 161 #[.slice s L.length c] w fun e w' => NewR w (fun v => rI v L) e w' := by
 by_cases h0 : L = []
 ·
  subst h0
  cases s with
  | none =>
   have hrun := run_append_zero w 25 none c c
   go_enter Tryz.func161, Tryz.ntmps161
   go_wp2_with fail
   go_ret
   exact ⟨_, rfl, World.ownsRow_nil _ _ _ _, Below.refl _ _⟩
  | some a =>
   go_enter Tryz.func161, Tryz.ntmps161
   go_wp2_with fail
   go_ret
   exact ⟨_, rfl, World.ownsRow_nil _ _ _ _, Below.refl _ _⟩
 ·
  rcases hL with h | ⟨b, o, rfl, h⟩
  ·
   exact absurd h h0
  ·
   refine (copyInts_any b o c L w (Els.ints (Or.inr ⟨b, o, rfl, h⟩)) hl).mono ?_
   rintro e w' ⟨v, rfl, h1, h2⟩
   exact ⟨v, rfl, h1, h2⟩
end
section
open Go.RowKit
set_option linter.unusedVariables false
section
variable {P : Program} {md : Region.Mode} {ops : Array Oper} {Q : Exit → Act → World → Prop} {S : World → Prop}
def skipOk (md : Region.Mode) (ops : Array Oper) : List (Nat × Nat) → Array Bool → Act → Bool
 | [], _, _ => true
 | j :: js, listed, a =>
  (match ops[j.1]? with | some o => o.dst == some j.2 && !Region.wanted o (yielded ops a.tmps) | none => false) && Region.free md ops listed j.1 && (Region.ready md ops listed).contains j.1 && skipOk md ops js (listed.setIfInBounds j.1 true) (a.put (some j.2) undef)
theorem wpAnyH_skip (hs : Region.noSelect ops = true) (hQ : ∀ c a (d : Nat) w, Q (.panic c) (a.put (some d) undef) w → Q (.panic c) a w) : ∀ (js : List (Nat × Nat)) (fuel : Nat) (listed : Array Bool) (a : Act) (w : World), S w → skipOk md ops js listed a = true →
  wpAnyH P md ops Q S fuel (js.foldl (fun l j => l.setIfInBounds j.1 true) listed) (js.foldl (fun a j => a.put (some j.2) undef) a) w → ∀ F, F = fuel + js.length → wpAnyH P md ops Q S F listed a w
 | [], fuel, listed, a, w, hS, _, h, F, hF => by
  have : F = fuel := by simpa using hF
  subst this
  simpa using h
 | j :: js, fuel, listed, a, w, hS, hk, h, F, hF => by
  have e : F = (fuel + js.length) + 1 := by rw [hF, List.length_cons]; omega
  subst e
  simp only [skipOk, Bool.and_eq_true] at hk
  obtain ⟨⟨⟨h1, h2⟩, h3⟩, h4⟩ := hk
  cases ho : ops[j.1]? with
  | none => rw [ho] at h1; cases h1
  | some o =>
   rw [ho] at h1
   simp only [Bool.and_eq_true, Bool.not_eq_true', beq_iff_eq] at h1
   obtain ⟨h5, h6⟩ := h1
   refine wpAnyH_take (i := j.1) (oi := o) (v := undef) ho hs h2 h3 (by rw [h5]; exact fun c a w => hQ c a _ w) (Or.inr ⟨h6, rfl⟩) hS ?_
   rw [h5]
   exact wpAnyH_skip hs hQ js fuel _ _ w hS h4 (by simpa only [List.foldl_cons] using h) _ rfl
theorem wpAnyH_one {i d : Nat} {o : Oper} {v : Value} {fuel : Nat} {listed : Array Bool} {a : Act} {w : World} (hi : ops[i]? = some o) (hd : o.dst = some d)
  (hs : Region.noSelect ops = true) (hf : Region.free md ops listed i = true) (hr : (Region.ready md ops listed).contains i = true)
  (hQ : ∀ c a w, Q (.panic c) (a.put (some d) v) w → Q (.panic c) a w) (hw : Region.wanted o (yielded ops a.tmps) = true) (hS : S w) (hv : ∀ w, S w → (execOp a.eval o).run P w = .ok (.value v) w)
  (h : wpAnyH P md ops Q S fuel (listed.setIfInBounds i true) (a.put (some d) v) w) : wpAnyH P md ops Q S (fuel + 1) listed a w :=
 wpAnyH_take (i := i) (oi := o) (v := v) hi hs hf hr (by rw [hd]; exact hQ) (Or.inl ⟨hw, hv⟩) hS (by rw [hd]; exact h)
theorem wq {v : Value} (i d : Nat) {o : Oper} {fuel : Nat} {listed : Array Bool} {a : Act} {w : World} (hi : ops[i]? = some o) (hd : o.dst = some d) (hv : ∀ w, S w → (execOp a.eval o).run P w = .ok (.value v) w)
 (h : wpAnyH P md ops Q S fuel (listed.setIfInBounds i true) (a.put (some d) v) w) (hs : Region.noSelect ops = true := by kernel_rfl) (hf : Region.free md ops listed i = true := by kernel_rfl) (hr : (Region.ready md ops listed).contains i = true := by kernel_rfl)
 (hQ : ∀ c a w, Q (.panic c) (a.put (some d) v) w → Q (.panic c) a w := by exact fun _ _ _ h => h) (hw : Region.wanted o (yielded ops a.tmps) = true := by rfl) (hS : S w := by assumption) : wpAnyH P md ops Q S (fuel + 1) listed a w :=
 wpAnyH_one hi hd hs hf hr hQ hw hS hv h
end
end
section
open Go.RowKit
set_option linter.unusedVariables false
set_option linter.unusedSimpArgs false
theorem boxWE' (w : World) (c d : Array Value) (t u : TypeId) : Blk ((w.alloc (.cells c t)).alloc (.cells d u)) w.heap.size c t ∧ Blk ((w.alloc (.cells c t)).alloc (.cells d u)) (w.heap.size + 1) d u ∧ Below w.heap.size w ((w.alloc (.cells c t)).alloc (.cells d u)) :=
 ⟨(Blk.new w c t).alloc _, Blk.new' _ d u (by simp), bl_alloc (bl_alloc (Below.refl _ _) _) _⟩
theorem setTwo_far {w : World} {n b o : Nat} (u0 u1 : Value) (h : ¬ n = b) : ((w.setCell ⟨n, 0, none⟩ u0).setCell ⟨n, 1, none⟩ u1).cell? ⟨b, o, none⟩ = w.cell? ⟨b, o, none⟩ := by
 rw [World.cell?_setCell_far _ _ _ _ (by simpa using h), World.cell?_setCell_far _ _ _ _ (by simpa using h)]
theorem NewR.sl {w : World} {f : Value → OR} {n : Nat} {e : Ending} {w' : World} (h : NewR w f e w') (hv : ∀ v, (f v).v = v) (hn : ∀ v, (f v).n = n) : ∃ s c, e = .returned (.slice s n c) ∧ (f (.slice s n c)).on w' w.heap.size ∧ Below w.heap.size w w' := by
 obtain ⟨v, rfl, h1, h2⟩ := h
 obtain ⟨s, c, e⟩ := h1.shape
 rw [hv, hn] at e
 subst e
 exact ⟨s, c, rfl, h1, h2⟩
theorem Owns.two {w w' : World} {B : Nat} {r q : OR} (h : r.on w B) (hb : Below w.heap.size w w') (g : q.on w' w.heap.size) (hB : B ≤ w.heap.size) : Owns w' B [r, q] := (Owns.one h).add hb (Owns.one g) hB
theorem Owns.putC {w : World} {B : Nat} {R : List OR} (h : Owns w B R) {p : Addr} (hn : p.block < B) (u : Value) : Owns (w.setCell p u) B R :=
 h.same fun g hg => Below.heap_setCell w p u g (by have := (h.lt hg).1; omega)
set_option maxHeartbeats 2000000 in
theorem copyEnts_new (s1 s2 : Option Addr) (c1 c2 : Nat) (G F : List Int) (B : Nat) (w : World) (h1 : Els 1 cInt w B s1 G) (h2 : Els 1 cInt w B s2 F) (l1 : G.length ≤ 1048576) (l2 : F.length ≤ 1048576) :
  Calls Tryz.prog 135 #[.agg #[.slice s1 G.length c1, .slice s2 F.length c2]] w fun e w' => (∃ sa ca sb cb, e = .returned (.agg #[.slice sa G.length ca, .slice sb F.length cb]) ∧ Owns w' w.heap.size [rI (.slice sa G.length ca) G, rI (.slice sb F.length cb) F]) ∧ Below w.heap.size w w' := by
 have hal := alloc_old
 have haf := alloc_oldf
 obtain ⟨k0, k1, L0⟩ := boxWE' w #[.slice s1 G.length c1, .slice s2 F.length c2] #[.slice none 0 0, .slice none 0 0] 36 36
 obtain ⟨x0, x1, x2⟩ := k0.two
 go_enter Tryz.func135, Tryz.ntmps135
 go_wp2_with fail
 generalize hX : (w.alloc (.cells #[.slice s1 G.length c1, .slice s2 F.length c2] 36)).alloc (.cells #[.slice none 0 0, .slice none 0 0] 36) = X at k0 k1 L0 x0 x1 x2 ⊢
 clear hX
 have K0 : Hid (Blk X w.heap.size #[.slice s1 G.length c1, .slice s2 F.length c2] 36) := k0
 have K1 : Hid (Blk X (w.heap.size + 1) #[.slice none 0 0, .slice none 0 0] 36) := k1
 have h1X := h1.later cInt_keeps L0
 have h2X := h2.later cInt_keeps L0
 clear k0 k1
 go_region_held3 (fun w' => w'.cell? ⟨w.heap.size, 0, none⟩ = some (.slice s1 G.length c1) ∧ w'.cell? ⟨w.heap.size, 1, none⟩ = some (.slice s2 F.length c2)) (first | (simp [x0, x1]; done) | (exact ⟨(setTwo_far _ _ (by omega)).trans x0, (setTwo_far _ _ (by omega)).trans x1⟩))
  (first
   | (go_at_call 161; refine (copyInts_new s2 c2 F B wa (h2X.later cInt_keeps hwa) l2).mono ?_; intro e wb hN; obtain ⟨sb, cb, rfl, hOb, hbb⟩ := NewR.sl (n := F.length) hN (fun _ => rfl) (fun _ => rfl); have hwb : Below X.heap.size X wb := (bl_trans hwa hbb); obtain ⟨x0, x1, x2⟩ := (K0.out.later hwb).two; obtain ⟨y0, y1, y2⟩ := (K1.out.later hwb).two)
   | (go_at_call 161; refine (copyInts_new s1 c1 G B _ (h1X.later cInt_keeps (by (repeat (first | with_reducible exact Below.refl _ _ | with_reducible refine bl_alloc ?_ _ | with_reducible refine bl_drewN ?_ _ | with_reducible refine bl_drew ?_ | with_reducible refine bl_setCell ?_ (by first | exact Nat.le_refl _ | (dsimp only; omega) | (simp <;> omega)) _ | with_reducible refine bl_trans ?_ (by with_reducible assumption))))) l1).mono ?_; intro e wa hN; obtain ⟨sa, ca, rfl, hOa, hba⟩ := NewR.sl (n := G.length) hN (fun _ => rfl) (fun _ => rfl); have hwa : Below X.heap.size X wa := (by (repeat (first | with_reducible exact Below.refl _ _ | with_reducible refine bl_alloc ?_ _ | with_reducible refine bl_drewN ?_ _ | with_reducible refine bl_drew ?_ | with_reducible refine bl_setCell ?_ (by first | exact Nat.le_refl _ | (dsimp only; omega) | (simp <;> omega)) _ | with_reducible refine bl_trans ?_ (by with_reducible assumption)))); obtain ⟨x0, x1, x2⟩ := (K0.out.later hwa).two; obtain ⟨y0, y1, y2⟩ := (K1.out.later hwa).two))
 have lb := K1.out.lt
 have la := hwa.size
 have lw := bl_trans L0 hwb
 have hO := Owns.two hOa hbb hOb (by rw [show X.drew.heap.size = X.heap.size from rfl]; omega)
 rw [show X.drew.heap.size = X.heap.size from rfl] at hO
 clear hOa hOb
 go_wp2_with fail
 refine bodyPost_ret (v := .agg #[.slice sa G.length ca, .slice sb F.length cb]) (by simp [results, Tryz.results135, go_sem, y0, y1]) rfl ⟨⟨sa, ca, sb, cb, rfl, ?_⟩, ?_⟩
 ·
  exact ((hO.putC (by simp <;> omega) _).putC (by simp <;> omega) _).mono (by omega)
 ·
  exact (lw.setCell (by simp <;> omega) _).setCell (by simp <;> omega) _
end
end Go.Proofs.YtnockfpobpidgaaGreat
