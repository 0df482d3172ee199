import Derived.Test.YtkihhadcoclnaaaGreatSl19
import Derived.Test.YtkihhadcoclnaaaGreatSl23
import Derived.Test.YtkihhadcoclnaaaGreatSl05
import Derived.Test.YtkihhadcoclnaaaGreatSl13
import Derived.Test.YtkihhadcoclnaaaGreatSl15
import Derived.Test.YtkihhadcoclnaaaGreatSl18
import Derived.Test.YtkihhadcoclnaaaGreatSl17
namespace Go.Proofs.YtkihhadcoclnaaaGreat
section
open Go.RowKit
set_option linter.unusedVariables false
set_option linter.unusedSimpArgs false
abbrev C5 := Int × V4
structure Cm where
 kind : Int
 who : E2
 comp : Int
 val : V4
 list : List C5
def ccells (c : C5) : List Value := [.int .i64 c.1, .int .i64 c.2.1, .int .i64 c.2.2.1, .float .f64 c.2.2.2.1, .float .f64 c.2.2.2.2]
def cCell (w : World) (B : Nat) (cs : List Value) (c : C5) : Prop := cs = ccells c ∧ okV c.2
theorem cCell_keeps : KeepsE cCell := fun _ _ _ _ _ _ h => h
theorem eCell_cells {w : World} {B : Nat} {s : Option Addr} {L : List C5} (h : Els 5 cCell w B s L) {j : Nat} {a : C5} (ha : L[j]? = some a) :
  ∃ b o, s = some ⟨b, o, none⟩ ∧ B ≤ b ∧ b < w.heap.size ∧ okV a.2 ∧ w.cell? ⟨b, o + j * 5, none⟩ = some (.int .i64 a.1) ∧ w.cell? ⟨b, o + j * 5 + 1, none⟩ = some (.int .i64 a.2.1) ∧ w.cell? ⟨b, o + j * 5 + 2, none⟩ = some (.int .i64 a.2.2.1) ∧ w.cell? ⟨b, o + j * 5 + 3, none⟩ = some (.float .f64 a.2.2.2.1) ∧ w.cell? ⟨b, o + j * 5 + 4, none⟩ = some (.float .f64 a.2.2.2.2) := by
 rcases h with rfl | ⟨b, o, rfl, h1, h2, h3, hz⟩
 ·
  simp at ha
 ·
  obtain ⟨cs, e1, e2, e3, e4⟩ := h3 j a ha
  subst e3
  exact ⟨b, o, rfl, h1, h2, e4, e2 0 _ rfl, e2 1 _ rfl, e2 2 _ rfl, e2 3 _ rfl, e2 4 _ rfl⟩
end
section
open Go.RowKit Go.Maps Go.WideMaps
set_option linter.unusedVariables false
set_option linter.unusedSimpArgs false
set_option maxRecDepth 100000
theorem take_map_succ {L : List C5} {k : Nat} {a : C5} (h : L[k]? = some a) : (L.take (k + 1)).map (·.1) = (L.take k).map (·.1) ++ [a.1] := by
 rw [List.take_add_one, h]; simp
set_option maxHeartbeats 2000000 in
theorem compsOf_any (s : Option Addr) (c : Nat) (L : List C5) (B : Nat) (w : World) (hL : Els 5 cCell w B s L) (hl : L.length ≤ 1048576) :
  Calls Tryz.prog 105 #[.slice s L.length c] w fun e w' => ∃ v, e = .returned v ∧ VRow w' w.heap.size v (L.map (·.1)) ∧ Below w.heap.size w w' := by
 have hal := alloc_old
 have haf := alloc_oldf
 obtain ⟨i0, hi, hz0, hz1, hz2⟩ := info_parts Tryz.infoI
 go_enter Tryz.func105, Tryz.ntmps105
 go_wp2_with fail
 go_loopw [3, 8] (fun v i wr => ∃ (k : Nat) (M : List Int), k ≤ L.length ∧ i = .int .i64 k ∧ Hid (M = (L.take k).map (·.1) ∧ VRow wr w.heap.size v M ∧ Below w.heap.size w wr)) (fun _ i _ => L.length - (intOf i).toNat)
 case atStart => exact ⟨0, [], Nat.zero_le _, rfl, by simp, by simpa [VRow] using World.ownsRow_nil _ _ _ _, Below.refl _ _⟩
 case round =>
  obtain ⟨k, M, hk, rfl, hN⟩ := hrel
  by_cases hlt : k < L.length
  ·
   obtain ⟨a, ha⟩ := get_some hlt
   obtain ⟨b, o, rfl, _, hp, ok, e0, e1, e2, e3, e4⟩ := eCell_cells (hL.later cCell_keeps hN.out.2.2) ha
   have HM : Hid (M ++ [a.1] = (L.take (k + 1)).map (·.1)) := by show _ = _; rw [take_map_succ ha, ← hN.out.1]
   have hlm : M.length ≤ 1048576 := by rw [hN.out.1]; simp; omega
   clear ha ok hL
   go_wp2_with (at_builtin; refine wpList_append_own _ rfl _ _ 25 rfl w.heap.size 3 i0 (.int .i64 0) 1 8 Tryz.underlying25 hi hz0 hz1 hz2 rfl (by decide) _ _ _ rfl (World.ownsRow.alloc (World.ownsRow.alloc hN.out.2.1 _) _) ⟨wr.heap.size + 1, 0, none⟩ 1 1 [.int .i64 a.1] rfl rfl ?c1 ?c2 ?c3 ?c4 ?c5 ?_)
   case c1 =>
    intro i u hi
    match i, hi with
    | 0, hi => simp at hi; subst hi; simp [Addr.add]
   case c2 => intro u hu; simp at hu; subst hu; rfl
   case c3 => unfold maxLen; omega
   case c4 => omega
   case c5 => have := hN.out.2.2.size; simp; omega
   intro v' w3 hown' hgrow _
   have L1 : Below w.heap.size w ((wr.alloc (.cells #[.int .i64 a.1, .int .i64 a.2.1, .int .i64 a.2.2.1, .float .f64 a.2.2.2.1, .float .f64 a.2.2.2.2] 103)).alloc (.cells #[.int .i64 a.1] 3)) := bl_alloc (bl_alloc hN.out.2.2 _) _
   have hr' : Hid (M ++ [a.1] = (L.take (k + 1)).map (·.1) ∧ VRow w3 w.heap.size v' (M ++ [a.1]) ∧ Below w.heap.size w w3) := by
    refine ⟨HM.out, ?_, L1.grown hgrow L1.size (fun q h => (World.ownsRow.lt hN.out.2.1 q h).1)⟩
    unfold VRow
    rw [List.length_append, List.map_append]
    exact hown'
   clear hown' hgrow L1 hN
   go_wp2_with fail
   go_roundw
   case rel => exact ⟨k + 1, M ++ [a.1], by omega, by go_num, hr'⟩
   case measure => simp [intOf]; omega
  ·
   have hm' : k = L.length := by omega
   subst hm'
   go_wp2_with fail
   go_ret
   refine ⟨_, rfl, ?_, hN.out.2.2⟩
   have e := hN.out.1
   rw [List.take_length] at e
   rw [← e]
   exact hN.out.2.1
end
section
open Go.RowKit Go.Maps Go.WideMaps
set_option linter.unusedVariables false
set_option linter.unusedSimpArgs false
set_option maxRecDepth 100000
structure OWf (V : WV) (W : Wd) : Prop where
 len : V.ts.length = W.tabs.length
 lens : ∀ (j : Nat) t T, V.ts[j]? = some t → W.tabs[j]? = some T → t.xs.length = T.cells.length
 okc : ∀ T ∈ W.tabs, ∀ L ∈ T.cells, okVs L
 okr : okVs W.res
theorem OW.f {w : World} {B : Nat} {V : WV} {W : Wd} (h : OW w B V W) : OWf V W := ⟨h.len, h.lens, h.okc, h.okr⟩
theorem OWf.ow {w : World} {B : Nat} {V : WV} {W : Wd} (h : OWf V W) (ho : Owns w B (rW V W)) : OW w B V W := ⟨ho, h.len, h.lens, h.okc, h.okr⟩
theorem OW.shape {w : World} {B : Nat} {V : WV} {W : Wd} (h : OW w B V W) : ∃ a1 c1 a2 c2 a3 c3 a4 c4 ts, V = ⟨.slice a1 W.gens.length c1, .slice a2 W.free.length c2, .slice a3 W.tabs.length c3, .slice a4 W.res.length c4, ts⟩ := by
 obtain ⟨a1, c1, a2, c2, a3, c3, a4, c4, e1, e2, e3, e4, _⟩ := h.inW
 obtain ⟨Vg, Vf, Vt, Vr, ts⟩ := V
 dsimp only at e1 e2 e3 e4
 subst e1 e2 e3 e4
 exact ⟨_, _, _, _, _, _, _, _, _, rfl⟩
def brd (bb : Nat) (V : WV) (mb : Option Nat) : OR := rB bb 90 [V.g, V.f, V.t, V.r, .map mb]
def OpenSays (A B C : List (ByteArray × Int)) (W : Wd) (w : World) (e : Ending) (w' : World) : Prop :=
 ∃ (bb : Nat) (V : WV) (mb : Option Nat), e = .returned (.tuple #[.pointer (some ⟨bb, 0, none⟩), .bool (standB A B C W)]) ∧ Rs w w.heap.size w' (brd bb V mb :: rW V W) ∧ OWf V W ∧
  (standB A B C W = true → ∃ b n f, mb = some b ∧ SM w' b n f ∧ Std (listB W.gens W.free) W.tabs (rowsOf W.tabs) f ∧ ¬ b ∈ blks (brd bb V mb :: rW V W) ∧ w.heap.size ≤ b ∧ n ≤ 1099512676352)
set_option maxHeartbeats 4000000 in
theorem openBoard_any (s1 s2 s3 : Option Addr) (c1 c2 c3 : Nat) (A B C : List (ByteArray × Int)) (a1 a2 a3 a4 : Option Addr) (b1 b2 b3 b4 : Nat) (W : Wd) (w : World) (hA : Decls w s1 A) (hB : Decls w s2 B) (hC : Decls w s3 C) (nm : ∀ i, i < (A ++ B ++ C).length → (dAt (A ++ B ++ C) i).1.size ≤ maxLen) (l1 : A.length ≤ 1048576) (l2 : B.length ≤ 1048576) (l3 : C.length ≤ 1048576)
  (hW : InW w 0 a1 a2 a3 a4 W) (hk : kW W) (hcap : W.tabs.length ≤ b3) (bR : ∀ t ∈ W.tabs, ∀ x ∈ t.rows, bE x) :
  Calls Tryz.prog 40 #[.agg #[.slice s1 A.length c1, .slice s2 B.length c2, .slice s3 C.length c3], .agg #[.slice a1 W.gens.length b1, .slice a2 W.free.length b2, .slice a3 W.tabs.length b3, .slice a4 W.res.length b4]] w fun e w' => OpenSays A B C W w e w' := by
 have hal := alloc_old
 have haf := alloc_oldf
 obtain ⟨k0, k1, L0⟩ := boxWE' w #[.slice s1 A.length c1, .slice s2 B.length c2, .slice s3 C.length c3] #[.slice a1 W.gens.length b1, .slice a2 W.free.length b2, .slice a3 W.tabs.length b3, .slice a4 W.res.length b4] 45 40
 go_enter Tryz.func40, Tryz.ntmps40
 go_wp2_with fail
 generalize hX : (w.alloc (.cells #[.slice s1 A.length c1, .slice s2 B.length c2, .slice s3 C.length c3] 45)).alloc (.cells #[.slice a1 W.gens.length b1, .slice a2 W.free.length b2, .slice a3 W.tabs.length b3, .slice a4 W.res.length b4] 40) = X at k0 k1 L0 ⊢
 clear hX
 refine (standsOf_any s1 s2 s3 c1 c2 c3 A B C a1 a2 a3 a4 b1 b2 b3 b4 W _ (hA.later L0) (hB.later L0) (hC.later L0) nm l1 l2 l3 (hW.later L0) hk hcap bR).mono ?_
 rintro e w1 ⟨⟨v, rfl, hv, mb, rfl⟩, hb1⟩
 have L1 := bl_trans L0 hb1
 have hsz0 := L0.size
 have K1 := k1.later hb1
 obtain ⟨x0, x1, x2, x3, x4⟩ := K1.four'
 have HV := Hid.mk' hv
 clear k0 k1 hb1 hA hB hC nm bR hv
 go_wp2_with fail
 refine (copyWorld_new a1 a2 a3 a4 b1 b2 b3 b4 W 0 _ (hW.later L1) hk).mono ?_
 rintro e w2 ⟨⟨V, rfl, hO⟩, hb2⟩
 obtain ⟨g1, d1, g2, d2, g3, d3, g4, d4, ts, rfl⟩ := hO.shape
 have L2 := bl_trans L1 hb2
 have hsz := L1.size
 have hR : Hid (Rs w w.heap.size (w2.alloc (.cells #[.slice g1 W.gens.length d1, .slice g2 W.free.length d2, .slice g3 W.tabs.length d3, .slice g4 W.res.length d4, .map mb] 90)) (brd w2.heap.size ⟨.slice g1 W.gens.length d1, .slice g2 W.free.length d2, .slice g3 W.tabs.length d3, .slice g4 W.res.length d4, ts⟩ mb :: rW ⟨.slice g1 W.gens.length d1, .slice g2 W.free.length d2, .slice g3 W.tabs.length d3, .slice g4 W.res.length d4, ts⟩ W)) := by
  have h0 : Rs w w.heap.size w2 (rW ⟨.slice g1 W.gens.length d1, .slice g2 W.free.length d2, .slice g3 W.tabs.length d3, .slice g4 W.res.length d4, ts⟩ W) := ⟨L2, hO.own.mono hsz, L2.size⟩
  exact Rs.ins [] _ h0 (bl_alloc (Below.refl _ w2) _) (blk_rB (Blk.new w2 _ _) (Nat.le_refl _))
 have HS : Hid (standB A B C W = true → ∃ b n f, mb = some b ∧ SM (w2.alloc (.cells #[.slice g1 W.gens.length d1, .slice g2 W.free.length d2, .slice g3 W.tabs.length d3, .slice g4 W.res.length d4, .map mb] 90)) b n f ∧ Std (listB W.gens W.free) W.tabs (rowsOf W.tabs) f ∧ ¬ b ∈ blks (brd w2.heap.size ⟨.slice g1 W.gens.length d1, .slice g2 W.free.length d2, .slice g3 W.tabs.length d3, .slice g4 W.res.length d4, ts⟩ mb :: rW ⟨.slice g1 W.gens.length d1, .slice g2 W.free.length d2, .slice g3 W.tabs.length d3, .slice g4 W.res.length d4, ts⟩ W) ∧ w.heap.size ≤ b ∧ n ≤ 1099512676352) := by
  intro hst
  obtain ⟨b, n, f, e, hM, hS, hfr, hnn⟩ := HV.out hst
  simp only [Value.map.injEq] at e
  refine ⟨b, n, f, e, (hM.later hb2).later (bl_alloc (Below.refl _ _) _), hS, ?_, Nat.le_trans hsz0 hfr, hnn⟩
  have hlt := hM.lt
  rw [blks_cons]
  intro hm
  rcases List.mem_append.1 hm with h | h
  ·
   simp [brd, rB, Value.ownBlock] at h
   have := hb2.size
   omega
  ·
   have := (hO.own.lt h).1
   omega
 have HF := Hid.mk' hO.f
 clear hO hb2 x0 x1 x2 x3 x4 K1 HV hW
 go_wp2_with fail
 refine bodyPost_ret (v := .tuple #[.pointer (some ⟨w2.heap.size, 0, none⟩), .bool (standB A B C W)]) (by simp [results, Tryz.results40, go_sem]) rfl ⟨_, _, mb, rfl, hR.out, HF.out, HS.out⟩
end
section
open Go.RowKit
set_option linter.unusedVariables false
set_option linter.unusedSimpArgs false
set_option maxRecDepth 100000
def wI (k : Int) (n : Nat) : List Int := (List.range n).map fun (i : Nat) => k + (i : Int)
def wE (k : Int) (n : Nat) : List E2 := (List.range n).map fun (i : Nat) => (k + 2 * (i : Int), k + 2 * (i : Int) + 1)
def wV1 (k : Int) : V4 := (k, k + 1, floatOfInt .f64 (k + 1 + 1), floatOfInt .f64 (k + 1 + 1 + 1))
def wV (k : Int) (n : Nat) : List V4 := (List.range n).map fun (i : Nat) => wV1 (k + 4 * (i : Int))
theorem wI_len (k : Int) (n : Nat) : (wI k n).length = n := by simp [wI]
theorem wE_len (k : Int) (n : Nat) : (wE k n).length = n := by simp [wE]
theorem wV_len (k : Int) (n : Nat) : (wV k n).length = n := by simp [wV]
theorem wI_succ (k : Int) (n : Nat) : wI k (n + 1) = wI k n ++ [k + (n : Int)] := by simp [wI, List.range_succ]
theorem wE_succ (k : Int) (n : Nat) : wE k (n + 1) = wE k n ++ [(k + 2 * (n : Int), k + 2 * (n : Int) + 1)] := by simp [wE, List.range_succ]
theorem wV_succ (k : Int) (n : Nat) : wV k (n + 1) = wV k n ++ [wV1 (k + 4 * (n : Int))] := by simp [wV, List.range_succ]
theorem wI_at (k : Int) (n j : Nat) (h : j < n) : (wI k n)[j]? = some (k + (j : Int)) := by simp [wI, h]
theorem wE_at (k : Int) (n j : Nat) (h : j < n) : (wE k n)[j]? = some (k + 2 * (j : Int), k + 2 * (j : Int) + 1) := by simp [wE, h]
theorem wV_at (k : Int) (n j : Nat) (h : j < n) : (wV k n)[j]? = some (wV1 (k + 4 * (j : Int))) := by simp [wV, h]
theorem ofInt_numW (n : Int) : nanB (floatOfInt .f64 n) = false := by
 rw [nanB_def, decide_eq_false_iff_not]
 have h : ∃ neg r, floatOfInt .f64 n = Ieee.double.word neg r ∧ r ≤ 9218868437227405312 := by
  unfold floatOfInt FloatKind.nearest FloatKind.encode
  show ∃ neg r, Ieee.Format.write Ieee.double _ = _ ∧ _
  unfold Ieee.Format.write Ieee.Format.nearest
  dsimp only
  split
  ·
   exact ⟨_, 0, rfl, by omega⟩
  ·
   refine ⟨_, _, rfl, ?_⟩
   have := ir
   rw [← ir]
   exact Nat.min_le_right _ _
 obtain ⟨neg, r, e, hr⟩ := h
 rw [e]
 unfold Ieee.Format.word
 rw [sw]
 split <;> omega
theorem ofInt_ltW (n : Int) : floatOfInt .f64 n < 18446744073709551616 := by
 have h : ∃ neg r, floatOfInt .f64 n = Ieee.double.word neg r ∧ r ≤ 9218868437227405312 := by
  unfold floatOfInt FloatKind.nearest FloatKind.encode
  show ∃ neg r, Ieee.Format.write Ieee.double _ = _ ∧ _
  unfold Ieee.Format.write Ieee.Format.nearest
  dsimp only
  split
  ·
   exact ⟨_, 0, rfl, by omega⟩
  ·
   refine ⟨_, _, rfl, ?_⟩
   have := ir
   rw [← ir]
   exact Nat.min_le_right _ _
 obtain ⟨neg, r, e, hr⟩ := h
 rw [e]
 unfold Ieee.Format.word
 rw [sw]
 split <;> omega
theorem okVs_wV {k : Int} {n : Nat} (h0 : 0 ≤ k) (h1 : k + 4 * (n : Int) ≤ 9223372036854775807) : okVs (wV k n) := by
 intro v hv
 simp only [wV, List.mem_map, List.mem_range] at hv
 obtain ⟨i, hi, rfl⟩ := hv
 exact ⟨⟨by show _ ≤ k + 4 * (i : Int) + 1; omega, by show k + 4 * (i : Int) + 1 ≤ _; omega⟩, ofInt_ltW _, ofInt_ltW _⟩
def MkR (w : World) (B : Nat) (v : Value) (r : OR) (w' : World) : Prop := r.on w' B ∧ w.grownBy w' v.ownBlock
theorem drop_get {α : Type} {L : List α} {m : Nat} {p : α} (h : L[m]? = some p) : L.drop m = p :: L.drop (m + 1) := by
 obtain ⟨hlt, rfl⟩ := List.getElem?_eq_some_iff.1 h
 exact List.drop_eq_getElem_cons hlt
theorem grow_set {w w' : World} {g : Nat} (h : w.grownBy w' (some g)) (o : Nat) (u : Value) : w.grownBy (w'.setCell ⟨g, o, none⟩ u) (some g) :=
 grown_trans h ⟨rfl, rfl, rfl, by simp, fun k hk hne => Below.heap_setCell w' ⟨g, o, none⟩ u k (by dsimp only; exact fun e => hne (by rw [e]))⟩
theorem own_put1 {w : World} {B g n cap : Nat} {T : TypeId} {K : Nat} {A C : List Value} {x u : Value} {i : Nat} (h : w.ownsRow B T K (.slice (some ⟨g, 0, none⟩) n cap) n (A ++ x :: C)) (hi : i = A.length) : (w.setCell ⟨g, i, none⟩ u).ownsRow B T K (.slice (some ⟨g, 0, none⟩) n cap) n (A ++ u :: C) := by
 have := (World.ownsRow.stored h i u).1
 rw [hi, List.set_append_right _ _ (Nat.le_refl _), Nat.sub_self, List.set_cons_zero] at this
 rw [hi]; exact this
set_option maxHeartbeats 2000000 in
theorem markI_o (s : Option Addr) (c : Nat) (L : List Int) (B : Nat) (k : Int) (w : World) (h : (rI (.slice s L.length c) L).on w B) (hl : L.length ≤ 1048576) (k0 : 0 ≤ k) (k1 : k ≤ 9000000000000000000) :
  Calls Tryz.prog 94 #[.slice s L.length c, .int .i64 k] w fun e w' => e = .returned (.int .i64 (k + (L.length : Int))) ∧ MkR w B (.slice s L.length c) (rI (.slice s L.length c) (wI k L.length)) w' := by
 have h0 : w.ownsRow B 3 1 (.slice s L.length c) L.length (L.map (Value.int .i64)) := h
 rcases Go.Joins.ownsRow_forms h0 with ⟨e, hz⟩ | ⟨g, cap, e⟩
 ·
  have e0 := List.length_eq_zero_iff.1 hz
  subst e0
  go_enter Tryz.func94, Tryz.ntmps94
  go_wp2_with fail
  go_loop [1, 5] (fun x i => x = .int .i64 k ∧ i = .int .i64 0) (fun _ _ => 0)
  case atStart => exact ⟨rfl, rfl⟩
  case round =>
   obtain ⟨rfl, rfl⟩ := hrel
   go_wp2_with fail
   go_ret
   exact ⟨by simp, h, grown_refl _ _⟩
 ·
  cases e
  go_enter Tryz.func94, Tryz.ntmps94
  go_wp2_with fail
  go_loopw [1, 5] (fun x i wr => ∃ m : Nat, m ≤ L.length ∧ i = .int .i64 m ∧ x = .int .i64 (k + (m : Int)) ∧ Hid (wr.ownsRow B 3 1 (.slice (some ⟨g, 0, none⟩) L.length c) L.length ((wI k m ++ L.drop m).map (Value.int .i64)) ∧ w.grownBy wr (some g))) (fun _ i _ => L.length - (intOf i).toNat)
  case atStart => exact ⟨0, Nat.zero_le _, rfl, by simp, by simpa [wI] using h0, grown_refl _ _⟩
  case round =>
   obtain ⟨m, hm, rfl, rfl, hrow⟩ := hrel
   by_cases hlt : m < L.length
   ·
    obtain ⟨p, hp⟩ := get_some hlt
    have hr := hrow.out.1
    rw [drop_get hp, List.map_append, List.map_cons] at hr
    have hc := World.ownsRow.cellAt hr m (by omega)
    rw [List.getElem?_append_right (by simp [wI_len])] at hc
    simp [wI_len] at hc
    have hf := World.ownsRow.frozenAt hr m
    have hput := own_put1 (i := m) (u := .int .i64 (k + (m : Int))) hr (by simp [wI_len])
    have HP : Hid ((wr.setCell ⟨g, m, none⟩ (.int .i64 (k + (m : Int)))).ownsRow B 3 1 (.slice (some ⟨g, 0, none⟩) L.length c) L.length ((wI k (m + 1) ++ L.drop (m + 1)).map (Value.int .i64)) ∧ w.grownBy (wr.setCell ⟨g, m, none⟩ (.int .i64 (k + (m : Int)))) (some g)) := by
     refine ⟨?_, grow_set hrow.out.2 _ _⟩
     rw [wI_succ]; simpa using hput
    clear hput hr hrow hp h h0
    go_wp2_with fail
    go_roundw
    case rel => exact ⟨m + 1, by omega, by go_num, by congr 1; simp; omega, HP⟩
    case measure => simp [intOf]; omega
   ·
    have hm' : m = L.length := by omega
    subst hm'
    have hr := hrow.out
    rw [List.drop_length, List.append_nil] at hr
    go_wp2_with fail
    go_ret
    refine ⟨rfl, ?_, hr.2⟩
    show World.ownsRow _ _ _ _ _ (wI k L.length).length _
    rw [wI_len]; exact hr.1
set_option maxHeartbeats 2000000 in
theorem markE_o (s : Option Addr) (c : Nat) (L : List E2) (B : Nat) (k : Int) (w : World) (h : (rE (.slice s L.length c) L).on w B) (hl : L.length ≤ 1048576) (k0 : 0 ≤ k) (k1 : k ≤ 9000000000000000000) :
  Calls Tryz.prog 95 #[.slice s L.length c, .int .i64 k] w fun e w' => e = .returned (.int .i64 (k + 2 * (L.length : Int))) ∧ MkR w B (.slice s L.length c) (rE (.slice s L.length c) (wE k L.length)) w' := by
 have h0 : w.ownsRow B 48 2 (.slice s L.length c) L.length (ecells L) := h
 rcases Go.Joins.ownsRow_forms h0 with ⟨e, hz⟩ | ⟨g, cap, e⟩
 ·
  have e0 := List.length_eq_zero_iff.1 hz
  subst e0
  go_enter Tryz.func95, Tryz.ntmps95
  go_wp2_with fail
  go_loop [1, 5] (fun x i => x = .int .i64 k ∧ i = .int .i64 0) (fun _ _ => 0)
  case atStart => exact ⟨rfl, rfl⟩
  case round =>
   obtain ⟨rfl, rfl⟩ := hrel
   go_wp2_with fail
   go_ret
   exact ⟨by simp, h, grown_refl _ _⟩
 ·
  cases e
  go_enter Tryz.func95, Tryz.ntmps95
  go_wp2_with fail
  go_loopw [1, 5] (fun x i wr => ∃ m : Nat, m ≤ L.length ∧ i = .int .i64 m ∧ x = .int .i64 (k + 2 * (m : Int)) ∧ Hid (wr.ownsRow B 48 2 (.slice (some ⟨g, 0, none⟩) L.length c) L.length (ecells (wE k m ++ L.drop m)) ∧ w.grownBy wr (some g))) (fun _ i _ => L.length - (intOf i).toNat)
  case atStart => exact ⟨0, Nat.zero_le _, rfl, by simp, by simpa [wE] using h0, grown_refl _ _⟩
  case round =>
   obtain ⟨m, hm, rfl, rfl, hrow⟩ := hrel
   by_cases hlt : m < L.length
   ·
    obtain ⟨p, hp⟩ := get_some hlt
    have hr := hrow.out.1
    have ea : (ecells (wE k m)).length = m * 2 := by rw [ecells_len, wE_len]
    rw [drop_get hp, ecells_app, show ecells (p :: L.drop (m + 1)) = .int .i64 p.1 :: .int .i64 p.2 :: ecells (L.drop (m + 1)) from rfl] at hr
    have hc := World.ownsRow.cellAt hr (m * 2) (by omega)
    have hc2 := World.ownsRow.cellAt hr (m * 2 + 1) (by omega)
    rw [List.getElem?_append_right (by omega), ea] at hc hc2
    simp at hc hc2
    have hf := World.ownsRow.frozenAt hr (m * 2)
    have hf2 := World.ownsRow.frozenAt hr (m * 2 + 1)
    have hput := own_put1 (i := m * 2) (u := .int .i64 (k + 2 * (m : Int))) hr ea.symm
    rw [show ecells (wE k m) ++ .int .i64 (k + 2 * (m : Int)) :: .int .i64 p.2 :: ecells (L.drop (m + 1)) = (ecells (wE k m) ++ [.int .i64 (k + 2 * (m : Int))]) ++ .int .i64 p.2 :: ecells (L.drop (m + 1)) by simp] at hput
    have hput := own_put1 (i := m * 2 + 1) (u := .int .i64 (k + 2 * (m : Int) + 1)) hput (by simp [ea])
    have HP : Hid (((wr.setCell ⟨g, m * 2, none⟩ (.int .i64 (k + 2 * (m : Int)))).setCell ⟨g, m * 2 + 1, none⟩ (.int .i64 (k + 2 * (m : Int) + 1))).ownsRow B 48 2 (.slice (some ⟨g, 0, none⟩) L.length c) L.length (ecells (wE k (m + 1) ++ L.drop (m + 1))) ∧ w.grownBy ((wr.setCell ⟨g, m * 2, none⟩ (.int .i64 (k + 2 * (m : Int)))).setCell ⟨g, m * 2 + 1, none⟩ (.int .i64 (k + 2 * (m : Int) + 1))) (some g)) := by
     refine ⟨?_, grow_set (grow_set hrow.out.2 _ _) _ _⟩
     rw [wE_succ, List.append_assoc, ecells_app]
     rw [List.append_assoc] at hput
     exact hput
    clear hput hr hrow hp h h0 ea
    obtain ⟨p1, p2⟩ := p
    go_wp2_with fail
    go_roundw
    case rel => exact ⟨m + 1, by omega, by go_num, by congr 1; simp; omega, HP⟩
    case measure => simp [intOf]; omega
   ·
    have hm' : m = L.length := by omega
    subst hm'
    have hr := hrow.out
    rw [List.drop_length, List.append_nil] at hr
    go_wp2_with fail
    go_ret
    refine ⟨rfl, ?_, hr.2⟩
    show World.ownsRow _ _ _ _ _ (wE k L.length).length _
    rw [wE_len]; exact hr.1
set_option maxHeartbeats 4000000 in
theorem markV_o (s : Option Addr) (c : Nat) (L : List V4) (B : Nat) (k : Int) (w : World) (h : (rV (.slice s L.length c) L).on w B) (hl : L.length ≤ 1048576) (k0 : 0 ≤ k) (k1 : k ≤ 9000000000000000000) :
  Calls Tryz.prog 50 #[.slice s L.length c, .int .i64 k] w fun e w' => e = .returned (.int .i64 (k + 4 * (L.length : Int))) ∧ MkR w B (.slice s L.length c) (rV (.slice s L.length c) (wV k L.length)) w' := by
 have h0 : w.ownsRow B 59 4 (.slice s L.length c) L.length (L.flatMap vcells) := h
 rcases Go.Joins.ownsRow_forms h0 with ⟨e, hz⟩ | ⟨g, cap, e⟩
 ·
  have e0 := List.length_eq_zero_iff.1 hz
  subst e0
  go_enter Tryz.func50, Tryz.ntmps50
  go_wp2_with fail
  go_loop [1, 5] (fun x i => x = .int .i64 k ∧ i = .int .i64 0) (fun _ _ => 0)
  case atStart => exact ⟨rfl, rfl⟩
  case round =>
   obtain ⟨rfl, rfl⟩ := hrel
   go_wp2_with fail
   go_ret
   exact ⟨by simp, h, grown_refl _ _⟩
 ·
  cases e
  go_enter Tryz.func50, Tryz.ntmps50
  go_wp2_with fail
  go_loopw [1, 5] (fun x i wr => ∃ m : Nat, m ≤ L.length ∧ i = .int .i64 m ∧ x = .int .i64 (k + 4 * (m : Int)) ∧ Hid (wr.ownsRow B 59 4 (.slice (some ⟨g, 0, none⟩) L.length c) L.length ((wV k m ++ L.drop m).flatMap vcells) ∧ w.grownBy wr (some g))) (fun _ i _ => L.length - (intOf i).toNat)
  case atStart => exact ⟨0, Nat.zero_le _, rfl, by simp, by simpa [wV] using h0, grown_refl _ _⟩
  case round =>
   obtain ⟨m, hm, rfl, rfl, hrow⟩ := hrel
   by_cases hlt : m < L.length
   ·
    obtain ⟨p, hp⟩ := get_some hlt
    have hr := hrow.out.1
    have ea : ((wV k m).flatMap vcells).length = m * 4 := by rw [flat_len (k := 4) (f := vcells) (fun _ => rfl), wV_len]
    rw [drop_get hp, List.flatMap_append, List.flatMap_cons, show vcells p = [.int .i64 p.1, .int .i64 p.2.1, .float .f64 p.2.2.1, .float .f64 p.2.2.2] from rfl] at hr
    simp only [List.cons_append, List.nil_append] at hr
    have hc0 := World.ownsRow.cellAt hr (m * 4) (by omega)
    have hc1 := World.ownsRow.cellAt hr (m * 4 + 1) (by omega)
    have hc2 := World.ownsRow.cellAt hr (m * 4 + 2) (by omega)
    have hc3 := World.ownsRow.cellAt hr (m * 4 + 3) (by omega)
    rw [List.getElem?_append_right (by omega), ea] at hc0 hc1 hc2 hc3
    simp at hc0 hc1 hc2 hc3
    have hf0 := World.ownsRow.frozenAt hr (m * 4)
    have hf1 := World.ownsRow.frozenAt hr (m * 4 + 1)
    have hf2 := World.ownsRow.frozenAt hr (m * 4 + 2)
    have hf3 := World.ownsRow.frozenAt hr (m * 4 + 3)
    have hput := own_put1 (i := m * 4) (u := .int .i64 (k + 4 * (m : Int))) hr ea.symm
    rw [List.append_cons] at hput
    have hput := own_put1 (i := m * 4 + 1) (u := .int .i64 (k + 4 * (m : Int) + 1)) hput (by simp [ea])
    rw [List.append_cons] at hput
    have hput := own_put1 (i := m * 4 + 2) (u := .float .f64 (floatOfInt .f64 (k + 4 * (m : Int) + 1 + 1))) hput (by simp [ea])
    rw [List.append_cons] at hput
    have hput := own_put1 (i := m * 4 + 3) (u := .float .f64 (floatOfInt .f64 (k + 4 * (m : Int) + 1 + 1 + 1))) hput (by simp [ea])
    have HP : Hid (((((wr.setCell ⟨g, m * 4, none⟩ (.int .i64 (k + 4 * (m : Int)))).setCell ⟨g, m * 4 + 1, none⟩ (.int .i64 (k + 4 * (m : Int) + 1))).setCell ⟨g, m * 4 + 2, none⟩ (.float .f64 (floatOfInt .f64 (k + 4 * (m : Int) + 1 + 1)))).setCell ⟨g, m * 4 + 3, none⟩ (.float .f64 (floatOfInt .f64 (k + 4 * (m : Int) + 1 + 1 + 1)))).ownsRow B 59 4 (.slice (some ⟨g, 0, none⟩) L.length c) L.length ((wV k (m + 1) ++ L.drop (m + 1)).flatMap vcells) ∧ w.grownBy ((((wr.setCell ⟨g, m * 4, none⟩ (.int .i64 (k + 4 * (m : Int)))).setCell ⟨g, m * 4 + 1, none⟩ (.int .i64 (k + 4 * (m : Int) + 1))).setCell ⟨g, m * 4 + 2, none⟩ (.float .f64 (floatOfInt .f64 (k + 4 * (m : Int) + 1 + 1)))).setCell ⟨g, m * 4 + 3, none⟩ (.float .f64 (floatOfInt .f64 (k + 4 * (m : Int) + 1 + 1 + 1)))) (some g)) := by
     refine ⟨?_, grow_set (grow_set (grow_set (grow_set hrow.out.2 _ _) _ _) _ _) _ _⟩
     rw [wV_succ, List.append_assoc, List.flatMap_append]
     simp only [List.append_assoc, List.singleton_append] at hput
     exact hput
    clear hput hr hrow hp h h0 ea
    obtain ⟨p1, p2, p3, p4⟩ := p
    go_wp2_with fail
    go_roundw
    case rel => exact ⟨m + 1, by omega, by go_num, by congr 1; simp; omega, HP⟩
    case measure => simp [intOf]; omega
   ·
    have hm' : m = L.length := by omega
    subst hm'
    have hr := hrow.out
    rw [List.drop_length, List.append_nil] at hr
    go_wp2_with fail
    go_ret
    refine ⟨rfl, ?_, hr.2⟩
    show World.ownsRow _ _ _ _ _ (wV k L.length).length _
    rw [wV_len]; exact hr.1
end
end Go.Proofs.YtkihhadcoclnaaaGreat
