import Derived.Test.YtncknfkinmjmdaaGreatDoorSp41
namespace Go.Proofs.YtncknfkinmjmdaaGreatDoor
set_option linter.unusedVariables false
set_option linter.unusedSimpArgs false
section
open Go.RowKit
set_option maxRecDepth 100000
def pAll (s : ByteArray) : PRes := if (lexAll s).1 = 0 then PAR (lexAll s).2.2 (s.size : Int) (.tops []) 0 [] else .error (1, (lexAll s).2.1)
theorem OT.tks {w : World} {B g cap : Nat} {L : List Tk} (h : OT w B (.slice (some ⟨g, 0, none⟩) L.length cap) L) : Tks w g L := by
 intro j t hj
 have hl : j < L.length := (List.getElem?_eq_some_iff.1 hj).1
 have hc : ∀ i, i < 5 → (L.flatMap tcells)[j * 5 + i]? = (tcells t)[i]? := fun i hi => flat_get (k := 5) (f := tcells) (fun a => rfl) L j t hj i hi
 have hat : ∀ i, i < 5 → w.cell? ⟨g, j * 5 + i, none⟩ = (tcells t)[i]? := fun i hi => by
  rw [← hc i hi]
  exact World.ownsRow.cellAt h (j * 5 + i) (by omega)
 exact ⟨hat 0 (by omega), hat 1 (by omega), hat 2 (by omega), hat 3 (by omega), hat 4 (by omega)⟩
theorem Blk.same2 {w w' : World} {n : Nat} {c : Array Value} {t : TypeId} (h : Blk w n c t) (hb : w'.heap[n]? = w.heap[n]?) : Blk w' n c t := by unfold Blk; rw [hb]; exact h
theorem Rs.base {w X W : World} {R : List OR} (h : Rs X X.heap.size W R) (hb : Below w.heap.size w X) : Rs w w.heap.size W R :=
 ⟨bl_trans hb h.l, h.o.mono hb.size, Nat.le_trans hb.size h.s⟩
theorem OkT.base {w X w' : World} {r : PRes} {e : Ending} (h : OkT X r e w') (hb : Below w.heap.size w X) : OkT w r e w' := by
 unfold OkT at h ⊢
 split
 ·
  obtain ⟨v, Q, s, c, h1, h2, h3⟩ := h
  exact ⟨v, Q, s, c, h1, h2, h3.base hb⟩
 exact ⟨h.1, bl_trans hb h.2⟩
set_option maxHeartbeats 8000000 in
theorem implParse_any (s : ByteArray) (w : World) (hL : Laid w) (h20 : 9 ≤ w.heap.size) :
  Calls Tryz.prog 5 #[.string s] w (OkT w (pAll s)) := by
 have hal := alloc_old
 have haf := alloc_oldf
 have b0 : Below w.heap.size w (w.alloc (.cells #[.slice none 0 0, .slice none 0 0] 25)) := bl_alloc (Below.refl _ _) _
 have k0 := Blk.new w #[.slice none 0 0, .slice none 0 0] 25
 obtain ⟨Tg, hTg⟩ : ∃ r, Hid (pAll s = r) := ⟨_, rfl⟩
 rw [hTg.out]
 go_enter Tryz.func5, Tryz.ntmps5
 go_wp2_with fail; refine (implLex_any s _).mono ?_
 rintro e w1 ⟨⟨sl, cp, c, p, L, rfl, hLA, hO, hlen⟩, b1⟩
 have L1 := hid (bl_trans b0 b1)
 have K1 := hid (k0.later b1)
 have hgT : Hid (∀ t ∈ L, gT t) := by
  have := lexAll_gT s
  rw [hLA] at this
  exact this
 have hA : Hid (pAll s = if c = 0 then PAR L (s.size : Int) (.tops []) 0 [] else .error (1, p)) := by
  show _ = _
  unfold pAll
  rw [hLA]
 rw [hTg.out] at hA
 have O1 := hid hO
 have LY := hid hL
 clear b0 b1 k0 hLA hO hTg hL; by_cases hc : c = 0
 ·
  subst hc
  have hF := hA.out
  rw [if_pos rfl] at hF
  have HF := hid hF
  clear hF hA; have hne : ((0 : Int) != 0) = false := rfl
  have B2 : Below w1.heap.size w1 (w1.alloc (.cells #[.int .i64 0, .int .i64 (s.size : Int), .string ⟨#[]⟩, .int .i64 0, .float .f64 0] 47)) := bl_alloc (Below.refl _ _) _
  have KT := hid (Blk.new w1 #[.int .i64 0, .int .i64 (s.size : Int), .string ⟨#[]⟩, .int .i64 0, .float .f64 0] 47)
  have O2 := hid (O1.out.later B2)
  have K2 := hid (K1.out.later B2)
  have L2 := hid (bl_trans L1.out B2)
  have n0 : Hid (w.heap.size < w1.heap.size) := K1.out.lt
  obtain ⟨TT, hTT⟩ : ∃ TT, Hid (L ++ [((0, (s.size : Int), ⟨#[]⟩, 0, 0) : Tk)] = TT) := ⟨_, rfl⟩
  clear B2 L1 K1 O1; go_wp2_with (at_builtin; refine wpList_append_tok rfl _ _ rfl (w.heap.size + 1) sl cp L rfl (O2.out.mono (by simp)) w1.heap.size (0, (s.size : Int), ⟨#[]⟩, 0, 0) rfl KT.out TT hTT.out (by omega) (by have := n0.out; simp; omega) ?_; intro s' c' w4 hO4 hg4 hn4)
  have lTT : TT.length = L.length + 1 := by rw [← hTT.out]; simp
  obtain ⟨g4, rfl⟩ : ∃ g4, s' = some ⟨g4, 0, none⟩ := by
   rcases hO4.form with ⟨e1, e2⟩ | ⟨g4, cap4, e1, _⟩
   ·
    rw [e2] at lTT; simp at lTT
   simp only [Value.slice.injEq] at e1; exact ⟨g4, e1.1⟩
  have L4 : Below w.heap.size w w4 := L2.out.grown hg4 L2.out.size (fun q hq => by have := (O2.out.lt q hq).1; simp at this; omega)
  have K4 : Blk w4 w.heap.size #[.slice none 0 0, .slice none 0 0] 25 := by
   have hb := hg4.block w.heap.size (by have := n0.out; simp; omega) (fun e => by have := (O2.out.lt _ e.symm).1; rw [World.size_alloc] at this; omega)
   exact hb.trans K2.out
  have hw : wEnd L (s.size : Int) = TT := hTT.out
  have EV : Env L (s.size : Int) w4 w4.heap.size g4 := ⟨by rw [hw]; exact hO4.tks, (hO4.lt g4 rfl).2, hlen, by have := L4.size; omega, LY.out.later L4, gT_z hgT.out⟩
  have n4 : Hid (w.heap.size < w4.heap.size) := K4.lt
  have K4 := hid K4
  have L4 := hid L4
  rw [lTT]
  clear O2 K2 L2 KT hO4 hg4 hn4 hw; refine (readTree_of L (s.size : Int) w4 g4 c' EV (gT_NW hgT.out)).mono ?_
  rw [← HF.out]
  clear HF EV LY; intro e w5 h5
  rcases Tg with ⟨c5, a5⟩ | ⟨x5, j5, M5⟩
  ·
   obtain ⟨rfl, b5⟩ := h5
   have K5 := K4.out.same2 (b5.block w.heap.size n4.out)
   have L5 := bl_trans L4.out b5
   obtain ⟨x0, x1, x2⟩ := K5.two
   have K6 := (K5.set 0 (.slice none 0 0)).set 1 (.slice none 0 0)
   have L6 := hid ((L5.setCell (p := ⟨w.heap.size, 0, none⟩) (Nat.le_refl _) (.slice none 0 0)).setCell (p := ⟨w.heap.size, 1, none⟩) (Nat.le_refl _) (.slice none 0 0))
   have y0 : ((w5.setCell ⟨w.heap.size, 0, none⟩ (.slice none 0 0)).setCell ⟨w.heap.size, 1, none⟩ (.slice none 0 0)).cell? ⟨w.heap.size, 0, none⟩ = some (.slice none 0 0) := K6.cell 0
   have y1 : ((w5.setCell ⟨w.heap.size, 0, none⟩ (.slice none 0 0)).setCell ⟨w.heap.size, 1, none⟩ (.slice none 0 0)).cell? ⟨w.heap.size, 1, none⟩ = some (.slice none 0 0) := K6.cell 1
   clear K5 K6 L5 b5; go_wp2_with fail; generalize (w5.setCell ⟨w.heap.size, 0, none⟩ (.slice none 0 0)).setCell ⟨w.heap.size, 1, none⟩ (.slice none 0 0) = W6 at L6 y0 y1 ⊢
   refine bodyPost_ret (v := .tuple #[.agg #[.slice none 0 0, .slice none 0 0], .int .i64 c5, .int .i64 a5]) (by simp [results, Tryz.results5, go_sem, y0, y1]) rfl ⟨rfl, L6.out⟩
  obtain ⟨v5, Q5, s5, c5, rfl, hM5, r5⟩ := h5
  obtain ⟨sv, cv, rfl⟩ : ∃ sv cv, v5 = .slice sv Q5.length cv := by
   have hon : w5.ownsRow w4.heap.size 42 4 v5 Q5.length (Q5.flatMap nc) := r5.at [] _
   rcases hon.2 with ⟨e1, e2⟩ | ⟨gg, cap, cur, e1, _⟩
   ·
    exact ⟨none, 0, by rw [e1, e2]⟩
   exact ⟨_, cap, e1⟩
  have K5 := K4.out.same2 (r5.l.block w.heap.size n4.out)
  have L5 := bl_trans L4.out r5.l
  obtain ⟨x0, x1, x2⟩ := K5.two
  have K6 := (K5.set 0 (.slice sv Q5.length cv)).set 1 (.slice s5 x5.length c5)
  have L6 := hid ((L5.setCell (p := ⟨w.heap.size, 0, none⟩) (Nat.le_refl _) (.slice sv Q5.length cv)).setCell (p := ⟨w.heap.size, 1, none⟩) (Nat.le_refl _) (.slice s5 x5.length c5))
  have o6 := hid (((r5.o.putC (p := ⟨w.heap.size, 0, none⟩) n4.out (.slice sv Q5.length cv)).putC (p := ⟨w.heap.size, 1, none⟩) n4.out (.slice s5 x5.length c5)).mono (Nat.le_of_lt n4.out))
  have y0 : ((w5.setCell ⟨w.heap.size, 0, none⟩ (.slice sv Q5.length cv)).setCell ⟨w.heap.size, 1, none⟩ (.slice s5 x5.length c5)).cell? ⟨w.heap.size, 0, none⟩ = some (.slice sv Q5.length cv) := K6.cell 0
  have y1 : ((w5.setCell ⟨w.heap.size, 0, none⟩ (.slice sv Q5.length cv)).setCell ⟨w.heap.size, 1, none⟩ (.slice s5 x5.length c5)).cell? ⟨w.heap.size, 1, none⟩ = some (.slice s5 x5.length c5) := K6.cell 1
  have HM := hid hM5
  clear K5 K6 L5 r5 hM5; go_wp2_with fail; generalize (w5.setCell ⟨w.heap.size, 0, none⟩ (.slice sv Q5.length cv)).setCell ⟨w.heap.size, 1, none⟩ (.slice s5 x5.length c5) = W6 at L6 o6 y0 y1 ⊢
  refine bodyPost_ret (v := .tuple #[.agg #[.slice sv Q5.length cv, .slice s5 x5.length c5], .int .i64 0, .int .i64 0]) (by simp [results, Tryz.results5, go_sem, y0, y1]) rfl ⟨_, Q5, s5, c5, rfl, HM.out, ⟨L6.out, o6.out, L6.out.size⟩⟩
 have hne : (c != 0) = true := by simpa using hc
 have hF := hA.out
 rw [if_neg hc] at hF
 clear hA hc; subst hF
 obtain ⟨x0, x1, x2⟩ := K1.out.two
 have K2 := (K1.out.set 0 (.slice none 0 0)).set 1 (.slice none 0 0)
 have L2 := hid ((L1.out.setCell (p := ⟨w.heap.size, 0, none⟩) (Nat.le_refl _) (.slice none 0 0)).setCell (p := ⟨w.heap.size, 1, none⟩) (Nat.le_refl _) (.slice none 0 0))
 have y0 : ((w1.setCell ⟨w.heap.size, 0, none⟩ (.slice none 0 0)).setCell ⟨w.heap.size, 1, none⟩ (.slice none 0 0)).cell? ⟨w.heap.size, 0, none⟩ = some (.slice none 0 0) := K2.cell 0
 have y1 : ((w1.setCell ⟨w.heap.size, 0, none⟩ (.slice none 0 0)).setCell ⟨w.heap.size, 1, none⟩ (.slice none 0 0)).cell? ⟨w.heap.size, 1, none⟩ = some (.slice none 0 0) := K2.cell 1
 go_wp2_with fail; generalize (w1.setCell ⟨w.heap.size, 0, none⟩ (.slice none 0 0)).setCell ⟨w.heap.size, 1, none⟩ (.slice none 0 0) = W2 at L2 y0 y1 ⊢
 refine bodyPost_ret (v := .tuple #[.agg #[.slice none 0 0, .slice none 0 0], .int .i64 1, .int .i64 p]) (by simp [results, Tryz.results5, go_sem, y0, y1]) rfl ⟨rfl, L2.out⟩
end
section
open Go.RowKit
set_option maxRecDepth 100000
theorem gT_wm {T : List Tk} (h : ∀ t ∈ T, gT t) : ∀ i s, s ∈ WMs → tx T i = s → kd T i = 2 ∨ kd T i = 5 := by
 intro j b hb he
 have hne : ¬ b = ⟨#[]⟩ := by
  intro e
  subst e
  simp only [WMs, List.mem_cons, List.not_mem_nil, or_false] at hb
  revert hb
  decide
 have hlt : j < T.length := tx_lt he hne
 obtain ⟨t, ht⟩ := get_some hlt
 have h1 := h t (List.mem_of_getElem? ht)
 have e1 : kd T j = t.1 := by unfold kd; rw [ht]; rfl
 have e2 : tx T j = t.2.2.1 := by unfold tx; rw [ht]; rfl
 rw [e1]
 by_cases k1 : t.1 = 1
 ·
  exfalso
  obtain ⟨q1, q2⟩ := h1.2.1 k1
  rw [← e2, he] at q1 q2
  simp only [WMs, List.mem_cons, List.not_mem_nil, or_false] at hb
  rcases hb with rfl | rfl | rfl | rfl | rfl | rfl | rfl | rfl | rfl | rfl | rfl | rfl | rfl | rfl | rfl | rfl | rfl | rfl | rfl | rfl | rfl | rfl | rfl | rfl | rfl | rfl | rfl | rfl | rfl | rfl | rfl | rfl | rfl | rfl | rfl | rfl | rfl | rfl | rfl | rfl | rfl | rfl | rfl | rfl | rfl | rfl | rfl | rfl
  all_goals first | (revert q1; decide) | (revert q2; decide)
 by_cases k3 : t.1 = 3 ∨ t.1 = 4
 ·
  exfalso
  have q3 := h1.2.2 k3
  rw [← e2, he] at q3
  simp only [WMs, List.mem_cons, List.not_mem_nil, or_false] at hb
  rcases hb with rfl | rfl | rfl | rfl | rfl | rfl | rfl | rfl | rfl | rfl | rfl | rfl | rfl | rfl | rfl | rfl | rfl | rfl | rfl | rfl | rfl | rfl | rfl | rfl | rfl | rfl | rfl | rfl | rfl | rfl | rfl | rfl | rfl | rfl | rfl | rfl | rfl | rfl | rfl | rfl | rfl | rfl | rfl | rfl | rfl | rfl | rfl | rfl
  all_goals (revert q3; decide)
 have := h1.1
 omega
end
section
open Go.RowKit
set_option maxRecDepth 100000
theorem OkS.sx {T : List Tk} {E : Int} {X : World} {B k : Nat} {sl : Option Addr} {cp d lo i0 n0 : Nat} {P : List OR} {r Res : PRes} {KT : List Int → Nat → List Nd → PRes} {e : Ending} {w : World} (h : OkS T E X B k sl cp d P r e w) (hr : r.then KT = Res) (hg : Gd2 T lo i0 n0 r) (hn : n0 ≤ 2 * i0) : ∃ x y, x.headD 0 = y ∧ e = .returned (.int .i64 y) ∧ SX T E X B k sl cp lo 0 d P Res (KT x) w := by
 rcases r with ⟨c, a⟩ | ⟨x, j, M⟩
 ·
  obtain ⟨⟨y, rfl⟩, hD⟩ := h
  exact ⟨[y], y, rfl, rfl, Or.inr ⟨c, a, by rw [← hr]; rfl, hD⟩⟩
 obtain ⟨rfl, v, Q, rfl, hR⟩ := h
 obtain ⟨g1, g2, g3⟩ := hg
 simp only [List.length_map] at g3
 exact ⟨x, _, rfl, rfl, Or.inl ⟨j, v, Q, g1, g2, by omega, by rw [← hr]; rfl, hR⟩⟩
set_option maxHeartbeats 16000000 in
theorem specParse_any (s : ByteArray) (w : World) :
  Calls Tryz.prog 4 #[.string s] w (OkT w (pAll s)) := by
 have hal := alloc_old
 have haf := alloc_oldf
 have b0 : Below w.heap.size w (w.alloc (.cells #[.slice none 0 0, .slice none 0 0] 25)) := bl_alloc (Below.refl _ _) _
 have k0 := Blk.new w #[.slice none 0 0, .slice none 0 0] 25
 obtain ⟨Tg, hTg⟩ : ∃ r, Hid (pAll s = r) := ⟨_, rfl⟩
 rw [hTg.out]
 go_enter Tryz.func4, Tryz.ntmps4
 go_wp2_with fail; refine (specLex_any s _).mono ?_
 rintro e w1 ⟨⟨sl, cp, c, p, L, rfl, hLA, hO, hlen⟩, b1⟩
 have L1 := hid (bl_trans b0 b1)
 have K1 := hid (k0.later b1)
 have hgT : Hid (∀ t ∈ L, gT t) := by
  have := lexAll_gT s
  rw [hLA] at this
  exact this
 have hA : Hid (pAll s = if c = 0 then PAR L (s.size : Int) (.tops []) 0 [] else .error (1, p)) := by
  show _ = _
  unfold pAll
  rw [hLA]
 rw [hTg.out] at hA
 have O1 := hid hO
 have n0 : w.heap.size < w1.heap.size := K1.out.lt
 clear b0 b1 k0 hLA hO hTg; by_cases hc : c = 0
 ·
  subst hc
  have hF := hA.out
  rw [if_pos rfl] at hF
  have HF := hid hF.symm
  clear hF hA; have hne : ((0 : Int) != 0) = false := rfl
  obtain ⟨g, SV⟩ : ∃ g, Sv L (s.size : Int) w1 w1.heap.size g sl := by
   rcases O1.out.form with ⟨e1, e2⟩ | ⟨g4, cap4, e1, _⟩
   ·
    subst e2
    exact ⟨0, ⟨fun j t h => by simp at h, by omega, fun h => by simp at h, by simp, gT_wm hgT.out⟩⟩
   simp only [Value.slice.injEq] at e1
   obtain ⟨rfl, _, _⟩ := e1
   exact ⟨g4, ⟨O1.out.tks, (O1.out.lt g4 rfl).2, fun _ => rfl, hlen, gT_wm hgT.out⟩⟩
  have HAll : Hid (∀ j, j ≤ L.length → AllX L (s.size : Int) w1 w1.heap.size w1.heap.size sl cp j) := fun j hj => all_x L (s.size : Int) w1 w1.heap.size w1.heap.size g sl cp SV (L.length + 1) j (by omega) hj
  have Hblock : Hid (∀ j, j ≤ L.length → SaysS L (s.size : Int) w1 w1.heap.size w1.heap.size sl cp 40 13 #[.pointer (some ⟨w1.heap.size, 0, none⟩)] .block j) := fun j hj => (HAll.out j hj).bl
  have s1 := (Rs.nil w1).addB [.slice sl L.length cp, .int .i64 0, .slice none 0 0, .int .i64 0, .int .i64 0, .int .i64 0, .int .i64 (s.size : Int)] 36
  have s2 : Rs w1 w1.heap.size (w1.alloc (.cells #[.slice sl L.length cp, .int .i64 0, .slice none 0 0, .int .i64 0, .int .i64 0, .int .i64 0, .int .i64 (s.size : Int)] 36)) (sR L (s.size : Int) w1.heap.size sl cp 0 0 (.slice none 0 0) [] []) := Rs.ins [rB w1.heap.size 36 [.slice sl L.length cp, .int .i64 0, .slice none 0 0, .int .i64 0, .int .i64 0, .int .i64 0, .int .i64 (s.size : Int)]] [] s1 (Below.refl _ _) (World.ownsRow_nil _ _ _ _)
  have h0 : Hid (SX L (s.size : Int) w1 w1.heap.size w1.heap.size sl cp 0 0 0 [] Tg (fun q N => PAR L (s.size : Int) (.tops []) q N) (w1.alloc (.cells #[.slice sl L.length cp, .int .i64 0, .slice none 0 0, .int .i64 0, .int .i64 0, .int .i64 0, .int .i64 (s.size : Int)] 36))) := Or.inl ⟨0, _, [], Nat.le_refl _, Nat.zero_le _, by simp, HF.out, s2⟩
  have h1 := h0.out.kids [] (by simp)
  rw [al_size] at h1
  have h1 := hid h1
  clear s1 s2 h0 HF HAll; go_wp2_with fail; go_loopw [9] (fun kv wr => ∃ (acc : List Int) (s9 : Option Addr) (c9 : Nat), kv = .slice s9 acc.length c9 ∧ acc.length ≤ 4001 ∧ Hid (SX L (s.size : Int) w1 w1.heap.size w1.heap.size sl cp acc.length 0 0 (rI (.slice s9 acc.length c9) acc :: []) Tg (fun q N => PAR L (s.size : Int) (.tops acc) q N) wr)) (fun _ wr => left L wr w1.heap.size)
  case atStart => exact ⟨[], _, _, rfl, by simp, h1⟩
  obtain ⟨acc, s9, c9, rfl, hac, hb⟩ := hrel
  clear h1; rcases hb.out with ⟨q, v2, Q2, hiq, hqT, hq2, HR, hR2⟩ | ⟨cd, a, HR, hD⟩
  ·
   have HIX := hid (left_live hR2)
   obtain ⟨x0, x1, x2, x3, x4, x5, x6, xf⟩ := (hR2.box [] (rN v2 Q2 :: (rK Q2 ++ (rI (.slice s9 acc.length c9) acc :: [])))).seven
   have hz2 : ((0 : Int) == 0) = true := rfl
   have hR3 := hid hR2
   by_cases hqlt : q < L.length
   ·
    have hqI : (q : Int) < (L.length : Int) := by omega
    dsimp only at HR
    rw [PAR_tops hqT, if_neg (by omega), PAR_top hqT] at HR
    have hgd := PAR_good (T := L) (E := (s.size : Int)) (p := .top) (i := q) (N := Q2.map (·.1)) trivial hqT
    rw [PAR_top hqT] at hgd
    have HG := hid hgd
    have HR0 := hid HR
    clear hR2 hb HR hgd; by_cases hfn : tx L q = bFn
    ·
     have HR1 := HR0.out
     rw [if_pos hfn] at HR1
     have HG1 := HG.out
     rw [if_pos hfn] at HG1
     have HR1 := hid HR1
     have HG1 := hid HG1
     have Hfn := hid hfn
     have Hk2 := hid (SV.m q bFn (by simp [WMs]) hfn)
     clear hfn HR0 HG; go_wp2_with fail; refine (is_yes L (s.size : Int) w1.heap.size g sl cp q 0 v2 Q2 (rI (.slice s9 acc.length c9) acc :: []) w1 w1.heap.size ⟨#[102, 110]⟩ _ SV hR3.out hqT (by omega) hqlt Hfn.out Hk2.out).mono ?_
     rintro e w2 ⟨rfl, r2⟩
     clear x0 x1 x2 x3 x4 x5 x6 xf; obtain ⟨x0, x1, x2, x3, x4, x5, x6, xf⟩ := (r2.box [] (rN v2 Q2 :: (rK Q2 ++ (rI (.slice s9 acc.length c9) acc :: [])))).seven
     have tw : IntKind.i64.wrap ((q : Int) + 1) = (q : Int) + 1 := by rw [IntKind.wrap_i64]; omega
     have h3 : Hid (Rs w1 w1.heap.size (w2.setCell ⟨w1.heap.size, 1, none⟩ (.int .i64 ((q : Int) + 1))) (sR L (s.size : Int) w1.heap.size sl cp (q + 1) 0 v2 Q2 (rI (.slice s9 acc.length c9) acc :: []))) := Hid.mk' (r2.setB [] (rN v2 Q2 :: (rK Q2 ++ (rI (.slice s9 acc.length c9) acc :: []))) 1 (.int .i64 ((q : Int) + 1)))
     clear r2 hR3; go_wp2_with fail; clear x0 x1 x2 x3 x4 x5 x6 xf tw; refine (sfn_of L (s.size : Int) w1.heap.size g sl cp (q + 1) 0 v2 Q2 (rI (.slice s9 acc.length c9) acc :: []) w1 w1.heap.size _ SV h3.out (by omega) (by omega) (by omega) (fun j _ hj => Hblock.out j hj)).mono ?_
     intro e w4 hO4
     obtain ⟨x4, y4, q4, rfl, r4⟩ := hO4.sx HR1.out HG1.out (by simp only [List.length_map]; omega)
     simp only [q4] at r4
     have h4 := hid r4
     clear r4 h3 hO4 HR1 HG1 q4; obtain ⟨R21, e21⟩ : ∃ R, Hid (acc ++ [y4] = R) := ⟨_, rfl⟩
     have l21 : Hid (R21.length = acc.length + 1) := by show _ = _; rw [← e21.out]; simp
     have r := h4.out
     simp only [e21.out] at r
     have g21 := hid r
     clear r h4; go_wp2_with (at_builtin; refine wpList_sx1 g21.out rfl _ _ rfl rfl y4 rfl (by omega) R21 e21.out ?_; intro s21 c21 w21 r21)
     have h21 := hid r21
     clear r21 g21; clear e21; go_roundw
     case rel => exact ⟨R21, s21, c21, rfl, by have := l21.out; omega, h21.out.weak (by have := l21.out; simp only [Pf.lo]; omega) (by omega)⟩
     have := h21.out.left
     simp only [Pf.lo] at this
     rw [HIX.out]
     omega
    have HR1 := HR0.out
    rw [if_neg hfn] at HR1
    have HR1 := hid HR1
    have Hfn := hid hfn
    clear hfn HR0 HG; go_wp2_with fail; refine (is_no L (s.size : Int) w1.heap.size g sl cp q 0 v2 Q2 (rI (.slice s9 acc.length c9) acc :: []) w1 w1.heap.size ⟨#[102, 110]⟩ _ SV hR3.out hqT (by omega) Hfn.out).mono ?_
    rintro e w2 ⟨rfl, r2⟩
    clear x0 x1 x2 x3 x4 x5 x6 xf; have h2 : Hid (SX L (s.size : Int) w1 w1.heap.size w1.heap.size sl cp q 0 0 (rI (.slice s9 acc.length c9) acc :: []) Tg (fun i N => if tx L i = bSystem then pName L (s.size : Int) (i + 1) fun s' j => (PAR L (s.size : Int) (.block 0) j N).then fun y j N => (pNode (nd 34 s' 0 [y.headD 0]) j N).then fun x j N => PAR L (s.size : Int) (.tops (acc ++ [x.headD 0])) j N else .error (2, ta L (s.size : Int) i)) w2) := Or.inl ⟨q, v2, Q2, Nat.le_refl _, hqT, hq2, by rw [← HR1.out, ite_then, pName_then]; simp only [then_then]; rfl, r2⟩
    clear r2 hR3 HR1; go_wp2_with fail; refine (is_x SV bSystem (by simp [WMs]) (by omega) h2.out).mono ?_
    rintro e w21 (⟨rfl, i21, v21, Q21, l21a, l21b, l21c, A21, r21⟩ | ⟨rfl, r21⟩)
    ·
     obtain ⟨x0, x1, x2, x3, x4, x5, x6, xf⟩ := (r21.box [] (rN v21 Q21 :: (rK Q21 ++ (rI (.slice s9 acc.length c9) acc :: [])))).seven
     have tw : IntKind.i64.wrap ((i21 : Int) + 1) = (i21 : Int) + 1 := by have := SV.l; rw [IntKind.wrap_i64]; omega
     have h21 : Hid (SX L (s.size : Int) w1 w1.heap.size w1.heap.size sl cp (i21 + 1) 1 0 (rI (.slice s9 acc.length c9) acc :: []) _ (fun i N => pName L (s.size : Int) i fun s' j => (PAR L (s.size : Int) (.block 0) j N).then fun y j N => (pNode (nd 34 s' 0 [y.headD 0]) j N).then fun x j N => PAR L (s.size : Int) (.tops (acc ++ [x.headD 0])) j N) (w21.setCell ⟨w1.heap.size, 1, none⟩ (.int .i64 ((i21 : Int) + 1)))) := Hid.mk' (Or.inl ⟨i21 + 1, v21, Q21, Nat.le_refl _, by omega, by omega, A21, r21.setB [] (rN v21 Q21 :: (rK Q21 ++ (rI (.slice s9 acc.length c9) acc :: []))) 1 (.int .i64 ((i21 : Int) + 1))⟩)
     clear r21 h2 A21; go_wp2_with fail; clear x0 x1 x2 x3 x4 x5 x6 xf tw; refine (name_x SV (by omega) h21.out).mono ?_
     rintro e w22 ⟨s22, rfl, r22⟩
     have h22 := hid r22
     clear r22 h21; go_wp2_with fail; refine (sub_x (pf := .block) SV (by omega) trivial (fun _ => by simp [Pf.lo]) (fun j _ hj => Hblock.out j hj) (fun c a hD => block_dead L (s.size : Int) w1.heap.size g sl cp _ w1 w1.heap.size c a _ hD) h22.out).mono ?_
     rintro e w23 ⟨x23, y23, q23, rfl, r23⟩
     simp only [q23] at r23
     have h23 := hid r23
     clear r23 h22; clear q23; have r24 := h23.out.kids [y23] (by simp)
     have h24 := hid r24
     clear r24 h23; go_wp2_with fail; refine (node_x (sp := 0) SV 34 0 (s22) [y23] _ _ (h24.out.weak (Nat.le_refl _) (by omega))).mono ?_
     rintro e w25 ⟨x25, y25, q25, rfl, r25⟩
     simp only [q25] at r25
     have h25 := hid r25
     clear r25 h24; clear q25; obtain ⟨R26, e26⟩ : ∃ R, Hid (acc ++ [y25] = R) := ⟨_, rfl⟩
     have l26 : Hid (R26.length = acc.length + 1) := by show _ = _; rw [← e26.out]; simp
     have r := h25.out
     simp only [e26.out] at r
     have g26 := hid r
     clear r h25; go_wp2_with (at_builtin; refine wpList_sx1 g26.out rfl _ _ rfl rfl y25 rfl (by omega) R26 e26.out ?_; intro s26 c26 w26 r26)
     have h26 := hid r26
     clear r26 g26; clear e26; go_roundw
     case rel => exact ⟨R26, s26, c26, rfl, by have := l26.out; omega, h26.out.weak (by have := l26.out; omega) (by omega)⟩
     have := h26.out.left
     rw [HIX.out]
     omega
    have h21 := hid r21
    clear r21 h2; go_wp2_with fail; have hfl : Calls Tryz.prog 15 #[.pointer (some ⟨w1.heap.size, 0, none⟩), .int .i64 2] w21 fun e w' => e = .returned (.int .i64 (-1)) ∧ ∃ c a, Tg = .error (c, a) ∧ sD L (s.size : Int) w1.heap.size sl cp c a w1 w1.heap.size w' (rI (.slice s9 acc.length c9) acc :: []) := by
     rcases h21.out with ⟨i, v, Q, h1, h2, h3, h4, h5⟩ | ⟨c, a, h1, h2⟩
     ·
      refine (fail_live L (s.size : Int) w1.heap.size g sl cp i 0 v Q (rI (.slice s9 acc.length c9) acc :: []) w1 w1.heap.size 2 _ SV h5 h2 (by omega) (by decide)).mono ?_
      rintro e w' ⟨rfl, r⟩
      exact ⟨rfl, _, _, h4.symm, r⟩
     refine (fail_dead L (s.size : Int) w1.heap.size g sl cp (rI (.slice s9 acc.length c9) acc :: []) w1 w1.heap.size c a 2 _ h2).mono ?_
     rintro e w' ⟨rfl, r⟩
     exact ⟨rfl, _, _, h1, r⟩
    refine hfl.mono ?_
    rintro e wf ⟨rfl, cf, af, hTf, rf⟩
    have Hf := hid rf
    have HTf := hid hTf
    clear hfl rf hTf h21; go_wp2_with fail; go_roundw
    case rel => exact ⟨acc, s9, c9, rfl, hac, Or.inr ⟨cf, af, HTf.out, Hf.out⟩⟩
    rw [left_dead Hf.out, HIX.out]
    omega
   have hqI : ¬ (q : Int) < (L.length : Int) := by omega
   dsimp only at HR
   rw [PAR_tops hqT, if_pos (by omega)] at HR
   have HR1 := hid HR
   clear hb HR; obtain ⟨sv, cv, rfl⟩ : ∃ sv cv, v2 = .slice sv Q2.length cv := by
    have hon : wr.ownsRow w1.heap.size 42 4 v2 Q2.length (Q2.flatMap nc) := hR3.out.at [rB w1.heap.size 36 (bP sl L.length cp q v2 0 0 (0 : Nat) (s.size : Int))] _
    rcases hon.2 with ⟨e1, e2⟩ | ⟨gg, cap, cur, e1, _⟩
    ·
     exact ⟨none, 0, by rw [e1, e2]⟩
    exact ⟨_, cap, e1⟩
   have K5 := K1.out.same2 (hR2.l.block w.heap.size n0)
   have L5 := bl_trans L1.out hR2.l
   obtain ⟨y0, y1, y2⟩ := K5.two
   have K6 := (K5.set 0 (.slice sv Q2.length cv)).set 1 (.slice s9 acc.length c9)
   have L6 := hid ((L5.setCell (p := ⟨w.heap.size, 0, none⟩) (Nat.le_refl _) (.slice sv Q2.length cv)).setCell (p := ⟨w.heap.size, 1, none⟩) (Nat.le_refl _) (.slice s9 acc.length c9))
   have r6 := hR2.less [] _
   have o6 := hid (((r6.o.putC (p := ⟨w.heap.size, 0, none⟩) n0 (.slice sv Q2.length cv)).putC (p := ⟨w.heap.size, 1, none⟩) n0 (.slice s9 acc.length c9)).mono (Nat.le_of_lt n0))
   have z0 : ((wr.setCell ⟨w.heap.size, 0, none⟩ (.slice sv Q2.length cv)).setCell ⟨w.heap.size, 1, none⟩ (.slice s9 acc.length c9)).cell? ⟨w.heap.size, 0, none⟩ = some (.slice sv Q2.length cv) := K6.cell 0
   have z1 : ((wr.setCell ⟨w.heap.size, 0, none⟩ (.slice sv Q2.length cv)).setCell ⟨w.heap.size, 1, none⟩ (.slice s9 acc.length c9)).cell? ⟨w.heap.size, 1, none⟩ = some (.slice s9 acc.length c9) := K6.cell 1
   clear K5 K6 L5 r6 hR2; go_wp2_with fail; generalize (wr.setCell ⟨w.heap.size, 0, none⟩ (.slice sv Q2.length cv)).setCell ⟨w.heap.size, 1, none⟩ (.slice s9 acc.length c9) = W6 at L6 o6 z0 z1 ⊢
   rw [← HR1.out]
   refine bodyPost_ret (v := .tuple #[.agg #[.slice sv Q2.length cv, .slice s9 acc.length c9], .int .i64 0, .int .i64 0]) (by simp [results, Tryz.results4, go_sem, z0, z1]) rfl ⟨_, Q2, s9, c9, rfl, rfl, ⟨L6.out, o6.out, L6.out.size⟩⟩
  obtain ⟨hc, i', d', v', Q', r2⟩ := hD
  have KB := r2.box [] (rN v' Q' :: (rK Q' ++ _))
  obtain ⟨x0, x1, x2, x3, x4, x5, x6, xf⟩ := KB.seven
  have hz2 : (cd == 0) = false := by simpa using hc
  have hz3 : (cd != 0) = true := by simpa using hc
  have K5 := K1.out.same2 (r2.l.block w.heap.size n0)
  have L5 := hid (bl_trans L1.out r2.l)
  obtain ⟨y0, y1, y2⟩ := K5.two
  have HR1 := hid HR
  clear r2 hb HR hc; have nk : ¬ w1.heap.size = w.heap.size := by omega
  have nk2 : ¬ w.heap.size = w1.heap.size := by omega
  have K6 := (K5.set 0 (.slice none 0 0)).set 1 (.slice none 0 0)
  have KC := (KB.other (m := w.heap.size) (by omega) 0 (.slice none 0 0)).other (m := w.heap.size) (by omega) 1 (.slice none 0 0)
  obtain ⟨_, _, _, e3, e4, _, _, _⟩ := KC.seven
  have z0 : ((wr.setCell ⟨w.heap.size, 0, none⟩ (.slice none 0 0)).setCell ⟨w.heap.size, 1, none⟩ (.slice none 0 0)).cell? ⟨w.heap.size, 0, none⟩ = some (.slice none 0 0) := K6.cell 0
  have z1 : ((wr.setCell ⟨w.heap.size, 0, none⟩ (.slice none 0 0)).setCell ⟨w.heap.size, 1, none⟩ (.slice none 0 0)).cell? ⟨w.heap.size, 1, none⟩ = some (.slice none 0 0) := K6.cell 1
  have L6 := hid ((L5.out.setCell (p := ⟨w.heap.size, 0, none⟩) (Nat.le_refl _) (.slice none 0 0)).setCell (p := ⟨w.heap.size, 1, none⟩) (Nat.le_refl _) (.slice none 0 0))
  clear KB KC K5 K6; go_wp2_with fail; go_region_held3 (fun w' => w'.cell? ⟨w1.heap.size, 3, none⟩ = some (.int .i64 cd) ∧ w'.cell? ⟨w1.heap.size, 4, none⟩ = some (.int .i64 a)) (first | (simp [x3, x4]; done) | (simp [e3, e4]; done)) (fail)
  go_wp2_with fail; rw [HR1.out]
  refine bodyPost_ret (v := .tuple #[.agg #[.slice none 0 0, .slice none 0 0], .int .i64 cd, .int .i64 a]) (by simp [results, Tryz.results4, go_sem, z0, z1]) rfl ⟨rfl, bl_drew L6.out⟩
 have hne : (c != 0) = true := by simpa using hc
 have hF := hA.out
 rw [if_neg hc] at hF
 clear hA hc; subst hF
 obtain ⟨x0, x1, x2⟩ := K1.out.two
 have K2 := (K1.out.set 0 (.slice none 0 0)).set 1 (.slice none 0 0)
 have L2 := hid ((L1.out.setCell (p := ⟨w.heap.size, 0, none⟩) (Nat.le_refl _) (.slice none 0 0)).setCell (p := ⟨w.heap.size, 1, none⟩) (Nat.le_refl _) (.slice none 0 0))
 have y0 : ((w1.setCell ⟨w.heap.size, 0, none⟩ (.slice none 0 0)).setCell ⟨w.heap.size, 1, none⟩ (.slice none 0 0)).cell? ⟨w.heap.size, 0, none⟩ = some (.slice none 0 0) := K2.cell 0
 have y1 : ((w1.setCell ⟨w.heap.size, 0, none⟩ (.slice none 0 0)).setCell ⟨w.heap.size, 1, none⟩ (.slice none 0 0)).cell? ⟨w.heap.size, 1, none⟩ = some (.slice none 0 0) := K2.cell 1
 go_wp2_with fail; generalize (w1.setCell ⟨w.heap.size, 0, none⟩ (.slice none 0 0)).setCell ⟨w.heap.size, 1, none⟩ (.slice none 0 0) = W2 at L2 y0 y1 ⊢
 refine bodyPost_ret (v := .tuple #[.agg #[.slice none 0 0, .slice none 0 0], .int .i64 1, .int .i64 p]) (by simp [results, Tryz.results4, go_sem, y0, y1]) rfl ⟨rfl, L2.out⟩
end
end Go.Proofs.YtncknfkinmjmdaaGreatDoor
