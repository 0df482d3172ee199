import Derived.Test.YtkkofminndboaaaGreatDoorSb24
namespace Go.Proofs.YtkkofminndboaaaGreatDoor
set_option linter.unusedVariables false
set_option linter.unusedSimpArgs false
section
open Go.RowKit
set_option maxRecDepth 100000
def pAll (s : ByteArray) : PRes := if (lexAll s).1 = 0 then PAR (lexAll s).2.2 (s.size : Int) (.tops []) 0 [] else .error (1, (lexAll s).2.1)
theorem OT.tks {w : World} {B g cap : Nat} {L : List Tk} (h : OT w B (.slice (some ⟨g, 0, none⟩) L.length cap) L) : Tks w g L := by
 intro j t hj
 have hl : j < L.length := (List.getElem?_eq_some_iff.1 hj).1
 have hc : ∀ i, i < 5 → (L.flatMap tcells)[j * 5 + i]? = (tcells t)[i]? := fun i hi => flat_get (k := 5) (f := tcells) (fun a => rfl) L j t hj i hi
 have hat : ∀ i, i < 5 → w.cell? ⟨g, j * 5 + i, none⟩ = (tcells t)[i]? := fun i hi => by
  rw [← hc i hi]
  exact World.ownsRow.cellAt h (j * 5 + i) (by omega)
 exact ⟨hat 0 (by omega), hat 1 (by omega), hat 2 (by omega), hat 3 (by omega), hat 4 (by omega)⟩
theorem Blk.same2 {w w' : World} {n : Nat} {c : Array Value} {t : TypeId} (h : Blk w n c t) (hb : w'.heap[n]? = w.heap[n]?) : Blk w' n c t := by unfold Blk; rw [hb]; exact h
theorem Rs.base {w X W : World} {R : List OR} (h : Rs X X.heap.size W R) (hb : Below w.heap.size w X) : Rs w w.heap.size W R :=
 ⟨bl_trans hb h.l, h.o.mono hb.size, Nat.le_trans hb.size h.s⟩
theorem OkT.base {w X w' : World} {r : PRes} {e : Ending} (h : OkT X r e w') (hb : Below w.heap.size w X) : OkT w r e w' := by
 unfold OkT at h ⊢
 split
 ·
  obtain ⟨v, Q, s, c, h1, h2, h3⟩ := h
  exact ⟨v, Q, s, c, h1, h2, h3.base hb⟩
 exact ⟨h.1, bl_trans hb h.2⟩
set_option maxHeartbeats 8000000 in
theorem implParse_any (s : ByteArray) (w : World) (hL : Laid w) (h20 : 9 ≤ w.heap.size) :
  Calls Tryz.prog 6 #[.string s] w (OkT w (pAll s)) := by
 have hal := alloc_old
 have haf := alloc_oldf
 have b0 : Below w.heap.size w (w.alloc (.cells #[.slice none 0 0, .slice none 0 0] 27)) := bl_alloc (Below.refl _ _) _
 have k0 := Blk.new w #[.slice none 0 0, .slice none 0 0] 27
 obtain ⟨Tg, hTg⟩ : ∃ r, Hid (pAll s = r) := ⟨_, rfl⟩
 rw [hTg.out]
 go_enter Tryz.func6, Tryz.ntmps6
 go_wp2_with fail; refine (implLex_any s _).mono ?_
 rintro e w1 ⟨⟨sl, cp, c, p, L, rfl, hLA, hO, hlen⟩, b1⟩
 have L1 := hid (bl_trans b0 b1)
 have K1 := hid (k0.later b1)
 have hgT : Hid (∀ t ∈ L, gT t) := by
  have := lexAll_gT s
  rw [hLA] at this
  exact this
 have hA : Hid (pAll s = if c = 0 then PAR L (s.size : Int) (.tops []) 0 [] else .error (1, p)) := by
  show _ = _
  unfold pAll
  rw [hLA]
 rw [hTg.out] at hA
 have O1 := hid hO
 have LY := hid hL
 clear b0 b1 k0 hLA hO hTg hL; by_cases hc : c = 0
 ·
  subst hc
  have hF := hA.out
  rw [if_pos rfl] at hF
  have HF := hid hF
  clear hF hA; have hne : ((0 : Int) != 0) = false := rfl
  have B2 : Below w1.heap.size w1 (w1.alloc (.cells #[.int .i64 0, .int .i64 (s.size : Int), .string ⟨#[]⟩, .int .i64 0, .float .f64 0] 38)) := bl_alloc (Below.refl _ _) _
  have KT := hid (Blk.new w1 #[.int .i64 0, .int .i64 (s.size : Int), .string ⟨#[]⟩, .int .i64 0, .float .f64 0] 38)
  have O2 := hid (O1.out.later B2)
  have K2 := hid (K1.out.later B2)
  have L2 := hid (bl_trans L1.out B2)
  have n0 : Hid (w.heap.size < w1.heap.size) := K1.out.lt
  obtain ⟨TT, hTT⟩ : ∃ TT, Hid (L ++ [((0, (s.size : Int), ⟨#[]⟩, 0, 0) : Tk)] = TT) := ⟨_, rfl⟩
  clear B2 L1 K1 O1; go_wp2_with (at_builtin; refine wpList_append_tok rfl _ _ rfl (w.heap.size + 1) sl cp L rfl (O2.out.mono (by simp)) w1.heap.size (0, (s.size : Int), ⟨#[]⟩, 0, 0) rfl KT.out TT hTT.out (by omega) (by have := n0.out; simp; omega) ?_; intro s' c' w4 hO4 hg4 hn4)
  have lTT : TT.length = L.length + 1 := by rw [← hTT.out]; simp
  obtain ⟨g4, rfl⟩ : ∃ g4, s' = some ⟨g4, 0, none⟩ := by
   rcases hO4.form with ⟨e1, e2⟩ | ⟨g4, cap4, e1, _⟩
   ·
    rw [e2] at lTT; simp at lTT
   simp only [Value.slice.injEq] at e1; exact ⟨g4, e1.1⟩
  have L4 : Below w.heap.size w w4 := L2.out.grown hg4 L2.out.size (fun q hq => by have := (O2.out.lt q hq).1; simp at this; omega)
  have K4 : Blk w4 w.heap.size #[.slice none 0 0, .slice none 0 0] 27 := by
   have hb := hg4.block w.heap.size (by have := n0.out; simp; omega) (fun e => by have := (O2.out.lt _ e.symm).1; rw [World.size_alloc] at this; omega)
   exact hb.trans K2.out
  have hw : wEnd L (s.size : Int) = TT := hTT.out
  have EV : Env L (s.size : Int) w4 w4.heap.size g4 := ⟨by rw [hw]; exact hO4.tks, (hO4.lt g4 rfl).2, hlen, by have := L4.size; omega, LY.out.later L4, gT_z hgT.out⟩
  have n4 : Hid (w.heap.size < w4.heap.size) := K4.lt
  have K4 := hid K4
  have L4 := hid L4
  rw [lTT]
  clear O2 K2 L2 KT hO4 hg4 hn4 hw; refine (readTree_of L (s.size : Int) w4 g4 c' EV (gT_NW hgT.out)).mono ?_
  rw [← HF.out]
  clear HF EV LY; intro e w5 h5
  rcases Tg with ⟨c5, a5⟩ | ⟨x5, j5, M5⟩
  ·
   obtain ⟨rfl, b5⟩ := h5
   have K5 := K4.out.same2 (b5.block w.heap.size n4.out)
   have L5 := bl_trans L4.out b5
   obtain ⟨x0, x1, x2⟩ := K5.two
   have K6 := (K5.set 0 (.slice none 0 0)).set 1 (.slice none 0 0)
   have L6 := hid ((L5.setCell (p := ⟨w.heap.size, 0, none⟩) (Nat.le_refl _) (.slice none 0 0)).setCell (p := ⟨w.heap.size, 1, none⟩) (Nat.le_refl _) (.slice none 0 0))
   have y0 : ((w5.setCell ⟨w.heap.size, 0, none⟩ (.slice none 0 0)).setCell ⟨w.heap.size, 1, none⟩ (.slice none 0 0)).cell? ⟨w.heap.size, 0, none⟩ = some (.slice none 0 0) := K6.cell 0
   have y1 : ((w5.setCell ⟨w.heap.size, 0, none⟩ (.slice none 0 0)).setCell ⟨w.heap.size, 1, none⟩ (.slice none 0 0)).cell? ⟨w.heap.size, 1, none⟩ = some (.slice none 0 0) := K6.cell 1
   clear K5 K6 L5 b5; go_wp2_with fail; generalize (w5.setCell ⟨w.heap.size, 0, none⟩ (.slice none 0 0)).setCell ⟨w.heap.size, 1, none⟩ (.slice none 0 0) = W6 at L6 y0 y1 ⊢
   refine bodyPost_ret (v := .tuple #[.agg #[.slice none 0 0, .slice none 0 0], .int .i64 c5, .int .i64 a5]) (by simp [results, Tryz.results6, go_sem, y0, y1]) rfl ⟨rfl, L6.out⟩
  obtain ⟨v5, Q5, s5, c5, rfl, hM5, r5⟩ := h5
  obtain ⟨sv, cv, rfl⟩ : ∃ sv cv, v5 = .slice sv Q5.length cv := by
   have hon : w5.ownsRow w4.heap.size 42 4 v5 Q5.length (Q5.flatMap nc) := r5.at [] _
   rcases hon.2 with ⟨e1, e2⟩ | ⟨gg, cap, cur, e1, _⟩
   ·
    exact ⟨none, 0, by rw [e1, e2]⟩
   exact ⟨_, cap, e1⟩
  have K5 := K4.out.same2 (r5.l.block w.heap.size n4.out)
  have L5 := bl_trans L4.out r5.l
  obtain ⟨x0, x1, x2⟩ := K5.two
  have K6 := (K5.set 0 (.slice sv Q5.length cv)).set 1 (.slice s5 x5.length c5)
  have L6 := hid ((L5.setCell (p := ⟨w.heap.size, 0, none⟩) (Nat.le_refl _) (.slice sv Q5.length cv)).setCell (p := ⟨w.heap.size, 1, none⟩) (Nat.le_refl _) (.slice s5 x5.length c5))
  have o6 := hid (((r5.o.putC (p := ⟨w.heap.size, 0, none⟩) n4.out (.slice sv Q5.length cv)).putC (p := ⟨w.heap.size, 1, none⟩) n4.out (.slice s5 x5.length c5)).mono (Nat.le_of_lt n4.out))
  have y0 : ((w5.setCell ⟨w.heap.size, 0, none⟩ (.slice sv Q5.length cv)).setCell ⟨w.heap.size, 1, none⟩ (.slice s5 x5.length c5)).cell? ⟨w.heap.size, 0, none⟩ = some (.slice sv Q5.length cv) := K6.cell 0
  have y1 : ((w5.setCell ⟨w.heap.size, 0, none⟩ (.slice sv Q5.length cv)).setCell ⟨w.heap.size, 1, none⟩ (.slice s5 x5.length c5)).cell? ⟨w.heap.size, 1, none⟩ = some (.slice s5 x5.length c5) := K6.cell 1
  have HM := hid hM5
  clear K5 K6 L5 r5 hM5; go_wp2_with fail; generalize (w5.setCell ⟨w.heap.size, 0, none⟩ (.slice sv Q5.length cv)).setCell ⟨w.heap.size, 1, none⟩ (.slice s5 x5.length c5) = W6 at L6 o6 y0 y1 ⊢
  refine bodyPost_ret (v := .tuple #[.agg #[.slice sv Q5.length cv, .slice s5 x5.length c5], .int .i64 0, .int .i64 0]) (by simp [results, Tryz.results6, go_sem, y0, y1]) rfl ⟨_, Q5, s5, c5, rfl, HM.out, ⟨L6.out, o6.out, L6.out.size⟩⟩
 have hne : (c != 0) = true := by simpa using hc
 have hF := hA.out
 rw [if_neg hc] at hF
 clear hA hc; subst hF
 obtain ⟨x0, x1, x2⟩ := K1.out.two
 have K2 := (K1.out.set 0 (.slice none 0 0)).set 1 (.slice none 0 0)
 have L2 := hid ((L1.out.setCell (p := ⟨w.heap.size, 0, none⟩) (Nat.le_refl _) (.slice none 0 0)).setCell (p := ⟨w.heap.size, 1, none⟩) (Nat.le_refl _) (.slice none 0 0))
 have y0 : ((w1.setCell ⟨w.heap.size, 0, none⟩ (.slice none 0 0)).setCell ⟨w.heap.size, 1, none⟩ (.slice none 0 0)).cell? ⟨w.heap.size, 0, none⟩ = some (.slice none 0 0) := K2.cell 0
 have y1 : ((w1.setCell ⟨w.heap.size, 0, none⟩ (.slice none 0 0)).setCell ⟨w.heap.size, 1, none⟩ (.slice none 0 0)).cell? ⟨w.heap.size, 1, none⟩ = some (.slice none 0 0) := K2.cell 1
 go_wp2_with fail; generalize (w1.setCell ⟨w.heap.size, 0, none⟩ (.slice none 0 0)).setCell ⟨w.heap.size, 1, none⟩ (.slice none 0 0) = W2 at L2 y0 y1 ⊢
 refine bodyPost_ret (v := .tuple #[.agg #[.slice none 0 0, .slice none 0 0], .int .i64 1, .int .i64 p]) (by simp [results, Tryz.results6, go_sem, y0, y1]) rfl ⟨rfl, L2.out⟩
end
section
open Go.RowKit
end
section
open Go.RowKit
theorem blkTwo (w : World) (c d : Array Value) (t u : TypeId) : Blk ((w.alloc (.cells c t)).alloc (.cells d u)) w.heap.size c t ∧ Blk ((w.alloc (.cells c t)).alloc (.cells d u)) (w.heap.size + 1) d u ∧ Below w.heap.size w ((w.alloc (.cells c t)).alloc (.cells d u)) :=
 ⟨(Blk.new w c t).alloc _, Blk.new' _ d u (by simp), bl_alloc (bl_alloc (Below.refl _ _) _) _⟩
end
section
open Go.RowKit
def sl {α : Type} (f : α → α → Bool) (L M : List α) : Bool := decide (L.length = M.length) && (L.zip M).all (fun p => f p.1 p.2)
theorem sl_len {α : Type} {f : α → α → Bool} {L M : List α} (h : ¬ L.length = M.length) : false = sl f L M := by simp [sl, h]
theorem sl_at {α : Type} {f : α → α → Bool} {L M : List α} {j : Nat} {a b : α} (ha : L[j]? = some a) (hb : M[j]? = some b) (h : f a b = false) : false = sl f L M := by
 have hz : (L.zip M)[j]? = some (a, b) := by rw [List.getElem?_zip_eq_some]; exact ⟨ha, hb⟩
 have hm := List.mem_of_getElem? hz
 cases hs : sl f L M
 ·
  rfl
 simp only [sl, Bool.and_eq_true, List.all_eq_true] at hs
 have := hs.2 _ hm
 simp only at this
 rw [h] at this
 cases this
theorem sl_all {α : Type} {f : α → α → Bool} {L M : List α} (hn : L.length = M.length) (h : ∀ (j : Nat) a b, j < L.length → L[j]? = some a → M[j]? = some b → f a b = true) : true = sl f L M := by
 symm
 simp only [sl, Bool.and_eq_true, List.all_eq_true, decide_eq_true_eq]
 refine ⟨hn, fun p hp => ?_⟩
 obtain ⟨j, hj⟩ := List.mem_iff_getElem?.1 hp
 obtain ⟨a, b⟩ := p
 rw [List.getElem?_zip_eq_some] at hj
 exact h j a b (List.getElem?_eq_some_iff.1 hj.1).1 hj.1 hj.2
def eqI (a b : Int) : Bool := a == b
set_option maxHeartbeats 4000000 in
theorem equalI_any (s t : Option Addr) (c d : Nat) (L M : List Int) (B C : Nat) (w : World) (hs : Els 1 cInt w B s L) (ht : Els 1 cInt w C t M) (hl : L.length ≤ 1048576) (hl2 : M.length ≤ 1048576) :
  Calls Tryz.prog 10 #[.slice s L.length c, .slice t M.length d] w fun e w' => e = .returned (.bool (sl eqI L M)) ∧ Below w.heap.size w w' := by
 have hal := alloc_old
 have haf := alloc_oldf
 by_cases hn : L.length = M.length
 ·
  have t0 : ((L.length : Int) != (M.length : Int)) = false := by simp [hn]
  have HN : Hid (L.length = M.length) := hn
  clear hn; go_enter Tryz.func10, Tryz.ntmps10
  go_wp2_with fail; clear t0; go_loopw [13] (fun i wr => ∃ k : Nat, k ≤ L.length ∧ i = .int .i64 k ∧ Hid (∀ (j : Nat) a b, j < k → L[j]? = some a → M[j]? = some b → eqI a b = true) ∧ Below w.heap.size w wr) (fun i _ => L.length - (intOf i).toNat)
  case atStart => exact ⟨0, Nat.zero_le _, rfl, fun j a b hj => by omega, Below.refl _ _⟩
  obtain ⟨k, hk, rfl, hall, hb⟩ := hrel
  by_cases hlt : k < L.length
  ·
   have hltM : k < M.length := by have := HN.out; omega
   obtain ⟨a, ha⟩ := get_some hlt
   obtain ⟨b, hb0⟩ := get_some hltM
   obtain ⟨b1, o1, rfl, _, hpb1, eb1⟩ := eInt_cells (hs.later cInt_keeps hb) ha
   obtain ⟨b2, o2, rfl, _, hpb2, eb2⟩ := eInt_cells (ht.later cInt_keeps hb) hb0
   have HA : Hid (L[k]? = some a) := ha
   have HB : Hid (M[k]? = some b) := hb0
   clear hs ht ha hb0; cases hf : eqI a b
   ·
    have E0 : Hid (false = sl eqI L M) := sl_at HA.out HB.out hf
    have g : (a != b) = true := by simp [eqI] at hf; simp [hf]
    clear hf; go_wp2_with fail; go_region
    all_goals
     go_wp2_with fail; go_ret; refine ⟨ret_bool' E0.out, ?_⟩
     exact blq
   have hst : Hid (∀ (j : Nat) a b, j < k + 1 → L[j]? = some a → M[j]? = some b → eqI a b = true) := by
    intro j a' b' hj ha' hb'
    by_cases e : j = k
    ·
     subst e
     rw [HA.out] at ha'
     rw [HB.out] at hb'
     cases ha'
     cases hb'
     exact hf
    exact hall.out j a' b' (by omega) ha' hb'
   have g : a = b := by simpa [eqI] using hf
   subst g
   clear hf; go_wp2_with fail; go_region
   all_goals
    go_wp2_with fail; go_roundw
    case rel =>
     refine ⟨k + 1, by omega, by go_num, hst, ?_⟩
     exact blq
    case measure => simp [intOf]; omega
  have E0 : Hid (true = sl eqI L M) := sl_all HN.out (fun j a b hj ha hb => hall.out j a b (by omega) ha hb)
  go_wp2_with fail; go_ret; exact ⟨ret_bool' E0.out, hb⟩
 have t0 : ((L.length : Int) != (M.length : Int)) = true := by simp; omega
 go_enter Tryz.func10, Tryz.ntmps10
 go_wp2_with fail; go_ret; exact ⟨ret_bool' (sl_len hn), Below.refl _ _⟩
end
section
open Go.RowKit
def sNode (a b : Nd) : Bool := (a.kind == b.kind) && (a.text.toList == b.text.toList) && (a.num == b.num) && sl eqI a.kids b.kids
def sTre (a b : Tre) : Bool := sl eqI a.tops b.tops && sl sNode a.nodes b.nodes
set_option maxHeartbeats 4000000 in
theorem sameNode_any (s1 t1 : Option Addr) (c1 d1 : Nat) (a b : Nd) (B C : Nat) (w : World) (h1 : Els 1 cInt w B s1 a.kids) (g1 : Els 1 cInt w C t1 b.kids) (ka : kNode a) (kb : kNode b) :
  Calls Tryz.prog 12 #[.agg #[.int .i64 a.kind, .string a.text, .int .i64 a.num, .slice s1 a.kids.length c1], .agg #[.int .i64 b.kind, .string b.text, .int .i64 b.num, .slice t1 b.kids.length d1]] w fun e w' => e = .returned (.bool (sNode a b)) ∧ Below w.heap.size w w' := by
 obtain ⟨KA, KB, LX⟩ := blkTwo w #[.int .i64 a.kind, .string a.text, .int .i64 a.num, .slice s1 a.kids.length c1] #[.int .i64 b.kind, .string b.text, .int .i64 b.num, .slice t1 b.kids.length d1] 42 42
 have HS : Hid (sNode a b = ((a.kind == b.kind) && (a.text.toList == b.text.toList) && (a.num == b.num) && sl eqI a.kids b.kids)) := (rfl : sNode a b = _)
 obtain ⟨x0, x1, x2, x3, x4⟩ := KA.four'
 obtain ⟨y0, y1, y2, y3, y4⟩ := KB.four'
 have h1 := h1.later cInt_keeps LX
 have g1 := g1.later cInt_keeps LX
 cases q1 : (a.kind == b.kind)
 ·
  rw [q1] at HS
  go_enter Tryz.func12, Tryz.ntmps12
  go_wp2_with fail; go_ret; exact ⟨ret_bool' (by rw [HS.out]; rfl), LX⟩
 cases q2 : (a.text.toList == b.text.toList)
 ·
  rw [q1, q2] at HS
  go_enter Tryz.func12, Tryz.ntmps12
  go_wp2_with fail; go_ret; exact ⟨ret_bool' (by rw [HS.out]; rfl), LX⟩
 cases q3 : (a.num == b.num)
 ·
  rw [q1, q2, q3] at HS
  go_enter Tryz.func12, Tryz.ntmps12
  go_wp2_with fail; go_ret; exact ⟨ret_bool' (by rw [HS.out]; rfl), LX⟩
 rw [q1, q2, q3] at HS
 go_enter Tryz.func12, Tryz.ntmps12
 go_wp2_with fail; refine (equalI_any s1 t1 c1 d1 a.kids b.kids B C _ h1 g1 ka.2 kb.2).mono ?_
 rintro e w1 ⟨rfl, hw1⟩
 have L1 := bl_trans LX hw1
 go_wp2_with fail; go_ret; exact ⟨ret_bool' (by rw [HS.out]; rfl), L1⟩
set_option maxHeartbeats 4000000 in
theorem equalFN_any (s t : Option Addr) (c d : Nat) (L M : List Nd) (B C : Nat) (w : World) (hs : Els 4 cNode w B s L) (ht : Els 4 cNode w C t M) (hl : L.length ≤ 1048576) (hl2 : M.length ≤ 1048576) (hk1 : ∀ l ∈ L, kNode l) (hk2 : ∀ l ∈ M, kNode l) :
  Calls Tryz.prog 11 #[.slice s L.length c, .slice t M.length d, .func (Fn.func 12) #[] #[]] w fun e w' => e = .returned (.bool (sl sNode L M)) ∧ Below w.heap.size w w' := by
 have hal := alloc_old
 have haf := alloc_oldf
 have HL1 : Hid (∀ l ∈ L, kNode l) := hk1
 have HL2 : Hid (∀ l ∈ M, kNode l) := hk2
 clear hk1 hk2; by_cases hn : L.length = M.length
 ·
  have t0 : ((L.length : Int) != (M.length : Int)) = false := by simp [hn]
  have HN : Hid (L.length = M.length) := hn
  clear hn; go_enter Tryz.func11, Tryz.ntmps11
  go_wp2_with fail; clear t0; go_loopw [17] (fun i wr => ∃ k : Nat, k ≤ L.length ∧ i = .int .i64 k ∧ Hid (∀ (j : Nat) a b, j < k → L[j]? = some a → M[j]? = some b → sNode a b = true) ∧ Below w.heap.size w wr) (fun i _ => L.length - (intOf i).toNat)
  case atStart => exact ⟨0, Nat.zero_le _, rfl, fun j a b hj => by omega, Below.refl _ _⟩
  obtain ⟨k, hk, rfl, hall, hb⟩ := hrel
  by_cases hlt : k < L.length
  ·
   have hltM : k < M.length := by have := HN.out; omega
   obtain ⟨a, ha⟩ := get_some hlt
   obtain ⟨b, hb0⟩ := get_some hltM
   obtain ⟨b1, o1, rfl, _, hpb1, s1, c1, e1, e2, e3, e4, h1⟩ := eNode_cells (hs.later cNode_keeps hb) ha
   have ka := HL1.out _ (List.mem_of_getElem? ha)
   obtain ⟨b2, o2, rfl, _, hpb2, t1, d1, f1, f2, f3, f4, g1⟩ := eNode_cells (ht.later cNode_keeps hb) hb0
   have kb := HL2.out _ (List.mem_of_getElem? hb0)
   have HA : Hid (L[k]? = some a) := ha
   have HB : Hid (M[k]? = some b) := hb0
   clear hs ht ha hb0; obtain ⟨KA, KB, LX⟩ := blkTwo wr #[.int .i64 a.kind, .string a.text, .int .i64 a.num, .slice s1 a.kids.length c1] #[.int .i64 b.kind, .string b.text, .int .i64 b.num, .slice t1 b.kids.length d1] 42 42
   go_wp2_with fail; have h1 := h1.later cInt_keeps LX
   have g1 := g1.later cInt_keeps LX
   generalize hX : (wr.alloc (.cells #[.int .i64 a.kind, .string a.text, .int .i64 a.num, .slice s1 a.kids.length c1] 42)).alloc (.cells #[.int .i64 b.kind, .string b.text, .int .i64 b.num, .slice t1 b.kids.length d1] 42) = X at KA KB LX h1 g1 ⊢
   clear hX; refine (sameNode_any s1 t1 c1 d1 a b B C _ h1 g1 ka kb).mono ?_
   rintro e w2 ⟨rfl, hb2⟩
   have LZ := bl_trans (bl_trans hb LX) hb2
   clear h1 g1 hb2 LX KA KB; cases hf : sNode a b
   ·
    have E0 : Hid (false = sl sNode L M) := sl_at HA.out HB.out hf
    go_wp2_with fail; go_ret; exact ⟨ret_bool' E0.out, LZ⟩
   have hst : Hid (∀ (j : Nat) a b, j < k + 1 → L[j]? = some a → M[j]? = some b → sNode a b = true) := by
    intro j a' b' hj ha' hb'
    by_cases e : j = k
    ·
     subst e
     rw [HA.out] at ha'
     rw [HB.out] at hb'
     cases ha'
     cases hb'
     exact hf
    exact hall.out j a' b' (by omega) ha' hb'
   go_wp2_with fail; go_roundw
   case rel => exact ⟨k + 1, by omega, by go_num, hst, LZ⟩
   case measure => simp [intOf]; omega
  have E0 : Hid (true = sl sNode L M) := sl_all HN.out (fun j a b hj ha hb => hall.out j a b (by omega) ha hb)
  go_wp2_with fail; go_ret; exact ⟨ret_bool' E0.out, hb⟩
 have t0 : ((L.length : Int) != (M.length : Int)) = true := by simp; omega
 go_enter Tryz.func11, Tryz.ntmps11
 go_wp2_with fail; go_ret; exact ⟨ret_bool' (sl_len hn), Below.refl _ _⟩
set_option maxHeartbeats 4000000 in
theorem implTreeSame_any (a1 a2 b1 b2 : Option Addr) (c1 c2 d1 d2 : Nat) (V U : Tre) (B C : Nat) (w : World) (hV : InT w B a1 a2 V) (hU : InT w C b1 b2 U) (kv : kTre V) (ku : kTre U) :
  Calls Tryz.prog 7 #[.agg #[.slice a1 V.nodes.length c1, .slice a2 V.tops.length c2], .agg #[.slice b1 U.nodes.length d1, .slice b2 U.tops.length d2]] w fun e w' => e = .returned (.bool (sTre V U)) ∧ Below w.heap.size w w' := by
 obtain ⟨⟨v1, v2⟩, v3⟩ := kv
 obtain ⟨⟨u1, u2⟩, u3⟩ := ku
 obtain ⟨KA, KB, LX⟩ := blkTwo w #[.slice a1 V.nodes.length c1, .slice a2 V.tops.length c2] #[.slice b1 U.nodes.length d1, .slice b2 U.tops.length d2] 27 27
 obtain ⟨x0, x1, x2⟩ := KA.two
 obtain ⟨y0, y1, y2⟩ := KB.two
 have hV := hV.later LX
 have hU := hU.later LX
 go_enter Tryz.func7, Tryz.ntmps7
 go_wp2_with fail; refine (equalI_any a2 b2 c2 d2 V.tops U.tops B C _ hV.t hU.t v3 u3).mono ?_
 rintro e w1 ⟨rfl, hw1⟩
 have L1 := bl_trans LX hw1
 have KA := KA.later hw1
 have KB := KB.later hw1
 have hV := hV.later hw1
 have hU := hU.later hw1
 clear x0 x1 x2 y0 y1 y2 LX hw1; cases q : sl eqI V.tops U.tops
 ·
  have E0 : Hid (false = sTre V U) := by show false = sTre V U; simp [sTre, q]
  go_wp2_with fail; go_ret; exact ⟨ret_bool' E0.out, L1⟩
 have E0 : Hid (sl sNode V.nodes U.nodes = sTre V U) := by show _ = sTre V U; simp [sTre, q]
 obtain ⟨x0, x1, x2⟩ := KA.two
 obtain ⟨y0, y1, y2⟩ := KB.two
 go_wp2_with fail; refine (equalFN_any a1 b1 c1 d1 V.nodes U.nodes B C _ hV.n hU.n v1 u1 v2 u2).mono ?_
 rintro e w2 ⟨rfl, hw2⟩
 have L2 := bl_trans L1 hw2
 clear L1 hw2; go_wp2_with fail; go_ret; exact ⟨ret_bool' E0.out, L2⟩
end
end Go.Proofs.YtkkofminndboaaaGreatDoor
