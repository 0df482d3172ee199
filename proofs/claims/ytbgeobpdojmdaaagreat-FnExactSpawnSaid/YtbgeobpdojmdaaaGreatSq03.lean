import Derived.Test.YtbgeobpdojmdaaaGreatSq02
import Derived.ChangeKeysEq
namespace Go.Proofs.YtbgeobpdojmdaaaGreat
section
open Go.RowKit
set_option linter.unusedVariables false
theorem blk2 (w : World) (c d : Array Value) (t u : TypeId) : Blk ((w.alloc (.cells c t)).alloc (.cells d u)) w.heap.size c t ∧ Blk ((w.alloc (.cells c t)).alloc (.cells d u)) (w.heap.size + 1) d u :=
 ⟨(Blk.new w c t).alloc _, Blk.new' _ d u (by simp)⟩
set_option maxHeartbeats 2000000 in
theorem eqEnts_any (a1 a2 b1 b2 : Option Addr) (c1 c2 d1 d2 : Nat) (A B C D : List Int) (w : World) (hA : Ints w a1 A) (hB : Ints w a2 B) (hC : Ints w b1 C) (hD : Ints w b2 D) (l1 : A.length ≤ 1048576) (l2 : B.length ≤ 1048576) :
  Calls Tryz.prog 36 #[.agg #[.slice a1 A.length c1, .slice a2 B.length c2], .agg #[.slice b1 C.length d1, .slice b2 D.length d2]] w fun e w' => e = .returned (.bool (decide (A = C ∧ B = D))) ∧ Below w.heap.size w w' := by
 have hal := alloc_old
 have haf := alloc_oldf
 obtain ⟨k0, k1⟩ := blk2 w #[.slice a1 A.length c1, .slice a2 B.length c2] #[.slice b1 C.length d1, .slice b2 D.length d2] 36 36
 cases h1 : decide (A = C)
 ·
  have hne : Hid (decide (A = C ∧ B = D) = false) := by
   simp only [Hid, decide_eq_false_iff_not]
   exact fun h => absurd h.1 (of_decide_eq_false h1)
  go_enter Tryz.func36, Tryz.ntmps36
  go_wp2_with fail; refine (eqInts_any a1 b1 c1 d1 A C _ (hA.later blq) (hC.later blq) l1).mono ?_
  rintro e w1 ⟨rfl, hb1⟩
  rw [h1]
  go_wp2_with fail; go_ret; refine ⟨ret_bool' hne.out.symm, ?_⟩
  exact blq
 have e1 : A = C := of_decide_eq_true h1
 have hH : Hid (decide (A = C ∧ B = D) = decide (B = D)) := by simp [Hid, e1]
 clear e1; cases h2 : decide (B = D)
 all_goals
  rw [h2] at hH
  go_enter Tryz.func36, Tryz.ntmps36
  go_wp2_with fail; refine (eqInts_any a1 b1 c1 d1 A C _ (hA.later blq) (hC.later blq) l1).mono ?_
  rintro e w1 ⟨rfl, hb1⟩
  rw [h1]
  obtain ⟨x0, x1, x2⟩ := (k0.later hb1).two
  obtain ⟨y0, y1, y2⟩ := (k1.later hb1).two
  go_wp2_with fail; refine (eqInts_any a2 b2 c2 d2 B D _ (hB.later blq) (hD.later blq) l2).mono ?_
  rintro e w2 ⟨rfl, hb2⟩
  rw [h2]
  go_wp2_with fail; go_ret; refine ⟨ret_bool' hH.out.symm, ?_⟩
  exact blq
set_option maxHeartbeats 1000000 in
theorem l1In_any (x lo hi : Int) (w : World) :
  Calls Tryz.prog 58 #[.int .i64 x, .int .i64 lo, .int .i64 hi] w fun e w' => e = .returned (.bool (decide (lo ≤ x) && decide (x ≤ hi))) ∧ w' = w := by
 by_cases h1 : lo ≤ x
 ·
  go_enter Tryz.func58, Tryz.ntmps58
  go_wp2
  go_ret; exact ⟨ret_bool' (by simp [h1]), rfl⟩
 go_enter Tryz.func58, Tryz.ntmps58
 go_wp2
 go_ret; exact ⟨ret_bool' (by simp; omega), rfl⟩
theorem okE_badG {G F : List Int} {k : Nat} (hk : k < G.length) (h : ¬ (0 ≤ G[k]?.getD 0 ∧ G[k]?.getD 0 ≤ 1000000)) : okE G F = false := by
 simp only [okE, decide_eq_false_iff_not]
 exact fun g => h (g.2.1 _ (getD_mem hk))
theorem okE_badF {G F : List Int} {k : Nat} (hk : k < F.length) (h : ¬ (0 ≤ F[k]?.getD 0 ∧ F[k]?.getD 0 < G.length)) : okE G F = false := by
 simp only [okE, decide_eq_false_iff_not]
 exact fun g => h (g.2.2.1 _ (getD_mem hk))
theorem nodup_take {F : List Int} (h : F.Nodup) (k : Nat) : (F.take k).Nodup := h.sublist (List.take_sublist k F)
theorem nodup_snoc {A : List Int} {x : Int} : (A ++ [x]).Nodup ↔ A.Nodup ∧ ¬ x ∈ A := by
 rw [List.nodup_append]
 constructor
 ·
  rintro ⟨h1, _, h3⟩
  exact ⟨h1, fun hx => h3 x hx x (by simp) rfl⟩
 rintro ⟨h1, h2⟩
 refine ⟨h1, by simp, fun a ha b hb e => ?_⟩
 simp at hb
 subst hb
 exact h2 (e ▸ ha)
theorem okE_dup {G F : List Int} {k : Nat} (hk : k < F.length) (h : F[k]?.getD 0 ∈ F.take k) : okE G F = false := by
 simp only [okE, decide_eq_false_iff_not]
 intro g
 have := nodup_take g.2.2.2 (k + 1)
 rw [take_succ' F k hk, nodup_snoc] at this
 exact this.2 h
theorem okE_long {G F : List Int} (h : ¬ G.length ≤ 2000) : okE G F = false := by
 simp only [okE, decide_eq_false_iff_not]
 exact fun g => h g.1
theorem okE_much {G F : List Int} (h : ¬ F.length ≤ G.length) : okE G F = false := by
 rw [okE_eq]
 cases hb : freeB F G.length
 ·
  simp
 exact absurd (free_len hb) h
theorem okE_good {G F : List Int} (hn : G.length ≤ 2000) (hG : ∀ g ∈ G, 0 ≤ g ∧ g ≤ 1000000) (hF : ∀ f ∈ F, 0 ≤ f ∧ f < G.length) (hd : F.Nodup) : okE G F = true := by
 simp only [okE, decide_eq_true_eq]
 exact ⟨hn, hG, hF, hd⟩
def Seen (w : World) (B sb n : Nat) (A : List Int) : Prop :=
 ∃ bs : List Bool, w.ownsRow B 4 1 (.slice (some ⟨sb, 0, none⟩) n n) n (bs.map Value.bool) ∧ ∀ p, p < n → bs[p]? = some (decide ((p : Int) ∈ A))
theorem Seen.new {w : World} {B sb n : Nat} (h : w.ownsRow B 4 1 (.slice (some ⟨sb, 0, none⟩) n n) n (List.replicate n (.bool false))) : Seen w B sb n [] :=
 ⟨List.replicate n false, by rw [List.map_replicate]; exact h, fun p hp => by simp [hp]⟩
theorem Seen.cell {w : World} {B sb n : Nat} {A : List Int} (h : Seen w B sb n A) {p : Nat} (hp : p < n) : w.cell? ⟨sb, p, none⟩ = some (.bool (decide ((p : Int) ∈ A))) ∧ w.frozen? ⟨sb, p, none⟩ = false := by
 obtain ⟨bs, h1, h2⟩ := h
 refine ⟨?_, World.ownsRow.frozenAt h1 p⟩
 rw [World.ownsRow.cellAt h1 p (by omega)]
 simp [h2 p hp]
theorem Seen.set {w : World} {B sb n : Nat} {A : List Int} (h : Seen w B sb n A) {p : Nat} (hp : p < n) : Seen (w.setCell ⟨sb, p, none⟩ (.bool true)) B sb n (A ++ [(p : Int)]) := by
 obtain ⟨bs, h1, h2⟩ := h
 have hl : bs.length = n := by have := h1.1; simp at this; exact this
 refine ⟨bs.set p true, by rw [List.map_set]; exact (World.ownsRow.stored h1 p _).1, fun q hq => ?_⟩
 by_cases e : p = q
 ·
  subst e; simp [hl, hp]
 rw [List.getElem?_set_ne e, h2 q hq]
 have : ¬ (q : Int) = (p : Int) := by omega
 simp [this]
theorem Tryz.infoB : (Tryz.prog.info? 4).map (fun i => (i.zero, i.size, i.bytes)) = some (some (.bool false), 1, 1) := by kernel_rfl
set_option maxHeartbeats 2000000 in
theorem specEntsOk_main (s1 s2 : Option Addr) (c1 c2 : Nat) (G F : List Int) (w : World) (h1 : Ints w s1 G) (h2 : Ints w s2 F) (hn : G.length ≤ 2000) (hf : F.length ≤ G.length) :
  Calls Tryz.prog 53 #[.agg #[.slice s1 G.length c1, .slice s2 F.length c2]] w fun e w' => e = .returned (.bool (okE G F)) ∧ Below w.heap.size w w' := by
 have hal := alloc_old
 have haf := alloc_oldf
 have t1 : decide (2000 < (G.length : Int)) = false := by simp; omega
 have t2 : decide (G.length < F.length) = false := by simp; omega
 go_enter Tryz.func53, Tryz.ntmps53
 go_wp2
 go_loop [4] (fun i => ∃ k : Nat, k ≤ G.length ∧ i = .int .i64 k ∧ Hid (∀ g ∈ G.take k, 0 ≤ g ∧ g ≤ 1000000)) (fun i => G.length - (intOf i).toNat)
 case atStart => exact ⟨0, Nat.zero_le _, rfl, by simp [Hid]⟩
 obtain ⟨k, hk, rfl, hall⟩ := hrel
 by_cases hlt : k < G.length
 ·
  obtain ⟨pb, po, rfl, hp, hc⟩ := h1.get hlt
  obtain ⟨x, hx⟩ : ∃ x, Hid (G[k]?.getD 0 = x) := ⟨_, rfl⟩
  have d1 : w.cell? ⟨pb, po + k, none⟩ = some (.int .i64 x) := by rw [← hx.out]; exact hc k hlt
  by_cases hin : 0 ≤ x ∧ x ≤ 1000000
  ·
   obtain ⟨i1, i2⟩ := hin
   have hstep : Hid (∀ g ∈ G.take (k + 1), 0 ≤ g ∧ g ≤ 1000000) := by
    intro g hg
    rw [take_succ' G k hlt, List.mem_append] at hg
    rcases hg with hg | hg
    ·
     exact hall.out g hg
    simp at hg; subst hg; rw [hx.out]; exact ⟨i1, i2⟩
   clear hc h1 h2; go_wp2_with (go_at_call 58; refine (l1In_any _ _ _ _).mono ?_; rintro e w' ⟨rfl, rfl⟩)
   go_round
   case rel => exact ⟨k + 1, by omega, by go_num, hstep⟩
   case measure => simp [intOf]; omega
  have hbad : Hid (okE G F = false) := okE_badG hlt (by rw [hx.out]; exact hin)
  have hin' : (decide (0 ≤ x) && decide (x ≤ 1000000)) = false := by simp; omega
  clear hc h1 h2 hin; go_wp2_with (go_at_call 58; refine (l1In_any _ _ _ _).mono ?_; rintro e w' ⟨rfl, rfl⟩; rw [hin'])
  go_ret; refine ⟨ret_bool' hbad.out.symm, ?_⟩
  exact blq
 have hG : Hid (∀ g ∈ G, 0 ≤ g ∧ g ≤ 1000000) := by
  have := hall.out
  rw [List.take_of_length_le (by omega)] at this
  exact this
 obtain ⟨i0, hi, hz0, hz1, hz2⟩ := info_parts Tryz.infoB
 go_wp2_with (at_make; refine wpList_make_full _ rfl _ _ 114 rfl w.heap.size 4 i0 (.bool false) 1 Tryz.underlying114 hi hz0 hz1 .i64 .i64 _ _ G.length rfl rfl rfl rfl (by rw [hz2]; omega) (by unfold maxLen; omega) (by simp) ?_)
 intro w1 hown hgrow
 have b0 : Blk w1 w.heap.size #[.slice s1 G.length c1, .slice s2 F.length c2] 36 := by
  have hB : Below (w.heap.size + 1) (w.alloc (.cells #[.slice s1 G.length c1, .slice s2 F.length c2] 36)) w1 := (Below.refl _ _).grown hgrow (by simp) (fun k h => by cases h)
  exact (Blk.new w #[.slice s1 G.length c1, .slice s2 F.length c2] 36).later (by simpa using hB)
 have hbel : Below w.heap.size w w1 := (bl_alloc (Below.refl _ w) _).grown hgrow (by simp) (fun k h => by cases h)
 have hseen : Seen w1 w.heap.size (w.heap.size + 1) G.length [] := by
  rw [toList_madeCells_one] at hown
  exact Seen.new hown
 clear hown hgrow hi hz0 hz1 hz2 hall hlt h1; obtain ⟨x0, x1, x2⟩ := b0.two
 go_wp2_with fail; go_loopw [6] (fun i wr => ∃ k : Nat, k ≤ F.length ∧ i = .int .i64 k ∧ Seen wr w.heap.size (w.heap.size + 1) G.length (F.take k) ∧ Hid (∀ f ∈ F.take k, 0 ≤ f ∧ f < G.length) ∧ Hid ((F.take k).Nodup) ∧ Blk wr w.heap.size #[.slice s1 G.length c1, .slice s2 F.length c2] 36 ∧ Below w.heap.size w wr) (fun i _ => F.length - (intOf i).toNat)
 case atStart => exact ⟨0, Nat.zero_le _, rfl, hseen, by simp [Hid], by simp [Hid], b0, hbel⟩
 clear x0 x1 x2 b0 hseen hbel; obtain ⟨m, hm, rfl, hseen, hr, hd, b0, hbel⟩ := hrel
 obtain ⟨x0, x1, x2⟩ := b0.two
 by_cases hlt : m < F.length
 ·
  obtain ⟨pb, po, rfl, hp, hc⟩ := h2.get hlt
  obtain ⟨x, hx⟩ : ∃ x, Hid (F[m]?.getD 0 = x) := ⟨_, rfl⟩
  have d1 : wr.cell? ⟨pb, po + m, none⟩ = some (.int .i64 x) := by rw [← hx.out]; exact (hbel.cell (p := ⟨pb, po + m, none⟩) hp).trans (hc m hlt)
  clear hc h2; by_cases hin : 0 ≤ x ∧ x < G.length
  ·
   obtain ⟨q, rfl⟩ : ∃ q : Nat, x = (q : Int) := ⟨x.toNat, by omega⟩
   have hq : q < G.length := by omega
   obtain ⟨cq, fq⟩ := hseen.cell hq
   have t3 : (decide (0 ≤ (q : Int)) && decide ((q : Int) ≤ (G.length : Int) - 1)) = true := by simp; omega
   cases hmem : decide ((q : Int) ∈ F.take m)
   ·
    rw [hmem] at cq
    have hs' := hseen.set hq
    have hrng : Hid (∀ f ∈ F.take (m + 1), 0 ≤ f ∧ f < G.length) := by
     intro g hg
     rw [take_succ' F m hlt, List.mem_append] at hg
     rcases hg with hg | hg
     ·
      exact hr.out g hg
     simp at hg; subst hg; rw [hx.out]; exact hin
    have hnd : Hid ((F.take (m + 1)).Nodup) := by
     show List.Nodup _
     rw [take_succ' F m hlt, nodup_snoc, hx.out]
     exact ⟨hd.out, of_decide_eq_false hmem⟩
    rw [show F.take m ++ [(q : Int)] = F.take (m + 1) by rw [take_succ' F m hlt, hx.out]] at hs'
    have b0' := b0.other (m := w.heap.size + 1) (by omega) q (.bool true)
    clear hmem hin hseen hr hd; go_wp2_with (go_at_call 58; refine (l1In_any _ _ _ _).mono ?_; rintro e w' ⟨rfl, rfl⟩; rw [t3])
    go_roundw
    case rel => exact ⟨m + 1, by omega, by go_num, hs', hrng, hnd, b0', hbel.setCell (by simp) _⟩
    case measure => simp [intOf]; omega
   rw [hmem] at cq
   have hbad : Hid (okE G F = false) := okE_dup hlt (by rw [hx.out]; exact of_decide_eq_true hmem)
   clear hmem hin hseen hr hd; go_wp2_with (go_at_call 58; refine (l1In_any _ _ _ _).mono ?_; rintro e w' ⟨rfl, rfl⟩; rw [t3])
   go_ret; exact ⟨ret_bool' hbad.out.symm, hbel⟩
  have t3 : (decide (0 ≤ x) && decide (x ≤ (G.length : Int) - 1)) = false := by simp; omega
  have hbad : Hid (okE G F = false) := okE_badF hlt (by rw [hx.out]; exact hin)
  clear hin hseen hr hd; go_wp2_with (go_at_call 58; refine (l1In_any _ _ _ _).mono ?_; rintro e w' ⟨rfl, rfl⟩; rw [t3])
  go_ret; exact ⟨ret_bool' hbad.out.symm, hbel⟩
 have hgood : Hid (okE G F = true) := by
  have e1 := hr.out
  have e2 := hd.out
  rw [List.take_of_length_le (by omega)] at e1 e2
  exact okE_good hn hG.out e1 e2
 clear hseen hr hd; go_wp2_with fail; go_ret; exact ⟨ret_bool' hgood.out.symm, hbel⟩
set_option maxHeartbeats 2000000 in
theorem specEntsOk_any (s1 s2 : Option Addr) (c1 c2 : Nat) (G F : List Int) (w : World) (h1 : Ints w s1 G) (h2 : Ints w s2 F) :
  Calls Tryz.prog 53 #[.agg #[.slice s1 G.length c1, .slice s2 F.length c2]] w fun e w' => e = .returned (.bool (okE G F)) ∧ Below w.heap.size w w' := by
 by_cases hn : G.length ≤ 2000
 ·
  by_cases hf : F.length ≤ G.length
  ·
   exact specEntsOk_main s1 s2 c1 c2 G F w h1 h2 hn hf
  have hbad : Hid (okE G F = false) := okE_much hf
  have t1 : decide (2000 < (G.length : Int)) = false := by simp; omega
  have t2 : decide (G.length < F.length) = true := by simp; omega
  go_enter Tryz.func53, Tryz.ntmps53
  go_wp2
  go_ret; refine ⟨ret_bool' hbad.out.symm, ?_⟩
  exact blq
 have hbad : Hid (okE G F = false) := okE_long hn
 have t1 : decide (2000 < (G.length : Int)) = true := by simp; omega
 go_enter Tryz.func53, Tryz.ntmps53
 go_wp2
 go_ret; refine ⟨ret_bool' hbad.out.symm, ?_⟩
 exact blq
end
section
open Go.RowKit
def wordsOf (ws : List (BitVec 64)) : Array Value := (ws.map fun b => Value.int .u64 b.toNat).toArray
theorem words_cell {ws : List (BitVec 64)} {d : Nat} (h : d < ws.length) : (wordsOf ws)[d]? = some (.int .u64 ((ws.getD d 0).toNat : Int)) := by
 simp [wordsOf, h]
theorem words_set (ws : List (BitVec 64)) (d : Nat) (x : BitVec 64) : (wordsOf ws).setIfInBounds d (.int .u64 (x.toNat : Int)) = wordsOf (ws.set d x) := by
 simp [wordsOf, List.map_set]
theorem words_zero : wordsOf (List.replicate 32 0) = #[.int .u64 0, .int .u64 0, .int .u64 0, .int .u64 0, .int .u64 0, .int .u64 0, .int .u64 0, .int .u64 0, .int .u64 0, .int .u64 0, .int .u64 0, .int .u64 0, .int .u64 0, .int .u64 0, .int .u64 0, .int .u64 0, .int .u64 0, .int .u64 0, .int .u64 0, .int .u64 0, .int .u64 0, .int .u64 0, .int .u64 0, .int .u64 0, .int .u64 0, .int .u64 0, .int .u64 0, .int .u64 0, .int .u64 0, .int .u64 0, .int .u64 0, .int .u64 0] := by rfl
theorem Tryz.infoW : (Tryz.prog.info? 196).map (fun i => (i.zero, i.size, i.bytes)) = some (some (.int .u64 0), 1, 8) := by kernel_rfl
theorem Tryz.cellsW : Tryz.prog.cellsOf 196 = 1 := by kernel_rfl
theorem Tryz.placeInfo : (Tryz.prog.info? 210).map (·.size) = some 32 := by kernel_rfl
theorem words_items (d : Nat) (xs ys : List (BitVec 64)) (hx : xs.length = 32) (hy : ys.length = 32) (w : World) : ∀ (l : List Nat), (∀ i ∈ l, i < 32) →
  (Op.eqItems (d + 1) 196 1 (wordsOf xs) (wordsOf ys) l).run Tryz.prog w = .ok (l.all fun i => xs.getD i 0 == ys.getD i 0) w := by
 intro l
 induction l with
 | nil => intro _; simp [Op.eqItems]
 | cons i l ih =>
  intro hl
  have hi : i < 32 := hl i (by simp)
  have px : (Go.part 196 (wordsOf xs) (i * 1)).run Tryz.prog w = .ok (.int .u64 ((xs.getD i 0).toNat : Int)) w := by
   simp [Go.part, isAgg, run_underlying Tryz.underlying196, wordsOf, show i < xs.length by omega]
  have py : (Go.part 196 (wordsOf ys) (i * 1)).run Tryz.prog w = .ok (.int .u64 ((ys.getD i 0).toNat : Int)) w := by
   simp [Go.part, isAgg, run_underlying Tryz.underlying196, wordsOf, show i < ys.length by omega]
  have pe : (Op.equalIn (d + 1) 196 (.int .u64 ((xs.getD i 0).toNat : Int)) (.int .u64 ((ys.getD i 0).toNat : Int))).run Tryz.prog w = .ok (xs.getD i 0 == ys.getD i 0) w := by
   rw [run_equalIn_int w d 196 .u64 .u64 _ _ Tryz.underlying196]
   refine congrArg (fun b => Result.ok b w) ?_
   rw [Bool.eq_iff_iff, beq_iff_eq, beq_iff_eq, ← BitVec.toNat_inj]
   omega
  simp only [Op.eqItems, Sem.run_bind, px, py, pe, Result.andThen_ok, List.all_cons]
  cases hb : (xs.getD i 0 == ys.getD i 0)
  ·
   simp
  simpa using ih fun j hj => hl j (by simp [hj])
theorem words_all (xs : List (BitVec 64)) (hx : xs.length = 32) : ((List.range 32).all fun i => xs.getD i 0 == (List.replicate 32 (0 : BitVec 64)).getD i 0) = decide (xs = List.replicate 32 0) := by
 rw [Bool.eq_iff_iff, List.all_eq_true, decide_eq_true_eq]
 constructor
 ·
  intro h
  apply List.ext_getElem (by simp [hx])
  intro i h1 h2
  have := h i (by simp; omega)
  rw [rep_getD, beq_iff_eq] at this
  simp only [List.getElem_replicate]
  rw [← this]
  simp [h1]
 intro h i hi
 rw [h]; simp
theorem words_equal (xs : List (BitVec 64)) (hx : xs.length = 32) (w : World) :
  (Op.equalIn 10000 210 (.agg (wordsOf xs)) (.agg (wordsOf (List.replicate 32 0)))).run Tryz.prog w = .ok (decide (xs = List.replicate 32 0)) w := by
 obtain ⟨i0, hi, _⟩ := info_parts Tryz.infoW
 rw [show (10000 : Nat) = 9999 + 1 from rfl, run_equalIn_array w 9999 _ _ Tryz.underlying210 hi, Tryz.cellsW, show (9999 : Nat) = 9998 + 1 from rfl,
  words_items 9998 xs _ hx (by simp) w _ (fun i hi => by simpa using hi), words_all xs hx]
theorem wpList_words (w : World) {ops : Array Oper} {rest : List Oper} {o : Oper} {a : Act} {Q : Exit → Act → World → Prop}
  (hg : o.guard = none) (x : Operand) (hop : o.op = Op.load 210 x) (n : Nat) (hx : a.eval x = .pointer (some ⟨n, 0, none⟩)) (xs : List (BitVec 64)) (hl : xs.length = 32) (hB : Blk w n (wordsOf xs) 210)
  (hK : wpList Tryz.prog ops Q rest (a.put o.dst (.agg (wordsOf xs))) w) : wpList Tryz.prog ops Q (o :: rest) a w :=
 wpList_plain hg fun K hK' => wp_load_row _ x hop n hx _ _ _ _ hB Tryz.underlying210 rfl (by rw [Tryz.placeInfo]; simp [wordsOf, hl]) (hK' _ _ hK)
end
end Go.Proofs.YtbgeobpdojmdaaaGreat
