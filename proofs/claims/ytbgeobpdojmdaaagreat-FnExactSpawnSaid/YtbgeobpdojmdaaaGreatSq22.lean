import Derived.Test.YtbgeobpdojmdaaaGreatSq04
import Derived.WalkMore
import Derived.Deep.LoopGhost
namespace Go.Proofs.YtbgeobpdojmdaaaGreat
set_option linter.unusedVariables false
section
open Go.RowKit
def LK (G F : List Int) (k : Nat) : List (Int × Int) := ((List.range k).filter fun (i : Nat) => !decide ((i : Int) ∈ F)).map fun (i : Nat) => ((i : Int), G[i]?.getD 0)
def listB (G F : List Int) : List (Int × Int) := if okE G F = true then LK G F G.length else []
theorem LK_hit {G F : List Int} {k : Nat} (h : ¬ (k : Int) ∈ F) : LK G F (k + 1) = LK G F k ++ [((k : Int), G[k]?.getD 0)] := by
 simp [LK, List.range_succ, h]
theorem LK_miss {G F : List Int} {k : Nat} (h : (k : Int) ∈ F) : LK G F (k + 1) = LK G F k := by
 simp [LK, List.range_succ, h]
theorem LK_le (G F : List Int) (k : Nat) : (LK G F k).length ≤ k := by
 unfold LK
 rw [List.length_map]
 exact Nat.le_trans (List.length_filter_le _ _) (by simp)
theorem ERow.apartB {w : World} {B : Nat} {v : Value} {L : List (Int × Int)} (h : ERow w B v L) {m : Nat} {c : Array Value} {t : TypeId} (hb : Blk w m c t) (ht : ¬ t = 42) : ¬ v.ownBlock = some m := by
 rcases h.2 with ⟨rfl, _⟩ | ⟨g, cap, cur, rfl, _, hg, _⟩
 ·
  simp [Value.ownBlock]
 simp only [Value.ownBlock, Option.some.injEq]
 intro e
 subst e
 unfold Blk at hb
 rw [hg] at hb
 simp at hb
 exact ht hb.2.symm
theorem Seen.blk {w : World} {B sb n : Nat} {A : List Int} (h : Seen w B sb n A) : ∃ c, Blk w sb c 4 := by
 obtain ⟨bs, h1, _⟩ := h
 rcases h1.2 with ⟨h', _⟩ | ⟨g, cap, cur, h', _, hg, _⟩
 ·
  simp at h'
 simp only [Value.slice.injEq, Option.some.injEq, Addr.mk.injEq, and_true] at h'
 obtain ⟨rfl, -⟩ := h'
 exact ⟨cur, hg⟩
theorem ERow.apartS {w : World} {B : Nat} {v : Value} {L : List (Int × Int)} (h : ERow w B v L) {B' sb n : Nat} {A : List Int} (hs : Seen w B' sb n A) : ¬ v.ownBlock = some sb := by
 obtain ⟨c, hc⟩ := hs.blk
 exact h.apartB hc (by decide)
theorem Seen.kept {w w' : World} {B sb n : Nat} {A : List Int} {r : Option Nat} (h : Seen w B sb n A) (hg : w.grownBy w' r) (hr : ¬ r = some sb) : Seen w' B sb n A := by
 obtain ⟨bs, h1, h2⟩ := h
 exact ⟨bs, World.ownsRow.kept h1 hg (Or.inr (by simp [Value.ownBlock]; exact fun e => hr e.symm)), h2⟩
theorem Seen.later {w w' : World} {B sb n : Nat} {A : List Int} (h : Seen w B sb n A) (hb : Below w.heap.size w w') : Seen w' B sb n A := h.kept (grown_of_below hb) (by simp)
theorem Blk.kept' {w w' : World} {n : Nat} {c : Array Value} {t : TypeId} {r : Option Nat} (h : Blk w n c t) (hg : w.grownBy w' r) (hr : ¬ r = some n) : Blk w' n c t := by
 unfold Blk; rw [hg.block n h.lt (fun e => hr e.symm)]; exact h
theorem Seen.lt {w : World} {B sb n : Nat} {A : List Int} (h : Seen w B sb n A) : B ≤ sb ∧ sb < w.heap.size := by
 obtain ⟨bs, h1, h2⟩ := h
 exact World.ownsRow.lt h1 sb rfl
theorem Tryz.infoEnt : (Tryz.prog.info? 42).map (fun i => (i.zero, i.size, i.bytes)) = some (some (.agg #[.int .i64 0, .int .i64 0]), 2, 16) := by kernel_rfl
theorem okE_parts {G F : List Int} (h : okE G F = true) : G.length ≤ 2000 ∧ F.length ≤ G.length ∧ (∀ f ∈ F, 0 ≤ f ∧ f < G.length) := by
 refine ⟨?_, ?_, ?_⟩
 ·
  by_cases e : G.length ≤ 2000
  ·
   exact e
  rw [okE_long e] at h; cases h
 ·
  by_cases e : F.length ≤ G.length
  ·
   exact e
  rw [okE_much e] at h; cases h
 simp only [okE, decide_eq_true_eq] at h
 exact h.2.2.1
set_option maxHeartbeats 4000000 in
theorem specList_any (s1 s2 : Option Addr) (c1 c2 : Nat) (G F : List Int) (w : World) (h1 : Ints w s1 G) (h2 : Ints w s2 F) :
  Calls Tryz.prog 55 #[.agg #[.slice s1 G.length c1, .slice s2 F.length c2]] w fun e w' => ∃ v, e = .returned v ∧ ERow w' w.heap.size v (listB G F) ∧ Below w.heap.size w w' := by
 have hal := alloc_old
 have haf := alloc_oldf
 have k0 := Blk.new w #[.slice s1 G.length c1, .slice s2 F.length c2] 36
 cases hk : okE G F
 ·
  have hE : listB G F = [] := by simp [listB, hk]
  go_enter Tryz.func55, Tryz.ntmps55
  go_wp2_with fail; refine (specEntsOk_any s1 s2 c1 c2 G F _ (h1.later blq) (h2.later blq)).mono ?_
  rintro e w1 ⟨rfl, hb1⟩
  rw [hk]
  have hrow : ERow w1 w.heap.size (.slice (some ⟨w.heap.size + 1, 0, none⟩) 0 0) [] := by
   have h0 := World.ownsRow_lit (base := w.heap.size) (e := 42) (size := 2) (w.alloc (.cells #[.slice s1 G.length c1, .slice s2 F.length c2] 36)) #[] 0 (by simp) (by unfold maxLen; omega) (by simp)
   rw [World.size_alloc] at h0
   exact ERow.later (show ERow _ _ _ [] from h0) hb1
  go_wp2_with fail; go_ret; refine ⟨_, rfl, by rw [hE]; exact hrow, ?_⟩
  exact blq
 obtain ⟨hn, hf, hin⟩ := okE_parts hk
 have hE : Hid (listB G F = LK G F G.length) := by simp [Hid, listB, hk]
 have HIN : Hid (∀ f ∈ F, 0 ≤ f ∧ f < G.length) := hin
 clear hin; obtain ⟨ib, hib, hb0, hb1', hb2'⟩ := info_parts Tryz.infoB
 obtain ⟨ie, hie, he0, he1, he2⟩ := info_parts Tryz.infoEnt
 go_enter Tryz.func55, Tryz.ntmps55
 go_wp2_with fail; refine (specEntsOk_any s1 s2 c1 c2 G F _ (h1.later blq) (h2.later blq)).mono ?_
 rintro e w1 ⟨rfl, hb1⟩
 rw [hk]
 have hrow : ERow w1 w.heap.size (.slice (some ⟨w.heap.size + 1, 0, none⟩) 0 0) (LK G F 0) := by
  have h0 := World.ownsRow_lit (base := w.heap.size) (e := 42) (size := 2) (w.alloc (.cells #[.slice s1 G.length c1, .slice s2 F.length c2] 36)) #[] 0 (by simp) (by unfold maxLen; omega) (by simp)
  rw [World.size_alloc] at h0
  exact ERow.later (show ERow _ _ _ [] from h0) hb1
 have l1 : Below w.heap.size w w1 := blq
 have k1 := (k0.alloc (.cells #[] 42)).later hb1
 clear k0 hb1; obtain ⟨x0, x1, x2⟩ := k1.two
 go_wp2_with (at_make; refine wpList_make_full _ rfl _ _ 114 rfl w.heap.size 4 ib (.bool false) 1 Tryz.underlying114 hib hb0 hb1' .i64 .i64 _ _ G.length rfl rfl rfl rfl (by rw [hb2']; omega) (by unfold maxLen; omega) (by have := l1.size; omega) ?_)
 intro w2 hown hgrow
 have m12 : Below w1.heap.size w1 w2 := (Below.refl _ w1).grown hgrow (Nat.le_refl _) (fun k h => by cases h)
 have l2 := bl_trans l1 m12
 have k2 := k1.later m12
 have hrow2 := hrow.later m12
 obtain ⟨sb, hsb⟩ : ∃ sb, Hid (sb = w1.heap.size) := ⟨_, rfl⟩
 have hseen : Seen w2 w.heap.size sb G.length [] := by
  rw [toList_madeCells_one] at hown
  rw [hsb.out]
  exact Seen.new hown
 rw [← hsb.out]
 clear hown hgrow x0 x1 x2 hrow l1 k1 m12 hib hb0 hb1' hb2'; obtain ⟨x0, x1, x2⟩ := k2.two
 go_wp2_with fail; go_loopw [5] (fun i wr => ∃ k : Nat, k ≤ F.length ∧ i = .int .i64 k ∧ Seen wr w.heap.size sb G.length (F.take k) ∧ ERow wr w.heap.size (.slice (some ⟨w.heap.size + 1, 0, none⟩) 0 0) (LK G F 0) ∧ Blk wr w.heap.size #[.slice s1 G.length c1, .slice s2 F.length c2] 36 ∧ Below w.heap.size w wr) (fun i _ => F.length - (intOf i).toNat)
 case atStart => exact ⟨0, Nat.zero_le _, rfl, hseen, hrow2, k2, l2⟩
 clear x0 x1 x2 k2 l2 hseen hrow2; obtain ⟨k, hkl, rfl, hseen, hrow, k2, l2⟩ := hrel
 obtain ⟨x0, x1, x2⟩ := k2.two
 by_cases hlt : k < F.length
 ·
  obtain ⟨pb, po, rfl, hp, hc⟩ := h2.get hlt
  obtain ⟨z, hz⟩ : ∃ x, Hid (F[k]?.getD 0 = x) := ⟨_, rfl⟩
  have d1 : wr.cell? ⟨pb, po + k, none⟩ = some (.int .i64 z) := by rw [← hz.out]; exact (l2.cell (p := ⟨pb, po + k, none⟩) hp).trans (hc k hlt)
  have hzin := HIN.out _ (getD_mem hlt)
  rw [hz.out] at hzin
  obtain ⟨q, rfl⟩ : ∃ q : Nat, z = (q : Int) := ⟨z.toNat, by omega⟩
  have hq : q < G.length := by omega
  obtain ⟨cq, fq⟩ := hseen.cell hq
  have hs' := hseen.set hq
  rw [show F.take k ++ [(q : Int)] = F.take (k + 1) by rw [take_succ' F k hlt, hz.out]] at hs'
  obtain ⟨bo, hbo⟩ : ∃ b, Hid (decide ((q : Int) ∈ F.take k) = b) := ⟨_, rfl⟩
  rw [hbo.out] at cq
  have hsl := hseen.lt
  have hap := hrow.apartS hseen
  have hne : ¬ sb = w.heap.size := by
   intro e
   obtain ⟨c, hc'⟩ := hseen.blk
   rw [e] at hc'
   unfold Blk at hc' k2
   rw [hc'] at k2
   simp at k2
  have hne' : ¬ w.heap.size + 1 = sb := by simpa [Value.ownBlock] using hap
  have gset : wr.grownBy (wr.setCell ⟨sb, q, none⟩ (.bool true)) (some sb) := by
   obtain ⟨bs, g1, _⟩ := hseen
   exact (World.ownsRow.stored g1 q _).2
  have k2' := k2.kept gset (fun e => hne e.symm)
  have hrow' := hrow.kept gset hap
  clear hc h1 hap; go_wp2_with fail; go_roundw
  case rel => exact ⟨k + 1, by omega, by go_num, hs', hrow', k2', l2.setCell (by simp; omega) _⟩
  case measure => simp [intOf]; omega
 have hall : Seen wr w.heap.size sb G.length F := by
  have := hseen
  rw [List.take_of_length_le (by omega)] at this
  exact this
 clear hseen; go_wp2_with fail; go_loopw [3, 6] (fun v i wr => ∃ k : Nat, k ≤ G.length ∧ i = .int .i64 k ∧ Seen wr w.heap.size sb G.length F ∧ ERow wr w.heap.size v (LK G F k) ∧ Blk wr w.heap.size #[.slice s1 G.length c1, .slice s2 F.length c2] 36 ∧ Below w.heap.size w wr) (fun _ i _ => G.length - (intOf i).toNat)
 case atStart => exact ⟨0, Nat.zero_le _, rfl, hall, hrow, k2, l2⟩
 clear x0 x1 x2 k2 l2 hall hrow; obtain ⟨j, hjl, rfl, hseen, hrow, k2, l2⟩ := hrel
 obtain ⟨x0, x1, x2⟩ := k2.two
 by_cases hlt2 : j < G.length
 ·
  obtain ⟨pb, po, rfl, hp, hc⟩ := h1.get hlt2
  obtain ⟨z, hz⟩ : ∃ x, Hid (G[j]?.getD 0 = x) := ⟨_, rfl⟩
  have d1 : wr.cell? ⟨pb, po + j, none⟩ = some (.int .i64 z) := by rw [← hz.out]; exact (l2.cell (p := ⟨pb, po + j, none⟩) hp).trans (hc j hlt2)
  obtain ⟨cq, fq⟩ := hseen.cell hlt2
  have hle := LK_le G F j
  clear hc h2; cases hmem : decide ((j : Int) ∈ F)
  ·
   rw [hmem] at cq
   have hHit : Hid (LK G F (j + 1) = LK G F j ++ [((j : Int), z)]) := by
    show _ = _
    rw [LK_hit (of_decide_eq_false hmem), hz.out]
   have hap := hrow.apartS hseen
   have hap2 := hrow.apartB k2 (by decide)
   have hlt3 := hrow.lt
   go_wp2_with (at_builtin; refine wpList_append_own _ rfl _ _ 115 rfl w.heap.size 42 ie (.agg #[.int .i64 0, .int .i64 0]) 2 16 Tryz.underlying115 hie he0 he1 he2 rfl (by decide) _ _ _ rfl (World.ownsRow.alloc hrow _) ⟨wr.heap.size, 0, none⟩ 1 1 [.int .i64 (j : Int), .int .i64 z] rfl rfl ?c1 ?c2 ?c3 ?c4 ?c5 ?_)
   case c1 =>
    intro i u hi
    match i, hi with
    | 0, hi => simp at hi; subst hi; simp [Addr.add]
    | 1, hi => simp at hi; subst hi; simp [Addr.add]
   case c2 => intro u hu; simp at hu; rcases hu with rfl | rfl <;> rfl
   case c3 => unfold maxLen; omega
   case c4 => omega
   case c5 => have := l2.size; simp; omega
   intro v' w3 hown' hgrow _
   have ga := grown_of_below (bl_alloc (Below.refl _ wr) (.cells #[.int .i64 (j : Int), .int .i64 z] 42))
   have hr' : ERow w3 w.heap.size v' (LK G F (j + 1)) := by
    unfold ERow
    rw [hHit.out, ecells_app, List.length_append]
    exact hown'
   have hs' := (hseen.kept ga (by simp)).kept hgrow hap
   have kk' := (k2.kept' ga (by simp)).kept' hgrow hap2
   have ll' : Below w.heap.size w w3 := (l2.grown ga l2.size (fun k h => by cases h)).grown hgrow (Nat.le_trans l2.size ga.size) (fun k h => (hlt3 k h).1)
   clear hown' hgrow ga hap hap2 hlt3 hrow hseen k2 l2 x0 x1 x2; go_wp2_with fail; go_roundw
   case rel => exact ⟨j + 1, by omega, by go_num, hs', hr', kk', ll'⟩
   case measure => simp [intOf]; omega
  rw [hmem] at cq
  have hr' := hrow
  rw [← LK_miss (of_decide_eq_true hmem)] at hr'
  go_wp2_with fail; go_roundw
  case rel => exact ⟨j + 1, by omega, by go_num, hseen, hr', k2, l2⟩
  case measure => simp [intOf]; omega
 have hj' : Hid (j = G.length) := by show _ = _; omega
 go_wp2_with fail; go_ret; refine ⟨_, rfl, ?_, l2⟩
 rw [hE.out, ← hj'.out]
 exact hrow
end
section
open Go.RowKit
theorem mem_take_false {F : List Int} {k : Nat} {v : Int} (hk : k < F.length) (h : ¬ v ∈ F.take k) (hx : ¬ F[k]?.getD 0 = v) : ¬ v ∈ F.take (k + 1) := by
 rw [take_succ' F k hk, List.mem_append]
 rintro (h1 | h1)
 ·
  exact h h1
 simp at h1; exact hx h1.symm
set_option maxHeartbeats 4000000 in
theorem implList_any (s1 s2 : Option Addr) (c1 c2 : Nat) (G F : List Int) (w : World) (h1 : Ints w s1 G) (h2 : Ints w s2 F) (hl : F.length ≤ 1048576) :
  Calls Tryz.prog 102 #[.agg #[.slice s1 G.length c1, .slice s2 F.length c2]] w fun e w' => ∃ v, e = .returned v ∧ ERow w' w.heap.size v (listB G F) ∧ Below w.heap.size w w' := by
 have hal := alloc_old
 have haf := alloc_oldf
 have k0 := Blk.new w #[.slice s1 G.length c1, .slice s2 F.length c2] 36
 cases hk : okE G F
 ·
  have hE : listB G F = [] := by simp [listB, hk]
  go_enter Tryz.func102, Tryz.ntmps102
  go_wp2_with fail; go_step3
  go_wp2_with fail; refine (implEntsOk_any s1 s2 c1 c2 G F _ (h1.later blq) (h2.later blq) hl).mono ?_
  rintro e w1 ⟨rfl, hb1⟩
  rw [hk]
  go_wp2_with fail; rw [Exit.noGoto_ret]
  go_ret; refine ⟨_, rfl, by rw [hE]; exact ERow.nil _ _, ?_⟩
  exact blq
 obtain ⟨hn, hf, hin⟩ := okE_parts hk
 have hE : Hid (listB G F = LK G F G.length) := by simp [Hid, listB, hk]
 clear hin; obtain ⟨ie, hie, he0, he1, he2⟩ := info_parts Tryz.infoEnt
 go_enter Tryz.func102, Tryz.ntmps102
 go_wp2_with fail; go_step3
 go_wp2_with fail; refine (implEntsOk_any s1 s2 c1 c2 G F _ (h1.later blq) (h2.later blq) hl).mono ?_
 rintro e w1 ⟨rfl, hb1⟩
 rw [hk]
 have l1 : Below w.heap.size w w1 := blq
 have k1 := k0.later hb1
 clear k0 hb1; obtain ⟨x0, x1, x2⟩ := k1.two
 go_wp2_with fail; go_step3
 go_wp2_with fail; go_loopg [3, 13] G.length (fun g v i wr => ∃ k : Nat, k + g = G.length ∧ i = .int .i64 k ∧ ERow wr w.heap.size v (LK G F k) ∧ Blk wr w.heap.size #[.slice s1 G.length c1, .slice s2 F.length c2] 36 ∧ Below w.heap.size w wr)
 case atStart => exact ⟨0, by omega, rfl, ERow.nil _ _, k1, l1⟩
 clear x0 x1 x2 k1 l1; obtain ⟨j, hjg, rfl, hrow, k2, l2⟩ := hrel
 obtain ⟨x0, x1, x2⟩ := k2.two
 cases gk with
 | zero =>
  have hj' : Hid (j = G.length) := by show _ = _; omega
  have hjz : ¬ ((j : Int) < (G.length : Int)) := by omega
  go_wp2_with fail; go_ret; refine ⟨_, rfl, ?_, l2⟩
  rw [hE.out, ← hj'.out]
  exact hrow
 | succ g =>
  have hlt2 : j < G.length := by omega
  have hltI : (j : Int) < (G.length : Int) := by omega
  obtain ⟨z, hz⟩ : ∃ x, Hid (G[j]?.getD 0 = x) := ⟨_, rfl⟩
  have hle := LK_le G F j
  have L2 := l2
  have K2 := k2
  have HROW := hrow
  go_wp2_with fail; go_loopg [19] F.length (fun g2 i wy => ∃ m : Nat, m + g2 = F.length ∧ i = .int .i64 m ∧ Hid (¬ (j : Int) ∈ F.take m) ∧ wy = wr)
  case atStart => exact ⟨0, by omega, rfl, by simp [Hid], rfl⟩
  obtain ⟨m, hmg, rfl, hno, hwr⟩ := hrel
  subst hwr
  cases gk with
  | zero =>
   have hmz : ¬ ((m : Int) < (F.length : Int)) := by omega
   have hmem : ¬ (j : Int) ∈ F := by
    have := hno.out
    rw [List.take_of_length_le (by omega)] at this
    exact this
   have hHit : Hid (LK G F (j + 1) = LK G F j ++ [((j : Int), z)]) := by
    show _ = _
    rw [LK_hit hmem, hz.out]
   clear hmem; go_wp2_with fail; refine (entAt_any s1 s2 c1 c2 G F j z _ (h1.later L2) hlt2 hz.out (by omega)).mono ?_
   rintro e w4 ⟨rfl, hb4⟩
   have hrow4 := HROW.later hb4
   have k4 := K2.later hb4
   have l4 := bl_trans L2 hb4
   have hap2 := hrow4.apartB k4 (by decide)
   have hlt3 := hrow4.lt
   clear x0 x1 x2; go_wp2_with (at_builtin; refine wpList_append_own _ rfl _ _ 115 rfl w.heap.size 42 ie (.agg #[.int .i64 0, .int .i64 0]) 2 16 Tryz.underlying115 hie he0 he1 he2 rfl (by decide) _ _ _ rfl (World.ownsRow.alloc hrow4 _) ⟨w4.heap.size, 0, none⟩ 1 1 [.int .i64 (j : Int), .int .i64 z] rfl rfl ?c1 ?c2 ?c3 ?c4 ?c5 ?_)
   case c1 =>
    intro i u hi
    match i, hi with
    | 0, hi => simp at hi; subst hi; simp [Addr.add]
    | 1, hi => simp at hi; subst hi; simp [Addr.add]
   case c2 => intro u hu; simp at hu; rcases hu with rfl | rfl <;> rfl
   case c3 => unfold maxLen; omega
   case c4 => omega
   case c5 => have := l4.size; simp; omega
   intro v' w3 hown' hgrow _
   have ga := grown_of_below (bl_alloc (Below.refl _ w4) (.cells #[.int .i64 (j : Int), .int .i64 z] 42))
   have hr' : ERow w3 w.heap.size v' (LK G F (j + 1)) := by
    unfold ERow
    rw [hHit.out, ecells_app, List.length_append]
    exact hown'
   have kk' := (k4.kept' ga (by simp)).kept' hgrow hap2
   have ll' : Below w.heap.size w w3 := (l4.grown ga l4.size (fun k h => by cases h)).grown hgrow (Nat.le_trans l4.size ga.size) (fun k h => (hlt3 k h).1)
   clear hown' hgrow ga hap2 hlt3 hrow4 k4 l4; go_wp2_with fail; go_roundg g
   case measure => omega
   case rel => exact ⟨j + 1, by omega, by go_num, hr', kk', ll'⟩
  | succ g2 =>
   have hlt : m < F.length := by omega
   have hltm : (m : Int) < (F.length : Int) := by omega
   obtain ⟨qb, qo, rfl, hqb, hc⟩ := h2.get hlt
   obtain ⟨y, hy⟩ : ∃ x, Hid (F[m]?.getD 0 = x) := ⟨_, rfl⟩
   have d2 : wr.cell? ⟨qb, qo + m, none⟩ = some (.int .i64 y) := by rw [← hy.out]; exact (L2.cell (p := ⟨qb, qo + m, none⟩) hqb).trans (hc m hlt)
   clear hc; by_cases he : y = (j : Int)
   ·
    have gq : (y == (j : Int)) = true := by simp [he]
    have hmem : (j : Int) ∈ F := by rw [← he, ← hy.out]; exact getD_mem hlt
    have hr' := HROW
    rw [← LK_miss hmem] at hr'
    clear he hmem; go_wp2_with fail; go_roundg g
    case measure => omega
    case rel => exact ⟨j + 1, by omega, by go_num, hr', K2, L2⟩
   have gq : (y == (j : Int)) = false := by simp [he]
   have hstep : Hid (¬ (j : Int) ∈ F.take (m + 1)) := mem_take_false hlt hno.out (by rw [hy.out]; exact he)
   clear he; go_wp2_with fail; go_roundg g2
   case measure => omega
   case rel => exact ⟨m + 1, by omega, by go_num, hstep, rfl⟩
end
end Go.Proofs.YtbgeobpdojmdaaaGreat
