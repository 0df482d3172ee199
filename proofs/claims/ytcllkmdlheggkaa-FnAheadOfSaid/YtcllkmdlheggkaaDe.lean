import Derived.Test.YtcllkmdlheggkaaDd
import Derived.Deep.AppendLies
import Derived.Deep.RegionLaw
namespace Go.Proofs.Ytcllkmdlheggkaa
open Go.RowKit
set_option linter.unusedVariables false
set_option linter.unusedSimpArgs false

theorem ints_two {w : World} {pb : Nat} {a b : Int} (h : Blk w pb #[.int .i64 a, .int .i64 b] 3) : Ints w (some ⟨pb, 0, none⟩) [a, b] := by
  right
  refine ⟨pb, 0, rfl, h.lt, fun j hj => ?_⟩
  match j, hj with
  | 0, _ => exact h.cell 0
  | 1, _ => exact h.cell 1
set_option maxHeartbeats 2000000 in
theorem l1PickInt_any (n : Nat) (pb po c : Nat) (L : List Int) (w : World) (hC : Cur n w) (hL : Ints w (some ⟨pb, po, none⟩) L) (h0 : 0 < L.length) (hl : L.length ≤ 1048576) (hp : ¬ pb = n) :
    Calls Try.prog 41 #[.pointer (some ⟨n, 0, none⟩), .slice (some ⟨pb, po, none⟩) L.length c] w fun e w' => ∃ r : Int, e = .returned (.int .i64 r) ∧ r ∈ L ∧ Keep n w w' ∧ Cur n w' := by
  have hcell : ∀ j, j < L.length → w.cell? ⟨pb, po + j, none⟩ = some (.int .i64 (L[j]?.getD 0)) := by
    rcases hL with h | ⟨pb', po', h, _, hc⟩
    · rw [h] at h0; simp at h0
    · simp only [Option.some.injEq, Addr.mk.injEq, and_true] at h
      obtain ⟨rfl, rfl⟩ := h
      exact hc
  go_enter Try.func41, Try.ntmps41
  go_wp2_with (go_at_call 59; refine (l1Below_any n (L.length : Int) _ hC (by omega)).mono ?_; rintro e w1 ⟨r, rfl, r1, r2, hK, hC1⟩; obtain ⟨q, rfl⟩ : ∃ q : Nat, r = (q : Int) := ⟨r.toNat, by omega⟩; have hq : q < L.length := (by omega); have hc1 := hK.cell hp (hcell q hq); have hqI : (q : Int) < (L.length : Int) := (by omega); clear hcell r2)
  go_ret
  exact ⟨_, rfl, by first | exact getD_mem hq | exact List.getElem_mem hq, hK, hC1⟩

set_option maxHeartbeats 1000000 in
theorem l1Size_any (sl : Option Addr) (len cap : Nat) (w : World) (hl : len ≤ 1048576) :
    Calls Try.prog 52 #[.slice sl len cap, .int .i64 20] w fun e w' => (∃ r : Nat, e = .returned (.int .i64 r) ∧ r ≤ 20) ∧ w' = w := by
  by_cases h : (20 : Int) < 2 + (len : Int) / 20
  · go_enter Try.func52, Try.ntmps52
    go_wp2_with fail
    go_ret
    exact ⟨⟨20, rfl, by omega⟩, rfl⟩
  · go_enter Try.func52, Try.ntmps52
    go_wp2_with fail
    go_ret
    refine ⟨⟨2 + len / 20, ?_, by omega⟩, rfl⟩
    show Ending.returned (.int .i64 _) = _
    congr 2

/-- one number is appended to the free places. -/
theorem Dr.pushF {n : Nat} {W w w5 : World} {r b g c f d : Nat} {G F : List Int} {x : Int} {f1 d1 : Nat} (D : Dr n W w r b g c f d G F) (o : Obj)
    (hv5 : VRow w5 0 (.slice (some ⟨f1, 0, none⟩) (F.length + 1) d1) (F ++ [x])) (hg5 : (w.alloc o).grownBy w5 (some f)) (ho5 : f = f1 ∨ (w.alloc o).heap.size ≤ f1) :
    Dr n W (w5.setCell ⟨b, 1, none⟩ (.slice (some ⟨f1, 0, none⟩) (F.length + 1) d1)) r b g c f1 d1 G (F ++ [x]) := by
  have DA := D.alloc o
  have e := DA.ge
  have hl := DA.l
  have hbl := DA.t.k.lt
  have hrl := DA.rr.lt
  have hvl := DA.t.v.ge
  have hkz := DA.k.1.size
  obtain ⟨t1, t2, t3, t4⟩ := DA.turn hg5 e.2.1 e.2.2.2.2.1 e.2.2.2.2.2.2
  have hg := DA.t.v.kept hg5 (fun k hk e' => by simp [Value.ownBlock] at hk e'; omega)
  have hv := hv5.raise (B' := W.heap.size) (by rcases ho5 with h | h <;> omega)
  have hlen : (F ++ [x]).length = F.length + 1 := by simp
  have := Dr.put1 (F := F ++ [x]) (f := f1) (d := d1) t3 hg (by rw [hlen]; exact hv) (by rcases ho5 with h | h <;> omega) t1 t2 DA.l DA.bb t4 DA.ss DA.ee
  rw [hlen] at this
  exact this
theorem Dr.boxF {n : Nat} {W w w5 : World} {r b g c f d : Nat} {G F : List Int} (D : Dr n W w r b g c f d G F) (o : Obj) (hg5 : (w.alloc o).grownBy w5 (some f)) : Blk w5 b #[.slice (some ⟨g, 0, none⟩) G.length c, .slice (some ⟨f, 0, none⟩) F.length d] 26 := by
  have e := D.ge
  exact ((D.alloc o).turn hg5 e.2.1 e.2.2.2.2.1 e.2.2.2.2.2.2).2.2.1
theorem Dr.boxG {n : Nat} {W w w5 : World} {r b g c f d : Nat} {G F : List Int} (D : Dr n W w r b g c f d G F) (o : Obj) (hg5 : (w.alloc o).grownBy w5 (some g)) : Blk w5 b #[.slice (some ⟨g, 0, none⟩) G.length c, .slice (some ⟨f, 0, none⟩) F.length d] 26 := by
  have e := D.ge
  exact ((D.alloc o).turn hg5 e.1 e.2.2.2.1 e.2.2.2.2.2.1).2.2.1

set_option maxRecDepth 100000 in
set_option maxHeartbeats 8000000 in
theorem l2Spoilt_any (n : Nat) (W w : World) (g c f d : Nat) (G F : List Int) (hC : Cur n w) (hK : Keep n W w) (hn : n < W.heap.size) (h1 : VRow w W.heap.size (.slice (some ⟨g, 0, none⟩) G.length c) G) (h2 : VRow w W.heap.size (.slice (some ⟨f, 0, none⟩) F.length d) F) (hne : ¬ g = f) (l1 : G.length ≤ 2000) (l2 : F.length ≤ 2000) :
    Calls Try.prog 54 #[.pointer (some ⟨n, 0, none⟩), .agg #[.slice (some ⟨g, 0, none⟩) G.length c, .slice (some ⟨f, 0, none⟩) F.length d]] w fun e w' => Drawn (fun G F => G.length ≤ 3000 ∧ F.length ≤ 3000) n W e w' := by
  have hal := alloc_old
  have haf := alloc_oldf
  have hs := hK.1.size
  have D0 : Dr n W ((w.alloc (.cells #[.slice (some ⟨g, 0, none⟩) G.length c, .slice (some ⟨f, 0, none⟩) F.length d] 26)).alloc (.cells #[.slice none 0 0, .slice none 0 0] 26)) (w.heap.size + 1) w.heap.size g c f d G F :=
    ⟨⟨(Blk.new _ _ _).alloc _, (h1.alloc _).alloc _, (h2.alloc _).alloc _, hne⟩, (hC.alloc _).alloc _, (hK.alloc (by omega) _).alloc (by simp; omega) _, hn, hs, Blk.new' _ _ _ (by simp), by omega, by omega⟩
  go_enter Try.func54, Try.ntmps54
  go_upto_region 1 with fail
  generalize hX : ((w.alloc (.cells #[.slice (some ⟨g, 0, none⟩) G.length c, .slice (some ⟨f, 0, none⟩) F.length d] 26)).alloc (.cells #[.slice none 0 0, .slice none 0 0] 26)) = X at D0 ⊢
  generalize hb0 : w.heap.size = b at D0 ⊢
  clear hX hb0 hal haf
  have hal := alloc_old
  have haf := alloc_oldf
  clear h1 h2 hC hK hne hs
  go_upto_region 6 with (go_at_call 59; refine (l1Below_any n 4 _ D0.u (by omega)).mono ?_; rintro e w1 ⟨r, rfl, r1, r2, hK1, hC1⟩)
  have D := D0.keep hK1 hC1
  clear D0 hK1 hC1
  obtain ⟨x0, x1, x2⟩ := D.t.k.two
  have sz := D.bb
  obtain ⟨i0, hi, hz0, hz1, hz2⟩ := info_parts Try.infoI
  by_cases q0 : r = 0
  · subst q0
    clear r1 r2
    go_wp2_with fail
    have DD := D.drew
    have tw : IntKind.i64.wrap ((G.length : Int) + 3) = (G.length : Int) + 3 := by rw [IntKind.wrap_i64]; omega
    go_region_law (first
      | (refine step_append_lies _ (by rfl) _ _ _ (by rfl) W.heap.size 3 i0 (.int .i64 0) 1 8 Try.underlying24 hi hz0 hz1 hz2 rfl (by decide) (.slice (some ⟨f, 0, none⟩) F.length d) F.length (F.map (Value.int .i64)) (by rfl) (World.ownsRow.alloc D2.t.u _) ⟨w2.heap.size, 0, none⟩ 1 1 [.int .i64 (r - 1)] (by rfl) (by rfl) (World.news_of_block (cs := #[.int .i64 (r - 1)]) (t := 3) (fr := (0, 0)) (heap_alloc_new w2 _)) (by simp [Value.oneCell']) (by omega) (by unfold maxLen; omega) (by omega) (by have h9 := D2.k.1.size; simp at h9 ⊢; omega) (w2.heap.size + 1) (by simp) ?_; intro f1 d1 w5 hown hgrow hat hltg; have x9 := (D2.boxF _ hgrow).two; obtain ⟨x0, x1, x2⟩ := x9)
      | (go_simp; go_wp2_with (go_at_call 59; refine (l1Below_any n ((G.length : Int) + 3) _ DD.u (by omega)).mono ?_; rintro e w2 ⟨r, rfl, r1, r2, hK2, hC2⟩; have r3 : r ≤ 2003 := (by omega); have tr : IntKind.i64.wrap (r - 1) = r - 1 := (by rw [IntKind.wrap_i64]; omega); clear r2; have D2 : Dr n W w2 _ b g c f d G F := DD.keep hK2 hC2; obtain ⟨x0, x1, x2⟩ := D2.t.k.two)))
    all_goals
      have hv5 : VRow w5 0 (.slice (some ⟨f1, 0, none⟩) (F.length + 1) d1) (F ++ [r - 1]) := by
        refine VRow.mono (B := W.heap.size) ?_ (Nat.zero_le _)
        unfold VRow
        rw [List.length_append, List.map_append]
        exact hown
      have D5 := D2.pushF (x := r - 1) (.cells #[.int .i64 (r - 1)] 3) hv5 hgrow (by
        rcases hat with h | h
        · left; simpa [Value.ownBlock] using h
        · right; rw [h]; simp)
      generalize hZ : w5.setCell ⟨b, 1, none⟩ (.slice (some ⟨f1, 0, none⟩) (F.length + 1) d1) = Z at D5 ⊢
      clear hZ hv5 hown hgrow hat hltg
      have e := D5.ge
      have eb := D5.bb
      have er := D5.ss
      have ee := D5.ee
      obtain ⟨v0, v1, v2⟩ := D5.t.k.two
      (try rw [List.length_set] at v0)
      obtain ⟨y0, y1, y2⟩ := D5.rr.two
      go_wp2_with fail
      refine bodyPost_ret (v := .agg #[.slice (some ⟨g, 0, none⟩) G.length c, .slice (some ⟨f1, 0, none⟩) (F.length + 1) d1]) (by simp [results, Try.results54, go_sem, y0, y1]) rfl ⟨g, c, f1, d1, G, (F ++ [r - 1]), by first | rfl | simp, ?_, ?_, D5.t.n, ⟨by first | omega | (simp; omega), by first | omega | (simp; omega)⟩, ?_, ?_⟩
      · have := (D5.t.v.other (n := b + 1) (by simp [Value.ownBlock]; omega) 0 (.slice (some ⟨g, 0, none⟩) G.length c)).other (n := b + 1) (by simp [Value.ownBlock]; omega) 1 (.slice (some ⟨f1, 0, none⟩) (F.length + 1) d1)
        first | exact this | simpa using this
      · have := (D5.t.u.other (n := b + 1) (by simp [Value.ownBlock]; omega) 0 (.slice (some ⟨g, 0, none⟩) G.length c)).other (n := b + 1) (by simp [Value.ownBlock]; omega) 1 (.slice (some ⟨f1, 0, none⟩) (F.length + 1) d1)
        first | exact this | simpa using this
      · exact (D5.k.setNew (by dsimp only; omega) (by dsimp only; omega) _).setNew (by dsimp only; omega) (by dsimp only; omega) _
      · exact (D5.u.set (by dsimp only; omega) _).set (by dsimp only; omega) _
  · by_cases q1 : r = 1
    · subst q1
      clear r1 r2 q0
      by_cases hg0 : 0 < G.length
      · have hgI : (0 : Int) < (G.length : Int) := by omega
        go_wp2_with fail
        have DD := D.drew
        have pn : n < w1.drew.heap.size := DD.u.lt
        have pn' : n < w1.heap.size := D.u.lt
        have DZ := D
        go_region_with (first
          | (go_at_call 59; refine (l1Below_any n (G.length : Int) _ (Dr.u (DZ.below (by (repeat (first | with_reducible exact Below.refl _ _ | with_reducible refine bl_alloc ?_ _ | with_reducible refine bl_drewN ?_ _ | with_reducible refine bl_drew ?_ | with_reducible refine bl_setCell ?_ (by first | exact Nat.le_refl _ | (dsimp only; omega) | (simp <;> omega)) _ | with_reducible refine bl_trans ?_ (by with_reducible assumption)))))) (by omega)).mono ?_; rintro e w2 ⟨r, rfl, r1, r2, hK2, hC2⟩; obtain ⟨q, rfl⟩ : ∃ q : Nat, r = (q : Int) := ⟨r.toNat, (by omega)⟩; have hq : q < G.length := (by omega); have hqI : (q : Int) < (G.length : Int) := (by omega); clear r2; have DZ : Dr n W w2 _ b g c f d G F := Dr.keep (DZ.below (by (repeat (first | with_reducible exact Below.refl _ _ | with_reducible refine bl_alloc ?_ _ | with_reducible refine bl_drewN ?_ _ | with_reducible refine bl_drew ?_ | with_reducible refine bl_setCell ?_ (by first | exact Nat.le_refl _ | (dsimp only; omega) | (simp <;> omega)) _ | with_reducible refine bl_trans ?_ (by with_reducible assumption))))) hK2 hC2; obtain ⟨x0, x1, x2⟩ := DZ.t.k.two; obtain ⟨z0, z1⟩ := DZ.t.v.cell hq)
          | (go_at_call 41; refine (l1PickInt_any n _ 0 2 [-1, 1000001] _ (Dr.u (DZ.below (by (repeat (first | with_reducible exact Below.refl _ _ | with_reducible refine bl_alloc ?_ _ | with_reducible refine bl_drewN ?_ _ | with_reducible refine bl_drew ?_ | with_reducible refine bl_setCell ?_ (by first | exact Nat.le_refl _ | (dsimp only; omega) | (simp <;> omega)) _ | with_reducible refine bl_trans ?_ (by with_reducible assumption)))))) (by first | exact ints_two (Blk.new _ _ _) | exact ints_two (Blk.keep (Blk.drew (Blk.new _ _ _)) hK2 (by omega)) | exact ints_two (Blk.keep (Blk.new _ _ _) hK2 (by omega))) (by simp) (by simp) (by have h9 := DZ.u.lt; first | omega | (simp; omega))).mono ?_; rintro e w3 ⟨x, rfl, hx, hK3, hC3⟩; have DZ : Dr n W w3 _ b g c f d G F := Dr.keep (DZ.below (by (repeat (first | with_reducible exact Below.refl _ _ | with_reducible refine bl_alloc ?_ _ | with_reducible refine bl_drewN ?_ _ | with_reducible refine bl_drew ?_ | with_reducible refine bl_setCell ?_ (by first | exact Nat.le_refl _ | (dsimp only; omega) | (simp <;> omega)) _ | with_reducible refine bl_trans ?_ (by with_reducible assumption))))) hK3 hC3; obtain ⟨x0, x1, x2⟩ := DZ.t.k.two; obtain ⟨z0, z1⟩ := DZ.t.v.cell hq))
        all_goals
          have D5 := DZ.setG q x
          generalize hZ : w3.setCell ⟨g, q, none⟩ (.int .i64 x) = Z at D5 ⊢
          clear hZ
          have e := D5.ge
          have eb := D5.bb
          have er := D5.ss
          have ee := D5.ee
          obtain ⟨v0, v1, v2⟩ := D5.t.k.two
          (try rw [List.length_set] at v0)
          obtain ⟨y0, y1, y2⟩ := D5.rr.two
          go_wp2_with fail
          refine bodyPost_ret (v := .agg #[.slice (some ⟨g, 0, none⟩) G.length c, .slice (some ⟨f, 0, none⟩) F.length d]) (by simp [results, Try.results54, go_sem, y0, y1]) rfl ⟨g, c, f, d, (G.set q x), F, by first | rfl | simp, ?_, ?_, D5.t.n, ⟨by first | omega | (simp; omega), by first | omega | (simp; omega)⟩, ?_, ?_⟩
          · have := (D5.t.v.other (n := b + 1) (by simp [Value.ownBlock]; omega) 0 (.slice (some ⟨g, 0, none⟩) G.length c)).other (n := b + 1) (by simp [Value.ownBlock]; omega) 1 (.slice (some ⟨f, 0, none⟩) F.length d)
            first | exact this | simpa using this
          · have := (D5.t.u.other (n := b + 1) (by simp [Value.ownBlock]; omega) 0 (.slice (some ⟨g, 0, none⟩) G.length c)).other (n := b + 1) (by simp [Value.ownBlock]; omega) 1 (.slice (some ⟨f, 0, none⟩) F.length d)
            first | exact this | simpa using this
          · exact (D5.k.setNew (by dsimp only; omega) (by dsimp only; omega) _).setNew (by dsimp only; omega) (by dsimp only; omega) _
          · exact (D5.u.set (by dsimp only; omega) _).set (by dsimp only; omega) _

      · have hgI : ¬ (0 : Int) < (G.length : Int) := by omega
        have D5 := D
        go_upto_region 14 with fail
        have e := D5.ge
        have eb := D5.bb
        have er := D5.ss
        have ee := D5.ee
        obtain ⟨v0, v1, v2⟩ := D5.t.k.two
        (try rw [List.length_set] at v0)
        obtain ⟨y0, y1, y2⟩ := D5.rr.two
        go_wp2_with fail
        refine bodyPost_ret (v := .agg #[.slice (some ⟨g, 0, none⟩) G.length c, .slice (some ⟨f, 0, none⟩) F.length d]) (by simp [results, Try.results54, go_sem, y0, y1]) rfl ⟨g, c, f, d, G, F, by first | rfl | simp, ?_, ?_, D5.t.n, ⟨by first | omega | (simp; omega), by first | omega | (simp; omega)⟩, ?_, ?_⟩
        · have := (D5.t.v.other (n := b + 1) (by simp [Value.ownBlock]; omega) 0 (.slice (some ⟨g, 0, none⟩) G.length c)).other (n := b + 1) (by simp [Value.ownBlock]; omega) 1 (.slice (some ⟨f, 0, none⟩) F.length d)
          first | exact this | simpa using this
        · have := (D5.t.u.other (n := b + 1) (by simp [Value.ownBlock]; omega) 0 (.slice (some ⟨g, 0, none⟩) G.length c)).other (n := b + 1) (by simp [Value.ownBlock]; omega) 1 (.slice (some ⟨f, 0, none⟩) F.length d)
          first | exact this | simpa using this
        · exact (D5.k.setNew (by dsimp only; omega) (by dsimp only; omega) _).setNew (by dsimp only; omega) (by dsimp only; omega) _
        · exact (D5.u.set (by dsimp only; omega) _).set (by dsimp only; omega) _
    · by_cases q2 : r = 2
      · subst q2
        clear r1 r2 q0 q1
        by_cases hf0 : 0 < F.length
        · have hfI : (0 : Int) < (F.length : Int) := by omega
          obtain ⟨x, hx⟩ : ∃ x, Hid (F[0]?.getD 0 = x) := ⟨F[0]?.getD 0, by show _ = _; rfl⟩
          obtain ⟨z0, z1⟩ := D.t.u.cell hf0
          rw [hx.out] at z0
          go_wp2_with fail
          have DD := D.drew
          go_region_law (first
            | (refine step_append_lies _ (by rfl) _ _ _ (by rfl) W.heap.size 3 i0 (.int .i64 0) 1 8 Try.underlying24 hi hz0 hz1 hz2 rfl (by decide) (.slice (some ⟨f, 0, none⟩) F.length d) F.length (F.map (Value.int .i64)) (by rfl) (World.ownsRow.alloc DD.t.u _) ⟨w1.drew.heap.size, 0, none⟩ 1 1 [.int .i64 (x)] (by rfl) (by rfl) (World.news_of_block (cs := #[.int .i64 (x)]) (t := 3) (fr := (0, 0)) (heap_alloc_new w1.drew _)) (by simp [Value.oneCell']) (by omega) (by unfold maxLen; omega) (by omega) (by have h9 := DD.k.1.size; simp at h9 ⊢; omega) (w1.drew.heap.size + 1) (by simp) ?_; intro f1 d1 w5 hown hgrow hat hltg; have x9 := (DD.boxF _ hgrow).two; obtain ⟨x0, x1, x2⟩ := x9))
          all_goals
            have hv5 : VRow w5 0 (.slice (some ⟨f1, 0, none⟩) (F.length + 1) d1) (F ++ [x]) := by
              refine VRow.mono (B := W.heap.size) ?_ (Nat.zero_le _)
              unfold VRow
              rw [List.length_append, List.map_append]
              exact hown
            have D5 := DD.pushF (x := x) (.cells #[.int .i64 (x)] 3) hv5 hgrow (by
              rcases hat with h | h
              · left; simpa [Value.ownBlock] using h
              · right; rw [h]; simp)
            generalize hZ : w5.setCell ⟨b, 1, none⟩ (.slice (some ⟨f1, 0, none⟩) (F.length + 1) d1) = Z at D5 ⊢
            clear hZ hv5 hown hgrow hat hltg
            have e := D5.ge
            have eb := D5.bb
            have er := D5.ss
            have ee := D5.ee
            obtain ⟨v0, v1, v2⟩ := D5.t.k.two
            (try rw [List.length_set] at v0)
            obtain ⟨y0, y1, y2⟩ := D5.rr.two
            go_wp2_with fail
            refine bodyPost_ret (v := .agg #[.slice (some ⟨g, 0, none⟩) G.length c, .slice (some ⟨f1, 0, none⟩) (F.length + 1) d1]) (by simp [results, Try.results54, go_sem, y0, y1]) rfl ⟨g, c, f1, d1, G, (F ++ [x]), by first | rfl | simp, ?_, ?_, D5.t.n, ⟨by first | omega | (simp; omega), by first | omega | (simp; omega)⟩, ?_, ?_⟩
            · have := (D5.t.v.other (n := b + 1) (by simp [Value.ownBlock]; omega) 0 (.slice (some ⟨g, 0, none⟩) G.length c)).other (n := b + 1) (by simp [Value.ownBlock]; omega) 1 (.slice (some ⟨f1, 0, none⟩) (F.length + 1) d1)
              first | exact this | simpa using this
            · have := (D5.t.u.other (n := b + 1) (by simp [Value.ownBlock]; omega) 0 (.slice (some ⟨g, 0, none⟩) G.length c)).other (n := b + 1) (by simp [Value.ownBlock]; omega) 1 (.slice (some ⟨f1, 0, none⟩) (F.length + 1) d1)
              first | exact this | simpa using this
            · exact (D5.k.setNew (by dsimp only; omega) (by dsimp only; omega) _).setNew (by dsimp only; omega) (by dsimp only; omega) _
            · exact (D5.u.set (by dsimp only; omega) _).set (by dsimp only; omega) _
        · have hfI : ¬ (0 : Int) < (F.length : Int) := by omega
          have D5 := D
          go_upto_region 14 with fail
          have e := D5.ge
          have eb := D5.bb
          have er := D5.ss
          have ee := D5.ee
          obtain ⟨v0, v1, v2⟩ := D5.t.k.two
          (try rw [List.length_set] at v0)
          obtain ⟨y0, y1, y2⟩ := D5.rr.two
          go_wp2_with fail
          refine bodyPost_ret (v := .agg #[.slice (some ⟨g, 0, none⟩) G.length c, .slice (some ⟨f, 0, none⟩) F.length d]) (by simp [results, Try.results54, go_sem, y0, y1]) rfl ⟨g, c, f, d, G, F, by first | rfl | simp, ?_, ?_, D5.t.n, ⟨by first | omega | (simp; omega), by first | omega | (simp; omega)⟩, ?_, ?_⟩
          · have := (D5.t.v.other (n := b + 1) (by simp [Value.ownBlock]; omega) 0 (.slice (some ⟨g, 0, none⟩) G.length c)).other (n := b + 1) (by simp [Value.ownBlock]; omega) 1 (.slice (some ⟨f, 0, none⟩) F.length d)
            first | exact this | simpa using this
          · have := (D5.t.u.other (n := b + 1) (by simp [Value.ownBlock]; omega) 0 (.slice (some ⟨g, 0, none⟩) G.length c)).other (n := b + 1) (by simp [Value.ownBlock]; omega) 1 (.slice (some ⟨f, 0, none⟩) F.length d)
            first | exact this | simpa using this
          · exact (D5.k.setNew (by dsimp only; omega) (by dsimp only; omega) _).setNew (by dsimp only; omega) (by dsimp only; omega) _
          · exact (D5.u.set (by dsimp only; omega) _).set (by dsimp only; omega) _
      · have qb0 : (r == 0) = false := by simp [q0]
        have qb1 : (r == 1) = false := by simp [q1]
        have qb2 : (r == 2) = false := by simp [q2]
        go_wp2_with fail
        go_loopw [5] (fun i wr => ∃ k : Nat, k ≤ 3 ∧ i = .int .i64 k ∧ ∃ g c f d G F, Dr n W wr (b + 1) b g c f d G F ∧ G.length ≤ 2000 + k ∧ F.length ≤ 2000) (fun i _ => 3 - (intOf i).toNat)
        case atStart => exact ⟨0, by omega, rfl, _, _, _, _, _, _, D, by omega, l2⟩
        case round =>
          clear D x0 x1 x2 l1 l2
          obtain ⟨k, hk, rfl, g, c, f, d, G, F, D, l1, l2⟩ := hrel
          obtain ⟨x0, x1, x2⟩ := D.t.k.two
          by_cases hlt : k < 3
          · have hltI : (k : Int) < 3 := by omega
            have hz := (Blk.new wr #[.int .i64 0] 3).cell 0
            have Va := D.t.v.alloc' (.cells #[.int .i64 0] 3)
            go_wp2_with (at_builtin; refine wpList_append_one _ rfl (.tmp 13) (.tmp 14) rfl W.heap.size (.slice (some ⟨g, 0, none⟩) G.length c) G rfl Va wr.heap.size 0 rfl hz (by omega) ?_)
            intro g1 d1 w5 hv5 hg5 ho5 hl5
            have hg5' : (wr.alloc (.cells #[.int .i64 0] 3)).grownBy w5 (some g) := hg5
            have ho5' : g = g1 ∨ (wr.alloc (.cells #[.int .i64 0] 3)).heap.size ≤ g1 := by
              rcases ho5 with h | h
              · left; simpa [Value.ownBlock] using h
              · right; simpa using h
            have D5 := D.push (x := 0) (.cells #[.int .i64 0] 3) hv5 hg5' ho5'
            have B5 := D.boxG (.cells #[.int .i64 0] 3) hg5'
            clear x0 x1 x2 hz Va hg5 hg5' ho5 ho5' hv5 hl5 D
            obtain ⟨x0, x1, x2⟩ := B5.two
            go_wp2_with fail
            go_roundw
            case rel => exact ⟨k + 1, by omega, by go_num, _, _, _, _, _, _, D5, by simp; omega, l2⟩
            case measure => simp [intOf]; omega
          · have hltI : ¬ (k : Int) < 3 := by omega
            have D5 := D
            go_upto_region 14 with fail
            have e := D5.ge
            have eb := D5.bb
            have er := D5.ss
            have ee := D5.ee
            obtain ⟨v0, v1, v2⟩ := D5.t.k.two
            (try rw [List.length_set] at v0)
            obtain ⟨y0, y1, y2⟩ := D5.rr.two
            go_wp2_with fail
            refine bodyPost_ret (v := .agg #[.slice (some ⟨g, 0, none⟩) G.length c, .slice (some ⟨f, 0, none⟩) F.length d]) (by simp [results, Try.results54, go_sem, y0, y1]) rfl ⟨g, c, f, d, G, F, by first | rfl | simp, ?_, ?_, D5.t.n, ⟨by first | omega | (simp; omega), by first | omega | (simp; omega)⟩, ?_, ?_⟩
            · have := (D5.t.v.other (n := b + 1) (by simp [Value.ownBlock]; omega) 0 (.slice (some ⟨g, 0, none⟩) G.length c)).other (n := b + 1) (by simp [Value.ownBlock]; omega) 1 (.slice (some ⟨f, 0, none⟩) F.length d)
              first | exact this | simpa using this
            · have := (D5.t.u.other (n := b + 1) (by simp [Value.ownBlock]; omega) 0 (.slice (some ⟨g, 0, none⟩) G.length c)).other (n := b + 1) (by simp [Value.ownBlock]; omega) 1 (.slice (some ⟨f, 0, none⟩) F.length d)
              first | exact this | simpa using this
            · exact (D5.k.setNew (by dsimp only; omega) (by dsimp only; omega) _).setNew (by dsimp only; omega) (by dsimp only; omega) _
            · exact (D5.u.set (by dsimp only; omega) _).set (by dsimp only; omega) _
end Go.Proofs.Ytcllkmdlheggkaa
