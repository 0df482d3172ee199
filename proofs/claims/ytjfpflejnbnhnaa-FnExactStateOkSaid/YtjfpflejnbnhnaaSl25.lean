import Derived.Test.YtjfpflejnbnhnaaSl24
import Derived.Deep.RegionHeld3
import Derived.Deep.AppendLies
import Derived.Deep.RegionLaw
import Derived.Laws.CopyOwn
namespace Go.Proofs.Ytjfpflejnbnhnaa
section
open Go.RowKit
set_option linter.unusedVariables false
set_option linter.unusedSimpArgs false
theorem vcells_len (v : V4) : (vcells v).length = 4 := rfl
def VR (w : World) (B g n cap : Nat) (L : List V4) : Prop := w.ownsRow B 85 4 (.slice (some ⟨g, 0, none⟩) n cap) n (L.flatMap vcells)
theorem VR.lt {w : World} {B g n cap : Nat} {L : List V4} (h : VR w B g n cap L) : B ≤ g ∧ g < w.heap.size := World.ownsRow.lt h g rfl
theorem VR.cells {w : World} {B g n cap : Nat} {L : List V4} (h : VR w B g n cap L) (hn : L.length = n) {j : Nat} {a : V4} (ha : L[j]? = some a) : w.cell? ⟨g, j * 4, none⟩ = some (.int .i64 a.1) ∧ w.cell? ⟨g, j * 4 + 1, none⟩ = some (.int .i64 a.2.1) ∧ w.cell? ⟨g, j * 4 + 2, none⟩ = some (.float .f64 a.2.2.1) ∧ w.cell? ⟨g, j * 4 + 3, none⟩ = some (.float .f64 a.2.2.2) ∧ ∀ o, w.frozen? ⟨g, o, none⟩ = false := by
 have hj : j < L.length := (List.getElem?_eq_some_iff.1 ha).1
 have e : ∀ i u, (vcells a)[i]? = some u → w.cell? ⟨g, j * 4 + i, none⟩ = some u := by
  intro i u hu
  have hi : i < 4 := (List.getElem?_eq_some_iff.1 hu).1
  rw [World.ownsRow.cellAt h (j * 4 + i) (by omega), flat_get vcells_len L j a ha i hi, hu]
 exact ⟨e 0 _ rfl, e 1 _ rfl, e 2 _ rfl, e 3 _ rfl, fun o => World.ownsRow.frozenAt h o⟩
theorem VR.put {w : World} {B g n cap : Nat} {A C : List V4} {p q : V4} (h : VR w B g n cap (A ++ p :: C)) :
  VR ((((w.setCell ⟨g, A.length * 4, none⟩ (.int .i64 q.1)).setCell ⟨g, A.length * 4 + 1, none⟩ (.int .i64 q.2.1)).setCell ⟨g, A.length * 4 + 2, none⟩ (.float .f64 q.2.2.1)).setCell ⟨g, A.length * 4 + 3, none⟩ (.float .f64 q.2.2.2)) B g n cap (A ++ q :: C) := by
 have hA : (A.flatMap vcells).length = A.length * 4 := flat_len vcells_len A
 have e1 : (A ++ p :: C).flatMap vcells = A.flatMap vcells ++ (vcells p ++ C.flatMap vcells) := by simp
 have e2 : (A ++ q :: C).flatMap vcells = A.flatMap vcells ++ (vcells q ++ C.flatMap vcells) := by simp
 unfold VR at h ⊢
 rw [e1] at h
 rw [e2]
 have h1 := (World.ownsRow.stored h ((A.flatMap vcells).length + 0) (.int .i64 q.1)).1
 rw [set_mid _ _ _ _ _ (by simp [vcells])] at h1
 have h2 := (World.ownsRow.stored h1 ((A.flatMap vcells).length + 1) (.int .i64 q.2.1)).1
 rw [set_mid _ _ _ _ _ (by simp [vcells])] at h2
 have h3 := (World.ownsRow.stored h2 ((A.flatMap vcells).length + 2) (.float .f64 q.2.2.1)).1
 rw [set_mid _ _ _ _ _ (by simp [vcells])] at h3
 have h4 := (World.ownsRow.stored h3 ((A.flatMap vcells).length + 3) (.float .f64 q.2.2.2)).1
 rw [set_mid _ _ _ _ _ (by simp [vcells]), hA] at h4
 exact h4
def Only (g : Nat) (w w' : World) : Prop := w.os = w'.os ∧ w.heap.size ≤ w'.heap.size ∧ (∀ W : World, ∀ B, B ≤ g → Below B W w → Below B W w') ∧ ∀ k, ¬ k = g → k < w.heap.size → w'.heap[k]? = w.heap[k]?
theorem Only.refl (g : Nat) (w : World) : Only g w w := ⟨rfl, Nat.le_refl _, fun _ _ _ h => h, fun _ _ _ => rfl⟩
theorem Only.set {g : Nat} {w w' : World} (h : Only g w w') (o : Nat) (u : Value) : Only g w (w'.setCell ⟨g, o, none⟩ u) :=
 ⟨h.1.trans rfl, by simpa using h.2.1, fun W B hB hW => (h.2.2.1 W B hB hW).setCell hB u, fun k hk hl => (Below.heap_setCell w' ⟨g, o, none⟩ u k (by dsimp only; omega)).trans (h.2.2.2 k hk hl)⟩
theorem Only.kept {g B : Nat} {w w' : World} (h : Only g w w') (hB : g < B) : Kept B w w' := ⟨h.2.1, fun k hk hl => h.2.2.2 k (by omega) hl⟩
theorem Only.trans {g : Nat} {a b c : World} (h : Only g a b) (k : Only g b c) : Only g a c :=
 ⟨h.1.trans k.1, Nat.le_trans h.2.1 k.2.1, fun W B hB hW => k.2.2.1 W B hB (h.2.2.1 W B hB hW), fun i hi hl => (k.2.2.2 i hi (Nat.lt_of_lt_of_le hl h.2.1)).trans (h.2.2.2 i hi hl)⟩
theorem Only.of {g : Nat} {a b : World} (h : Below a.heap.size a b) (hg : g < a.heap.size) : Only g a b :=
 ⟨h.os.symm, h.size, fun W B hB hW => hW.trans (h.mono (by omega)), fun i _ hl => h.block i hl⟩
def OV (w : World) (B : Nat) (v : Value) (L : List V4) : Prop := w.ownsRow B 85 4 v L.length (L.flatMap vcells)
theorem OV.form {w : World} {B : Nat} {v : Value} {L : List V4} (h : OV w B v L) : (v = .slice none 0 0 ∧ L = []) ∨ ∃ g cap, v = .slice (some ⟨g, 0, none⟩) L.length cap ∧ B ≤ g ∧ VR w B g L.length cap L := by
 rcases h.2 with ⟨h1, h2⟩ | ⟨g, cap, cur, rfl, hb, r⟩
 ·
  exact Or.inl ⟨h1, List.length_eq_zero_iff.1 h2⟩
 ·
  exact Or.inr ⟨g, cap, rfl, hb, h⟩
theorem OV.later {w w' : World} {B : Nat} {v : Value} {L : List V4} (h : OV w B v L) (hb : Below w.heap.size w w') : OV w' B v L := by
 refine World.ownsRow.kept h (grown_of_below hb) ?_
 cases v.ownBlock with
 | none => exact Or.inl rfl
 | some b => exact Or.inr (by simp)
theorem OV.kept {w w' : World} {B : Nat} {v : Value} {L : List V4} (h : OV w B v L) (hk : Kept B w w') : OV w' B v L := by
 refine ⟨h.1, ?_⟩
 rcases h.2 with h' | ⟨g, cap', cur, h', hb, hg, r⟩
 ·
  exact Or.inl h'
 ·
  exact Or.inr ⟨g, cap', cur, h', hb, (hk.2 g hb (Array.getElem?_eq_some_iff.1 hg).1).trans hg, r⟩
theorem OV.shape {w : World} {B : Nat} {v : Value} {L : List V4} (h : OV w B v L) : ∃ s c, v = .slice s L.length c := by
 rcases h.form with ⟨rfl, rfl⟩ | ⟨g, cap, rfl, _⟩
 ·
  exact ⟨_, _, rfl⟩
 ·
  exact ⟨_, _, rfl⟩
theorem OV.els {w : World} {B : Nat} {s : Option Addr} {n c : Nat} {L : List V4} (h : OV w B (.slice s n c) L) (ok : ∀ v ∈ L, okV v) : Els 4 cVal w B s L := by
 rcases h.form with ⟨h1, rfl⟩ | ⟨g, cap, h1, _, hr⟩
 ·
  exact Or.inl rfl
 ·
  simp only [Value.slice.injEq] at h1
  obtain ⟨rfl, rfl, rfl⟩ := h1
  exact els_of_row vcells_len h (fun a ha => ⟨rfl, ok a ha⟩)
theorem Blk.same {w w' : World} {n : Nat} {c : Array Value} {t : TypeId} (h : Blk w n c t) (hb : w'.heap[n]? = w.heap[n]?) : Blk w' n c t := by unfold Blk; rw [hb]; exact h
theorem els_ok {w : World} {B : Nat} {s : Option Addr} {L : List V4} (h : Els 4 cVal w B s L) : ∀ v ∈ L, okV v := by
 intro v hv
 obtain ⟨j, hj, rfl⟩ := List.getElem_of_mem hv
 obtain ⟨_, _, _, _, _, hok, _⟩ := eVal_cells h (j := j) (a := L[j]) (by simp [hj])
 exact hok
theorem mk_own {z : List Value} {w : World} {B g : Nat} {L : List V4} (h : Mk 4 cVal z 85 w B g L L.length) : OV w B (.slice (some ⟨g, 0, none⟩) L.length L.length) L := by
 obtain ⟨h1, h2, U, h3, h4, h5, h6⟩ := h
 rw [Nat.sub_self] at h6
 simp only [List.replicate_zero, List.append_nil] at h6
 have e : U = L.map vcells := by
  apply List.ext_getElem?
  intro j
  by_cases hj : j < L.length
  ·
   obtain ⟨c, hc⟩ := get_some (L := U) (k := j) (by omega)
   obtain ⟨a, ha⟩ := get_some hj
   rw [hc, List.getElem?_map, ha, (h5 j c a hc ha).1]
   rfl
  ·
   rw [List.getElem?_eq_none (by omega), List.getElem?_eq_none (by simp; omega)]
 subst e
 unfold OV
 rw [List.flatMap_def]
 exact h6
def Own (w : World) (L : List V4) (e : Ending) (w' : World) : Prop :=
 ∃ g c, e = .returned (.slice (some ⟨g, 0, none⟩) L.length c) ∧ OV w' w.heap.size (.slice (some ⟨g, 0, none⟩) L.length c) L ∧ (∀ v ∈ L, okV v) ∧ Below w.heap.size w w'
set_option maxHeartbeats 4000000 in
theorem toValS_own (s : Option Addr) (c : Nat) (L : List V4) (B : Nat) (w : World) (hL : Els 4 cVal w B s L) (hl : L.length ≤ 1048576) :
  Calls Try.prog 44 #[.slice s L.length c] w fun e w' => Own w L e w' := by
 have hoks := els_ok hL
 obtain ⟨i0, hi, hz0, hz1, hz2⟩ := info_parts Try.infoV
 go_enter Try.func44, Try.ntmps44
 go_wp2_with (at_make; refine wpList_make_full _ rfl _ _ 44 rfl w.heap.size 85 i0 (.agg #[.int .i64 0, .int .i64 0, .float .f64 0, .float .f64 0]) 4 Try.underlying44 hi hz0 hz1 .i64 .i64 _ _ L.length rfl rfl rfl rfl (by rw [hz2]; omega) (by unfold maxLen; omega) (Nat.le_refl _) ?_)
 intro w1 hown hgrow
 have hrow : Hid (Mk 4 cVal [.int .i64 0, .int .i64 0, .float .f64 0, .float .f64 0] 85 w1 w.heap.size w.heap.size L 0) := Mk.start (z := #[.int .i64 0, .int .i64 0, .float .f64 0, .float .f64 0]) rfl hown
 have hbel : Hid (Below w.heap.size w w1) := (Below.refl _ w).grown hgrow (Nat.le_refl _) (fun k h => by cases h)
 clear hown hgrow hi hz0 hz1 hz2
 go_wp2_with fail
 go_loopw [4] (fun i wr => ∃ k : Nat, k ≤ L.length ∧ i = .int .i64 k ∧ Hid (Mk 4 cVal [.int .i64 0, .int .i64 0, .float .f64 0, .float .f64 0] 85 wr w.heap.size w.heap.size L k) ∧ Hid (Below w.heap.size w wr)) (fun i _ => L.length - (intOf i).toNat)
 case atStart => exact ⟨0, Nat.zero_le _, rfl, hrow, hbel⟩
 case round =>
  obtain ⟨k, hk, rfl, hrow, hbel⟩ := hrel
  by_cases hlt : k < L.length
  ·
   obtain ⟨a, ha⟩ := get_some hlt
   obtain ⟨b, o, rfl, hB, hp, hok, e1, e2, e3, e4⟩ := eVal_cells (hL.later cVal_keeps hbel.out) ha
   obtain ⟨p1, p2, p3, p4⟩ := a
   have HO : Hid (okV (p1, p2, p3, p4)) := hok
   clear hL hok hoks
   go_wp2_with fail
   refine (toVal_any p1 p2 p3 p4 _).mono ?_
   rintro e w2 ⟨rfl, hb2⟩
   have hr2 := hrow.out.later cVal_keeps hb2
   have L2 : Hid (Below w.heap.size w w2) := bl_trans hbel.out hb2
   obtain ⟨_, hg, fz, cz⟩ := hr2.at hlt
   have g1 := cz 0 _ rfl
   have g2 := cz 1 _ rfl
   have g3 := cz 2 _ rfl
   have g4 := cz 3 _ rfl
   rw [Nat.add_zero] at g1
   have hputH : Hid (Mk 4 cVal [.int .i64 0, .int .i64 0, .float .f64 0, .float .f64 0] 85 ((((w2.setCell ⟨w.heap.size, k * 4, none⟩ (.int .i64 p1)).setCell ⟨w.heap.size, k * 4 + 1, none⟩ (.int .i64 p2)).setCell ⟨w.heap.size, k * 4 + 2, none⟩ (.float .f64 p3)).setCell ⟨w.heap.size, k * 4 + 3, none⟩ (.float .f64 p4)) w.heap.size w.heap.size L (k + 1)) :=
    hr2.push cVal_keeps ha (c := vcells (p1, p2, p3, p4)) rfl ⟨rfl, HO.out⟩ ((((Kept.set _ (by simp) _).trans (Kept.set _ (by simp) _)).trans (Kept.set _ (by simp) _)).trans (Kept.set _ (by simp) _)) (fun A C hA h => put4 hA h)
   clear hr2 hrow ha cz
   go_wp2_with fail
   go_roundw
   case rel => exact ⟨k + 1, by omega, by go_num, hputH, (((L2.out.setCell (Nat.le_refl _) _).setCell (Nat.le_refl _) _).setCell (Nat.le_refl _) _).setCell (Nat.le_refl _) _⟩
   case measure => simp [intOf]; omega
  ·
   have hm' : k = L.length := by omega
   subst hm'
   go_wp2_with fail
   go_ret
   exact ⟨_, _, rfl, mk_own hrow.out, hoks, hbel.out⟩
theorem OV.mono {w : World} {B B' : Nat} {v : Value} {L : List V4} (h : OV w B v L) (hB : B' ≤ B) : OV w B' v L := by
 refine ⟨h.1, ?_⟩
 rcases h.2 with h' | ⟨g, cap', cur, h', hb, r⟩
 ·
  exact Or.inl h'
 ·
  exact Or.inr ⟨g, cap', cur, h', Nat.le_trans hB hb, r⟩
theorem OV.lt {w : World} {B : Nat} {v : Value} {L : List V4} (h : OV w B v L) : ∀ g, v.ownBlock = some g → B ≤ g ∧ g < w.heap.size := World.ownsRow.lt h
theorem OV.same {w w' : World} {B : Nat} {u : Value} {L : List V4} (h : OV w B u L) (hs : ∀ g, u.ownBlock = some g → g < w.heap.size → w'.heap[g]? = w.heap[g]?) : OV w' B u L := by
 refine ⟨h.1, ?_⟩
 rcases h.2 with h' | ⟨g, cap', cur, h', hb', hg, r⟩
 ·
  exact Or.inl h'
 ·
  refine Or.inr ⟨g, cap', cur, h', hb', ?_, r⟩
  subst h'
  exact (hs g rfl (Array.getElem?_eq_some_iff.1 hg).1).trans hg
theorem blk3u (w : World) (c d e : Array Value) (t u v : TypeId) : Blk (((w.alloc (.cells c t)).alloc (.cells d u)).alloc (.cells e v)) w.heap.size c t ∧ Blk (((w.alloc (.cells c t)).alloc (.cells d u)).alloc (.cells e v)) (w.heap.size + 1) d u ∧ Blk (((w.alloc (.cells c t)).alloc (.cells d u)).alloc (.cells e v)) (w.heap.size + 1 + 1) e v :=
 ⟨((blk2 w c d t u).1).alloc _, ((blk2 w c d t u).2).alloc _, Blk.new' _ _ _ (by simp)⟩
set_option maxHeartbeats 1000000 in
theorem szStream_gen (f : Int) (s1 s2 : Option Addr) (n1 n2 c1 c2 : Nat) (left : Int) (w : World) (h0 : 0 ≤ left) (h9 : left ≤ 1048576) (h1 : n1 ≤ 9223372036854775807) (h2 : n2 ≤ 9223372036854775807) :
  Calls Try.prog 32 #[.agg #[.int .i64 f, .slice s1 n1 c1, .slice s2 n2 c2], .int .i64 left] w fun e w' => Szd left (n1 ≤ 1048576 ∧ n2 ≤ 1048576) e ∧ Below w.heap.size w w' := by
 obtain ⟨x0, x1, x2, x3⟩ := (Blk.new w #[.int .i64 f, .slice s1 n1 c1, .slice s2 n2 c2] 79).three'
 go_enter Try.func32, Try.ntmps32
 go_wp2_with fail
 refine (szValS_gen s1 n1 c1 left _ h0 h9 h1).mono ?_
 rintro e w' ⟨⟨r, rfl, hr⟩, rfl⟩
 rcases hr with rfl | ⟨r0, r1, rn⟩
 ·
  go_wp2_with fail
  go_ret
  refine ⟨⟨_, rfl, Or.inl rfl⟩, ?_⟩
  (repeat (first | with_reducible exact Below.refl _ _ | with_reducible refine bl_alloc ?_ _ | with_reducible refine bl_drewN ?_ _ | with_reducible refine bl_drew ?_ | with_reducible refine bl_setCell ?_ (by first | exact Nat.le_refl _ | (dsimp only; omega) | (simp <;> omega)) _ | with_reducible refine bl_trans ?_ (by with_reducible assumption)))
 ·
  have t1 : decide (r < 0) = false := by simp; omega
  go_wp2_with fail
  refine (szValS_gen s2 n2 c2 r _ r0 (by omega) h2).mono ?_
  rintro e w' ⟨⟨q, rfl, hq⟩, rfl⟩
  rcases hq with rfl | ⟨q0, q1, qn⟩
  ·
   go_wp2_with fail
   go_ret
   refine ⟨⟨_, rfl, Or.inl rfl⟩, ?_⟩
   (repeat (first | with_reducible exact Below.refl _ _ | with_reducible refine bl_alloc ?_ _ | with_reducible refine bl_drewN ?_ _ | with_reducible refine bl_drew ?_ | with_reducible refine bl_setCell ?_ (by first | exact Nat.le_refl _ | (dsimp only; omega) | (simp <;> omega)) _ | with_reducible refine bl_trans ?_ (by with_reducible assumption)))
  ·
   have t2 : decide (q < 0) = false := by simp; omega
   go_wp2_with fail
   go_ret
   refine ⟨⟨_, rfl, Or.inr ⟨q0, by omega, rn, qn⟩⟩, ?_⟩
   (repeat (first | with_reducible exact Below.refl _ _ | with_reducible refine bl_alloc ?_ _ | with_reducible refine bl_drewN ?_ _ | with_reducible refine bl_drew ?_ | with_reducible refine bl_setCell ?_ (by first | exact Nat.le_refl _ | (dsimp only; omega) | (simp <;> omega)) _ | with_reducible refine bl_trans ?_ (by with_reducible assumption)))
set_option maxHeartbeats 2000000 in
theorem toStream_own (f : Int) (s1 s2 : Option Addr) (c1 c2 : Nat) (O N : List V4) (B : Nat) (w : World) (h1 : Els 4 cVal w B s1 O) (h2 : Els 4 cVal w B s2 N) (l1 : O.length ≤ 1048576) (l2 : N.length ≤ 1048576) :
  Calls Try.prog 45 #[.agg #[.int .i64 f, .slice s1 O.length c1, .slice s2 N.length c2]] w fun e w' =>
   (∃ a c b d : Nat, e = .returned (.agg #[.int .i64 f, .slice (some ⟨a, 0, none⟩) O.length c, .slice (some ⟨b, 0, none⟩) N.length d]) ∧ OV w' w.heap.size (.slice (some ⟨a, 0, none⟩) O.length c) O ∧ OV w' w.heap.size (.slice (some ⟨b, 0, none⟩) N.length d) N ∧ ¬ a = b) ∧ Below w.heap.size w w' := by
 have hal := alloc_old
 have haf := alloc_oldf
 obtain ⟨P0, P1, P2⟩ := blk3u w #[.int .i64 f, .slice s1 O.length c1, .slice s2 N.length c2] #[.int .i64 0, .slice none 0 0, .slice none 0 0] #[.int .i64 f, .slice none 0 0, .slice none 0 0] 79 63 63
 have LX := bl_alloc (bl_alloc (bl_alloc (Below.refl _ w) (.cells #[.int .i64 f, .slice s1 O.length c1, .slice s2 N.length c2] 79)) (.cells #[.int .i64 0, .slice none 0 0, .slice none 0 0] 63)) (.cells #[.int .i64 f, .slice none 0 0, .slice none 0 0] 63)
 go_enter Try.func45, Try.ntmps45
 go_wp2_with fail
 generalize hX : ((w.alloc (.cells #[.int .i64 f, .slice s1 O.length c1, .slice s2 N.length c2] 79)).alloc (.cells #[.int .i64 0, .slice none 0 0, .slice none 0 0] 63)).alloc (.cells #[.int .i64 f, .slice none 0 0, .slice none 0 0] 63) = X at P0 P1 P2 LX ⊢
 clear hX
 refine (toValS_own s1 c1 O B _ (h1.later cVal_keeps LX) l1).mono ?_
 rintro e w1 ⟨a, c, rfl, d1, _, hb1⟩
 have L1 : Below w.heap.size w w1 := bl_trans LX hb1
 have lx : w.heap.size + 1 + 1 < X.heap.size := P2.lt
 have a1 : X.heap.size ≤ a ∧ a < w1.heap.size := World.ownsRow.lt d1 a rfl
 have D1 := (d1.mono (B' := w.heap.size + 1 + 1 + 1) (by omega)).kept (Kept.set w1 (p := ⟨w.heap.size + 1 + 1, 1, none⟩) (by simp) (.slice (some ⟨a, 0, none⟩) O.length c))
 have Q0 := (P0.later hb1).other (m := w.heap.size + 1 + 1) (by omega) 1 (.slice (some ⟨a, 0, none⟩) O.length c)
 have Q1 := (P1.later hb1).other (m := w.heap.size + 1 + 1) (by omega) 1 (.slice (some ⟨a, 0, none⟩) O.length c)
 have Q2 := (P2.later hb1).set 1 (.slice (some ⟨a, 0, none⟩) O.length c)
 have LY := L1.setCell (p := ⟨w.heap.size + 1 + 1, 1, none⟩) (by simp; omega) (.slice (some ⟨a, 0, none⟩) O.length c)
 have sY : (w1.setCell ⟨w.heap.size + 1 + 1, 1, none⟩ (.slice (some ⟨a, 0, none⟩) O.length c)).heap.size = w1.heap.size := by simp
 obtain ⟨x0, x1, x2, x3⟩ := (P0.later hb1).three'
 obtain ⟨z0, z1, z2, z3⟩ := (P2.later hb1).three'
 have n0 : ¬ w.heap.size = w.heap.size + 1 + 1 := by omega
 clear P0 P1 P2 hb1 d1 L1 LX
 go_wp2_with fail
 clear x0 x1 x2 x3 z0 z1 z2 z3
 generalize hY : w1.setCell ⟨w.heap.size + 1 + 1, 1, none⟩ (.slice (some ⟨a, 0, none⟩) O.length c) = Y at Q0 Q1 Q2 D1 LY sY ⊢
 clear hY
 have Q2 : Blk Y (w.heap.size + 1 + 1) #[.int .i64 f, .slice (some ⟨a, 0, none⟩) O.length c, .slice none 0 0] 63 := Q2
 refine (toValS_own s2 c2 N B _ (h2.later cVal_keeps LY) l2).mono ?_
 rintro e w2 ⟨b, d, rfl, d2, _, hb2⟩
 have a2 : Y.heap.size ≤ b ∧ b < w2.heap.size := World.ownsRow.lt d2 b rfl
 have D2 := d2.mono (B' := w.heap.size + 1 + 1 + 1) (by omega)
 have L2 := bl_trans LY hb2
 have R1 := Q1.later hb2
 have R2 := Q2.later hb2
 have G1 := D1.later hb2
 clear Q0 Q1 Q2 D1 LY hb2 d2
 obtain ⟨z0, z1, z2, z3⟩ := R2.three'
 obtain ⟨y0, y1, y2, y3⟩ := R1.three'
 have n1 : ¬ w.heap.size + 1 = w.heap.size + 1 + 1 := by omega
 have hab : ¬ a = b := by omega
 clear sY
 have K4 : ∀ (u0 u1 u2 u3 : Value), Kept (w.heap.size + 1 + 1 + 1) w2 ((((w2.setCell ⟨w.heap.size + 1 + 1, 2, none⟩ u0).setCell ⟨w.heap.size + 1, 0, none⟩ u1).setCell ⟨w.heap.size + 1, 1, none⟩ u2).setCell ⟨w.heap.size + 1, 2, none⟩ u3) :=
  fun _ _ _ _ => (((Kept.set _ (by simp) _).trans (Kept.set _ (by simp <;> omega) _)).trans (Kept.set _ (by simp <;> omega) _)).trans (Kept.set _ (by simp <;> omega) _)
 go_wp2_with fail
 refine bodyPost_ret (v := .agg #[.int .i64 f, .slice (some ⟨a, 0, none⟩) O.length c, .slice (some ⟨b, 0, none⟩) N.length d]) (by simp [results, Try.results45, go_sem, y0, y1, y2]) rfl ⟨⟨a, c, b, d, rfl, ?_, ?_, hab⟩, ?_⟩
 ·
  exact (G1.kept (K4 _ _ _ _)).mono (by omega)
 ·
  exact (D2.kept (K4 _ _ _ _)).mono (by omega)
 ·
  exact (((L2.setCell (by simp <;> omega) _).setCell (by simp <;> omega) _).setCell (by simp <;> omega) _).setCell (by simp <;> omega) _
set_option maxHeartbeats 2000000 in
theorem eqStream_gen (f : Int) (a1 a2 b1 b2 : Option Addr) (c1 c2 d1 d2 : Nat) (O N : List V4) (B C : Nat) (w : World) (hO : Els 4 cVal w B a1 O) (hN : Els 4 cVal w B a2 N) (hP : Els 4 cVal w C b1 O) (hQ : Els 4 cVal w C b2 N) (l1 : O.length ≤ 1048576) (l2 : N.length ≤ 1048576) :
  Calls Try.prog 52 #[.agg #[.int .i64 f, .slice a1 O.length c1, .slice a2 N.length c2], .agg #[.int .i64 f, .slice b1 O.length d1, .slice b2 N.length d2]] w fun e w' => e = .returned (.bool true) ∧ Below w.heap.size w w' := by
 have hal := alloc_old
 have haf := alloc_oldf
 obtain ⟨k0, k1, L0⟩ := boxTwo w #[.int .i64 f, .slice a1 O.length c1, .slice a2 N.length c2] #[.int .i64 f, .slice b1 O.length d1, .slice b2 N.length d2] 63 63
 obtain ⟨x0, x1, x2, x3⟩ := k0.three'
 obtain ⟨y0, y1, y2, y3⟩ := k1.three'
 go_enter Try.func52, Try.ntmps52
 go_wp2_with fail
 refine (eqValS_gen a1 b1 c1 d1 O B C _ (hO.later cVal_keeps L0) (hP.later cVal_keeps L0) l1).mono ?_
 rintro e w1 ⟨rfl, hb1⟩
 replace L0 := bl_trans L0 hb1
 replace k0 := k0.later hb1
 replace k1 := k1.later hb1
 clear x0 x1 x2 x3 y0 y1 y2 y3 hb1
 obtain ⟨x0, x1, x2, x3⟩ := k0.three'
 obtain ⟨y0, y1, y2, y3⟩ := k1.three'
 go_wp2_with fail
 refine (eqValS_gen a2 b2 c2 d2 N B C _ (hN.later cVal_keeps L0) (hQ.later cVal_keeps L0) l2).mono ?_
 rintro e w2 ⟨rfl, hb2⟩
 go_wp2_with fail
 go_ret
 exact ⟨rfl, bl_trans L0 hb2⟩
end
section
open Go.RowKit
set_option linter.unusedVariables false
set_option linter.unusedSimpArgs false
set_option maxRecDepth 100000
abbrev Sm := Int × List V4 × List V4
structure Sta where
 w : Wd
 ss : List Sm
 cu : List Int
def cStr (w : World) (B : Nat) (cs : List Value) (x : Sm) : Prop := ∃ s1 c1 s2 c2, cs = [.int .i64 x.1, .slice s1 x.2.1.length c1, .slice s2 x.2.2.length c2] ∧ Els 4 cVal w B s1 x.2.1 ∧ Els 4 cVal w B s2 x.2.2
theorem cStr_keeps : KeepsE cStr := fun _ _ _ _ _ hk ⟨s1, c1, s2, c2, e, h1, h2⟩ => ⟨s1, c1, s2, c2, e, h1.kept cVal_keeps hk, h2.kept cVal_keeps hk⟩
theorem cStr_drops : DropsE cStr := fun _ _ _ _ _ hB ⟨s1, c1, s2, c2, e, h1, h2⟩ => ⟨s1, c1, s2, c2, e, h1.drop cVal_drops hB, h2.drop cVal_drops hB⟩
theorem eStr_cells {w : World} {B : Nat} {s : Option Addr} {L : List Sm} (h : Els 3 cStr w B s L) {j : Nat} {x : Sm} (ha : L[j]? = some x) :
  ∃ b o, s = some ⟨b, o, none⟩ ∧ B ≤ b ∧ b < w.heap.size ∧ ∃ s1 c1 s2 c2, w.cell? ⟨b, o + j * 3, none⟩ = some (.int .i64 x.1) ∧ w.cell? ⟨b, o + j * 3 + 1, none⟩ = some (.slice s1 x.2.1.length c1) ∧ w.cell? ⟨b, o + j * 3 + 2, none⟩ = some (.slice s2 x.2.2.length c2) ∧
   Els 4 cVal w B s1 x.2.1 ∧ Els 4 cVal w B s2 x.2.2 := by
 rcases h with rfl | ⟨b, o, rfl, h1, h2, h3, hz⟩
 ·
  simp at ha
 ·
  obtain ⟨cs, e1, e2, s1, c1, s2, c2, rfl, f1, f2⟩ := h3 j x ha
  exact ⟨b, o, rfl, h1, h2, s1, c1, s2, c2, e2 0 _ rfl, e2 1 _ rfl, e2 2 _ rfl, f1, f2⟩
def mSm (x : Sm) : Prop := x.2.1.length ≤ 9223372036854775807 ∧ x.2.2.length ≤ 9223372036854775807
def kSm (x : Sm) : Prop := x.2.1.length ≤ 1048576 ∧ x.2.2.length ≤ 1048576
def mSms (L : List Sm) : Prop := L.length ≤ 9223372036854775807 ∧ ∀ x ∈ L, mSm x
def kSms (L : List Sm) : Prop := L.length ≤ 1048576 ∧ ∀ x ∈ L, kSm x
def mS (S : Sta) : Prop := mW S.w ∧ mSms S.ss ∧ S.cu.length ≤ 9223372036854775807
def kS (S : Sta) : Prop := kW S.w ∧ kSms S.ss ∧ S.cu.length ≤ 1048576
structure InS (w : World) (B : Nat) (a1 a2 a3 a4 a5 a6 : Option Addr) (S : Sta) : Prop where
 wd : InW w B a1 a2 a3 a4 S.w
 s : Els 3 cStr w B a5 S.ss
 c : Els 1 cInt w B a6 S.cu
theorem InS.kept {w w' : World} {B : Nat} {a1 a2 a3 a4 a5 a6 : Option Addr} {S : Sta} (h : InS w B a1 a2 a3 a4 a5 a6 S) (hk : Kept B w w') : InS w' B a1 a2 a3 a4 a5 a6 S := ⟨h.wd.kept hk, h.s.kept cStr_keeps hk, h.c.kept cInt_keeps hk⟩
theorem InS.later {w w' : World} {B : Nat} {a1 a2 a3 a4 a5 a6 : Option Addr} {S : Sta} (h : InS w B a1 a2 a3 a4 a5 a6 S) (hb : Below w.heap.size w w') : InS w' B a1 a2 a3 a4 a5 a6 S := h.kept (Kept.of hb B)
theorem InS.drop {w : World} {B B' : Nat} {a1 a2 a3 a4 a5 a6 : Option Addr} {S : Sta} (h : InS w B a1 a2 a3 a4 a5 a6 S) (hB : B' ≤ B) : InS w B' a1 a2 a3 a4 a5 a6 S := ⟨h.wd.drop hB, h.s.drop cStr_drops hB, h.c.drop cInt_drops hB⟩
theorem Blk.six' {w : World} {n : Nat} {a b c d e f : Value} {t : TypeId} (h : Blk w n #[a, b, c, d, e, f] t) : w.cell? ⟨n, 0, none⟩ = some a ∧ w.cell? ⟨n, 1, none⟩ = some b ∧ w.cell? ⟨n, 2, none⟩ = some c ∧ w.cell? ⟨n, 3, none⟩ = some d ∧ w.cell? ⟨n, 4, none⟩ = some e ∧ w.cell? ⟨n, 5, none⟩ = some f ∧ ∀ o, w.frozen? ⟨n, o, none⟩ = false := ⟨h.cell 0, h.cell 1, h.cell 2, h.cell 3, h.cell 4, h.cell 5, h.frozen⟩
set_option maxHeartbeats 2000000 in
theorem szStreamS_gen (s : Option Addr) (c : Nat) (L : List Sm) (B : Nat) (left : Int) (w : World) (hL : Els 3 cStr w B s L) (hm : mSms L) (h0 : 0 ≤ left) (h1 : left ≤ 1048576) :
  Calls Try.prog 14 #[.slice s L.length c, .int .i64 left] w fun e w' => Szd left (kSms L) e ∧ Below w.heap.size w w' := by
 have tw : IntKind.i64.wrap (left - (L.length : Int)) = left - (L.length : Int) := by have := hm.1; rw [IntKind.wrap_i64]; omega
 by_cases h : (L.length : Int) ≤ left
 ·
  have t1 : decide (left - (L.length : Int) < 0) = false := by simp; omega
  have hl : L.length ≤ 1048576 := by omega
  go_enter Try.func14, Try.ntmps14
  go_wp2_with fail
  clear tw t1
  go_loopw [1, 5] (fun x i wr => ∃ (k : Nat) (r : Int), k ≤ L.length ∧ i = .int .i64 k ∧ x = .int .i64 r ∧ 0 ≤ r ∧ r ≤ left ∧ (∀ j l, j < k → L[j]? = some l → kSm l) ∧ Below w.heap.size w wr) (fun _ i _ => L.length - (intOf i).toNat)
  case atStart => exact ⟨0, _, Nat.zero_le _, rfl, rfl, by omega, by omega, fun j l hj => by omega, Below.refl _ _⟩
  case round =>
   obtain ⟨k, r, hk, rfl, rfl, r0, r1, hq, hb⟩ := hrel
   have HQ : Hid (∀ j l, j < k → L[j]? = some l → kSm l) := hq
   clear hq
   by_cases hlt : k < L.length
   ·
    obtain ⟨t, hl0⟩ := get_some hlt
    obtain ⟨b, o, rfl, hB, hp, s1, c1, s2, c2, e1, e2, e3, f1, f2⟩ := eStr_cells (hL.later cStr_keeps hb) hl0
    have hn := hm.2 t (List.mem_of_getElem? hl0)
    have HL : Hid (L[k]? = some t) := hl0
    clear hL hm hl0
    go_wp2_with fail
    refine (szStream_gen t.1 s1 s2 t.2.1.length t.2.2.length c1 c2 r _ r0 (by omega) hn.1 hn.2).mono ?_
    rintro e w2 ⟨⟨q, rfl, hq⟩, hb2⟩
    rcases hq with rfl | ⟨q0, q1, qn⟩
    ·
     go_wp2_with fail
     go_ret
     exact ⟨⟨_, rfl, Or.inl rfl⟩, bl_trans hb hb2⟩
    ·
     have t2 : decide (q < 0) = false := by simp; omega
     go_wp2_with fail
     go_roundw
     case rel =>
      refine ⟨k + 1, q, by omega, by go_num, rfl, q0, by omega, fun j l' hj hl' => ?_, bl_trans hb hb2⟩
      by_cases e : j = k
      ·
       subst e
       have := HL.out
       rw [this] at hl'
       cases hl'
       exact qn
      ·
       exact HQ.out j l' (by omega) hl'
     case measure => simp [intOf]; omega
   ·
    go_wp2_with fail
    go_ret
    refine ⟨⟨_, rfl, Or.inr ⟨r0, r1, hl, fun l hl' => ?_⟩⟩, hb⟩
    obtain ⟨j, hj, rfl⟩ := List.getElem_of_mem hl'
    exact HQ.out j _ (by omega) (by simp [hj])
 ·
  have t1 : decide (left - (L.length : Int) < 0) = true := by simp; omega
  go_enter Try.func14, Try.ntmps14
  go_wp2_with fail
  go_ret
  exact ⟨⟨_, rfl, Or.inl rfl⟩, Below.refl _ _⟩
set_option maxHeartbeats 2000000 in
theorem szState_gen (a1 a2 a3 a4 a5 a6 : Option Addr) (c1 c2 c3 c4 c5 c6 : Nat) (S : Sta) (B : Nat) (left : Int) (w : World) (hS : InS w B a1 a2 a3 a4 a5 a6 S) (hm : mS S) (h0 : 0 ≤ left) (h1 : left ≤ 1048576) :
  Calls Try.prog 5 #[.agg #[.slice a1 S.w.gens.length c1, .slice a2 S.w.free.length c2, .slice a3 S.w.tabs.length c3, .slice a4 S.w.res.length c4, .slice a5 S.ss.length c5, .slice a6 S.cu.length c6], .int .i64 left] w fun e w' => Szd left (kS S) e ∧ Below w.heap.size w w' := by
 obtain ⟨m1, m2, m3⟩ := hm
 have k0 := Blk.new w #[.slice a1 S.w.gens.length c1, .slice a2 S.w.free.length c2, .slice a3 S.w.tabs.length c3, .slice a4 S.w.res.length c4, .slice a5 S.ss.length c5, .slice a6 S.cu.length c6] 34
 have L0 : Below w.heap.size w (w.alloc (.cells #[.slice a1 S.w.gens.length c1, .slice a2 S.w.free.length c2, .slice a3 S.w.tabs.length c3, .slice a4 S.w.res.length c4, .slice a5 S.ss.length c5, .slice a6 S.cu.length c6] 34)) := bl_alloc (Below.refl _ _) _
 obtain ⟨x0, x1, x2, x3, x4, x5, x6⟩ := k0.six'
 go_enter Try.func5, Try.ntmps5
 go_wp2_with fail
 refine (szWorld_gen a1 a2 a3 a4 c1 c2 c3 c4 S.w B left _ (hS.wd.later L0) m1 h0 h1).mono ?_
 rintro e w1 ⟨⟨r, rfl, hr⟩, hb1⟩
 have L1 := bl_trans L0 hb1
 have K1 := k0.later hb1
 clear k0 x0 x1 x2 x3 x4 x5 x6
 obtain ⟨x0, x1, x2, x3, x4, x5, x6⟩ := K1.six'
 rcases hr with rfl | ⟨r0, r1, rn⟩
 ·
  go_wp2_with fail
  go_ret
  exact ⟨⟨_, rfl, Or.inl rfl⟩, L1⟩
 ·
  have t1 : decide (r < 0) = false := by simp; omega
  go_wp2_with fail
  refine (szStreamS_gen a5 c5 S.ss B r _ (hS.s.later cStr_keeps L1) m2 r0 (by omega)).mono ?_
  rintro e w2 ⟨⟨q, rfl, hq⟩, hb2⟩
  have L2 := bl_trans L1 hb2
  have K2 := K1.later hb2
  clear K1 x0 x1 x2 x3 x4 x5 x6
  obtain ⟨x0, x1, x2, x3, x4, x5, x6⟩ := K2.six'
  rcases hq with rfl | ⟨q0, q1, qn⟩
  ·
   go_wp2_with fail
   go_ret
   exact ⟨⟨_, rfl, Or.inl rfl⟩, L2⟩
  ·
   have t2 : decide (q < 0) = false := by simp; omega
   go_wp2_with fail
   refine (szInts_gen a6 _ c6 q _ q0 (by omega) m3).mono ?_
   rintro e w3 ⟨⟨p, rfl, hp⟩, rfl⟩
   rcases hp with rfl | ⟨p0, p1, pn⟩
   ·
    go_wp2_with fail
    go_ret
    exact ⟨⟨_, rfl, Or.inl rfl⟩, L2⟩
   ·
    have t3 : decide (p < 0) = false := by simp; omega
    go_wp2_with fail
    go_ret
    exact ⟨⟨_, rfl, Or.inr ⟨p0, by omega, rn, qn, pn⟩⟩, L2⟩
end
end Go.Proofs.Ytjfpflejnbnhnaa
