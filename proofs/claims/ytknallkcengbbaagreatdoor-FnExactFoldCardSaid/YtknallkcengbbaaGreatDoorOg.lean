import Derived.Test.YtknallkcengbbaaGreatDoorOe
import Derived.Deep.RegionHeld3
namespace Go.Proofs.YtknallkcengbbaaGreatDoor
open Go.RowKit
set_option linter.unusedVariables false
set_option linter.unusedSimpArgs false

theorem grown_cell {w w' : World} {g b o : Nat} (h : w.grownBy w' (some g)) (hb : b < w.heap.size) (hn : ¬ b = g) : w'.cell? ⟨b, o, none⟩ = w.cell? ⟨b, o, none⟩ :=
  World.cell?_of_block (w := w) (h.block b hb (by simpa using hn))
theorem grown_kept {w w' : World} {g B : Nat} (h : w.grownBy w' (some g)) (hB : g < B) : Kept B w w' := ⟨h.size, fun k h1 h2 => h.block k h2 (by simp; omega)⟩
theorem grown_set {w : World} (g j : Nat) (v : Value) : w.grownBy (w.setCell ⟨g, j, none⟩ v) (some g) :=
  ⟨by simp [World.setCell], by simp [World.setCell], by simp [World.setCell], by simp, fun k _ hn => Below.heap_setCell w ⟨g, j, none⟩ v k (fun e => hn (by rw [e]))⟩
/-- the contract of l8Fits at one node's number. -/
def FitsC (t : Tre) (s1 s2 : Option Addr) (c1 c2 g : Nat) (W0 : World) (I : Int) : Prop :=
  ∀ (cl : Int) (nx cap : Nat) (f : Nat → Bool) (w : World), Below W0.heap.size W0 w → SeenIs w g t.nodes.length f → nx ≤ t.nodes.length → (∀ j : Nat, (j : Int) ≤ I → f j = decide (j < nx)) →
    Calls Tryz.prog 31 #[.agg #[.slice s1 t.nodes.length c1, .slice s2 t.tops.length c2], .int .i64 I, .int .i64 cl, .int .i64 nx, .slice (some ⟨g, 0, none⟩) t.nodes.length cap] w (FitsSays t I cl nx f g w)
theorem fitN_class {t : Tre} {cl : Int} {k nx : Nat} {nd : Nd} (hn : t.nodes[k]? = some nd) (h : FitN t cl k nx) : clsOk cl nd.kind := by
  obtain ⟨nd', h1, h2, _⟩ := h
  rw [hn] at h1
  cases h1
  exact h2
theorem fitN_shape {t : Tre} {cl : Int} {k nx : Nat} {nd : Nd} (hn : t.nodes[k]? = some nd) (h : FitN t cl k nx) : (shp nd.kind nd.kids.length).length = nd.kids.length := by
  obtain ⟨_, _, _, _, ⟨nd', h1, _, h3, _⟩, _⟩ := h
  rw [hn] at h1
  cases h1
  exact h3
theorem fitN_has {t : Tre} {cl : Int} {k nx : Nat} {nd : Nd} (hn : t.nodes[k]? = some nd) (h : FitN t cl k nx) : hasB nd.kind nd.text nd.num = true := by
  obtain ⟨_, _, _, _, ⟨nd', h1, h2, _, _⟩, _⟩ := h
  rw [hn] at h1
  cases h1
  exact h2
theorem fitN_kids {t : Tre} {cl : Int} {k nx : Nat} {nd : Nd} (hn : t.nodes[k]? = some nd) (h : FitN t cl k nx) : FitL (kidsOf t) (okN t) nd.kids nx k := by
  obtain ⟨nd', h1, _, _, _, h5⟩ := h
  rw [hn] at h1
  cases h1
  exact h5
theorem fitN_kidclass {t : Tre} {cl : Int} {k nx : Nat} {nd : Nd} (hn : t.nodes[k]? = some nd) (h : FitN t cl k nx) {j : Nat} {x c : Int} (hx : nd.kids[j]? = some x) (hc : (shp nd.kind nd.kids.length)[j]? = some c) : ∃ (m : Nat) (nd' : Nd), x = m ∧ t.nodes[m]? = some nd' ∧ clsOk c nd'.kind := by
  obtain ⟨_, _, _, _, ⟨nd', h1, _, _, h4⟩, _⟩ := h
  rw [hn] at h1
  cases h1
  exact h4 j x c hx hc
theorem take_drop_at {l : List Int} {j : Nat} {x : Int} (h : l[j]? = some x) : l = l.take j ++ x :: l.drop (j + 1) := by
  obtain ⟨hj, rfl⟩ := List.getElem?_eq_some_iff.1 h
  rw [← List.drop_eq_getElem_cons hj, List.take_append_drop]
/-- at a kid: what follows from the parent's being right. -/
theorem fitN_kid {t : Tre} {cl : Int} {k nx nj : Nat} {nd : Nd} (hn : t.nodes[k]? = some nd) {j : Nat} {x c : Int} (hx : nd.kids[j]? = some x) (hc : (shp nd.kind nd.kids.length)[j]? = some c)
    (hf : FitL (kidsOf t) (okN t) (nd.kids.take j) nx nj) (h : FitN t cl k nx) : x < k ∧ ∃ m : Nat, x = m ∧ FitN t c m nj := by
  have hk := fitN_kids hn h
  rw [take_drop_at hx] at hk
  obtain ⟨m1, g1, g2⟩ := FitL.split hk
  obtain rfl := hf.same _ g1
  obtain ⟨m, nd', rfl, e5, e6⟩ := fitN_kidclass hn h hx hc
  generalize hq : (m : Int) :: nd.kids.drop (j + 1) = l at g2
  cases g2 with
  | nil => cases hq
  | cons _ m' ks _ p1 p2 p3 p4 =>
    simp only [List.cons.injEq] at hq
    obtain ⟨e1, rfl⟩ := hq
    obtain rfl : m = m' := by omega
    have := p4.le
    refine ⟨by omega, m, rfl, nd', e5, e6, p1, p2, ?_⟩
    rw [kidsOf_some e5] at p3
    exact p3
theorem fit_take {t : Tre} {nx nj m : Nat} {nd : Nd} {j : Nat} (hx : nd.kids[j]? = some (m : Int)) {c : Int} (hf : FitL (kidsOf t) (okN t) (nd.kids.take j) nx nj) (h : FitN t c m nj) : FitL (kidsOf t) (okN t) (nd.kids.take (j + 1)) nx (m + 1) := by
  obtain ⟨nd', e1, _, e3, e4, e5⟩ := h
  rw [List.take_add_one, hx]
  refine hf.append (FitL.cons nj m [] (m + 1) e3 e4 ?_ (FitL.nil _))
  rw [kidsOf_some e1]
  exact e5

set_option maxRecDepth 100000 in
set_option maxHeartbeats 4000000 in
theorem fits_out (t : Tre) (s1 s2 : Option Addr) (c1 c2 g : Nat) (W0 : World) (hn : t.nodes.length ≤ 1048576) (I : Int) (hI : I < 0 ∨ (t.nodes.length : Int) ≤ I) : FitsC t s1 s2 c1 c2 g W0 I := by
  intro cl nx cap f w hW hS hx hf
  have k0 := Blk.new w #[.slice s1 t.nodes.length c1, .slice s2 t.tops.length c2] 29
  have L0 := bl_alloc (Below.refl _ w) (.cells #[.slice s1 t.nodes.length c1, .slice s2 t.tops.length c2] 29)
  obtain ⟨x0, x1, x2⟩ := k0.two
  have tw : IntKind.i64.wrap ((t.nodes.length : Int) - 1) = (t.nodes.length : Int) - 1 := by rw [IntKind.wrap_i64]; omega
  have q : (decide (0 ≤ I) && decide (I ≤ (t.nodes.length : Int) - 1)) = false := by simp; omega
  have HI : Hid (I < 0 ∨ (t.nodes.length : Int) ≤ I) := hI
  have HS : Hid (SeenIs w g t.nodes.length f) := hS
  clear hI hf hS hW
  go_enter Tryz.func31, Tryz.ntmps31
  go_wp2_with (go_at_call 47; refine (l1In_any _ _ _ _).mono ?_; rintro e w' ⟨rfl, rfl⟩; rw [q])
  go_ret2
  refine ⟨grown_bl (grown_refl _ _) L0, f, HS.out.later L0, Or.inr ⟨?_, 0, rfl⟩⟩
  rintro ⟨k, rfl, nd, h, _⟩
  have := (List.getElem?_eq_some_iff.1 h).1
  have := HI.out
  omega

set_option maxRecDepth 100000 in
set_option maxHeartbeats 4000000 in
theorem fits_seen (t : Tre) (s1 s2 : Option Addr) (c1 c2 g : Nat) (W0 : World) (hn : t.nodes.length ≤ 1048576) (k : Nat) (hk : k < t.nodes.length) (cl : Int) (nx cap : Nat) (f : Nat → Bool) (w : World) (hS : SeenIs w g t.nodes.length f) (hx : k < nx) (hf : f k = true) :
    Calls Tryz.prog 31 #[.agg #[.slice s1 t.nodes.length c1, .slice s2 t.tops.length c2], .int .i64 k, .int .i64 cl, .int .i64 nx, .slice (some ⟨g, 0, none⟩) t.nodes.length cap] w (FitsSays t k cl nx f g w) := by
  have k0 := Blk.new w #[.slice s1 t.nodes.length c1, .slice s2 t.tops.length c2] 29
  have L0 := bl_alloc (Below.refl _ w) (.cells #[.slice s1 t.nodes.length c1, .slice s2 t.tops.length c2] 29)
  obtain ⟨x0, x1, x2⟩ := k0.two
  have tw : IntKind.i64.wrap ((t.nodes.length : Int) - 1) = (t.nodes.length : Int) - 1 := by rw [IntKind.wrap_i64]; omega
  have q : (decide ((0 : Int) ≤ k) && decide ((k : Int) ≤ (t.nodes.length : Int) - 1)) = true := by simp; omega
  have HS : Hid (SeenIs w g t.nodes.length f) := hS
  have y0 := (hS.later L0).cell k hk
  rw [hf] at y0
  clear hS hf
  go_enter Tryz.func31, Tryz.ntmps31
  go_wp2_with (go_at_call 47; refine (l1In_any _ _ _ _).mono ?_; rintro e w' ⟨rfl, rfl⟩; rw [q])
  go_ret2
  refine ⟨grown_bl (grown_refl _ _) L0, f, HS.out.later L0, Or.inr ⟨?_, 0, rfl⟩⟩
  rintro ⟨k', e, nd, h, _, h2, _⟩
  omega

set_option maxRecDepth 100000 in
set_option maxHeartbeats 8000000 in
theorem fits_ten (t : Tre) (s1 s2 : Option Addr) (c1 c2 g B : Nat) (W0 : World) (hT : InT W0 B s1 s2 t) (hkt : kTre t) (hg : W0.heap.size ≤ g) (k : Nat) (nd : Nd) (hnd : t.nodes[k]? = some nd)
    (ih : ∀ I' : Int, I' < k → FitsC t s1 s2 c1 c2 g W0 I') (cl : Int) (nx cap : Nat) (f : Nat → Bool) (w : World) (hW : Below W0.heap.size W0 w) (hS : SeenIs w g t.nodes.length f) (hx : nx ≤ k) (hf : ∀ j : Nat, j ≤ k → f j = decide (j < nx)) (hc : cl = 10) (hkd : nd.kind = 7) :
    Calls Tryz.prog 31 #[.agg #[.slice s1 t.nodes.length c1, .slice s2 t.tops.length c2], .int .i64 k, .int .i64 cl, .int .i64 nx, .slice (some ⟨g, 0, none⟩) t.nodes.length cap] w (FitsSays t k cl nx f g w) := by
  have hal := alloc_old
  have haf := alloc_oldf
  obtain ⟨⟨hn, hkn⟩, _⟩ := hkt
  have hk : k < t.nodes.length := (List.getElem?_eq_some_iff.1 hnd).1
  have knd := hkn nd (List.mem_of_getElem? hnd)
  obtain ⟨kt, kk⟩ := knd
  have k0 := Blk.new w #[.slice s1 t.nodes.length c1, .slice s2 t.tops.length c2] 29
  have L0 := bl_alloc (Below.refl _ w) (.cells #[.slice s1 t.nodes.length c1, .slice s2 t.tops.length c2] 29)
  obtain ⟨x0, x1, x2⟩ := k0.two
  have tw : IntKind.i64.wrap ((t.nodes.length : Int) - 1) = (t.nodes.length : Int) - 1 := by rw [IntKind.wrap_i64]; omega
  have q : (decide ((0 : Int) ≤ k) && decide ((k : Int) ≤ (t.nodes.length : Int) - 1)) = true := by simp; omega
  have hS0 := hS.later L0
  have y0 := hS0.cell k hk
  have fk : f k = false := by rw [hf k (Nat.le_refl _)]; simp; omega
  rw [fk] at y0
  have yf := hS0.fz k
  obtain ⟨b, o, rfl, hB, hp, s9, c9, e0, e1, e2, e3, hK⟩ := eNode_cells hT.n hnd
  have hbg : b < g := Nat.lt_of_lt_of_le hp hg
  have hgw : g < w.heap.size := hS.lt
  have HND : Hid (t.nodes[k]? = some nd) := hnd
  have HF : Hid (∀ j : Nat, j ≤ k → f j = decide (j < nx)) := hf
  have HW : Hid (Below W0.heap.size W0 w) := hW
  have HK : Hid (Els 1 cInt W0 B s9 nd.kids) := hK
  have HIH : Hid (∀ I' : Int, I' < k → FitsC t (some ⟨b, o, none⟩) s2 c1 c2 g W0 I') := ih
  have HT : Hid (InT W0 B (some ⟨b, o, none⟩) s2 t) := hT
  have lw : b < w.heap.size := by omega
  have hpW : W0.heap.size ≤ w.heap.size := hW.size
  have cellW : ∀ i v, W0.cell? ⟨b, i, none⟩ = some v → ∀ W, w.grownBy W (some g) → W.cell? ⟨b, i, none⟩ = some v := fun i v h W hW' => (grown_cell hW' lw (by omega)).trans ((HW.out.cell (p := ⟨b, i, none⟩) hp).trans h)
  clear hnd hf hW hK ih hT hS hkn
  have HCL : Hid (clsOk cl nd.kind) := by show clsOk _ _; unfold clsOk; rw [if_pos hc]; exact hkd
  have qc : (cl == 10) = true := by simp [hc]
  have qa : (cls nd.kind == cl) = false := by rw [hkd, hc]; decide
  have qk : (nd.kind == 7) = true := by simp [hkd]
  clear hkd hc
  go_enter Tryz.func31, Tryz.ntmps31
  go_upto_region 1 with fail
  have szX : (w.alloc (.cells #[.slice (some ⟨b, o, none⟩) t.nodes.length c1, .slice s2 t.tops.length c2] 29)).heap.size = w.heap.size + 1 := by simp
  generalize hX0 : w.alloc (.cells #[.slice (some ⟨b, o, none⟩) t.nodes.length c1, .slice s2 t.tops.length c2] 29) = X0 at k0 L0 x0 x1 x2 hS0 y0 yf szX ⊢
  clear hX0
  go_upto_region 3 with (go_at_call 47; refine (l1In_any _ _ _ _).mono ?_; rintro e w' ⟨rfl, hw'⟩; have hw2 := hw'.symm; clear hw'; subst hw2; rw [q])
  have hG1 : w.grownBy (X0.setCell ⟨g, k, none⟩ (.bool true)) (some g) := grown_trans (grown_bl (grown_refl _ _) L0) (grown_set _ _ _)
  have hS1 : SeenIs (X0.setCell ⟨g, k, none⟩ (.bool true)) g t.nodes.length (fun j => if j = k then true else f j) := hS0.set hk
  have k1 : Blk (X0.setCell ⟨g, k, none⟩ (.bool true)) w.heap.size #[.slice (some ⟨b, o, none⟩) t.nodes.length c1, .slice s2 t.tops.length c2] 29 := k0.grown (grown_set _ _ _) (by omega)
  have sz1 : (X0.setCell ⟨g, k, none⟩ (.bool true)).heap.size = w.heap.size + 1 := by simpa using szX
  go_upto_region 4 with fail
  generalize hX1 : X0.setCell ⟨g, k, none⟩ (.bool true) = X1 at hG1 hS1 k1 sz1 ⊢
  clear hX1 x0 x1 x2 hS0 y0 yf L0 k0 szX X0
  have z0 := cellW _ _ e0 _ hG1
  have z1 := cellW _ _ e1 _ hG1
  have z2 := cellW _ _ e2 _ hG1
  have z3 := cellW _ _ e3 _ hG1
  obtain ⟨v0, v1, v2⟩ := k1.two
  go_upto_region 5 with fail
  have kN := Blk.new' X1 #[.int .i64 nd.kind, .string nd.text, .int .i64 nd.num, .slice s9 nd.kids.length c9] 57 (n := w.heap.size + 1) (by rw [sz1])
  have hb2 := bl_alloc (Below.refl _ X1) (.cells #[.int .i64 nd.kind, .string nd.text, .int .i64 nd.num, .slice s9 nd.kids.length c9] 57)
  have hG2 := grown_bl hG1 hb2
  have hS2 := hS1.later hb2
  have k2 := k1.later hb2
  have sz2 : (X1.alloc (.cells #[.int .i64 nd.kind, .string nd.text, .int .i64 nd.num, .slice s9 nd.kids.length c9] 57)).heap.size = w.heap.size + 2 := by simp [sz1]
  generalize hX2 : X1.alloc (.cells #[.int .i64 nd.kind, .string nd.text, .int .i64 nd.num, .slice s9 nd.kids.length c9] 57) = X2 at kN hb2 hG2 hS2 k2 sz2 ⊢
  clear hX2 hG1 hS1 k1 sz1 hb2 z0 z1 z2 z3 v0 v1 v2 X1
  obtain ⟨n0, n1, n2, n3, n4⟩ := kN.four'
  obtain ⟨SH, HSH⟩ : ∃ SH, Hid (shp nd.kind nd.kids.length = SH) := ⟨_, rfl⟩
  go_upto_region 8 with (go_at_call 48; refine (l8Class_any _ _).mono ?_; rintro e w3 ⟨rfl, hb3⟩; obtain ⟨m0, m1, m2, m3, m4⟩ := (kN.later hb3).four')
  clear n0 n1 n2 n3 n4
  replace kN := kN.later hb3
  have hG3 := grown_bl hG2 hb3
  have hS3 := hS2.later hb3
  have k3 := k2.later hb3
  have sz3 : w.heap.size + 2 ≤ w3.heap.size := by have := hb3.size; omega
  clear hG2 hS2 k2 sz2 hb3 qa qk qc
  go_upto_region 9 with (go_at_call 49; refine (l8Shape_any nd.kind nd.text nd.num s9 nd.kids.length c9 kk _).mono ?_; rintro e w4 ⟨⟨ss, cs, rfl, hE⟩, hb4⟩; rw [HSH.out] at hE ⊢)
  replace kN := kN.later hb4
  have hG4 := grown_bl hG3 hb4
  have hS4 := hS3.later hb4
  have k4 := k3.later hb4
  have hE4 := hE.drop cInt_drops (show w.heap.size + 2 ≤ w3.heap.size from sz3)
  have sz4 : w.heap.size + 2 ≤ w4.heap.size := by have := hb4.size; omega
  clear hG3 hS3 k3 sz3 hb4 hE m0 m1 m2 m3 m4
  obtain ⟨n0, n1, n2, n3, n4⟩ := kN.four'
  by_cases hl : SH.length = nd.kids.length
  · have qs : decide (SH.length = nd.kids.length) = true := by simp [hl]
    have hlen : Hid (SH.length = nd.kids.length) := hl
    clear hl
    cases qh : hasB nd.kind nd.text nd.num
    · go_wp2_with (go_at_call 50; refine (l8Has_any nd.kind nd.text kt nd.num s9 nd.kids.length c9 _).mono ?_; rintro e w5 ⟨rfl, hb5⟩; rw [qh])
      go_ret2
      refine ⟨grown_bl hG4 hb5, _, hS4.later hb5, Or.inr ⟨?_, 0, rfl⟩⟩
      rintro ⟨k', ek, hFN⟩
      obtain rfl : k = k' := by omega
      have h5 := fitN_has HND.out hFN
      rw [qh] at h5
      cases h5
    · have hhas : Hid (hasB nd.kind nd.text nd.num = true) := qh
      go_upto_region 11 with (go_at_call 50; refine (l8Has_any nd.kind nd.text kt nd.num s9 nd.kids.length c9 _).mono ?_; rintro e w5 ⟨rfl, hb5⟩; rw [qh])
      have HN5 : Hid (Blk w5 (w.heap.size + 1) #[.int .i64 nd.kind, .string nd.text, .int .i64 nd.num, .slice s9 nd.kids.length c9] 57) := kN.later hb5
      have HT5 : Hid (Blk w5 w.heap.size #[.slice (some ⟨b, o, none⟩) t.nodes.length c1, .slice s2 t.tops.length c2] 29) := k4.later hb5
      have HG5 : Hid (w.grownBy w5 (some g)) := grown_bl hG4 hb5
      have HS5 : Hid (SeenIs w5 g t.nodes.length (fun j => if j = k then true else f j)) := hS4.later hb5
      have HE5 : Hid (Els 1 cInt w5 (w.heap.size + 2) ss SH) := hE4.later cInt_keeps hb5
      have sz5 : w.heap.size + 2 ≤ w5.heap.size := by have := hb5.size; omega
      clear hG4 hS4 hE4 k4 kN sz4 hb5 n0 n1 n2 n3 n4 qh qs
      go_wp2_with fail
      go_loopw [3, 16] (fun v i wr => ∃ (j nj : Nat) (f1 : Nat → Bool), j ≤ nd.kids.length ∧ i = .int .i64 j ∧ v = .int .i64 nj ∧ nj ≤ k ∧ Hid (FitL (kidsOf t) (okN t) (nd.kids.take j) nx nj) ∧ Hid (∀ (j' : Nat) (x c : Int), j' < j → nd.kids[j']? = some x → SH[j']? = some c → ∃ (m : Nat) (nd' : Nd), x = m ∧ t.nodes[m]? = some nd' ∧ clsOk c nd'.kind) ∧ Hid (SeenIs wr g t.nodes.length f1) ∧ Hid ((∀ x, x < k → f1 x = decide (x < nj)) ∧ f1 k = true ∧ ∀ x, k < x → f1 x = f x) ∧ Hid (w5.grownBy wr (some g))) (fun _ i _ => nd.kids.length - (intOf i).toNat)
      case atStart =>
        refine ⟨0, nx, _, Nat.zero_le _, rfl, rfl, hx, ?_, fun j' x c h => absurd h (Nat.not_lt_zero _), HS5.out, ⟨fun x h => ?_, ?_, fun x h => ?_⟩, grown_refl _ _⟩
        · exact FitL.nil _
        · (try dsimp only); rw [if_neg (by omega)]; exact HF.out x (by omega)
        · (try dsimp only); rw [if_pos rfl]
        · (try dsimp only); rw [if_neg (by omega)]
      case round =>
        obtain ⟨j, nj, f1, hj, rfl, rfl, hnj, hFL, hcl, hSr, hfr, hGr⟩ := hrel
        have szr : w.heap.size + 2 ≤ wr.heap.size := by have := hGr.out.size; omega
        have hbW : Hid (Below W0.heap.size W0 wr) := (HW.out.trans (grown_below (grown_trans HG5.out hGr.out) hg hpW))
        obtain ⟨x0, x1, x2⟩ := (HT5.out.grown hGr.out (by omega)).two
        obtain ⟨n0, n1, n2, n3, n4⟩ := (HN5.out.grown hGr.out (by omega)).four'
        by_cases hlt : j < nd.kids.length
        · obtain ⟨x, hxj⟩ := get_some hlt
          obtain ⟨c, hcj⟩ := get_some (show j < SH.length by rw [hlen.out]; exact hlt)
          obtain ⟨kb, ko, rfl, _, hkb, p00⟩ := eInt_cells HK.out hxj
          have p0 := (hbW.out.cell (p := ⟨kb, ko + j, none⟩) hkb).trans p00
          obtain ⟨sb, so, rfl, hsb, hsw, p1⟩ := eInt_cells (HE5.out.kept cInt_keeps (grown_kept hGr.out (by omega))) hcj
          have lt0 : w.heap.size < wr.heap.size := by omega
          have lt1 : w.heap.size + 1 < wr.heap.size := by omega
          have ltk : kb < wr.heap.size := by omega
          have lts : sb < wr.heap.size := hsw
          have ne0 : ¬ w.heap.size = g := by omega
          have ne1 : ¬ w.heap.size + 1 = g := by omega
          have nek : ¬ kb = g := by omega
          have nes : ¬ sb = g := by omega
          have HX : Hid (nd.kids[j]? = some x) := hxj
          have HC : Hid (SH[j]? = some c) := hcj
          clear hxj hcj p00 n0 n1 n2 n4 x2
          have hjI : (j : Int) < (nd.kids.length : Int) := by omega
          have hwj : IntKind.i64.wrap (nd.kids.length : Int) = nd.kids.length := by rw [IntKind.wrap_i64]; omega
          have hsl : j < SH.length := by rw [hlen.out]; exact hlt
          have hslI : (j : Int) < (SH.length : Int) := by omega
          by_cases hge : (k : Int) ≤ x
          · have HGE : Hid ((k : Int) ≤ x) := hge
            go_wp2_with fail
            go_ret2
            refine ⟨grown_trans HG5.out hGr.out, f1, hSr.out, Or.inr ⟨?_, 0, rfl⟩⟩
            rintro ⟨k', ek, hFN⟩
            obtain rfl : k = k' := by omega
            have h5 := (fitN_kid HND.out HX.out (by rw [HSH.out]; exact HC.out) hFL.out hFN).1
            have := HGE.out
            omega
          · by_cases hgood : ∃ m : Nat, x = m ∧ FitN t c m nj
            · have hgd : Hid (∃ m : Nat, x = m ∧ FitN t c m nj) := hgood
              clear hgood
              go_upto_region 16 with fail
              refine wp_region_held_drew (S := (fun w' => w'.cell? ⟨w.heap.size, 0, none⟩ = some (.slice (some ⟨b, o, none⟩) t.nodes.length c1) ∧ w'.cell? ⟨w.heap.size, 1, none⟩ = some (.slice s2 t.tops.length c2) ∧ w'.cell? ⟨w.heap.size + 1, 3, none⟩ = some (.slice (some ⟨kb, ko, none⟩) nd.kids.length c9) ∧ w'.cell? ⟨kb, ko + j, none⟩ = some (.int .i64 x) ∧ w'.cell? ⟨sb, so + j, none⟩ = some (.int .i64 c))) (by kernel_rfl) ?_ (fun hHeld => ?_)
              · exact ⟨x0, x1, n3, p0, p1⟩
              refine wpAnyH_one (i := 0) (d := 85) (v := ?_) rfl rfl (by kernel_rfl) (by kernel_rfl) (by kernel_rfl) (fun _ _ _ h => h) (by rfl) (by assumption) ?_ ?_
              rotate_left 1
              · intro w hSw; (try dsimp only at hSw); go_simp <;> with_reducible rfl
              simp only [List.foldl, Act.put, List.setIfInBounds_toArray, List.set_cons_zero, List.set_cons_succ]
              refine wpAnyH_one (i := 1) (d := 86) (v := ?_) rfl rfl (by kernel_rfl) (by kernel_rfl) (by kernel_rfl) (fun _ _ _ h => h) (by rfl) (by assumption) ?_ ?_
              rotate_left 1
              · intro w hSw; (try dsimp only at hSw); go_simp <;> with_reducible rfl
              simp only [List.foldl, Act.put, List.setIfInBounds_toArray, List.set_cons_zero, List.set_cons_succ]
              refine wpAnyH_one (i := 2) (d := 87) (v := ?_) rfl rfl (by kernel_rfl) (by kernel_rfl) (by kernel_rfl) (fun _ _ _ h => h) (by rfl) (by assumption) ?_ ?_
              rotate_left 1
              · intro w hSw; (try dsimp only at hSw); go_simp <;> with_reducible rfl
              simp only [List.foldl, Act.put, List.setIfInBounds_toArray, List.set_cons_zero, List.set_cons_succ]
              refine wpAnyH_one (i := 3) (d := 88) (v := ?_) rfl rfl (by kernel_rfl) (by kernel_rfl) (by kernel_rfl) (fun _ _ _ h => h) (by rfl) (by assumption) ?_ ?_
              rotate_left 1
              · intro w hSw; (try dsimp only at hSw); go_simp <;> with_reducible rfl
              simp only [List.foldl, Act.put, List.setIfInBounds_toArray, List.set_cons_zero, List.set_cons_succ]
              refine wpAnyH_one (i := 4) (d := 89) (v := ?_) rfl rfl (by kernel_rfl) (by kernel_rfl) (by kernel_rfl) (fun _ _ _ h => h) (by rfl) (by assumption) ?_ ?_
              rotate_left 1
              · intro w hSw; (try dsimp only at hSw); go_simp <;> with_reducible rfl
              simp only [List.foldl, Act.put, List.setIfInBounds_toArray, List.set_cons_zero, List.set_cons_succ]
              refine wpAnyH_one (i := 5) (d := 90) (v := ?_) rfl rfl (by kernel_rfl) (by kernel_rfl) (by kernel_rfl) (fun _ _ _ h => h) (by rfl) (by assumption) ?_ ?_
              rotate_left 1
              · intro w hSw; (try dsimp only at hSw); go_simp <;> with_reducible rfl
              simp only [List.foldl, Act.put, List.setIfInBounds_toArray, List.set_cons_zero, List.set_cons_succ]
              refine wpAnyH_one (i := 6) (d := 91) (v := ?_) rfl rfl (by kernel_rfl) (by kernel_rfl) (by kernel_rfl) (fun _ _ _ h => h) (by rfl) (by assumption) ?_ ?_
              rotate_left 1
              · intro w hSw; (try dsimp only at hSw); go_simp <;> with_reducible rfl
              simp only [List.foldl, Act.put, List.setIfInBounds_toArray, List.set_cons_zero, List.set_cons_succ]
              refine wpAnyH_one (i := 7) (d := 92) (v := ?_) rfl rfl (by kernel_rfl) (by kernel_rfl) (by kernel_rfl) (fun _ _ _ h => h) (by rfl) (by assumption) ?_ ?_
              rotate_left 1
              · intro w hSw; (try dsimp only at hSw); go_simp <;> with_reducible rfl
              simp only [List.foldl, Act.put, List.setIfInBounds_toArray, List.set_cons_zero, List.set_cons_succ]
              refine wpAnyH_one (i := 8) (d := 93) (v := ?_) rfl rfl (by kernel_rfl) (by kernel_rfl) (by kernel_rfl) (fun _ _ _ h => h) (by rfl) (by assumption) ?_ ?_
              rotate_left 1
              · intro w hSw; (try dsimp only at hSw); go_simp <;> with_reducible rfl
              simp only [List.foldl, Act.put, List.setIfInBounds_toArray, List.set_cons_zero, List.set_cons_succ]
              refine wpAnyH_one (i := 9) (d := 94) (v := ?_) rfl rfl (by kernel_rfl) (by kernel_rfl) (by kernel_rfl) (fun _ _ _ h => h) (by rfl) (by assumption) ?_ ?_
              rotate_left 1
              · intro w hSw; (try dsimp only at hSw); go_simp <;> with_reducible rfl
              simp only [List.foldl, Act.put, List.setIfInBounds_toArray, List.set_cons_zero, List.set_cons_succ]
              refine wpAnyH_one (i := 10) (d := 95) (v := ?_) rfl rfl (by kernel_rfl) (by kernel_rfl) (by kernel_rfl) (fun _ _ _ h => h) (by rfl) (by assumption) ?_ ?_
              rotate_left 1
              · intro w hSw; (try dsimp only at hSw); go_simp <;> with_reducible rfl
              simp only [List.foldl, Act.put, List.setIfInBounds_toArray, List.set_cons_zero, List.set_cons_succ]
              refine wpAnyH_one (i := 11) (d := 96) (v := ?_) rfl rfl (by kernel_rfl) (by kernel_rfl) (by kernel_rfl) (fun _ _ _ h => h) (by rfl) (by assumption) ?_ ?_
              rotate_left 1
              · intro w hSw; (try dsimp only at hSw); go_simp <;> with_reducible rfl
              simp only [List.foldl, Act.put, List.setIfInBounds_toArray, List.set_cons_zero, List.set_cons_succ]
              refine wpAnyH_ready (rs := [12]) (by kernel_rfl) (by simp) ?_
              refine AllReadyH.cons rfl (fun K hK => ?_) AllReadyH.nil
              go_simp
              refine (HIH.out x (by omega) c nj cap f1 _ (bl_drew hbW.out) (hSr.out.later (bl_drew (Below.refl _ _))) (by omega) (fun y hy => hfr.out.1 y (by omega))).mono ?_
              rintro e w6 ⟨hg6, f6, hS6, hr6⟩
              have hg6 : wr.grownBy w6 (some g) := grown_trans (grown_bl (grown_refl _ _) (bl_drew (Below.refl _ _))) hg6
              have x0 := (grown_cell hg6 lt0 ne0).trans x0
              have x1 := (grown_cell hg6 lt0 ne0).trans x1
              have n3 := (grown_cell hg6 lt1 ne1).trans n3
              have p0 := (grown_cell hg6 ltk nek).trans p0
              have p1 := (grown_cell hg6 lts nes).trans p1
              rcases hr6 with ⟨m, em, hFm, rfl, u1, u2⟩ | ⟨hno, _⟩
              rotate_left
              · exact absurd hgd.out hno
              obtain ⟨HFm⟩ : Nonempty (Hid (FitN t c m nj)) := ⟨hFm⟩
              have HEm : Hid (x = m) := em
              have HU : Hid ((∀ y, y ≤ m → f6 y = true) ∧ ∀ y, m < y → f6 y = f1 y) := ⟨u1, u2⟩
              have HS6 : Hid (SeenIs w6 g t.nodes.length f6) := hS6
              have HG6 : Hid (w5.grownBy w6 (some g)) := grown_trans hGr.out hg6
              clear hFm em u1 u2 hS6 hg6
              refine hK.out _ _ ?_ (fun hHeld => ?_)
              · exact ⟨x0, x1, n3, p0, p1⟩
              clear hK K
              try simp only [List.foldl, Act.put, List.setIfInBounds_toArray, List.set_cons_zero, List.set_cons_succ]
              refine wpAnyH_one (i := 13) (d := 84) (v := ?_) rfl rfl (by kernel_rfl) (by kernel_rfl) (by kernel_rfl) (fun _ _ _ h => h) (by rfl) (by assumption) ?_ ?_
              rotate_left 1
              · intro w hSw; (try dsimp only at hSw); go_simp <;> with_reducible rfl
              simp only [List.foldl, Act.put, List.setIfInBounds_toArray, List.set_cons_zero, List.set_cons_succ]
              refine wpAnyH_one (i := 14) (d := 98) (v := ?_) rfl rfl (by kernel_rfl) (by kernel_rfl) (by kernel_rfl) (fun _ _ _ h => h) (by rfl) (by assumption) ?_ ?_
              rotate_left 1
              · intro w hSw; (try dsimp only at hSw); go_simp <;> with_reducible rfl
              simp only [List.foldl, Act.put, List.setIfInBounds_toArray, List.set_cons_zero, List.set_cons_succ]
              refine wpAnyH_one (i := 15) (d := 99) (v := ?_) rfl rfl (by kernel_rfl) (by kernel_rfl) (by kernel_rfl) (fun _ _ _ h => h) (by rfl) (by assumption) ?_ ?_
              rotate_left 1
              · intro w hSw; (try dsimp only at hSw); go_simp <;> with_reducible rfl
              simp only [List.foldl, Act.put, List.setIfInBounds_toArray, List.set_cons_zero, List.set_cons_succ]
              refine wpAnyH_one (i := 16) (d := 17) (v := ?_) rfl rfl (by kernel_rfl) (by kernel_rfl) (by kernel_rfl) (fun _ _ _ h => h) (by rfl) (by assumption) ?_ ?_
              rotate_left 1
              · intro w hSw; (try dsimp only at hSw); go_simp <;> with_reducible rfl
              simp only [List.foldl, Act.put, List.setIfInBounds_toArray, List.set_cons_zero, List.set_cons_succ]
              refine wpAnyH_one (i := 17) (d := 18) (v := ?_) rfl rfl (by kernel_rfl) (by kernel_rfl) (by kernel_rfl) (fun _ _ _ h => h) (by rfl) (by assumption) ?_ ?_
              rotate_left 1
              · intro w hSw; (try dsimp only at hSw); go_simp <;> with_reducible rfl
              simp only [List.foldl, Act.put, List.setIfInBounds_toArray, List.set_cons_zero, List.set_cons_succ]
              refine wpAnyH_done (by kernel_rfl) ?_ _
              go_wp2_with fail
              go_roundw
              case rel =>
                obtain rfl := HEm.out
                have hFm := HFm.out
                refine ⟨j + 1, m + 1, f6, by omega, by go_num, by go_num, by omega, fit_take HX.out hFL.out hFm, ?_, HS6, ⟨fun y hy => ?_, ?_, fun y hy => ?_⟩, HG6⟩
                · intro j' y d hj' hy hd
                  by_cases e : j' = j
                  · subst e
                    have h1 := HX.out
                    have h2 := HC.out
                    rw [h1] at hy
                    rw [h2] at hd
                    cases hy
                    cases hd
                    obtain ⟨nd', g1, g2, _⟩ := hFm
                    exact ⟨m, nd', rfl, g1, g2⟩
                  · exact hcl.out j' y d (by omega) hy hd
                · by_cases e : y ≤ m
                  · rw [HU.out.1 y e]; symm; simp; omega
                  · have h3 : nj ≤ m := by obtain ⟨_, _, _, h, _⟩ := hFm; exact h
                    rw [HU.out.2 y (by omega), hfr.out.1 y hy]
                    have e1 : decide (y < nj) = false := by simp; omega
                    have e2 : decide (y < m + 1) = false := by simp; omega
                    rw [e1, e2]
                · rw [HU.out.2 k (by omega)]; exact hfr.out.2.1
                · rw [HU.out.2 y (by omega)]; exact hfr.out.2.2 y hy
              case measure => simp [intOf]; omega
            · have hgd : Hid (¬ ∃ m : Nat, x = m ∧ FitN t c m nj) := hgood
              clear hgood
              go_upto_region 16 with fail
              refine wp_region_held_drew (S := (fun w' => w'.cell? ⟨w.heap.size, 0, none⟩ = some (.slice (some ⟨b, o, none⟩) t.nodes.length c1) ∧ w'.cell? ⟨w.heap.size, 1, none⟩ = some (.slice s2 t.tops.length c2) ∧ w'.cell? ⟨w.heap.size + 1, 3, none⟩ = some (.slice (some ⟨kb, ko, none⟩) nd.kids.length c9) ∧ w'.cell? ⟨kb, ko + j, none⟩ = some (.int .i64 x) ∧ w'.cell? ⟨sb, so + j, none⟩ = some (.int .i64 c))) (by kernel_rfl) ?_ (fun hHeld => ?_)
              · exact ⟨x0, x1, n3, p0, p1⟩
              refine wpAnyH_one (i := 0) (d := 85) (v := ?_) rfl rfl (by kernel_rfl) (by kernel_rfl) (by kernel_rfl) (fun _ _ _ h => h) (by rfl) (by assumption) ?_ ?_
              rotate_left 1
              · intro w hSw; (try dsimp only at hSw); go_simp <;> with_reducible rfl
              simp only [List.foldl, Act.put, List.setIfInBounds_toArray, List.set_cons_zero, List.set_cons_succ]
              refine wpAnyH_one (i := 1) (d := 86) (v := ?_) rfl rfl (by kernel_rfl) (by kernel_rfl) (by kernel_rfl) (fun _ _ _ h => h) (by rfl) (by assumption) ?_ ?_
              rotate_left 1
              · intro w hSw; (try dsimp only at hSw); go_simp <;> with_reducible rfl
              simp only [List.foldl, Act.put, List.setIfInBounds_toArray, List.set_cons_zero, List.set_cons_succ]
              refine wpAnyH_one (i := 2) (d := 87) (v := ?_) rfl rfl (by kernel_rfl) (by kernel_rfl) (by kernel_rfl) (fun _ _ _ h => h) (by rfl) (by assumption) ?_ ?_
              rotate_left 1
              · intro w hSw; (try dsimp only at hSw); go_simp <;> with_reducible rfl
              simp only [List.foldl, Act.put, List.setIfInBounds_toArray, List.set_cons_zero, List.set_cons_succ]
              refine wpAnyH_one (i := 3) (d := 88) (v := ?_) rfl rfl (by kernel_rfl) (by kernel_rfl) (by kernel_rfl) (fun _ _ _ h => h) (by rfl) (by assumption) ?_ ?_
              rotate_left 1
              · intro w hSw; (try dsimp only at hSw); go_simp <;> with_reducible rfl
              simp only [List.foldl, Act.put, List.setIfInBounds_toArray, List.set_cons_zero, List.set_cons_succ]
              refine wpAnyH_one (i := 4) (d := 89) (v := ?_) rfl rfl (by kernel_rfl) (by kernel_rfl) (by kernel_rfl) (fun _ _ _ h => h) (by rfl) (by assumption) ?_ ?_
              rotate_left 1
              · intro w hSw; (try dsimp only at hSw); go_simp <;> with_reducible rfl
              simp only [List.foldl, Act.put, List.setIfInBounds_toArray, List.set_cons_zero, List.set_cons_succ]
              refine wpAnyH_one (i := 5) (d := 90) (v := ?_) rfl rfl (by kernel_rfl) (by kernel_rfl) (by kernel_rfl) (fun _ _ _ h => h) (by rfl) (by assumption) ?_ ?_
              rotate_left 1
              · intro w hSw; (try dsimp only at hSw); go_simp <;> with_reducible rfl
              simp only [List.foldl, Act.put, List.setIfInBounds_toArray, List.set_cons_zero, List.set_cons_succ]
              refine wpAnyH_one (i := 6) (d := 91) (v := ?_) rfl rfl (by kernel_rfl) (by kernel_rfl) (by kernel_rfl) (fun _ _ _ h => h) (by rfl) (by assumption) ?_ ?_
              rotate_left 1
              · intro w hSw; (try dsimp only at hSw); go_simp <;> with_reducible rfl
              simp only [List.foldl, Act.put, List.setIfInBounds_toArray, List.set_cons_zero, List.set_cons_succ]
              refine wpAnyH_one (i := 7) (d := 92) (v := ?_) rfl rfl (by kernel_rfl) (by kernel_rfl) (by kernel_rfl) (fun _ _ _ h => h) (by rfl) (by assumption) ?_ ?_
              rotate_left 1
              · intro w hSw; (try dsimp only at hSw); go_simp <;> with_reducible rfl
              simp only [List.foldl, Act.put, List.setIfInBounds_toArray, List.set_cons_zero, List.set_cons_succ]
              refine wpAnyH_one (i := 8) (d := 93) (v := ?_) rfl rfl (by kernel_rfl) (by kernel_rfl) (by kernel_rfl) (fun _ _ _ h => h) (by rfl) (by assumption) ?_ ?_
              rotate_left 1
              · intro w hSw; (try dsimp only at hSw); go_simp <;> with_reducible rfl
              simp only [List.foldl, Act.put, List.setIfInBounds_toArray, List.set_cons_zero, List.set_cons_succ]
              refine wpAnyH_one (i := 9) (d := 94) (v := ?_) rfl rfl (by kernel_rfl) (by kernel_rfl) (by kernel_rfl) (fun _ _ _ h => h) (by rfl) (by assumption) ?_ ?_
              rotate_left 1
              · intro w hSw; (try dsimp only at hSw); go_simp <;> with_reducible rfl
              simp only [List.foldl, Act.put, List.setIfInBounds_toArray, List.set_cons_zero, List.set_cons_succ]
              refine wpAnyH_one (i := 10) (d := 95) (v := ?_) rfl rfl (by kernel_rfl) (by kernel_rfl) (by kernel_rfl) (fun _ _ _ h => h) (by rfl) (by assumption) ?_ ?_
              rotate_left 1
              · intro w hSw; (try dsimp only at hSw); go_simp <;> with_reducible rfl
              simp only [List.foldl, Act.put, List.setIfInBounds_toArray, List.set_cons_zero, List.set_cons_succ]
              refine wpAnyH_one (i := 11) (d := 96) (v := ?_) rfl rfl (by kernel_rfl) (by kernel_rfl) (by kernel_rfl) (fun _ _ _ h => h) (by rfl) (by assumption) ?_ ?_
              rotate_left 1
              · intro w hSw; (try dsimp only at hSw); go_simp <;> with_reducible rfl
              simp only [List.foldl, Act.put, List.setIfInBounds_toArray, List.set_cons_zero, List.set_cons_succ]
              refine wpAnyH_ready (rs := [12]) (by kernel_rfl) (by simp) ?_
              refine AllReadyH.cons rfl (fun K hK => ?_) AllReadyH.nil
              go_simp
              refine (HIH.out x (by omega) c nj cap f1 _ (bl_drew hbW.out) (hSr.out.later (bl_drew (Below.refl _ _))) (by omega) (fun y hy => hfr.out.1 y (by omega))).mono ?_
              rintro e w6 ⟨hg6, f6, hS6, hr6⟩
              have hg6 : wr.grownBy w6 (some g) := grown_trans (grown_bl (grown_refl _ _) (bl_drew (Below.refl _ _))) hg6
              have x0 := (grown_cell hg6 lt0 ne0).trans x0
              have x1 := (grown_cell hg6 lt0 ne0).trans x1
              have n3 := (grown_cell hg6 lt1 ne1).trans n3
              have p0 := (grown_cell hg6 ltk nek).trans p0
              have p1 := (grown_cell hg6 lts nes).trans p1
              rcases hr6 with ⟨m, em, hFm, _, _, _⟩ | ⟨hno, r, rfl⟩
              · exact absurd ⟨m, em, hFm⟩ hgd.out
              have HS6 : Hid (SeenIs w6 g t.nodes.length f6) := hS6
              have HG6 : Hid (w5.grownBy w6 (some g)) := grown_trans hGr.out hg6
              clear hS6 hg6 hno
              refine hK.out _ _ ?_ (fun hHeld => ?_)
              · exact ⟨x0, x1, n3, p0, p1⟩
              clear hK K
              try simp only [List.foldl, Act.put, List.setIfInBounds_toArray, List.set_cons_zero, List.set_cons_succ]
              refine wpAnyH_one (i := 13) (d := 84) (v := ?_) rfl rfl (by kernel_rfl) (by kernel_rfl) (by kernel_rfl) (fun _ _ _ h => h) (by rfl) (by assumption) ?_ ?_
              rotate_left 1
              · intro w hSw; (try dsimp only at hSw); go_simp <;> with_reducible rfl
              simp only [List.foldl, Act.put, List.setIfInBounds_toArray, List.set_cons_zero, List.set_cons_succ]
              refine wpAnyH_one (i := 14) (d := 98) (v := ?_) rfl rfl (by kernel_rfl) (by kernel_rfl) (by kernel_rfl) (fun _ _ _ h => h) (by rfl) (by assumption) ?_ ?_
              rotate_left 1
              · intro w hSw; (try dsimp only at hSw); go_simp <;> with_reducible rfl
              simp only [List.foldl, Act.put, List.setIfInBounds_toArray, List.set_cons_zero, List.set_cons_succ]
              refine wpAnyH_one (i := 15) (d := 99) (v := ?_) rfl rfl (by kernel_rfl) (by kernel_rfl) (by kernel_rfl) (fun _ _ _ h => h) (by rfl) (by assumption) ?_ ?_
              rotate_left 1
              · intro w hSw; (try dsimp only at hSw); go_simp <;> with_reducible rfl
              simp only [List.foldl, Act.put, List.setIfInBounds_toArray, List.set_cons_zero, List.set_cons_succ]
              refine wpAnyH_one (i := 16) (d := 17) (v := ?_) rfl rfl (by kernel_rfl) (by kernel_rfl) (by kernel_rfl) (fun _ _ _ h => h) (by rfl) (by assumption) ?_ ?_
              rotate_left 1
              · intro w hSw; (try dsimp only at hSw); go_simp <;> with_reducible rfl
              simp only [List.foldl, Act.put, List.setIfInBounds_toArray, List.set_cons_zero, List.set_cons_succ]
              refine wpAnyH_one (i := 17) (d := 18) (v := ?_) rfl rfl (by kernel_rfl) (by kernel_rfl) (by kernel_rfl) (fun _ _ _ h => h) (by rfl) (by assumption) ?_ ?_
              rotate_left 1
              · intro w hSw; (try dsimp only at hSw); go_simp <;> with_reducible rfl
              simp only [List.foldl, Act.put, List.setIfInBounds_toArray, List.set_cons_zero, List.set_cons_succ]
              refine wpAnyH_done (by kernel_rfl) ?_ _
              go_wp2_with fail
              go_ret2
              refine ⟨grown_trans HG5.out HG6.out, f6, HS6.out, Or.inr ⟨?_, 0, rfl⟩⟩
              rintro ⟨k', ek, hFN⟩
              obtain rfl : k = k' := by omega
              exact hgd.out (fitN_kid HND.out HX.out (by rw [HSH.out]; exact HC.out) hFL.out hFN).2
        · have hje : j = nd.kids.length := by omega
          have hwn : IntKind.i64.wrap ((nj : Int) + 1) = (nj : Int) + 1 := by rw [IntKind.wrap_i64]; omega
          have HJ : Hid (j = nd.kids.length) := hje
          clear hje
          by_cases hnk : nj = k
          · have qn : ((nj : Int) == (k : Int)) = true := by simp [hnk]
            have HNK : Hid (nj = k) := hnk
            clear hnk
            go_wp2_with fail
            go_ret2
            have hnk := HNK.out
            subst hnk
            have hJ := HJ.out
            have hFL := hFL.out
            rw [hJ, List.take_length] at hFL
            refine ⟨grown_trans HG5.out hGr.out, f1, hSr.out, Or.inl ⟨nj, rfl, ⟨nd, HND.out, HCL.out, hx, ⟨nd, HND.out, hhas.out, by rw [HSH.out]; exact hlen.out, fun j' x c h1 h2 => hcl.out j' x c (by rw [hJ]; exact (List.getElem?_eq_some_iff.1 h1).1) h1 (by rw [HSH.out] at h2; exact h2)⟩, hFL⟩, rfl, fun y hy => ?_, fun y hy => hfr.out.2.2 y hy⟩⟩
            by_cases e : y = nj
            · rw [e]; exact hfr.out.2.1
            · rw [hfr.out.1 y (by omega)]; simp; omega
          · have qn : ((nj : Int) == (k : Int)) = false := by simp; omega
            have HNK : Hid (¬ nj = k) := hnk
            clear hnk
            go_wp2_with fail
            go_ret2
            refine ⟨grown_trans HG5.out hGr.out, f1, hSr.out, Or.inr ⟨?_, _, rfl⟩⟩
            rintro ⟨k', ek, hFN⟩
            obtain rfl : k = k' := by omega
            have h5 := fitN_kids HND.out hFN
            have h6 := hFL.out
            rw [HJ.out, List.take_length] at h6
            exact HNK.out (h6.same _ h5)

  · have qs : decide (SH.length = nd.kids.length) = false := by simp [hl]
    have hlen : Hid (¬ SH.length = nd.kids.length) := hl
    clear hl
    go_wp2_with fail
    go_ret2
    refine ⟨hG4, _, hS4, Or.inr ⟨?_, 0, rfl⟩⟩
    rintro ⟨k', ek, hFN⟩
    obtain rfl : k = k' := by omega
    have h5 := fitN_shape HND.out hFN
    rw [HSH.out] at h5
    exact hlen.out h5

set_option maxRecDepth 100000 in
set_option maxHeartbeats 8000000 in
theorem fits_two (t : Tre) (s1 s2 : Option Addr) (c1 c2 g B : Nat) (W0 : World) (hT : InT W0 B s1 s2 t) (hkt : kTre t) (hg : W0.heap.size ≤ g) (k : Nat) (nd : Nd) (hnd : t.nodes[k]? = some nd)
    (ih : ∀ I' : Int, I' < k → FitsC t s1 s2 c1 c2 g W0 I') (cl : Int) (nx cap : Nat) (f : Nat → Bool) (w : World) (hW : Below W0.heap.size W0 w) (hS : SeenIs w g t.nodes.length f) (hx : nx ≤ k) (hf : ∀ j : Nat, j ≤ k → f j = decide (j < nx)) (hc : ¬ cl = 10) (hc1 : cls nd.kind = cl) (hc2 : ¬ cl = 0) :
    Calls Tryz.prog 31 #[.agg #[.slice s1 t.nodes.length c1, .slice s2 t.tops.length c2], .int .i64 k, .int .i64 cl, .int .i64 nx, .slice (some ⟨g, 0, none⟩) t.nodes.length cap] w (FitsSays t k cl nx f g w) := by
  have hal := alloc_old
  have haf := alloc_oldf
  obtain ⟨⟨hn, hkn⟩, _⟩ := hkt
  have hk : k < t.nodes.length := (List.getElem?_eq_some_iff.1 hnd).1
  have knd := hkn nd (List.mem_of_getElem? hnd)
  obtain ⟨kt, kk⟩ := knd
  have k0 := Blk.new w #[.slice s1 t.nodes.length c1, .slice s2 t.tops.length c2] 29
  have L0 := bl_alloc (Below.refl _ w) (.cells #[.slice s1 t.nodes.length c1, .slice s2 t.tops.length c2] 29)
  obtain ⟨x0, x1, x2⟩ := k0.two
  have tw : IntKind.i64.wrap ((t.nodes.length : Int) - 1) = (t.nodes.length : Int) - 1 := by rw [IntKind.wrap_i64]; omega
  have q : (decide ((0 : Int) ≤ k) && decide ((k : Int) ≤ (t.nodes.length : Int) - 1)) = true := by simp; omega
  have hS0 := hS.later L0
  have y0 := hS0.cell k hk
  have fk : f k = false := by rw [hf k (Nat.le_refl _)]; simp; omega
  rw [fk] at y0
  have yf := hS0.fz k
  obtain ⟨b, o, rfl, hB, hp, s9, c9, e0, e1, e2, e3, hK⟩ := eNode_cells hT.n hnd
  have hbg : b < g := Nat.lt_of_lt_of_le hp hg
  have hgw : g < w.heap.size := hS.lt
  have HND : Hid (t.nodes[k]? = some nd) := hnd
  have HF : Hid (∀ j : Nat, j ≤ k → f j = decide (j < nx)) := hf
  have HW : Hid (Below W0.heap.size W0 w) := hW
  have HK : Hid (Els 1 cInt W0 B s9 nd.kids) := hK
  have HIH : Hid (∀ I' : Int, I' < k → FitsC t (some ⟨b, o, none⟩) s2 c1 c2 g W0 I') := ih
  have HT : Hid (InT W0 B (some ⟨b, o, none⟩) s2 t) := hT
  have lw : b < w.heap.size := by omega
  have hpW : W0.heap.size ≤ w.heap.size := hW.size
  have cellW : ∀ i v, W0.cell? ⟨b, i, none⟩ = some v → ∀ W, w.grownBy W (some g) → W.cell? ⟨b, i, none⟩ = some v := fun i v h W hW' => (grown_cell hW' lw (by omega)).trans ((HW.out.cell (p := ⟨b, i, none⟩) hp).trans h)
  clear hnd hf hW hK ih hT hS hkn
  have HCL : Hid (clsOk cl nd.kind) := by show clsOk _ _; unfold clsOk; rw [if_neg hc]; exact ⟨hc1, hc2⟩
  have qa : (cls nd.kind == cl) = true := by simp [hc1]
  have qz : (cl != 0) = true := by simp [hc2]
  have qc : (cl == 10) = false := by simp [hc]
  clear hc hc1 hc2
  go_enter Tryz.func31, Tryz.ntmps31
  go_upto_region 1 with fail
  have szX : (w.alloc (.cells #[.slice (some ⟨b, o, none⟩) t.nodes.length c1, .slice s2 t.tops.length c2] 29)).heap.size = w.heap.size + 1 := by simp
  generalize hX0 : w.alloc (.cells #[.slice (some ⟨b, o, none⟩) t.nodes.length c1, .slice s2 t.tops.length c2] 29) = X0 at k0 L0 x0 x1 x2 hS0 y0 yf szX ⊢
  clear hX0
  go_upto_region 3 with (go_at_call 47; refine (l1In_any _ _ _ _).mono ?_; rintro e w' ⟨rfl, hw'⟩; have hw2 := hw'.symm; clear hw'; subst hw2; rw [q])
  have hG1 : w.grownBy (X0.setCell ⟨g, k, none⟩ (.bool true)) (some g) := grown_trans (grown_bl (grown_refl _ _) L0) (grown_set _ _ _)
  have hS1 : SeenIs (X0.setCell ⟨g, k, none⟩ (.bool true)) g t.nodes.length (fun j => if j = k then true else f j) := hS0.set hk
  have k1 : Blk (X0.setCell ⟨g, k, none⟩ (.bool true)) w.heap.size #[.slice (some ⟨b, o, none⟩) t.nodes.length c1, .slice s2 t.tops.length c2] 29 := k0.grown (grown_set _ _ _) (by omega)
  have sz1 : (X0.setCell ⟨g, k, none⟩ (.bool true)).heap.size = w.heap.size + 1 := by simpa using szX
  go_upto_region 4 with fail
  generalize hX1 : X0.setCell ⟨g, k, none⟩ (.bool true) = X1 at hG1 hS1 k1 sz1 ⊢
  clear hX1 x0 x1 x2 hS0 y0 yf L0 k0 szX X0
  have z0 := cellW _ _ e0 _ hG1
  have z1 := cellW _ _ e1 _ hG1
  have z2 := cellW _ _ e2 _ hG1
  have z3 := cellW _ _ e3 _ hG1
  obtain ⟨v0, v1, v2⟩ := k1.two
  go_upto_region 5 with fail
  have kN := Blk.new' X1 #[.int .i64 nd.kind, .string nd.text, .int .i64 nd.num, .slice s9 nd.kids.length c9] 57 (n := w.heap.size + 1) (by rw [sz1])
  have hb2 := bl_alloc (Below.refl _ X1) (.cells #[.int .i64 nd.kind, .string nd.text, .int .i64 nd.num, .slice s9 nd.kids.length c9] 57)
  have hG2 := grown_bl hG1 hb2
  have hS2 := hS1.later hb2
  have k2 := k1.later hb2
  have sz2 : (X1.alloc (.cells #[.int .i64 nd.kind, .string nd.text, .int .i64 nd.num, .slice s9 nd.kids.length c9] 57)).heap.size = w.heap.size + 2 := by simp [sz1]
  generalize hX2 : X1.alloc (.cells #[.int .i64 nd.kind, .string nd.text, .int .i64 nd.num, .slice s9 nd.kids.length c9] 57) = X2 at kN hb2 hG2 hS2 k2 sz2 ⊢
  clear hX2 hG1 hS1 k1 sz1 hb2 z0 z1 z2 z3 v0 v1 v2 X1
  obtain ⟨n0, n1, n2, n3, n4⟩ := kN.four'
  obtain ⟨SH, HSH⟩ : ∃ SH, Hid (shp nd.kind nd.kids.length = SH) := ⟨_, rfl⟩
  go_upto_region 8 with (go_at_call 48; refine (l8Class_any _ _).mono ?_; rintro e w3 ⟨rfl, hb3⟩; obtain ⟨m0, m1, m2, m3, m4⟩ := (kN.later hb3).four')
  clear n0 n1 n2 n3 n4
  replace kN := kN.later hb3
  have hG3 := grown_bl hG2 hb3
  have hS3 := hS2.later hb3
  have k3 := k2.later hb3
  have sz3 : w.heap.size + 2 ≤ w3.heap.size := by have := hb3.size; omega
  clear hG2 hS2 k2 sz2 hb3 qa qz qc
  go_upto_region 9 with (go_at_call 49; refine (l8Shape_any nd.kind nd.text nd.num s9 nd.kids.length c9 kk _).mono ?_; rintro e w4 ⟨⟨ss, cs, rfl, hE⟩, hb4⟩; rw [HSH.out] at hE ⊢)
  replace kN := kN.later hb4
  have hG4 := grown_bl hG3 hb4
  have hS4 := hS3.later hb4
  have k4 := k3.later hb4
  have hE4 := hE.drop cInt_drops (show w.heap.size + 2 ≤ w3.heap.size from sz3)
  have sz4 : w.heap.size + 2 ≤ w4.heap.size := by have := hb4.size; omega
  clear hG3 hS3 k3 sz3 hb4 hE m0 m1 m2 m3 m4
  obtain ⟨n0, n1, n2, n3, n4⟩ := kN.four'
  by_cases hl : SH.length = nd.kids.length
  · have qs : decide (SH.length = nd.kids.length) = true := by simp [hl]
    have hlen : Hid (SH.length = nd.kids.length) := hl
    clear hl
    cases qh : hasB nd.kind nd.text nd.num
    · go_wp2_with (go_at_call 50; refine (l8Has_any nd.kind nd.text kt nd.num s9 nd.kids.length c9 _).mono ?_; rintro e w5 ⟨rfl, hb5⟩; rw [qh])
      go_ret2
      refine ⟨grown_bl hG4 hb5, _, hS4.later hb5, Or.inr ⟨?_, 0, rfl⟩⟩
      rintro ⟨k', ek, hFN⟩
      obtain rfl : k = k' := by omega
      have h5 := fitN_has HND.out hFN
      rw [qh] at h5
      cases h5
    · have hhas : Hid (hasB nd.kind nd.text nd.num = true) := qh
      go_upto_region 11 with (go_at_call 50; refine (l8Has_any nd.kind nd.text kt nd.num s9 nd.kids.length c9 _).mono ?_; rintro e w5 ⟨rfl, hb5⟩; rw [qh])
      have HN5 : Hid (Blk w5 (w.heap.size + 1) #[.int .i64 nd.kind, .string nd.text, .int .i64 nd.num, .slice s9 nd.kids.length c9] 57) := kN.later hb5
      have HT5 : Hid (Blk w5 w.heap.size #[.slice (some ⟨b, o, none⟩) t.nodes.length c1, .slice s2 t.tops.length c2] 29) := k4.later hb5
      have HG5 : Hid (w.grownBy w5 (some g)) := grown_bl hG4 hb5
      have HS5 : Hid (SeenIs w5 g t.nodes.length (fun j => if j = k then true else f j)) := hS4.later hb5
      have HE5 : Hid (Els 1 cInt w5 (w.heap.size + 2) ss SH) := hE4.later cInt_keeps hb5
      have sz5 : w.heap.size + 2 ≤ w5.heap.size := by have := hb5.size; omega
      clear hG4 hS4 hE4 k4 kN sz4 hb5 n0 n1 n2 n3 n4 qh qs
      go_wp2_with fail
      go_loopw [3, 16] (fun v i wr => ∃ (j nj : Nat) (f1 : Nat → Bool), j ≤ nd.kids.length ∧ i = .int .i64 j ∧ v = .int .i64 nj ∧ nj ≤ k ∧ Hid (FitL (kidsOf t) (okN t) (nd.kids.take j) nx nj) ∧ Hid (∀ (j' : Nat) (x c : Int), j' < j → nd.kids[j']? = some x → SH[j']? = some c → ∃ (m : Nat) (nd' : Nd), x = m ∧ t.nodes[m]? = some nd' ∧ clsOk c nd'.kind) ∧ Hid (SeenIs wr g t.nodes.length f1) ∧ Hid ((∀ x, x < k → f1 x = decide (x < nj)) ∧ f1 k = true ∧ ∀ x, k < x → f1 x = f x) ∧ Hid (w5.grownBy wr (some g))) (fun _ i _ => nd.kids.length - (intOf i).toNat)
      case atStart =>
        refine ⟨0, nx, _, Nat.zero_le _, rfl, rfl, hx, ?_, fun j' x c h => absurd h (Nat.not_lt_zero _), HS5.out, ⟨fun x h => ?_, ?_, fun x h => ?_⟩, grown_refl _ _⟩
        · exact FitL.nil _
        · (try dsimp only); rw [if_neg (by omega)]; exact HF.out x (by omega)
        · (try dsimp only); rw [if_pos rfl]
        · (try dsimp only); rw [if_neg (by omega)]
      case round =>
        obtain ⟨j, nj, f1, hj, rfl, rfl, hnj, hFL, hcl, hSr, hfr, hGr⟩ := hrel
        have szr : w.heap.size + 2 ≤ wr.heap.size := by have := hGr.out.size; omega
        have hbW : Hid (Below W0.heap.size W0 wr) := (HW.out.trans (grown_below (grown_trans HG5.out hGr.out) hg hpW))
        obtain ⟨x0, x1, x2⟩ := (HT5.out.grown hGr.out (by omega)).two
        obtain ⟨n0, n1, n2, n3, n4⟩ := (HN5.out.grown hGr.out (by omega)).four'
        by_cases hlt : j < nd.kids.length
        · obtain ⟨x, hxj⟩ := get_some hlt
          obtain ⟨c, hcj⟩ := get_some (show j < SH.length by rw [hlen.out]; exact hlt)
          obtain ⟨kb, ko, rfl, _, hkb, p00⟩ := eInt_cells HK.out hxj
          have p0 := (hbW.out.cell (p := ⟨kb, ko + j, none⟩) hkb).trans p00
          obtain ⟨sb, so, rfl, hsb, hsw, p1⟩ := eInt_cells (HE5.out.kept cInt_keeps (grown_kept hGr.out (by omega))) hcj
          have lt0 : w.heap.size < wr.heap.size := by omega
          have lt1 : w.heap.size + 1 < wr.heap.size := by omega
          have ltk : kb < wr.heap.size := by omega
          have lts : sb < wr.heap.size := hsw
          have ne0 : ¬ w.heap.size = g := by omega
          have ne1 : ¬ w.heap.size + 1 = g := by omega
          have nek : ¬ kb = g := by omega
          have nes : ¬ sb = g := by omega
          have HX : Hid (nd.kids[j]? = some x) := hxj
          have HC : Hid (SH[j]? = some c) := hcj
          clear hxj hcj p00 n0 n1 n2 n4 x2
          have hjI : (j : Int) < (nd.kids.length : Int) := by omega
          have hwj : IntKind.i64.wrap (nd.kids.length : Int) = nd.kids.length := by rw [IntKind.wrap_i64]; omega
          have hsl : j < SH.length := by rw [hlen.out]; exact hlt
          have hslI : (j : Int) < (SH.length : Int) := by omega
          by_cases hge : (k : Int) ≤ x
          · have HGE : Hid ((k : Int) ≤ x) := hge
            go_wp2_with fail
            go_ret2
            refine ⟨grown_trans HG5.out hGr.out, f1, hSr.out, Or.inr ⟨?_, 0, rfl⟩⟩
            rintro ⟨k', ek, hFN⟩
            obtain rfl : k = k' := by omega
            have h5 := (fitN_kid HND.out HX.out (by rw [HSH.out]; exact HC.out) hFL.out hFN).1
            have := HGE.out
            omega
          · by_cases hgood : ∃ m : Nat, x = m ∧ FitN t c m nj
            · have hgd : Hid (∃ m : Nat, x = m ∧ FitN t c m nj) := hgood
              clear hgood
              go_upto_region 16 with fail
              refine wp_region_held_drew (S := (fun w' => w'.cell? ⟨w.heap.size, 0, none⟩ = some (.slice (some ⟨b, o, none⟩) t.nodes.length c1) ∧ w'.cell? ⟨w.heap.size, 1, none⟩ = some (.slice s2 t.tops.length c2) ∧ w'.cell? ⟨w.heap.size + 1, 3, none⟩ = some (.slice (some ⟨kb, ko, none⟩) nd.kids.length c9) ∧ w'.cell? ⟨kb, ko + j, none⟩ = some (.int .i64 x) ∧ w'.cell? ⟨sb, so + j, none⟩ = some (.int .i64 c))) (by kernel_rfl) ?_ (fun hHeld => ?_)
              · exact ⟨x0, x1, n3, p0, p1⟩
              refine wpAnyH_one (i := 0) (d := 85) (v := ?_) rfl rfl (by kernel_rfl) (by kernel_rfl) (by kernel_rfl) (fun _ _ _ h => h) (by rfl) (by assumption) ?_ ?_
              rotate_left 1
              · intro w hSw; (try dsimp only at hSw); go_simp <;> with_reducible rfl
              simp only [List.foldl, Act.put, List.setIfInBounds_toArray, List.set_cons_zero, List.set_cons_succ]
              refine wpAnyH_one (i := 1) (d := 86) (v := ?_) rfl rfl (by kernel_rfl) (by kernel_rfl) (by kernel_rfl) (fun _ _ _ h => h) (by rfl) (by assumption) ?_ ?_
              rotate_left 1
              · intro w hSw; (try dsimp only at hSw); go_simp <;> with_reducible rfl
              simp only [List.foldl, Act.put, List.setIfInBounds_toArray, List.set_cons_zero, List.set_cons_succ]
              refine wpAnyH_one (i := 2) (d := 87) (v := ?_) rfl rfl (by kernel_rfl) (by kernel_rfl) (by kernel_rfl) (fun _ _ _ h => h) (by rfl) (by assumption) ?_ ?_
              rotate_left 1
              · intro w hSw; (try dsimp only at hSw); go_simp <;> with_reducible rfl
              simp only [List.foldl, Act.put, List.setIfInBounds_toArray, List.set_cons_zero, List.set_cons_succ]
              refine wpAnyH_one (i := 3) (d := 88) (v := ?_) rfl rfl (by kernel_rfl) (by kernel_rfl) (by kernel_rfl) (fun _ _ _ h => h) (by rfl) (by assumption) ?_ ?_
              rotate_left 1
              · intro w hSw; (try dsimp only at hSw); go_simp <;> with_reducible rfl
              simp only [List.foldl, Act.put, List.setIfInBounds_toArray, List.set_cons_zero, List.set_cons_succ]
              refine wpAnyH_one (i := 4) (d := 89) (v := ?_) rfl rfl (by kernel_rfl) (by kernel_rfl) (by kernel_rfl) (fun _ _ _ h => h) (by rfl) (by assumption) ?_ ?_
              rotate_left 1
              · intro w hSw; (try dsimp only at hSw); go_simp <;> with_reducible rfl
              simp only [List.foldl, Act.put, List.setIfInBounds_toArray, List.set_cons_zero, List.set_cons_succ]
              refine wpAnyH_one (i := 5) (d := 90) (v := ?_) rfl rfl (by kernel_rfl) (by kernel_rfl) (by kernel_rfl) (fun _ _ _ h => h) (by rfl) (by assumption) ?_ ?_
              rotate_left 1
              · intro w hSw; (try dsimp only at hSw); go_simp <;> with_reducible rfl
              simp only [List.foldl, Act.put, List.setIfInBounds_toArray, List.set_cons_zero, List.set_cons_succ]
              refine wpAnyH_one (i := 6) (d := 91) (v := ?_) rfl rfl (by kernel_rfl) (by kernel_rfl) (by kernel_rfl) (fun _ _ _ h => h) (by rfl) (by assumption) ?_ ?_
              rotate_left 1
              · intro w hSw; (try dsimp only at hSw); go_simp <;> with_reducible rfl
              simp only [List.foldl, Act.put, List.setIfInBounds_toArray, List.set_cons_zero, List.set_cons_succ]
              refine wpAnyH_one (i := 7) (d := 92) (v := ?_) rfl rfl (by kernel_rfl) (by kernel_rfl) (by kernel_rfl) (fun _ _ _ h => h) (by rfl) (by assumption) ?_ ?_
              rotate_left 1
              · intro w hSw; (try dsimp only at hSw); go_simp <;> with_reducible rfl
              simp only [List.foldl, Act.put, List.setIfInBounds_toArray, List.set_cons_zero, List.set_cons_succ]
              refine wpAnyH_one (i := 8) (d := 93) (v := ?_) rfl rfl (by kernel_rfl) (by kernel_rfl) (by kernel_rfl) (fun _ _ _ h => h) (by rfl) (by assumption) ?_ ?_
              rotate_left 1
              · intro w hSw; (try dsimp only at hSw); go_simp <;> with_reducible rfl
              simp only [List.foldl, Act.put, List.setIfInBounds_toArray, List.set_cons_zero, List.set_cons_succ]
              refine wpAnyH_one (i := 9) (d := 94) (v := ?_) rfl rfl (by kernel_rfl) (by kernel_rfl) (by kernel_rfl) (fun _ _ _ h => h) (by rfl) (by assumption) ?_ ?_
              rotate_left 1
              · intro w hSw; (try dsimp only at hSw); go_simp <;> with_reducible rfl
              simp only [List.foldl, Act.put, List.setIfInBounds_toArray, List.set_cons_zero, List.set_cons_succ]
              refine wpAnyH_one (i := 10) (d := 95) (v := ?_) rfl rfl (by kernel_rfl) (by kernel_rfl) (by kernel_rfl) (fun _ _ _ h => h) (by rfl) (by assumption) ?_ ?_
              rotate_left 1
              · intro w hSw; (try dsimp only at hSw); go_simp <;> with_reducible rfl
              simp only [List.foldl, Act.put, List.setIfInBounds_toArray, List.set_cons_zero, List.set_cons_succ]
              refine wpAnyH_one (i := 11) (d := 96) (v := ?_) rfl rfl (by kernel_rfl) (by kernel_rfl) (by kernel_rfl) (fun _ _ _ h => h) (by rfl) (by assumption) ?_ ?_
              rotate_left 1
              · intro w hSw; (try dsimp only at hSw); go_simp <;> with_reducible rfl
              simp only [List.foldl, Act.put, List.setIfInBounds_toArray, List.set_cons_zero, List.set_cons_succ]
              refine wpAnyH_ready (rs := [12]) (by kernel_rfl) (by simp) ?_
              refine AllReadyH.cons rfl (fun K hK => ?_) AllReadyH.nil
              go_simp
              refine (HIH.out x (by omega) c nj cap f1 _ (bl_drew hbW.out) (hSr.out.later (bl_drew (Below.refl _ _))) (by omega) (fun y hy => hfr.out.1 y (by omega))).mono ?_
              rintro e w6 ⟨hg6, f6, hS6, hr6⟩
              have hg6 : wr.grownBy w6 (some g) := grown_trans (grown_bl (grown_refl _ _) (bl_drew (Below.refl _ _))) hg6
              have x0 := (grown_cell hg6 lt0 ne0).trans x0
              have x1 := (grown_cell hg6 lt0 ne0).trans x1
              have n3 := (grown_cell hg6 lt1 ne1).trans n3
              have p0 := (grown_cell hg6 ltk nek).trans p0
              have p1 := (grown_cell hg6 lts nes).trans p1
              rcases hr6 with ⟨m, em, hFm, rfl, u1, u2⟩ | ⟨hno, _⟩
              rotate_left
              · exact absurd hgd.out hno
              obtain ⟨HFm⟩ : Nonempty (Hid (FitN t c m nj)) := ⟨hFm⟩
              have HEm : Hid (x = m) := em
              have HU : Hid ((∀ y, y ≤ m → f6 y = true) ∧ ∀ y, m < y → f6 y = f1 y) := ⟨u1, u2⟩
              have HS6 : Hid (SeenIs w6 g t.nodes.length f6) := hS6
              have HG6 : Hid (w5.grownBy w6 (some g)) := grown_trans hGr.out hg6
              clear hFm em u1 u2 hS6 hg6
              refine hK.out _ _ ?_ (fun hHeld => ?_)
              · exact ⟨x0, x1, n3, p0, p1⟩
              clear hK K
              try simp only [List.foldl, Act.put, List.setIfInBounds_toArray, List.set_cons_zero, List.set_cons_succ]
              refine wpAnyH_one (i := 13) (d := 84) (v := ?_) rfl rfl (by kernel_rfl) (by kernel_rfl) (by kernel_rfl) (fun _ _ _ h => h) (by rfl) (by assumption) ?_ ?_
              rotate_left 1
              · intro w hSw; (try dsimp only at hSw); go_simp <;> with_reducible rfl
              simp only [List.foldl, Act.put, List.setIfInBounds_toArray, List.set_cons_zero, List.set_cons_succ]
              refine wpAnyH_one (i := 14) (d := 98) (v := ?_) rfl rfl (by kernel_rfl) (by kernel_rfl) (by kernel_rfl) (fun _ _ _ h => h) (by rfl) (by assumption) ?_ ?_
              rotate_left 1
              · intro w hSw; (try dsimp only at hSw); go_simp <;> with_reducible rfl
              simp only [List.foldl, Act.put, List.setIfInBounds_toArray, List.set_cons_zero, List.set_cons_succ]
              refine wpAnyH_one (i := 15) (d := 99) (v := ?_) rfl rfl (by kernel_rfl) (by kernel_rfl) (by kernel_rfl) (fun _ _ _ h => h) (by rfl) (by assumption) ?_ ?_
              rotate_left 1
              · intro w hSw; (try dsimp only at hSw); go_simp <;> with_reducible rfl
              simp only [List.foldl, Act.put, List.setIfInBounds_toArray, List.set_cons_zero, List.set_cons_succ]
              refine wpAnyH_one (i := 16) (d := 17) (v := ?_) rfl rfl (by kernel_rfl) (by kernel_rfl) (by kernel_rfl) (fun _ _ _ h => h) (by rfl) (by assumption) ?_ ?_
              rotate_left 1
              · intro w hSw; (try dsimp only at hSw); go_simp <;> with_reducible rfl
              simp only [List.foldl, Act.put, List.setIfInBounds_toArray, List.set_cons_zero, List.set_cons_succ]
              refine wpAnyH_one (i := 17) (d := 18) (v := ?_) rfl rfl (by kernel_rfl) (by kernel_rfl) (by kernel_rfl) (fun _ _ _ h => h) (by rfl) (by assumption) ?_ ?_
              rotate_left 1
              · intro w hSw; (try dsimp only at hSw); go_simp <;> with_reducible rfl
              simp only [List.foldl, Act.put, List.setIfInBounds_toArray, List.set_cons_zero, List.set_cons_succ]
              refine wpAnyH_done (by kernel_rfl) ?_ _
              go_wp2_with fail
              go_roundw
              case rel =>
                obtain rfl := HEm.out
                have hFm := HFm.out
                refine ⟨j + 1, m + 1, f6, by omega, by go_num, by go_num, by omega, fit_take HX.out hFL.out hFm, ?_, HS6, ⟨fun y hy => ?_, ?_, fun y hy => ?_⟩, HG6⟩
                · intro j' y d hj' hy hd
                  by_cases e : j' = j
                  · subst e
                    have h1 := HX.out
                    have h2 := HC.out
                    rw [h1] at hy
                    rw [h2] at hd
                    cases hy
                    cases hd
                    obtain ⟨nd', g1, g2, _⟩ := hFm
                    exact ⟨m, nd', rfl, g1, g2⟩
                  · exact hcl.out j' y d (by omega) hy hd
                · by_cases e : y ≤ m
                  · rw [HU.out.1 y e]; symm; simp; omega
                  · have h3 : nj ≤ m := by obtain ⟨_, _, _, h, _⟩ := hFm; exact h
                    rw [HU.out.2 y (by omega), hfr.out.1 y hy]
                    have e1 : decide (y < nj) = false := by simp; omega
                    have e2 : decide (y < m + 1) = false := by simp; omega
                    rw [e1, e2]
                · rw [HU.out.2 k (by omega)]; exact hfr.out.2.1
                · rw [HU.out.2 y (by omega)]; exact hfr.out.2.2 y hy
              case measure => simp [intOf]; omega
            · have hgd : Hid (¬ ∃ m : Nat, x = m ∧ FitN t c m nj) := hgood
              clear hgood
              go_upto_region 16 with fail
              refine wp_region_held_drew (S := (fun w' => w'.cell? ⟨w.heap.size, 0, none⟩ = some (.slice (some ⟨b, o, none⟩) t.nodes.length c1) ∧ w'.cell? ⟨w.heap.size, 1, none⟩ = some (.slice s2 t.tops.length c2) ∧ w'.cell? ⟨w.heap.size + 1, 3, none⟩ = some (.slice (some ⟨kb, ko, none⟩) nd.kids.length c9) ∧ w'.cell? ⟨kb, ko + j, none⟩ = some (.int .i64 x) ∧ w'.cell? ⟨sb, so + j, none⟩ = some (.int .i64 c))) (by kernel_rfl) ?_ (fun hHeld => ?_)
              · exact ⟨x0, x1, n3, p0, p1⟩
              refine wpAnyH_one (i := 0) (d := 85) (v := ?_) rfl rfl (by kernel_rfl) (by kernel_rfl) (by kernel_rfl) (fun _ _ _ h => h) (by rfl) (by assumption) ?_ ?_
              rotate_left 1
              · intro w hSw; (try dsimp only at hSw); go_simp <;> with_reducible rfl
              simp only [List.foldl, Act.put, List.setIfInBounds_toArray, List.set_cons_zero, List.set_cons_succ]
              refine wpAnyH_one (i := 1) (d := 86) (v := ?_) rfl rfl (by kernel_rfl) (by kernel_rfl) (by kernel_rfl) (fun _ _ _ h => h) (by rfl) (by assumption) ?_ ?_
              rotate_left 1
              · intro w hSw; (try dsimp only at hSw); go_simp <;> with_reducible rfl
              simp only [List.foldl, Act.put, List.setIfInBounds_toArray, List.set_cons_zero, List.set_cons_succ]
              refine wpAnyH_one (i := 2) (d := 87) (v := ?_) rfl rfl (by kernel_rfl) (by kernel_rfl) (by kernel_rfl) (fun _ _ _ h => h) (by rfl) (by assumption) ?_ ?_
              rotate_left 1
              · intro w hSw; (try dsimp only at hSw); go_simp <;> with_reducible rfl
              simp only [List.foldl, Act.put, List.setIfInBounds_toArray, List.set_cons_zero, List.set_cons_succ]
              refine wpAnyH_one (i := 3) (d := 88) (v := ?_) rfl rfl (by kernel_rfl) (by kernel_rfl) (by kernel_rfl) (fun _ _ _ h => h) (by rfl) (by assumption) ?_ ?_
              rotate_left 1
              · intro w hSw; (try dsimp only at hSw); go_simp <;> with_reducible rfl
              simp only [List.foldl, Act.put, List.setIfInBounds_toArray, List.set_cons_zero, List.set_cons_succ]
              refine wpAnyH_one (i := 4) (d := 89) (v := ?_) rfl rfl (by kernel_rfl) (by kernel_rfl) (by kernel_rfl) (fun _ _ _ h => h) (by rfl) (by assumption) ?_ ?_
              rotate_left 1
              · intro w hSw; (try dsimp only at hSw); go_simp <;> with_reducible rfl
              simp only [List.foldl, Act.put, List.setIfInBounds_toArray, List.set_cons_zero, List.set_cons_succ]
              refine wpAnyH_one (i := 5) (d := 90) (v := ?_) rfl rfl (by kernel_rfl) (by kernel_rfl) (by kernel_rfl) (fun _ _ _ h => h) (by rfl) (by assumption) ?_ ?_
              rotate_left 1
              · intro w hSw; (try dsimp only at hSw); go_simp <;> with_reducible rfl
              simp only [List.foldl, Act.put, List.setIfInBounds_toArray, List.set_cons_zero, List.set_cons_succ]
              refine wpAnyH_one (i := 6) (d := 91) (v := ?_) rfl rfl (by kernel_rfl) (by kernel_rfl) (by kernel_rfl) (fun _ _ _ h => h) (by rfl) (by assumption) ?_ ?_
              rotate_left 1
              · intro w hSw; (try dsimp only at hSw); go_simp <;> with_reducible rfl
              simp only [List.foldl, Act.put, List.setIfInBounds_toArray, List.set_cons_zero, List.set_cons_succ]
              refine wpAnyH_one (i := 7) (d := 92) (v := ?_) rfl rfl (by kernel_rfl) (by kernel_rfl) (by kernel_rfl) (fun _ _ _ h => h) (by rfl) (by assumption) ?_ ?_
              rotate_left 1
              · intro w hSw; (try dsimp only at hSw); go_simp <;> with_reducible rfl
              simp only [List.foldl, Act.put, List.setIfInBounds_toArray, List.set_cons_zero, List.set_cons_succ]
              refine wpAnyH_one (i := 8) (d := 93) (v := ?_) rfl rfl (by kernel_rfl) (by kernel_rfl) (by kernel_rfl) (fun _ _ _ h => h) (by rfl) (by assumption) ?_ ?_
              rotate_left 1
              · intro w hSw; (try dsimp only at hSw); go_simp <;> with_reducible rfl
              simp only [List.foldl, Act.put, List.setIfInBounds_toArray, List.set_cons_zero, List.set_cons_succ]
              refine wpAnyH_one (i := 9) (d := 94) (v := ?_) rfl rfl (by kernel_rfl) (by kernel_rfl) (by kernel_rfl) (fun _ _ _ h => h) (by rfl) (by assumption) ?_ ?_
              rotate_left 1
              · intro w hSw; (try dsimp only at hSw); go_simp <;> with_reducible rfl
              simp only [List.foldl, Act.put, List.setIfInBounds_toArray, List.set_cons_zero, List.set_cons_succ]
              refine wpAnyH_one (i := 10) (d := 95) (v := ?_) rfl rfl (by kernel_rfl) (by kernel_rfl) (by kernel_rfl) (fun _ _ _ h => h) (by rfl) (by assumption) ?_ ?_
              rotate_left 1
              · intro w hSw; (try dsimp only at hSw); go_simp <;> with_reducible rfl
              simp only [List.foldl, Act.put, List.setIfInBounds_toArray, List.set_cons_zero, List.set_cons_succ]
              refine wpAnyH_one (i := 11) (d := 96) (v := ?_) rfl rfl (by kernel_rfl) (by kernel_rfl) (by kernel_rfl) (fun _ _ _ h => h) (by rfl) (by assumption) ?_ ?_
              rotate_left 1
              · intro w hSw; (try dsimp only at hSw); go_simp <;> with_reducible rfl
              simp only [List.foldl, Act.put, List.setIfInBounds_toArray, List.set_cons_zero, List.set_cons_succ]
              refine wpAnyH_ready (rs := [12]) (by kernel_rfl) (by simp) ?_
              refine AllReadyH.cons rfl (fun K hK => ?_) AllReadyH.nil
              go_simp
              refine (HIH.out x (by omega) c nj cap f1 _ (bl_drew hbW.out) (hSr.out.later (bl_drew (Below.refl _ _))) (by omega) (fun y hy => hfr.out.1 y (by omega))).mono ?_
              rintro e w6 ⟨hg6, f6, hS6, hr6⟩
              have hg6 : wr.grownBy w6 (some g) := grown_trans (grown_bl (grown_refl _ _) (bl_drew (Below.refl _ _))) hg6
              have x0 := (grown_cell hg6 lt0 ne0).trans x0
              have x1 := (grown_cell hg6 lt0 ne0).trans x1
              have n3 := (grown_cell hg6 lt1 ne1).trans n3
              have p0 := (grown_cell hg6 ltk nek).trans p0
              have p1 := (grown_cell hg6 lts nes).trans p1
              rcases hr6 with ⟨m, em, hFm, _, _, _⟩ | ⟨hno, r, rfl⟩
              · exact absurd ⟨m, em, hFm⟩ hgd.out
              have HS6 : Hid (SeenIs w6 g t.nodes.length f6) := hS6
              have HG6 : Hid (w5.grownBy w6 (some g)) := grown_trans hGr.out hg6
              clear hS6 hg6 hno
              refine hK.out _ _ ?_ (fun hHeld => ?_)
              · exact ⟨x0, x1, n3, p0, p1⟩
              clear hK K
              try simp only [List.foldl, Act.put, List.setIfInBounds_toArray, List.set_cons_zero, List.set_cons_succ]
              refine wpAnyH_one (i := 13) (d := 84) (v := ?_) rfl rfl (by kernel_rfl) (by kernel_rfl) (by kernel_rfl) (fun _ _ _ h => h) (by rfl) (by assumption) ?_ ?_
              rotate_left 1
              · intro w hSw; (try dsimp only at hSw); go_simp <;> with_reducible rfl
              simp only [List.foldl, Act.put, List.setIfInBounds_toArray, List.set_cons_zero, List.set_cons_succ]
              refine wpAnyH_one (i := 14) (d := 98) (v := ?_) rfl rfl (by kernel_rfl) (by kernel_rfl) (by kernel_rfl) (fun _ _ _ h => h) (by rfl) (by assumption) ?_ ?_
              rotate_left 1
              · intro w hSw; (try dsimp only at hSw); go_simp <;> with_reducible rfl
              simp only [List.foldl, Act.put, List.setIfInBounds_toArray, List.set_cons_zero, List.set_cons_succ]
              refine wpAnyH_one (i := 15) (d := 99) (v := ?_) rfl rfl (by kernel_rfl) (by kernel_rfl) (by kernel_rfl) (fun _ _ _ h => h) (by rfl) (by assumption) ?_ ?_
              rotate_left 1
              · intro w hSw; (try dsimp only at hSw); go_simp <;> with_reducible rfl
              simp only [List.foldl, Act.put, List.setIfInBounds_toArray, List.set_cons_zero, List.set_cons_succ]
              refine wpAnyH_one (i := 16) (d := 17) (v := ?_) rfl rfl (by kernel_rfl) (by kernel_rfl) (by kernel_rfl) (fun _ _ _ h => h) (by rfl) (by assumption) ?_ ?_
              rotate_left 1
              · intro w hSw; (try dsimp only at hSw); go_simp <;> with_reducible rfl
              simp only [List.foldl, Act.put, List.setIfInBounds_toArray, List.set_cons_zero, List.set_cons_succ]
              refine wpAnyH_one (i := 17) (d := 18) (v := ?_) rfl rfl (by kernel_rfl) (by kernel_rfl) (by kernel_rfl) (fun _ _ _ h => h) (by rfl) (by assumption) ?_ ?_
              rotate_left 1
              · intro w hSw; (try dsimp only at hSw); go_simp <;> with_reducible rfl
              simp only [List.foldl, Act.put, List.setIfInBounds_toArray, List.set_cons_zero, List.set_cons_succ]
              refine wpAnyH_done (by kernel_rfl) ?_ _
              go_wp2_with fail
              go_ret2
              refine ⟨grown_trans HG5.out HG6.out, f6, HS6.out, Or.inr ⟨?_, 0, rfl⟩⟩
              rintro ⟨k', ek, hFN⟩
              obtain rfl : k = k' := by omega
              exact hgd.out (fitN_kid HND.out HX.out (by rw [HSH.out]; exact HC.out) hFL.out hFN).2
        · have hje : j = nd.kids.length := by omega
          have hwn : IntKind.i64.wrap ((nj : Int) + 1) = (nj : Int) + 1 := by rw [IntKind.wrap_i64]; omega
          have HJ : Hid (j = nd.kids.length) := hje
          clear hje
          by_cases hnk : nj = k
          · have qn : ((nj : Int) == (k : Int)) = true := by simp [hnk]
            have HNK : Hid (nj = k) := hnk
            clear hnk
            go_wp2_with fail
            go_ret2
            have hnk := HNK.out
            subst hnk
            have hJ := HJ.out
            have hFL := hFL.out
            rw [hJ, List.take_length] at hFL
            refine ⟨grown_trans HG5.out hGr.out, f1, hSr.out, Or.inl ⟨nj, rfl, ⟨nd, HND.out, HCL.out, hx, ⟨nd, HND.out, hhas.out, by rw [HSH.out]; exact hlen.out, fun j' x c h1 h2 => hcl.out j' x c (by rw [hJ]; exact (List.getElem?_eq_some_iff.1 h1).1) h1 (by rw [HSH.out] at h2; exact h2)⟩, hFL⟩, rfl, fun y hy => ?_, fun y hy => hfr.out.2.2 y hy⟩⟩
            by_cases e : y = nj
            · rw [e]; exact hfr.out.2.1
            · rw [hfr.out.1 y (by omega)]; simp; omega
          · have qn : ((nj : Int) == (k : Int)) = false := by simp; omega
            have HNK : Hid (¬ nj = k) := hnk
            clear hnk
            go_wp2_with fail
            go_ret2
            refine ⟨grown_trans HG5.out hGr.out, f1, hSr.out, Or.inr ⟨?_, _, rfl⟩⟩
            rintro ⟨k', ek, hFN⟩
            obtain rfl : k = k' := by omega
            have h5 := fitN_kids HND.out hFN
            have h6 := hFL.out
            rw [HJ.out, List.take_length] at h6
            exact HNK.out (h6.same _ h5)

  · have qs : decide (SH.length = nd.kids.length) = false := by simp [hl]
    have hlen : Hid (¬ SH.length = nd.kids.length) := hl
    clear hl
    go_wp2_with fail
    go_ret2
    refine ⟨hG4, _, hS4, Or.inr ⟨?_, 0, rfl⟩⟩
    rintro ⟨k', ek, hFN⟩
    obtain rfl : k = k' := by omega
    have h5 := fitN_shape HND.out hFN
    rw [HSH.out] at h5
    exact hlen.out h5

set_option maxRecDepth 100000 in
set_option maxHeartbeats 8000000 in
theorem fits_no1 (t : Tre) (s1 s2 : Option Addr) (c1 c2 g B : Nat) (W0 : World) (hT : InT W0 B s1 s2 t) (hkt : kTre t) (hg : W0.heap.size ≤ g) (k : Nat) (nd : Nd) (hnd : t.nodes[k]? = some nd)
    (ih : ∀ I' : Int, I' < k → FitsC t s1 s2 c1 c2 g W0 I') (cl : Int) (nx cap : Nat) (f : Nat → Bool) (w : World) (hW : Below W0.heap.size W0 w) (hS : SeenIs w g t.nodes.length f) (hx : nx ≤ k) (hf : ∀ j : Nat, j ≤ k → f j = decide (j < nx)) (hc : cl = 10) (hkd : ¬ nd.kind = 7) :
    Calls Tryz.prog 31 #[.agg #[.slice s1 t.nodes.length c1, .slice s2 t.tops.length c2], .int .i64 k, .int .i64 cl, .int .i64 nx, .slice (some ⟨g, 0, none⟩) t.nodes.length cap] w (FitsSays t k cl nx f g w) := by
  have hal := alloc_old
  have haf := alloc_oldf
  obtain ⟨⟨hn, hkn⟩, _⟩ := hkt
  have hk : k < t.nodes.length := (List.getElem?_eq_some_iff.1 hnd).1
  have knd := hkn nd (List.mem_of_getElem? hnd)
  obtain ⟨kt, kk⟩ := knd
  have k0 := Blk.new w #[.slice s1 t.nodes.length c1, .slice s2 t.tops.length c2] 29
  have L0 := bl_alloc (Below.refl _ w) (.cells #[.slice s1 t.nodes.length c1, .slice s2 t.tops.length c2] 29)
  obtain ⟨x0, x1, x2⟩ := k0.two
  have tw : IntKind.i64.wrap ((t.nodes.length : Int) - 1) = (t.nodes.length : Int) - 1 := by rw [IntKind.wrap_i64]; omega
  have q : (decide ((0 : Int) ≤ k) && decide ((k : Int) ≤ (t.nodes.length : Int) - 1)) = true := by simp; omega
  have hS0 := hS.later L0
  have y0 := hS0.cell k hk
  have fk : f k = false := by rw [hf k (Nat.le_refl _)]; simp; omega
  rw [fk] at y0
  have yf := hS0.fz k
  obtain ⟨b, o, rfl, hB, hp, s9, c9, e0, e1, e2, e3, hK⟩ := eNode_cells hT.n hnd
  have hbg : b < g := Nat.lt_of_lt_of_le hp hg
  have hgw : g < w.heap.size := hS.lt
  have HND : Hid (t.nodes[k]? = some nd) := hnd
  have HF : Hid (∀ j : Nat, j ≤ k → f j = decide (j < nx)) := hf
  have HW : Hid (Below W0.heap.size W0 w) := hW
  have HK : Hid (Els 1 cInt W0 B s9 nd.kids) := hK
  have HIH : Hid (∀ I' : Int, I' < k → FitsC t (some ⟨b, o, none⟩) s2 c1 c2 g W0 I') := ih
  have HT : Hid (InT W0 B (some ⟨b, o, none⟩) s2 t) := hT
  have lw : b < w.heap.size := by omega
  have hpW : W0.heap.size ≤ w.heap.size := hW.size
  have cellW : ∀ i v, W0.cell? ⟨b, i, none⟩ = some v → ∀ W, w.grownBy W (some g) → W.cell? ⟨b, i, none⟩ = some v := fun i v h W hW' => (grown_cell hW' lw (by omega)).trans ((HW.out.cell (p := ⟨b, i, none⟩) hp).trans h)
  clear hnd hf hW hK ih hT hS hkn
  have HCL : Hid (¬ clsOk cl nd.kind) := by show ¬ clsOk _ _; unfold clsOk; rw [if_pos hc]; exact hkd
  have qc : (cl == 10) = true := by simp [hc]
  have qa : (cls nd.kind == cl) = false := by rw [hc]; simp; unfold cls; repeat' split <;> omega
  have qk : (nd.kind == 7) = false := by simp [hkd]
  clear hkd hc
  go_enter Tryz.func31, Tryz.ntmps31
  go_upto_region 1 with fail
  have szX : (w.alloc (.cells #[.slice (some ⟨b, o, none⟩) t.nodes.length c1, .slice s2 t.tops.length c2] 29)).heap.size = w.heap.size + 1 := by simp
  generalize hX0 : w.alloc (.cells #[.slice (some ⟨b, o, none⟩) t.nodes.length c1, .slice s2 t.tops.length c2] 29) = X0 at k0 L0 x0 x1 x2 hS0 y0 yf szX ⊢
  clear hX0
  go_upto_region 3 with (go_at_call 47; refine (l1In_any _ _ _ _).mono ?_; rintro e w' ⟨rfl, hw'⟩; have hw2 := hw'.symm; clear hw'; subst hw2; rw [q])
  have hG1 : w.grownBy (X0.setCell ⟨g, k, none⟩ (.bool true)) (some g) := grown_trans (grown_bl (grown_refl _ _) L0) (grown_set _ _ _)
  have hS1 : SeenIs (X0.setCell ⟨g, k, none⟩ (.bool true)) g t.nodes.length (fun j => if j = k then true else f j) := hS0.set hk
  have k1 : Blk (X0.setCell ⟨g, k, none⟩ (.bool true)) w.heap.size #[.slice (some ⟨b, o, none⟩) t.nodes.length c1, .slice s2 t.tops.length c2] 29 := k0.grown (grown_set _ _ _) (by omega)
  have sz1 : (X0.setCell ⟨g, k, none⟩ (.bool true)).heap.size = w.heap.size + 1 := by simpa using szX
  go_upto_region 4 with fail
  generalize hX1 : X0.setCell ⟨g, k, none⟩ (.bool true) = X1 at hG1 hS1 k1 sz1 ⊢
  clear hX1 x0 x1 x2 hS0 y0 yf L0 k0 szX X0
  have z0 := cellW _ _ e0 _ hG1
  have z1 := cellW _ _ e1 _ hG1
  have z2 := cellW _ _ e2 _ hG1
  have z3 := cellW _ _ e3 _ hG1
  obtain ⟨v0, v1, v2⟩ := k1.two
  go_upto_region 5 with fail
  have kN := Blk.new' X1 #[.int .i64 nd.kind, .string nd.text, .int .i64 nd.num, .slice s9 nd.kids.length c9] 57 (n := w.heap.size + 1) (by rw [sz1])
  have hb2 := bl_alloc (Below.refl _ X1) (.cells #[.int .i64 nd.kind, .string nd.text, .int .i64 nd.num, .slice s9 nd.kids.length c9] 57)
  have hG2 := grown_bl hG1 hb2
  have hS2 := hS1.later hb2
  have k2 := k1.later hb2
  have sz2 : (X1.alloc (.cells #[.int .i64 nd.kind, .string nd.text, .int .i64 nd.num, .slice s9 nd.kids.length c9] 57)).heap.size = w.heap.size + 2 := by simp [sz1]
  generalize hX2 : X1.alloc (.cells #[.int .i64 nd.kind, .string nd.text, .int .i64 nd.num, .slice s9 nd.kids.length c9] 57) = X2 at kN hb2 hG2 hS2 k2 sz2 ⊢
  clear hX2 hG1 hS1 k1 sz1 hb2 z0 z1 z2 z3 v0 v1 v2 X1
  obtain ⟨n0, n1, n2, n3, n4⟩ := kN.four'
  obtain ⟨SH, HSH⟩ : ∃ SH, Hid (shp nd.kind nd.kids.length = SH) := ⟨_, rfl⟩
  go_upto_region 8 with (go_at_call 48; refine (l8Class_any _ _).mono ?_; rintro e w3 ⟨rfl, hb3⟩; obtain ⟨m0, m1, m2, m3, m4⟩ := (kN.later hb3).four')
  clear n0 n1 n2 n3 n4
  replace kN := kN.later hb3
  have hG3 := grown_bl hG2 hb3
  have hS3 := hS2.later hb3
  have k3 := k2.later hb3
  have sz3 : w.heap.size + 2 ≤ w3.heap.size := by have := hb3.size; omega
  clear hG2 hS2 k2 sz2 hb3 qa qk qc
  go_upto_region 9 with (go_at_call 49; refine (l8Shape_any nd.kind nd.text nd.num s9 nd.kids.length c9 kk _).mono ?_; rintro e w4 ⟨⟨ss, cs, rfl, hE⟩, hb4⟩; rw [HSH.out] at hE ⊢)
  replace kN := kN.later hb4
  have hG4 := grown_bl hG3 hb4
  have hS4 := hS3.later hb4
  have k4 := k3.later hb4
  have hE4 := hE.drop cInt_drops (show w.heap.size + 2 ≤ w3.heap.size from sz3)
  have sz4 : w.heap.size + 2 ≤ w4.heap.size := by have := hb4.size; omega
  clear hG3 hS3 k3 sz3 hb4 hE m0 m1 m2 m3 m4
  obtain ⟨n0, n1, n2, n3, n4⟩ := kN.four'
  go_wp2_with fail
  go_ret2
  refine ⟨hG4, _, hS4, Or.inr ⟨?_, 0, rfl⟩⟩
  rintro ⟨k', ek, hFN⟩
  obtain rfl : k = k' := by omega
  have h5 := fitN_class HND.out hFN
  exact HCL.out h5

set_option maxRecDepth 100000 in
set_option maxHeartbeats 8000000 in
theorem fits_no2 (t : Tre) (s1 s2 : Option Addr) (c1 c2 g B : Nat) (W0 : World) (hT : InT W0 B s1 s2 t) (hkt : kTre t) (hg : W0.heap.size ≤ g) (k : Nat) (nd : Nd) (hnd : t.nodes[k]? = some nd)
    (ih : ∀ I' : Int, I' < k → FitsC t s1 s2 c1 c2 g W0 I') (cl : Int) (nx cap : Nat) (f : Nat → Bool) (w : World) (hW : Below W0.heap.size W0 w) (hS : SeenIs w g t.nodes.length f) (hx : nx ≤ k) (hf : ∀ j : Nat, j ≤ k → f j = decide (j < nx)) (hc : ¬ cl = 10) (hc1 : ¬ cls nd.kind = cl) :
    Calls Tryz.prog 31 #[.agg #[.slice s1 t.nodes.length c1, .slice s2 t.tops.length c2], .int .i64 k, .int .i64 cl, .int .i64 nx, .slice (some ⟨g, 0, none⟩) t.nodes.length cap] w (FitsSays t k cl nx f g w) := by
  have hal := alloc_old
  have haf := alloc_oldf
  obtain ⟨⟨hn, hkn⟩, _⟩ := hkt
  have hk : k < t.nodes.length := (List.getElem?_eq_some_iff.1 hnd).1
  have knd := hkn nd (List.mem_of_getElem? hnd)
  obtain ⟨kt, kk⟩ := knd
  have k0 := Blk.new w #[.slice s1 t.nodes.length c1, .slice s2 t.tops.length c2] 29
  have L0 := bl_alloc (Below.refl _ w) (.cells #[.slice s1 t.nodes.length c1, .slice s2 t.tops.length c2] 29)
  obtain ⟨x0, x1, x2⟩ := k0.two
  have tw : IntKind.i64.wrap ((t.nodes.length : Int) - 1) = (t.nodes.length : Int) - 1 := by rw [IntKind.wrap_i64]; omega
  have q : (decide ((0 : Int) ≤ k) && decide ((k : Int) ≤ (t.nodes.length : Int) - 1)) = true := by simp; omega
  have hS0 := hS.later L0
  have y0 := hS0.cell k hk
  have fk : f k = false := by rw [hf k (Nat.le_refl _)]; simp; omega
  rw [fk] at y0
  have yf := hS0.fz k
  obtain ⟨b, o, rfl, hB, hp, s9, c9, e0, e1, e2, e3, hK⟩ := eNode_cells hT.n hnd
  have hbg : b < g := Nat.lt_of_lt_of_le hp hg
  have hgw : g < w.heap.size := hS.lt
  have HND : Hid (t.nodes[k]? = some nd) := hnd
  have HF : Hid (∀ j : Nat, j ≤ k → f j = decide (j < nx)) := hf
  have HW : Hid (Below W0.heap.size W0 w) := hW
  have HK : Hid (Els 1 cInt W0 B s9 nd.kids) := hK
  have HIH : Hid (∀ I' : Int, I' < k → FitsC t (some ⟨b, o, none⟩) s2 c1 c2 g W0 I') := ih
  have HT : Hid (InT W0 B (some ⟨b, o, none⟩) s2 t) := hT
  have lw : b < w.heap.size := by omega
  have hpW : W0.heap.size ≤ w.heap.size := hW.size
  have cellW : ∀ i v, W0.cell? ⟨b, i, none⟩ = some v → ∀ W, w.grownBy W (some g) → W.cell? ⟨b, i, none⟩ = some v := fun i v h W hW' => (grown_cell hW' lw (by omega)).trans ((HW.out.cell (p := ⟨b, i, none⟩) hp).trans h)
  clear hnd hf hW hK ih hT hS hkn
  have HCL : Hid (¬ clsOk cl nd.kind) := by show ¬ clsOk _ _; unfold clsOk; rw [if_neg hc]; exact fun h => hc1 h.1
  have qa : (cls nd.kind == cl) = false := by simp [hc1]
  have qc : (cl == 10) = false := by simp [hc]
  clear hc hc1
  go_enter Tryz.func31, Tryz.ntmps31
  go_upto_region 1 with fail
  have szX : (w.alloc (.cells #[.slice (some ⟨b, o, none⟩) t.nodes.length c1, .slice s2 t.tops.length c2] 29)).heap.size = w.heap.size + 1 := by simp
  generalize hX0 : w.alloc (.cells #[.slice (some ⟨b, o, none⟩) t.nodes.length c1, .slice s2 t.tops.length c2] 29) = X0 at k0 L0 x0 x1 x2 hS0 y0 yf szX ⊢
  clear hX0
  go_upto_region 3 with (go_at_call 47; refine (l1In_any _ _ _ _).mono ?_; rintro e w' ⟨rfl, hw'⟩; have hw2 := hw'.symm; clear hw'; subst hw2; rw [q])
  have hG1 : w.grownBy (X0.setCell ⟨g, k, none⟩ (.bool true)) (some g) := grown_trans (grown_bl (grown_refl _ _) L0) (grown_set _ _ _)
  have hS1 : SeenIs (X0.setCell ⟨g, k, none⟩ (.bool true)) g t.nodes.length (fun j => if j = k then true else f j) := hS0.set hk
  have k1 : Blk (X0.setCell ⟨g, k, none⟩ (.bool true)) w.heap.size #[.slice (some ⟨b, o, none⟩) t.nodes.length c1, .slice s2 t.tops.length c2] 29 := k0.grown (grown_set _ _ _) (by omega)
  have sz1 : (X0.setCell ⟨g, k, none⟩ (.bool true)).heap.size = w.heap.size + 1 := by simpa using szX
  go_upto_region 4 with fail
  generalize hX1 : X0.setCell ⟨g, k, none⟩ (.bool true) = X1 at hG1 hS1 k1 sz1 ⊢
  clear hX1 x0 x1 x2 hS0 y0 yf L0 k0 szX X0
  have z0 := cellW _ _ e0 _ hG1
  have z1 := cellW _ _ e1 _ hG1
  have z2 := cellW _ _ e2 _ hG1
  have z3 := cellW _ _ e3 _ hG1
  obtain ⟨v0, v1, v2⟩ := k1.two
  go_upto_region 5 with fail
  have kN := Blk.new' X1 #[.int .i64 nd.kind, .string nd.text, .int .i64 nd.num, .slice s9 nd.kids.length c9] 57 (n := w.heap.size + 1) (by rw [sz1])
  have hb2 := bl_alloc (Below.refl _ X1) (.cells #[.int .i64 nd.kind, .string nd.text, .int .i64 nd.num, .slice s9 nd.kids.length c9] 57)
  have hG2 := grown_bl hG1 hb2
  have hS2 := hS1.later hb2
  have k2 := k1.later hb2
  have sz2 : (X1.alloc (.cells #[.int .i64 nd.kind, .string nd.text, .int .i64 nd.num, .slice s9 nd.kids.length c9] 57)).heap.size = w.heap.size + 2 := by simp [sz1]
  generalize hX2 : X1.alloc (.cells #[.int .i64 nd.kind, .string nd.text, .int .i64 nd.num, .slice s9 nd.kids.length c9] 57) = X2 at kN hb2 hG2 hS2 k2 sz2 ⊢
  clear hX2 hG1 hS1 k1 sz1 hb2 z0 z1 z2 z3 v0 v1 v2 X1
  obtain ⟨n0, n1, n2, n3, n4⟩ := kN.four'
  obtain ⟨SH, HSH⟩ : ∃ SH, Hid (shp nd.kind nd.kids.length = SH) := ⟨_, rfl⟩
  go_upto_region 8 with (go_at_call 48; refine (l8Class_any _ _).mono ?_; rintro e w3 ⟨rfl, hb3⟩; obtain ⟨m0, m1, m2, m3, m4⟩ := (kN.later hb3).four')
  clear n0 n1 n2 n3 n4
  replace kN := kN.later hb3
  have hG3 := grown_bl hG2 hb3
  have hS3 := hS2.later hb3
  have k3 := k2.later hb3
  have sz3 : w.heap.size + 2 ≤ w3.heap.size := by have := hb3.size; omega
  clear hG2 hS2 k2 sz2 hb3 qa qc
  go_upto_region 9 with (go_at_call 49; refine (l8Shape_any nd.kind nd.text nd.num s9 nd.kids.length c9 kk _).mono ?_; rintro e w4 ⟨⟨ss, cs, rfl, hE⟩, hb4⟩; rw [HSH.out] at hE ⊢)
  replace kN := kN.later hb4
  have hG4 := grown_bl hG3 hb4
  have hS4 := hS3.later hb4
  have k4 := k3.later hb4
  have hE4 := hE.drop cInt_drops (show w.heap.size + 2 ≤ w3.heap.size from sz3)
  have sz4 : w.heap.size + 2 ≤ w4.heap.size := by have := hb4.size; omega
  clear hG3 hS3 k3 sz3 hb4 hE m0 m1 m2 m3 m4
  obtain ⟨n0, n1, n2, n3, n4⟩ := kN.four'
  go_wp2_with fail
  go_ret2
  refine ⟨hG4, _, hS4, Or.inr ⟨?_, 0, rfl⟩⟩
  rintro ⟨k', ek, hFN⟩
  obtain rfl : k = k' := by omega
  have h5 := fitN_class HND.out hFN
  exact HCL.out h5

set_option maxRecDepth 100000 in
set_option maxHeartbeats 8000000 in
theorem fits_no3 (t : Tre) (s1 s2 : Option Addr) (c1 c2 g B : Nat) (W0 : World) (hT : InT W0 B s1 s2 t) (hkt : kTre t) (hg : W0.heap.size ≤ g) (k : Nat) (nd : Nd) (hnd : t.nodes[k]? = some nd)
    (ih : ∀ I' : Int, I' < k → FitsC t s1 s2 c1 c2 g W0 I') (cl : Int) (nx cap : Nat) (f : Nat → Bool) (w : World) (hW : Below W0.heap.size W0 w) (hS : SeenIs w g t.nodes.length f) (hx : nx ≤ k) (hf : ∀ j : Nat, j ≤ k → f j = decide (j < nx)) (hc : ¬ cl = 10) (hc1 : cls nd.kind = cl) (hc2 : cl = 0) :
    Calls Tryz.prog 31 #[.agg #[.slice s1 t.nodes.length c1, .slice s2 t.tops.length c2], .int .i64 k, .int .i64 cl, .int .i64 nx, .slice (some ⟨g, 0, none⟩) t.nodes.length cap] w (FitsSays t k cl nx f g w) := by
  have hal := alloc_old
  have haf := alloc_oldf
  obtain ⟨⟨hn, hkn⟩, _⟩ := hkt
  have hk : k < t.nodes.length := (List.getElem?_eq_some_iff.1 hnd).1
  have knd := hkn nd (List.mem_of_getElem? hnd)
  obtain ⟨kt, kk⟩ := knd
  have k0 := Blk.new w #[.slice s1 t.nodes.length c1, .slice s2 t.tops.length c2] 29
  have L0 := bl_alloc (Below.refl _ w) (.cells #[.slice s1 t.nodes.length c1, .slice s2 t.tops.length c2] 29)
  obtain ⟨x0, x1, x2⟩ := k0.two
  have tw : IntKind.i64.wrap ((t.nodes.length : Int) - 1) = (t.nodes.length : Int) - 1 := by rw [IntKind.wrap_i64]; omega
  have q : (decide ((0 : Int) ≤ k) && decide ((k : Int) ≤ (t.nodes.length : Int) - 1)) = true := by simp; omega
  have hS0 := hS.later L0
  have y0 := hS0.cell k hk
  have fk : f k = false := by rw [hf k (Nat.le_refl _)]; simp; omega
  rw [fk] at y0
  have yf := hS0.fz k
  obtain ⟨b, o, rfl, hB, hp, s9, c9, e0, e1, e2, e3, hK⟩ := eNode_cells hT.n hnd
  have hbg : b < g := Nat.lt_of_lt_of_le hp hg
  have hgw : g < w.heap.size := hS.lt
  have HND : Hid (t.nodes[k]? = some nd) := hnd
  have HF : Hid (∀ j : Nat, j ≤ k → f j = decide (j < nx)) := hf
  have HW : Hid (Below W0.heap.size W0 w) := hW
  have HK : Hid (Els 1 cInt W0 B s9 nd.kids) := hK
  have HIH : Hid (∀ I' : Int, I' < k → FitsC t (some ⟨b, o, none⟩) s2 c1 c2 g W0 I') := ih
  have HT : Hid (InT W0 B (some ⟨b, o, none⟩) s2 t) := hT
  have lw : b < w.heap.size := by omega
  have hpW : W0.heap.size ≤ w.heap.size := hW.size
  have cellW : ∀ i v, W0.cell? ⟨b, i, none⟩ = some v → ∀ W, w.grownBy W (some g) → W.cell? ⟨b, i, none⟩ = some v := fun i v h W hW' => (grown_cell hW' lw (by omega)).trans ((HW.out.cell (p := ⟨b, i, none⟩) hp).trans h)
  clear hnd hf hW hK ih hT hS hkn
  have HCL : Hid (¬ clsOk cl nd.kind) := by show ¬ clsOk _ _; unfold clsOk; rw [if_neg hc]; exact fun h => h.2 hc2
  have qa : (cls nd.kind == cl) = true := by simp [hc1]
  have qz : (cl != 0) = false := by simp [hc2]
  have qc : (cl == 10) = false := by simp [hc]
  clear hc hc1 hc2
  go_enter Tryz.func31, Tryz.ntmps31
  go_upto_region 1 with fail
  have szX : (w.alloc (.cells #[.slice (some ⟨b, o, none⟩) t.nodes.length c1, .slice s2 t.tops.length c2] 29)).heap.size = w.heap.size + 1 := by simp
  generalize hX0 : w.alloc (.cells #[.slice (some ⟨b, o, none⟩) t.nodes.length c1, .slice s2 t.tops.length c2] 29) = X0 at k0 L0 x0 x1 x2 hS0 y0 yf szX ⊢
  clear hX0
  go_upto_region 3 with (go_at_call 47; refine (l1In_any _ _ _ _).mono ?_; rintro e w' ⟨rfl, hw'⟩; have hw2 := hw'.symm; clear hw'; subst hw2; rw [q])
  have hG1 : w.grownBy (X0.setCell ⟨g, k, none⟩ (.bool true)) (some g) := grown_trans (grown_bl (grown_refl _ _) L0) (grown_set _ _ _)
  have hS1 : SeenIs (X0.setCell ⟨g, k, none⟩ (.bool true)) g t.nodes.length (fun j => if j = k then true else f j) := hS0.set hk
  have k1 : Blk (X0.setCell ⟨g, k, none⟩ (.bool true)) w.heap.size #[.slice (some ⟨b, o, none⟩) t.nodes.length c1, .slice s2 t.tops.length c2] 29 := k0.grown (grown_set _ _ _) (by omega)
  have sz1 : (X0.setCell ⟨g, k, none⟩ (.bool true)).heap.size = w.heap.size + 1 := by simpa using szX
  go_upto_region 4 with fail
  generalize hX1 : X0.setCell ⟨g, k, none⟩ (.bool true) = X1 at hG1 hS1 k1 sz1 ⊢
  clear hX1 x0 x1 x2 hS0 y0 yf L0 k0 szX X0
  have z0 := cellW _ _ e0 _ hG1
  have z1 := cellW _ _ e1 _ hG1
  have z2 := cellW _ _ e2 _ hG1
  have z3 := cellW _ _ e3 _ hG1
  obtain ⟨v0, v1, v2⟩ := k1.two
  go_upto_region 5 with fail
  have kN := Blk.new' X1 #[.int .i64 nd.kind, .string nd.text, .int .i64 nd.num, .slice s9 nd.kids.length c9] 57 (n := w.heap.size + 1) (by rw [sz1])
  have hb2 := bl_alloc (Below.refl _ X1) (.cells #[.int .i64 nd.kind, .string nd.text, .int .i64 nd.num, .slice s9 nd.kids.length c9] 57)
  have hG2 := grown_bl hG1 hb2
  have hS2 := hS1.later hb2
  have k2 := k1.later hb2
  have sz2 : (X1.alloc (.cells #[.int .i64 nd.kind, .string nd.text, .int .i64 nd.num, .slice s9 nd.kids.length c9] 57)).heap.size = w.heap.size + 2 := by simp [sz1]
  generalize hX2 : X1.alloc (.cells #[.int .i64 nd.kind, .string nd.text, .int .i64 nd.num, .slice s9 nd.kids.length c9] 57) = X2 at kN hb2 hG2 hS2 k2 sz2 ⊢
  clear hX2 hG1 hS1 k1 sz1 hb2 z0 z1 z2 z3 v0 v1 v2 X1
  obtain ⟨n0, n1, n2, n3, n4⟩ := kN.four'
  obtain ⟨SH, HSH⟩ : ∃ SH, Hid (shp nd.kind nd.kids.length = SH) := ⟨_, rfl⟩
  go_upto_region 8 with (go_at_call 48; refine (l8Class_any _ _).mono ?_; rintro e w3 ⟨rfl, hb3⟩; obtain ⟨m0, m1, m2, m3, m4⟩ := (kN.later hb3).four')
  clear n0 n1 n2 n3 n4
  replace kN := kN.later hb3
  have hG3 := grown_bl hG2 hb3
  have hS3 := hS2.later hb3
  have k3 := k2.later hb3
  have sz3 : w.heap.size + 2 ≤ w3.heap.size := by have := hb3.size; omega
  clear hG2 hS2 k2 sz2 hb3 qa qz qc
  go_upto_region 9 with (go_at_call 49; refine (l8Shape_any nd.kind nd.text nd.num s9 nd.kids.length c9 kk _).mono ?_; rintro e w4 ⟨⟨ss, cs, rfl, hE⟩, hb4⟩; rw [HSH.out] at hE ⊢)
  replace kN := kN.later hb4
  have hG4 := grown_bl hG3 hb4
  have hS4 := hS3.later hb4
  have k4 := k3.later hb4
  have hE4 := hE.drop cInt_drops (show w.heap.size + 2 ≤ w3.heap.size from sz3)
  have sz4 : w.heap.size + 2 ≤ w4.heap.size := by have := hb4.size; omega
  clear hG3 hS3 k3 sz3 hb4 hE m0 m1 m2 m3 m4
  obtain ⟨n0, n1, n2, n3, n4⟩ := kN.four'
  go_wp2_with fail
  go_ret2
  refine ⟨hG4, _, hS4, Or.inr ⟨?_, 0, rfl⟩⟩
  rintro ⟨k', ek, hFN⟩
  obtain rfl : k = k' := by omega
  have h5 := fitN_class HND.out hFN
  exact HCL.out h5

theorem fits_step (t : Tre) (s1 s2 : Option Addr) (c1 c2 g B : Nat) (W0 : World) (hT : InT W0 B s1 s2 t) (hkt : kTre t) (hg : W0.heap.size ≤ g) (I : Int) (ih : ∀ I' : Int, 0 ≤ I → I' < I → FitsC t s1 s2 c1 c2 g W0 I') : FitsC t s1 s2 c1 c2 g W0 I := by
  by_cases hI : I < 0 ∨ (t.nodes.length : Int) ≤ I
  · exact fits_out t s1 s2 c1 c2 g W0 hkt.1.1 I hI
  · intro cl nx cap f w hW hS hx hf
    obtain ⟨k, rfl⟩ : ∃ k : Nat, I = k := ⟨I.toNat, by omega⟩
    have hk : k < t.nodes.length := by omega
    by_cases hkx : k < nx
    · exact fits_seen t s1 s2 c1 c2 g W0 hkt.1.1 k hk cl nx cap f w hS hkx (by rw [hf k (by omega)]; simp [hkx])
    · obtain ⟨nd, hnd⟩ := get_some hk
      have ih' : ∀ I' : Int, I' < k → FitsC t s1 s2 c1 c2 g W0 I' := fun I' h => ih I' (by omega) h
      have hf' : ∀ j : Nat, j ≤ k → f j = decide (j < nx) := fun j hj => hf j (by omega)
      by_cases hc : cl = 10
      · by_cases hkd : nd.kind = 7
        · exact fits_ten t s1 s2 c1 c2 g B W0 hT hkt hg k nd hnd ih' cl nx cap f w hW hS (by omega) hf' hc hkd
        · exact fits_no1 t s1 s2 c1 c2 g B W0 hT hkt hg k nd hnd ih' cl nx cap f w hW hS (by omega) hf' hc hkd
      · by_cases hc1 : cls nd.kind = cl
        · by_cases hc2 : cl = 0
          · exact fits_no3 t s1 s2 c1 c2 g B W0 hT hkt hg k nd hnd ih' cl nx cap f w hW hS (by omega) hf' hc hc1 hc2
          · exact fits_two t s1 s2 c1 c2 g B W0 hT hkt hg k nd hnd ih' cl nx cap f w hW hS (by omega) hf' hc hc1 hc2
        · exact fits_no2 t s1 s2 c1 c2 g B W0 hT hkt hg k nd hnd ih' cl nx cap f w hW hS (by omega) hf' hc hc1
/-- l8Fits at every number. -/
theorem l8Fits_any (t : Tre) (s1 s2 : Option Addr) (c1 c2 g B : Nat) (W0 : World) (hT : InT W0 B s1 s2 t) (hkt : kTre t) (hg : W0.heap.size ≤ g) (I : Int) : FitsC t s1 s2 c1 c2 g W0 I := by
  have h : ∀ m : Nat, ∀ I : Int, I < m → FitsC t s1 s2 c1 c2 g W0 I := by
    intro m
    induction m with
    | zero => intro I hI; exact fits_step t s1 s2 c1 c2 g B W0 hT hkt hg I (fun I' h => by omega)
    | succ m ih => intro I hI; exact fits_step t s1 s2 c1 c2 g B W0 hT hkt hg I (fun I' _ h => ih I' (by omega))
  exact h (I.toNat + 1) I (by omega)
end Go.Proofs.YtknallkcengbbaaGreatDoor
