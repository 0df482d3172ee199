import Derived.Test.YtpfamdpgcbpiaaaRc
namespace Go.Proofs.Ytpfamdpgcbpiaaa
open Go.RowKit Go.Shelf
set_option linter.unusedVariables false
set_option linter.unusedSimpArgs false
attribute [local go_sem] Oper.semAt_some

/-- a cursor below 0 is 0. -/
def clip (cur : Int) : Int := if 0 > cur then 0 else cur
/-- how many were missed. -/
def missedOf (cur f : Int) : Int := if 0 > f - clip cur then 0 else f - clip cur
def okF (f : Int) : Bool := decide (0 ≤ f) && decide (f ≤ 1000000000000)
def unL (cur f : Int) (O N : List V4) : List V4 := if okF f then (O ++ N).drop (cur - f).toNat else []
def unN (f : Int) (O N : List V4) : Int := if okF f then f + (O.length : Int) + (N.length : Int) else 0
def unM (cur f : Int) : Int := if okF f then missedOf cur f else 0
/-- what is unread is handed back, in a new list. -/
def OwnU (w : World) (cur f : Int) (O N : List V4) (e : Ending) (w' : World) : Prop :=
  ∃ v, e = .returned (.tuple #[v, .int .i64 (unN f O N), .int .i64 (unM cur f)]) ∧ OV w' w.heap.size v (unL cur f O N) ∧ Below w.heap.size w w'

theorem mis1 {cur f : Int} (h : cur < 0) (h0 : 0 ≤ f) : missedOf cur f = f := by
  have e : clip cur = 0 := if_pos h
  unfold missedOf
  rw [e, if_neg (by omega)]; omega
theorem mis2 {cur f : Int} (h : ¬ cur < 0) (h0 : f < cur) : missedOf cur f = 0 := by
  have e : clip cur = cur := if_neg h
  unfold missedOf
  rw [e, if_pos (by omega)]
theorem mis3 {cur f : Int} (h : ¬ cur < 0) (h0 : ¬ f < cur) : missedOf cur f = f - cur := by
  have e : clip cur = cur := if_neg h
  unfold missedOf
  rw [e, if_neg (by omega)]
theorem ov_own {β : Type} (B0 n lb : Nat) (g : β → List V4) : OwnFrom B0 (fun (s : β) W => ∃ v, Blk W lb #[v] 24 ∧ OV W n v (g s)) := by
  rintro s W W' row ⟨v, h1, h2⟩ hg hr
  refine ⟨v, blk_own (β := Unit) B0 _ _ _ () W W' row h1 hg hr, h2.same fun q hq hl => hg.block q hl ?_⟩
  intro e
  obtain ⟨_, o, ho, hc⟩ := hr q e.symm
  rcases h2.2 with ⟨e1, _⟩ | ⟨g', cap, cur, e1, _, hgb, _⟩
  · rw [e1] at hq; cases hq
  · rw [e1] at hq
    simp only [Value.ownBlock, Option.some.injEq] at hq
    subst hq
    rw [hgb] at ho
    cases ho
    cases hc

/-- an append onto the list in a box keeps what a round must keep. -/
theorem kq_append {n lb : Nat} {W w1 : World} {v v' : Value} {L M : List V4} {tmp : Obj} (hv : Blk W lb #[v] 24) (hrow : OV W n v L) (hn : n ≤ W.heap.size) (hB : n ≤ lb) (hown' : OV w1 n v' M) (hgrow : (W.alloc tmp).grownBy w1 v.ownBlock) :
    Blk w1 lb #[v] 24 ∧ Blk (w1.setCell ⟨lb, 0, none⟩ v') lb #[v'] 24 ∧ OV (w1.setCell ⟨lb, 0, none⟩ v') n v' M ∧ KeepsOthers W (w1.setCell ⟨lb, 0, none⟩ v') ∧ Kq n W (w1.setCell ⟨lb, 0, none⟩ v') := by
  obtain ⟨h1, h2, h3, h4, h5⟩ := Boxed.appended (W := W) (w1 := w1) (n₀ := n) (B := lb) (t := 24) (e := 64) (size := 4) hv (by decide) hrow hn hB hown' hgrow
  refine ⟨h1, h2, h3, h4, h5, fun k c t hk ht hc => ?_⟩
  have hlt : k < W.heap.size := (Array.getElem?_eq_some_iff.1 hk).1
  have hne : ¬ k = lb := by
    intro e
    subst e
    have hv' : W.heap[k]? = _ := hv
    rw [hk] at hv'
    simp only [Option.some.injEq, Obj.cells.injEq] at hv'
    exact hc ⟨hv'.2.1, by rw [hv'.1]; rfl⟩
  rw [Below.heap_setCell w1 ⟨lb, 0, none⟩ v' k (by dsimp only; omega), hgrow.block k (by simp; omega) ?_, Below.heap_alloc W tmp k hlt]
  · exact hk
  · intro e
    rcases hrow.2 with ⟨e1, _⟩ | ⟨g', cap, cur, e1, _, hgb, _⟩
    · rw [e1] at e; cases e
    · rw [e1] at e
      simp only [Value.ownBlock, Option.some.injEq] at e
      subst e
      rw [hk] at hgb
      simp only [Option.some.injEq, Obj.cells.injEq] at hgb
      exact ht hgb.2.1

set_option maxRecDepth 100000 in
set_option maxHeartbeats 4000000 in
theorem implUnread_loop (cur f : Int) (s1 s2 : Option Addr) (c1 c2 : Nat) (O N : List V4) (B : Nat) (w : World) (hO : Els 4 cVal w B s1 O) (hN : Els 4 cVal w B s2 N) (f0 : 0 ≤ f) (f1 : f ≤ 1000000000000) (l1 : O.length ≤ 1048576) (l2 : N.length ≤ 1048576) (bc : -9223372036854775808 ≤ cur ∧ cur ≤ 9223372036854775807) :
    Calls Try.prog 10 #[.agg #[.int .i64 f, .slice s1 O.length c1, .slice s2 N.length c2], .int .i64 cur] w fun e w' => OwnU w cur f O N e w' := by
  refine (callsIn_wide (n := 6)).1 ?_
  obtain ⟨i0, hi, hz0, hz1, hz2⟩ := info_parts Try.infoV
  obtain ⟨k0, k1, L0⟩ := boxTwo w #[.int .i64 f, .slice s1 O.length c1, .slice s2 N.length c2] #[.slice none 0 0] 26 24
  obtain ⟨x0, x1, x2, x3⟩ := k0.three'
  obtain ⟨y0, y1, y2, y3⟩ := (Blk.new w #[.int .i64 f, .slice s1 O.length c1, .slice s2 N.length c2] 26).three'
  have hfo : (decide (0 ≤ f) && decide (f ≤ 1000000000000)) = true := by simp; omega
  have HF : Hid (okF f = true) := hfo
  refine callsIn_of_wp_marks Try.func10 rfl trivial ?_ rfl
  simp only [Try.ntmps10, List.size_toArray, List.length_cons, List.length_nil, Nat.reduceAdd, Nat.reduceSub, Array.replicate_succ, Array.replicate_zero, List.push_toArray, List.append_toArray, List.nil_append, List.cons_append]
  gi_wp2_with (first
    | (refine ⟨trivial, ?_⟩; gi_at_call 30; refine (callsIn_wide.2 (firstOk_any f _)).mono ?_; rintro e w' ⟨rfl, rfl⟩; rw [hfo])
    | (refine ⟨trivial, ?_⟩; gi_at_call 31; refine (unreadOf_in Fence.wide _ trivial rfl _ cur _ rfl).mono ?_; rintro e w' ⟨rfl, rfl⟩))
  have a0 := (k0.alloc (.cells #[.int .i64 f, .slice s1 O.length c1, .slice s2 N.length c2] 26)).alloc (.cells #[.int .i64 cur] 3)
  have a2 := (k1.alloc (.cells #[.int .i64 f, .slice s1 O.length c1, .slice s2 N.length c2] 26)).alloc (.cells #[.int .i64 cur] 3)
  have a3 := (Blk.new ((w.alloc (.cells #[.int .i64 f, .slice s1 O.length c1, .slice s2 N.length c2] 26)).alloc (.cells #[.slice none 0 0] 24)) #[.int .i64 f, .slice s1 O.length c1, .slice s2 N.length c2] 26).alloc (.cells #[.int .i64 cur] 3)
  have a4 := Blk.new (((w.alloc (.cells #[.int .i64 f, .slice s1 O.length c1, .slice s2 N.length c2] 26)).alloc (.cells #[.slice none 0 0] 24)).alloc (.cells #[.int .i64 f, .slice s1 O.length c1, .slice s2 N.length c2] 26)) #[.int .i64 cur] 3
  simp only [World.size_alloc] at a3 a4
  have hB0 : Below w.heap.size w ((((w.alloc (.cells #[.int .i64 f, .slice s1 O.length c1, .slice s2 N.length c2] 26)).alloc (.cells #[.slice none 0 0] 24)).alloc (.cells #[.int .i64 f, .slice s1 O.length c1, .slice s2 N.length c2] 26)).alloc (.cells #[.int .i64 cur] 3)) := bl_alloc (bl_alloc L0 _) _
  have hsz : ((((w.alloc (.cells #[.int .i64 f, .slice s1 O.length c1, .slice s2 N.length c2] 26)).alloc (.cells #[.slice none 0 0] 24)).alloc (.cells #[.int .i64 f, .slice s1 O.length c1, .slice s2 N.length c2] 26)).alloc (.cells #[.int .i64 cur] 3)).heap.size = w.heap.size + 4 := by simp
  clear k0 k1 x0 x1 x2 x3 y0 y1 y2 y3 L0 hfo
  generalize (((w.alloc (.cells #[.int .i64 f, .slice s1 O.length c1, .slice s2 N.length c2] 26)).alloc (.cells #[.slice none 0 0] 24)).alloc (.cells #[.int .i64 f, .slice s1 O.length c1, .slice s2 N.length c2] 26)).alloc (.cells #[.int .i64 cur] 3) = W0 at a0 a2 a3 a4 hB0 hsz ⊢
  refine wpIn_rangeFunc_ownH rfl (by omega) (gf := 49) (lb := #[.pointer (some ⟨w.heap.size + 1 + 1, 0, none⟩), .pointer (some ⟨w.heap.size + 1 + 1 + 1, 0, none⟩)]) rfl trivial (enters_of Try.func49 (by kernel_rfl) rfl)
    (unread_stops Fence.wide _ trivial rfl (by omega) (w.heap.size + 1 + 1) (w.heap.size + 1 + 1 + 1) w.heap.size f cur s1 s2 c1 c2 O N W0 (by omega) a3 a4 ((Lo.of hO).below hB0) ((Lo.of hN).below hB0) f0 f1 l1 l2) (fun h g => h.trans g) (kq_b (by omega)) (Below.refl _ _) (fun _ => rfl)
    (fun pre W => ((∃ v, Blk W (w.heap.size + 1) #[v] 24 ∧ OV W w.heap.size v pre) ∧ Blk W w.heap.size #[.int .i64 f, .slice s1 O.length c1, .slice s2 N.length c2] 26) ∧ Below w.heap.size w W)
    (fun _ _ _ => False)
    (OwnFrom.and (OwnFrom.and (ov_own W0.heap.size w.heap.size (w.heap.size + 1) (fun s => s)) (blk_own W0.heap.size _ _ _)) (ownFrom_below (Nat.le_refl _) (by omega)))
    (fun _ _ _ _ _ hs _ _ => hs)
    ⟨⟨⟨_, a2, World.ownsRow_nil _ _ _ _⟩, a0⟩, hB0⟩
    (fun x a' W => ∃ Bx, Blk W Bx #[.int .i64 x.1, .int .i64 x.2.1, .float .f64 x.2.2.1, .float .f64 x.2.2.2] 64 ∧ a' = { tmps := #[.agg #[.int .i64 f, .slice s1 O.length c1, .slice s2 N.length c2], .int .i64 cur, .pointer (some ⟨w.heap.size, 0, none⟩), undef, .slice none 0 0, .int .i64 0, .int .i64 0, .pointer (some ⟨w.heap.size + 1, 0, none⟩), .pointer (some ⟨Bx, 0, none⟩), undef, .pointer (some ⟨w.heap.size, 0, none⟩), .int .i64 f, .bool true, .bool false, .agg #[.int .i64 f, .slice s1 O.length c1, .slice s2 N.length c2], .int .i64 cur, .func (.func 49) #[] #[.pointer (some ⟨w.heap.size + 1 + 1, 0, none⟩), .pointer (some ⟨w.heap.size + 1 + 1 + 1, 0, none⟩)], vAgg x, undef, undef, undef, undef, undef, undef, undef, undef, undef, undef, undef, undef, undef, undef, undef, undef, undef, undef, undef, undef, undef, undef], defers := [] })
    (fun x a' s A B row hs hg hr => by obtain ⟨Bx, h2, h3⟩ := hs; exact ⟨Bx, blk_own (β := Unit) W0.heap.size _ _ _ s A B row h2 hg hr, h3⟩)
    ?assign ?body ?done ?stop
  case assign =>
    rintro l pre x W K ⟨⟨⟨v, hi1, hi2⟩, hi3⟩, hB⟩ hK
    gi_wp2
    exact hK _ _ ((KeepsOthers.alloc _ _).from _) (Kq.of (bl_alloc (Below.refl _ _) _) hB.size) ⟨⟨⟨v, hi1.alloc _, hi2.alloc _⟩, hi3.alloc _⟩, bl_alloc hB _⟩ ⟨W.heap.size, Blk.new _ _ _, rfl⟩
  case body =>
    rintro l pre x a' W hl ⟨r, hr⟩ ⟨⟨⟨v, hv, hrow⟩, hi3⟩, hB⟩ ⟨Bx, bX, rfl⟩ hlt
    have hc : W.cell? ⟨w.heap.size + 1, 0, none⟩ = some v := hv.cell 0
    obtain ⟨y0, y1, y2, y3, y4⟩ := bX.four'
    have hpl : pre.length < 2097152 := by simp at hlt; omega
    have hsrc : ∀ j u, (vcells x)[j]? = some u → (W.alloc (.cells #[.int .i64 x.1, .int .i64 x.2.1, .float .f64 x.2.2.1, .float .f64 x.2.2.2] 64)).cell? ((⟨W.heap.size, 0, none⟩ : Addr).add j) = some u := by
      intro j u hj
      have := (Blk.new W #[.int .i64 x.1, .int .i64 x.2.1, .float .f64 x.2.2.1, .float .f64 x.2.2.2] 64).cell j
      rw [Go.WideShapes.add_plain, Nat.zero_add, this]
      simpa [vcells] using hj
    have hone : ∀ u ∈ vcells x, u.oneCell' = true := by
      intro u hu
      simp only [vcells, List.mem_cons, List.not_mem_nil, or_false] at hu
      rcases hu with rfl | rfl | rfl | rfl <;> rfl
    have HS : Hid (∀ j u, (vcells x)[j]? = some u → (W.alloc (.cells #[.int .i64 x.1, .int .i64 x.2.1, .float .f64 x.2.2.1, .float .f64 x.2.2.2] 64)).cell? ((⟨W.heap.size, 0, none⟩ : Addr).add j) = some u) := hsrc
    have HO1 : Hid (∀ u ∈ vcells x, u.oneCell' = true) := hone
    have HR : Hid (OV W w.heap.size v pre) := hrow
    have HRa : Hid (World.ownsRow (W.alloc (.cells #[.int .i64 x.1, .int .i64 x.2.1, .float .f64 x.2.2.1, .float .f64 x.2.2.2] 64)) w.heap.size 64 4 v pre.length (pre.flatMap vcells)) := hrow.alloc _
    have hws := hB.size
    clear hsrc hone hrow
    gi_wp2_with (gi_at_builtin; refine wpListIn_append_own _ rfl _ _ 24 rfl w.heap.size 64 i0 (.agg #[.int .i64 0, .int .i64 0, .float .f64 0, .float .f64 0]) 4 32 Try.underlying24 hi hz0 hz1 hz2 rfl (by decide) _ _ _ rfl HRa.out ⟨W.heap.size, 0, none⟩ 1 1 (vcells x) rfl rfl HS.out HO1.out (by unfold maxLen; omega) (by omega) (by simp; omega) ?_; intro v' w1 hown' hgrow _; obtain ⟨g', cap', rfl⟩ := ownsRow_succ hown'; have hown2 : OV w1 w.heap.size (.slice (some ⟨g', 0, none⟩) (pre.length + 1) cap') (pre ++ [x]) := (by unfold OV; rw [List.flatMap_append, List.length_append]; simpa using hown'); obtain ⟨hv1, hv2, hr2, hk2, hb2⟩ := kq_append hv HR.out hws (by omega) hown2 hgrow; have hc1 : w1.cell? ⟨w.heap.size + 1, 0, none⟩ = some v := hv1.cell 0; have hf1 := hv1.frozen 0)
    exact ⟨hk2.from _, hb2, ⟨⟨_, hv2, hr2⟩, hb2.blk hi3 (by decide) (fun e => by cases e.1)⟩, hB.trans hb2.1⟩
  case done =>
    rintro D ys W hD rfl ⟨⟨⟨v, hv, hrow⟩, hi3⟩, hB⟩ hK
    have hc : W.cell? ⟨w.heap.size + 1, 0, none⟩ = some v := hv.cell 0
    obtain ⟨x0, x1, x2, x3⟩ := hi3.three'
    by_cases hc0 : cur < 0
    · have hcn : cur < 0 := hc0
      have tw0 : IntKind.i64.wrap f = f := by rw [IntKind.wrap_i64]; omega
      have hnf : ¬ f < 0 := by omega
      have E1 : Hid (f + (O.length : Int) + (N.length : Int) = unN f O N) := by show _ = _; rw [unN, if_pos HF.out]
      have E2 : Hid (f = unM cur f) := by show _ = _; rw [unM, if_pos HF.out]; rw [mis1 hc0 f0]
      have E3 : Hid (unL cur f O N = (O ++ N).drop (cur - f).toNat) := by show _ = _; rw [unL, if_pos HF.out]
      have tw1 : IntKind.i64.wrap (f + (O.length : Int)) = f + (O.length : Int) := by rw [IntKind.wrap_i64]; omega
      have tw2 : IntKind.i64.wrap (f + (O.length : Int) + (N.length : Int)) = f + (O.length : Int) + (N.length : Int) := by rw [IntKind.wrap_i64]; omega
      gi_wp2
      refine wpIn_wide.2 ?_
      go_quiet (fail)
      go_wp2_with fail
      gi_wp2
      have hK' : (W.drewN nq).heap[D]? = some (.deferred (some [])) := hK
      have hrow' : OV (W.drewN nq) w.heap.size v ((O ++ N).drop (cur - f).toNat) := hrow.later (bl_drewN (Below.refl _ _) _)
      refine ⟨by simp, .inl ⟨_, _, rfl, run_takeDeferred hK', ?_⟩⟩
      refine ⟨_, results_tmp3 rfl _ _ _, v, ?_, ?_, ?_⟩
      · rw [← E1.out, ← E2.out]; rfl
      · rw [E3.out]; exact ownsRow_putObj hrow' _ hK' rfl
      · exact (bl_drewN hB _).trans (belowK_b (w := w) (Nat.le_refl _) _ D _ _ (by omega) hK' rfl rfl)
    · by_cases hc1 : f < cur
      · have hcn : ¬ cur < 0 := hc0
        have hlt : f - cur < 0 := by omega
        have hlt2 : f < cur := by omega
        have tw0 : IntKind.i64.wrap (f - cur) = f - cur := by rw [IntKind.wrap_i64]; omega
        have E1 : Hid (f + (O.length : Int) + (N.length : Int) = unN f O N) := by show _ = _; rw [unN, if_pos HF.out]
        have E2 : Hid (0 = unM cur f) := by show _ = _; rw [unM, if_pos HF.out]; rw [mis2 hc0 hc1]
        have E3 : Hid (unL cur f O N = (O ++ N).drop (cur - f).toNat) := by show _ = _; rw [unL, if_pos HF.out]
        have tw1 : IntKind.i64.wrap (f + (O.length : Int)) = f + (O.length : Int) := by rw [IntKind.wrap_i64]; omega
        have tw2 : IntKind.i64.wrap (f + (O.length : Int) + (N.length : Int)) = f + (O.length : Int) + (N.length : Int) := by rw [IntKind.wrap_i64]; omega
        gi_wp2
        refine wpIn_wide.2 ?_
        go_quiet (fail)
        go_wp2_with fail
        gi_wp2
        have hK' : (W.drewN nq).heap[D]? = some (.deferred (some [])) := hK
        have hrow' : OV (W.drewN nq) w.heap.size v ((O ++ N).drop (cur - f).toNat) := hrow.later (bl_drewN (Below.refl _ _) _)
        refine ⟨by simp, .inl ⟨_, _, rfl, run_takeDeferred hK', ?_⟩⟩
        refine ⟨_, results_tmp3 rfl _ _ _, v, ?_, ?_, ?_⟩
        · rw [← E1.out, ← E2.out]; rfl
        · rw [E3.out]; exact ownsRow_putObj hrow' _ hK' rfl
        · exact (bl_drewN hB _).trans (belowK_b (w := w) (Nat.le_refl _) _ D _ _ (by omega) hK' rfl rfl)
      · have hcn : ¬ cur < 0 := hc0
        have hlt : ¬ f - cur < 0 := by omega
        have hlt2 : ¬ f < cur := by omega
        have tw0 : IntKind.i64.wrap (f - cur) = f - cur := by rw [IntKind.wrap_i64]; omega
        have E1 : Hid (f + (O.length : Int) + (N.length : Int) = unN f O N) := by show _ = _; rw [unN, if_pos HF.out]
        have E2 : Hid ((f - cur) = unM cur f) := by show _ = _; rw [unM, if_pos HF.out]; rw [mis3 hc0 hc1]
        have E3 : Hid (unL cur f O N = (O ++ N).drop (cur - f).toNat) := by show _ = _; rw [unL, if_pos HF.out]
        have tw1 : IntKind.i64.wrap (f + (O.length : Int)) = f + (O.length : Int) := by rw [IntKind.wrap_i64]; omega
        have tw2 : IntKind.i64.wrap (f + (O.length : Int) + (N.length : Int)) = f + (O.length : Int) + (N.length : Int) := by rw [IntKind.wrap_i64]; omega
        gi_wp2
        refine wpIn_wide.2 ?_
        go_quiet (fail)
        go_wp2_with fail
        gi_wp2
        have hK' : (W.drewN nq).heap[D]? = some (.deferred (some [])) := hK
        have hrow' : OV (W.drewN nq) w.heap.size v ((O ++ N).drop (cur - f).toNat) := hrow.later (bl_drewN (Below.refl _ _) _)
        refine ⟨by simp, .inl ⟨_, _, rfl, run_takeDeferred hK', ?_⟩⟩
        refine ⟨_, results_tmp3 rfl _ _ _, v, ?_, ?_, ?_⟩
        · rw [← E1.out, ← E2.out]; rfl
        · rw [E3.out]; exact ownsRow_putObj hrow' _ hK' rfl
        · exact (bl_drewN hB _).trans (belowK_b (w := w) (Nat.le_refl _) _ D _ _ (by omega) hK' rfl rfl)
  case stop =>
    rintro D c pre W _ _ h _
    exact h.elim

set_option maxHeartbeats 2000000 in
theorem implUnread_any (cur f : Int) (s1 s2 : Option Addr) (c1 c2 : Nat) (O N : List V4) (B : Nat) (w : World) (hO : Els 4 cVal w B s1 O) (hN : Els 4 cVal w B s2 N) (l1 : O.length ≤ 1048576) (l2 : N.length ≤ 1048576) (bc : -9223372036854775808 ≤ cur ∧ cur ≤ 9223372036854775807) :
    Calls Try.prog 10 #[.agg #[.int .i64 f, .slice s1 O.length c1, .slice s2 N.length c2], .int .i64 cur] w fun e w' => OwnU w cur f O N e w' := by
  cases hfo : (decide (0 ≤ f) && decide (f ≤ 1000000000000))
  · obtain ⟨x0, x1, x2, x3⟩ := (Blk.new w #[.int .i64 f, .slice s1 O.length c1, .slice s2 N.length c2] 26).three'
    have HF : Hid (¬ okF f = true) := by show ¬ okF f = true; rw [show okF f = _ from hfo]; simp
    have L0 : Below w.heap.size w (w.alloc (.cells #[.int .i64 f, .slice s1 O.length c1, .slice s2 N.length c2] 26)) := bl_alloc (Below.refl _ _) _
    go_enter Try.func10, Try.ntmps10
    go_wp2_with (go_at_call 30; refine (firstOk_any f _).mono ?_; rintro e w' ⟨rfl, rfl⟩; rw [hfo])
    go_ret3
    refine ⟨.slice none 0 0, ?_, ?_, L0⟩
    · rw [unN, unM, if_neg HF.out, if_neg HF.out]; rfl
    · rw [unL, if_neg HF.out]; exact World.ownsRow_nil _ _ _ _
  · simp only [Bool.and_eq_true, decide_eq_true_eq] at hfo
    exact implUnread_loop cur f s1 s2 c1 c2 O N B w hO hN hfo.1 hfo.2 l1 l2 bc
end Go.Proofs.Ytpfamdpgcbpiaaa
