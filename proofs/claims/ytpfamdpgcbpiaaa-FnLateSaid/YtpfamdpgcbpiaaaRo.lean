import Derived.Test.YtpfamdpgcbpiaaaRl
import Derived.Test.YtpfamdpgcbpiaaaRf
namespace Go.Proofs.Ytpfamdpgcbpiaaa
open Go.RowKit
set_option linter.unusedVariables false
set_option linter.unusedSimpArgs false

theorem step_append_opt {ops : Array Oper} {o : Oper} {a : Act} {w : World} {K : Act → World → Prop} {Q : Exit → Act → World → Prop} {E : Prop}
    (hg : o.guard = none) (s x : Operand) (hop : o.op = Op.call { callee := Callee.builtin Builtin.append, args := #[s, x], argTypes := #[24, 24] })
    (Bs : Nat) (s0 : Option Addr) (c0 : Nat) (L : List V4) (hs : a.eval s = .slice s0 L.length c0) (hv : OV w Bs (.slice s0 L.length c0) L) (Bu : Nat) (t : Option Addr) (d : Nat) (M : List V4) (hx : a.eval x = .slice t M.length d) (hu : OV w Bu (.slice t M.length d) M) (okM : ∀ v ∈ M, okV v) (R : List V4) (hR : L ++ M = R) (hl : L.length + M.length ≤ 4194304) (hB : Bs ≤ w.heap.size)
    (hK : ∀ v' w', OV w' Bs v' R → w.grownBy w' (Value.slice s0 L.length c0).ownBlock → K (a.put o.dst v') w') :
    if Region.wanted o (yielded ops a.tmps) = true then Oper.wp Try.prog o a w K Q else E := by
  have hw : Region.wanted o (yielded ops a.tmps) = true := by simp [Region.wanted, hg]
  rw [if_pos hw]
  obtain ⟨s', c', w', hrun, h1, h2, h3⟩ := append_run w o.type Bs s0 c0 L hv Bu t d M hu okM hl hB
  rw [hR] at hrun h1
  unfold Oper.wp
  simp [execOp, hop, resolve, invoke, builtin, hs, hx, hrun, Result.andThen]
  exact hK _ w' h1 h2

/-- what spec.Unread holds while it goes through all events. -/
structure Uq (w X : World) (f : Int) (s1 : Option Addr) (c1 : Nat) (s2 : Option Addr) (c2 : Nat) (O N A : List V4) (s8 : Option Addr) (e8 : Nat) (v7 : Value) (L : List V4) : Prop where
  l : Below w.heap.size w X
  k : Blk X w.heap.size #[.int .i64 f, .slice s1 O.length c1, .slice s2 N.length c2] 26
  a : OV X (w.heap.size + 1 + 1) (.slice s8 A.length e8) A
  o : OV X (w.heap.size + 1) v7 L
  p : Ap v7 (.slice s8 A.length e8)
section
variable {w X : World} {f : Int} {s1 : Option Addr} {c1 : Nat} {s2 : Option Addr} {c2 : Nat} {O N A : List V4} {s8 : Option Addr} {e8 : Nat} {v7 : Value} {L : List V4}
theorem uq_len {s7 : Option Addr} {n7 e7 : Nat} (h : Uq w X f s1 c1 s2 c2 O N A s8 e8 (.slice s7 n7 e7) L) : n7 = L.length := by
  obtain ⟨s, c, e⟩ := h.o.shape
  simp only [Value.slice.injEq] at e
  exact e.2.1
theorem Uq.app (h : Uq w X f s1 c1 s2 c2 O N A s8 e8 v7 L) (x : V4) :
    (∀ j u, (vcells x)[j]? = some u → (X.alloc (.cells #[.int .i64 x.1, .int .i64 x.2.1, .float .f64 x.2.2.1, .float .f64 x.2.2.2] 64)).cell? ((⟨X.heap.size, 0, none⟩ : Addr).add j) = some u) ∧
    World.ownsRow (X.alloc (.cells #[.int .i64 x.1, .int .i64 x.2.1, .float .f64 x.2.2.1, .float .f64 x.2.2.2] 64)) (w.heap.size + 1) 64 4 v7 L.length (L.flatMap vcells) ∧ ∀ u ∈ vcells x, u.oneCell' = true := by
  refine ⟨?_, h.o.alloc _, ?_⟩
  · intro j u hj
    have := (Blk.new X #[.int .i64 x.1, .int .i64 x.2.1, .float .f64 x.2.2.1, .float .f64 x.2.2.2] 64).cell j
    rw [Go.WideShapes.add_plain, Nat.zero_add, this]
    simpa [vcells] using hj
  · intro u hu
    simp only [vcells, List.mem_cons, List.not_mem_nil, or_false] at hu
    rcases hu with rfl | rfl | rfl | rfl <;> rfl
theorem Uq.push (h : Uq w X f s1 c1 s2 c2 O N A s8 e8 v7 L) {x : V4} {tmp : Obj} {g7 d7 : Nat} {Y : World} (hown : Y.ownsRow (w.heap.size + 1) 64 4 (.slice (some ⟨g7, 0, none⟩) (L.length + 1) d7) (L.length + 1) (L.flatMap vcells ++ vcells x)) (hgrow : (X.alloc tmp).grownBy Y v7.ownBlock) (hor : v7.ownBlock = some g7 ∨ g7 = (X.alloc tmp).heap.size) :
    Uq w Y f s1 c1 s2 c2 O N A s8 e8 (.slice (some ⟨g7, 0, none⟩) (L.length + 1) d7) (L ++ [x]) := by
  have hx := h.k.lt
  have hob := fun q hq => (h.o.lt q hq).1
  refine ⟨(bl_alloc h.l tmp).grown hgrow (bl_alloc h.l tmp).size (fun q hq => by have := hob q hq; omega), (h.k.alloc tmp).kept' hgrow (fun e => by have := hob _ e; omega), (h.a.alloc tmp).grown hgrow (fun q hq e => h.p q e hq), ?_, ?_⟩
  · unfold OV
    rw [List.length_append, List.flatMap_append]
    simpa using hown
  · intro q e1 e2
    simp only [Value.ownBlock, Option.some.injEq] at e1
    subst e1
    rcases hor with e | e
    · exact h.p _ e e2
    · have := (h.a.lt _ e2).2
      rw [World.size_alloc] at e
      omega
theorem uq_fin {cur : Int} {r : Ending} (h : Uq w X f s1 c1 s2 c2 O N A s8 e8 v7 L) {nq : Nat} (hr : r = .returned (.tuple #[v7, .int .i64 (unN f O N), .int .i64 (unM cur f)])) (hL : L = unL cur f O N) : OwnU w cur f O N r (X.drewN nq) :=
  ⟨v7, hr, by rw [← hL]; exact (h.o.later (bl_drewN (Below.refl _ _) nq)).mono (by omega), bl_drewN h.l nq⟩
end

set_option maxRecDepth 100000 in
set_option maxHeartbeats 8000000 in
theorem specUnread_opt (cur f : Int) (s1 s2 : Option Addr) (c1 c2 : Nat) (O N : List V4) (B : Nat) (w : World) (hO : OV w B (.slice s1 O.length c1) O) (hN : OV w B (.slice s2 N.length c2) N) (okO : ∀ v ∈ O, okV v) (okN : ∀ v ∈ N, okV v) (l1 : O.length ≤ 1048576) (l2 : N.length ≤ 1048576) (bc : -9223372036854775808 ≤ cur ∧ cur ≤ 9223372036854775807) :
    Calls Try.prog 11 #[.agg #[.int .i64 f, .slice s1 O.length c1, .slice s2 N.length c2], .int .i64 cur] w fun e w' => OwnU w cur f O N e w' := by
  have hal := alloc_old
  have haf := alloc_oldf
  obtain ⟨A, hA⟩ : ∃ A : List V4, Hid (A = O ++ N) := ⟨_, rfl⟩
  have OKA : Hid (∀ v ∈ A, okV v) := fun v hv => by rw [hA.out] at hv; exact (List.mem_append.1 hv).elim (okO v) (okN v)
  have HLA : Hid (A.length ≤ 2097152) := by show _ ≤ _; rw [hA.out]; simp; omega
  have OKO : Hid (∀ v ∈ O, okV v) := okO
  have OKN : Hid (∀ v ∈ N, okV v) := okN
  clear okO okN
  obtain ⟨i0, hi, hz0, hz1, hz2⟩ := info_parts Try.infoV
  obtain ⟨KA, KE, L⟩ := boxTwo w #[.int .i64 f, .slice s1 O.length c1, .slice s2 N.length c2] #[] 26 64
  have sX : ((w.alloc (.cells #[.int .i64 f, .slice s1 O.length c1, .slice s2 N.length c2] 26)).alloc (.cells #[] 64)).heap.size = w.heap.size + 1 + 1 := by simp
  obtain ⟨x0, x1, x2, x3⟩ := KA.three'
  go_enter Try.func11, Try.ntmps11
  cases hfo : (decide (0 ≤ f) && decide (f ≤ 1000000000000))
  · have HF : Hid (¬ okF f = true) := by show ¬ okF f = true; rw [show okF f = _ from hfo]; simp
    have o7 : OV ((w.alloc (.cells #[.int .i64 f, .slice s1 O.length c1, .slice s2 N.length c2] 26)).alloc (.cells #[] 64)) (w.heap.size + 1) (.slice (some ⟨w.heap.size + 1, 0, none⟩) 0 0) [] := own0v KE (Nat.le_refl _)
    clear sX
    go_wp2_with (go_at_call 32; refine (l1In_any _ _ _ _).mono ?_; rintro e w' ⟨rfl, rfl⟩; rw [hfo])
    go_ret3
    refine ⟨.slice (some ⟨w.heap.size + 1, 0, none⟩) 0 0, ?_, ?_, L⟩
    · rw [unN, unM, if_neg HF.out, if_neg HF.out]; rfl
    · rw [unL, if_neg HF.out]; exact o7.mono (by omega)
  · have HF : Hid (okF f = true) := hfo
    have f0 : 0 ≤ f := by simp at hfo; omega
    have f1 : f ≤ 1000000000000 := by simp at hfo; omega
    by_cases hc0 : cur < 0
    · skip
      have tc : clip cur = 0 := if_pos hc0
      have HT : Hid (clip cur = 0) := tc
      clear tc
      go_wp2_with (go_at_call 32; refine (l1In_any _ _ _ _).mono ?_; rintro e w' ⟨rfl, rfl⟩; rw [hfo])
      generalize hX : (w.alloc (.cells #[.int .i64 f, .slice s1 O.length c1, .slice s2 N.length c2] 26)).alloc (.cells #[] 64) = X at KA KE L sX x0 x1 x2 x3 ⊢
      clear hX
      refine wp_region_held_drew (S := fun w' => w'.cell? ⟨w.heap.size, 0, none⟩ = some (.int .i64 f) ∧ w'.cell? ⟨w.heap.size, 1, none⟩ = some (.slice s1 O.length c1) ∧ w'.cell? ⟨w.heap.size, 2, none⟩ = some (.slice s2 N.length c2)) (by kernel_rfl) ?_ (fun hHeld => ?_)
      · exact ⟨x0, x1, x2⟩
      refine wpAnyH_one (i := 1) (d := 20) (v := ?_) rfl rfl (by kernel_rfl) (by kernel_rfl) (by kernel_rfl) (fun _ _ _ h => h) (by rfl) (by assumption) ?_ ?_
      rotate_left 1
      · intro w hSw; (try dsimp only at hSw); go_simp <;> with_reducible rfl
      simp only [List.foldl, Act.put, List.setIfInBounds_toArray, List.set_cons_zero, List.set_cons_succ]
      refine wpAnyH_one (i := 2) (d := 21) (v := ?_) rfl rfl (by kernel_rfl) (by kernel_rfl) (by kernel_rfl) (fun _ _ _ h => h) (by rfl) (by assumption) ?_ ?_
      rotate_left 1
      · intro w hSw; (try dsimp only at hSw); go_simp <;> with_reducible rfl
      simp only [List.foldl, Act.put, List.setIfInBounds_toArray, List.set_cons_zero, List.set_cons_succ]
      refine wpAnyH_one (i := 4) (d := 23) (v := ?_) rfl rfl (by kernel_rfl) (by kernel_rfl) (by kernel_rfl) (fun _ _ _ h => h) (by rfl) (by assumption) ?_ ?_
      rotate_left 1
      · intro w hSw; (try dsimp only at hSw); go_simp <;> with_reducible rfl
      simp only [List.foldl, Act.put, List.setIfInBounds_toArray, List.set_cons_zero, List.set_cons_succ]
      refine wpAnyH_one (i := 5) (d := 24) (v := ?_) rfl rfl (by kernel_rfl) (by kernel_rfl) (by kernel_rfl) (fun _ _ _ h => h) (by rfl) (by assumption) ?_ ?_
      rotate_left 1
      · intro w hSw; (try dsimp only at hSw); go_simp <;> with_reducible rfl
      simp only [List.foldl, Act.put, List.setIfInBounds_toArray, List.set_cons_zero, List.set_cons_succ]
      refine wpAnyH_ready (rs := [0]) (by kernel_rfl) (by simp) ?_
      refine AllReadyH.cons rfl (fun K hK => ?_) AllReadyH.nil
      go_simp
      have hg : Below X.heap.size X (X.alloc (.cells #[] 64)).drew := bl_drew (bl_alloc (Below.refl _ _) _)
      have b8 : Blk (X.alloc (.cells #[] 64)).drew X.heap.size #[] 64 := Blk.new _ _ _
      clear x0 x1 x2 x3
      have KA := KA.later hg
      have KE := KE.later hg
      have L := bl_trans L hg
      obtain ⟨x0, x1, x2, x3⟩ := KA.three'
      refine hK.out _ _ ?_ (fun hHeld => ?_)
      · exact ⟨x0, x1, x2⟩
      clear hK K
      try simp only [List.foldl, Act.put, List.setIfInBounds_toArray, List.set_cons_zero, List.set_cons_succ]
      generalize hGe : (X.alloc (.cells #[] 64)).drew = G at b8 KA KE L hHeld x0 x1 x2 x3 ⊢
      clear hGe hg
      rw [sX] at b8
      try rw [sX]
      have sX2 := sX
      clear sX
      have o8 : OV G (w.heap.size + 1 + 1) (.slice (some ⟨w.heap.size + 1 + 1, 0, none⟩) 0 0) [] := own0v b8 (Nat.le_refl _)
      have sG := b8.lt
      clear b8
      refine wpAnyH_ready (rs := [3]) (by kernel_rfl) (by simp) ?_
      refine AllReadyH.cons rfl (fun K hK => ?_) AllReadyH.nil
      refine step_append_opt rfl (.tmp 19) (.tmp 21) rfl (w.heap.size + 1 + 1) (some ⟨w.heap.size + 1 + 1, 0, none⟩) 0 [] rfl o8 _ s1 c1 O rfl (hO.later L) OKO.out O (List.nil_append _) (by simp; omega) (by omega) ?_
      intro v22 G2 o22 hgr
      clear o8
      have KA2 := KA.kept' hgr (by simp [Value.ownBlock] <;> omega)
      have KE2 := KE.kept' hgr (by simp [Value.ownBlock] <;> omega)
      have L2 := L.grown hgr L.size (fun k e => by simp [Value.ownBlock] at e; omega)
      have sG2 := hgr.size
      clear KA KE L hgr x0 x1 x2 x3
      obtain ⟨x0, x1, x2, x3⟩ := KA2.three'
      refine hK.out _ _ ?_ (fun hHeld => ?_)
      · exact ⟨x0, x1, x2⟩
      clear hK K
      try simp only [List.foldl, Act.put, List.setIfInBounds_toArray, List.set_cons_zero, List.set_cons_succ]
      obtain ⟨s22, e22, rfl⟩ := o22.shape
      refine wpAnyH_ready (rs := [6]) (by kernel_rfl) (by simp) ?_
      refine AllReadyH.cons rfl (fun K hK => ?_) AllReadyH.nil
      refine step_append_opt rfl (.tmp 22) (.tmp 24) rfl (w.heap.size + 1 + 1) s22 e22 O rfl o22 _ s2 c2 N rfl (hN.later L2) OKN.out A hA.out.symm (by omega) (by omega) ?_
      intro v25 G3 o25 hgr
      have n0 := fun q hq => (o22.lt q hq).1
      have KA3 := KA2.kept' hgr (fun e => by have := n0 _ e; omega)
      have KE3 := KE2.kept' hgr (fun e => by have := n0 _ e; omega)
      have L3 := L2.grown hgr L2.size (fun k e => by have := n0 _ e; omega)
      have sG3 := hgr.size
      clear KA2 KE2 L2 hgr o22 n0 x0 x1 x2 x3
      obtain ⟨x0, x1, x2, x3⟩ := KA3.three'
      refine hK.out _ _ ?_ (fun hHeld => ?_)
      · exact ⟨x0, x1, x2⟩
      clear hK K
      try simp only [List.foldl, Act.put, List.setIfInBounds_toArray, List.set_cons_zero, List.set_cons_succ]
      refine wpAnyH_one (i := 7) (d := 8) (v := ?_) rfl rfl (by kernel_rfl) (by kernel_rfl) (by kernel_rfl) (fun _ _ _ h => h) (by rfl) (by assumption) ?_ ?_
      rotate_left 1
      · intro w hSw; (try dsimp only at hSw); go_simp <;> with_reducible rfl
      simp only [List.foldl, Act.put, List.setIfInBounds_toArray, List.set_cons_zero, List.set_cons_succ]
      refine wpAnyH_done (by kernel_rfl) ?_ _
      obtain ⟨s8, e8, rfl⟩ := o25.shape
      clear hHeld
      go_wp2_with fail
      have hap0 : Ap (.slice (some ⟨w.heap.size + 1, 0, none⟩) 0 0) (.slice s8 A.length e8) := fun q e1 e2 => by
        simp [Value.ownBlock] at e1
        have := (o25.lt q e2).1
        omega
      have o7 : OV G3 (w.heap.size + 1) (.slice (some ⟨w.heap.size + 1, 0, none⟩) 0 0) (came 0 f A 0) := by rw [came_zero]; exact own0v KE3 (Nat.le_refl _)
      clear KE3 x0 x1 x2 x3
      have IV : Hid (Uq w G3 f s1 c1 s2 c2 O N A s8 e8 (.slice (some ⟨w.heap.size + 1, 0, none⟩) 0 0) (came 0 f A 0)) := ⟨L3, KA3, o25, o7, hap0⟩
      clear o7 o25 hap0 KA3 L3
      go_loopw [7, 9] (fun v i wr => ∃ (k : Nat) (s7 : Option Addr) (e7 n7 : Nat), k ≤ A.length ∧ i = .int .i64 k ∧ v = .slice s7 n7 e7 ∧ Hid (Uq w wr f s1 c1 s2 c2 O N A s8 e8 (.slice s7 n7 e7) (came 0 f A k))) (fun _ i _ => A.length - (intOf i).toNat)
      case atStart => exact ⟨0, _, _, _, Nat.zero_le _, rfl, rfl, IV⟩
      case round =>
        clear IV
        obtain ⟨k, s7, e7, n7, hk, rfl, rfl, IV⟩ := hrel
        obtain ⟨x0, x1, x2, x3⟩ := IV.out.k.three'
        have lA : A.length ≤ 2097152 := HLA.out
        have hn7 : n7 = (came 0 f A k).length := uq_len IV.out
        subst hn7
        have hcl : (came 0 f A k).length ≤ 2097152 := by unfold came; simp; omega
        by_cases hlt : k < A.length
        · obtain ⟨x, hx⟩ := get_some hlt
          obtain ⟨b, o, rfl, _, hp, _, e1, e2, e3, e4⟩ := eVal_cells (IV.out.a.els OKA.out) hx
          have tw0 : IntKind.i64.wrap (f + (k : Int)) = f + (k : Int) := by rw [IntKind.wrap_i64]; omega
          have HXX : Hid (A[k]? = some x) := hx
          have HIV := IV
          clear IV hx
          have kI : (k : Int) < (A.length : Int) := by omega
          by_cases hcu : 0 ≤ f + (k : Int)
          · have h9 := HIV.out.app x
            obtain ⟨hS, hR, hO1⟩ := h9
            have HS : Hid (∀ j u, (vcells x)[j]? = some u → (wr.alloc (.cells #[.int .i64 x.1, .int .i64 x.2.1, .float .f64 x.2.2.1, .float .f64 x.2.2.2] 64)).cell? ((⟨wr.heap.size, 0, none⟩ : Addr).add j) = some u) := hS
            have HR : Hid (World.ownsRow (wr.alloc (.cells #[.int .i64 x.1, .int .i64 x.2.1, .float .f64 x.2.2.1, .float .f64 x.2.2.2] 64)) (w.heap.size + 1) 64 4 (.slice s7 (came 0 f A k).length e7) (came 0 f A k).length ((came 0 f A k).flatMap vcells)) := hR
            have HO1 : Hid (∀ u ∈ vcells x, u.oneCell' = true) := hO1
            have hsz : w.heap.size + 1 ≤ (wr.alloc (.cells #[.int .i64 x.1, .int .i64 x.2.1, .float .f64 x.2.2.1, .float .f64 x.2.2.2] 64)).heap.size := by have := HIV.out.k.lt; simp; omega
            clear hS hR hO1
            go_wp2_with (at_builtin; refine wpList_append_lies _ rfl _ _ 24 rfl (w.heap.size + 1) 64 i0 (.agg #[.int .i64 0, .int .i64 0, .float .f64 0, .float .f64 0]) 4 32 Try.underlying24 hi hz0 hz1 hz2 rfl (by decide) _ _ _ rfl HR.out ⟨wr.heap.size, 0, none⟩ 1 1 (vcells x) rfl rfl HS.out HO1.out (by omega) (by unfold maxLen; omega) (by omega) hsz _ rfl ?_; intro g7 d7 w5 hown hgrow hor hlg; have HU := HIV.out.push hown hgrow hor; rw [← came_in HXX.out hcu] at HU)
            go_roundw
            case rel => exact ⟨k + 1, _, _, _, by omega, by go_num, rfl, HU⟩
            case measure => simp [intOf]; omega
          · exact absurd (by omega) hcu
        · obtain rfl : k = A.length := by omega
          have EN : Hid (f + (A.length : Int) = unN f O N) := by show _ = _; rw [unN, if_pos HF.out, hA.out]; simp; omega
          have EL : Hid (came 0 f A A.length = unL cur f O N) := by show _ = _; rw [came_all, unL, if_pos HF.out, hA.out] <;> (congr 1; omega)
          have tw2 : IntKind.i64.wrap (f + (A.length : Int)) = f + (A.length : Int) := by rw [IntKind.wrap_i64]; omega
          have HIV := IV
          clear IV
          by_cases hm : 0 < f
          · have EM : Hid (f - 0 = unM cur f) := by show _ = _; rw [unM, if_pos HF.out]; unfold missedOf; rw [HT.out, if_neg (by omega)]
            have tw3 : IntKind.i64.wrap (f - 0) = f - 0 := by rw [IntKind.wrap_i64]; omega
            have twz : IntKind.i64.wrap f = f := by rw [IntKind.wrap_i64]; omega
            go_wp2_with fail
            go_quiet (fail)
            go_wp2_with fail
            go_ret3
            exact uq_fin HIV.out (by rw [← EN.out, ← EM.out]; simp) EL.out
          · have EM : Hid (0 = unM cur f) := by show _ = _; rw [unM, if_pos HF.out]; unfold missedOf; rw [HT.out]; split <;> omega
            go_wp2_with fail
            go_quiet (fail)
            go_wp2_with fail
            go_ret3
            exact uq_fin HIV.out (by rw [← EN.out, ← EM.out]; rfl) EL.out
    · skip
      have tc : clip cur = cur := if_neg hc0
      have HT : Hid (clip cur = cur) := tc
      clear tc
      go_wp2_with (go_at_call 32; refine (l1In_any _ _ _ _).mono ?_; rintro e w' ⟨rfl, rfl⟩; rw [hfo])
      generalize hX : (w.alloc (.cells #[.int .i64 f, .slice s1 O.length c1, .slice s2 N.length c2] 26)).alloc (.cells #[] 64) = X at KA KE L sX x0 x1 x2 x3 ⊢
      clear hX
      refine wp_region_held_drew (S := fun w' => w'.cell? ⟨w.heap.size, 0, none⟩ = some (.int .i64 f) ∧ w'.cell? ⟨w.heap.size, 1, none⟩ = some (.slice s1 O.length c1) ∧ w'.cell? ⟨w.heap.size, 2, none⟩ = some (.slice s2 N.length c2)) (by kernel_rfl) ?_ (fun hHeld => ?_)
      · exact ⟨x0, x1, x2⟩
      refine wpAnyH_one (i := 1) (d := 20) (v := ?_) rfl rfl (by kernel_rfl) (by kernel_rfl) (by kernel_rfl) (fun _ _ _ h => h) (by rfl) (by assumption) ?_ ?_
      rotate_left 1
      · intro w hSw; (try dsimp only at hSw); go_simp <;> with_reducible rfl
      simp only [List.foldl, Act.put, List.setIfInBounds_toArray, List.set_cons_zero, List.set_cons_succ]
      refine wpAnyH_one (i := 2) (d := 21) (v := ?_) rfl rfl (by kernel_rfl) (by kernel_rfl) (by kernel_rfl) (fun _ _ _ h => h) (by rfl) (by assumption) ?_ ?_
      rotate_left 1
      · intro w hSw; (try dsimp only at hSw); go_simp <;> with_reducible rfl
      simp only [List.foldl, Act.put, List.setIfInBounds_toArray, List.set_cons_zero, List.set_cons_succ]
      refine wpAnyH_one (i := 4) (d := 23) (v := ?_) rfl rfl (by kernel_rfl) (by kernel_rfl) (by kernel_rfl) (fun _ _ _ h => h) (by rfl) (by assumption) ?_ ?_
      rotate_left 1
      · intro w hSw; (try dsimp only at hSw); go_simp <;> with_reducible rfl
      simp only [List.foldl, Act.put, List.setIfInBounds_toArray, List.set_cons_zero, List.set_cons_succ]
      refine wpAnyH_one (i := 5) (d := 24) (v := ?_) rfl rfl (by kernel_rfl) (by kernel_rfl) (by kernel_rfl) (fun _ _ _ h => h) (by rfl) (by assumption) ?_ ?_
      rotate_left 1
      · intro w hSw; (try dsimp only at hSw); go_simp <;> with_reducible rfl
      simp only [List.foldl, Act.put, List.setIfInBounds_toArray, List.set_cons_zero, List.set_cons_succ]
      refine wpAnyH_ready (rs := [0]) (by kernel_rfl) (by simp) ?_
      refine AllReadyH.cons rfl (fun K hK => ?_) AllReadyH.nil
      go_simp
      have hg : Below X.heap.size X (X.alloc (.cells #[] 64)).drew := bl_drew (bl_alloc (Below.refl _ _) _)
      have b8 : Blk (X.alloc (.cells #[] 64)).drew X.heap.size #[] 64 := Blk.new _ _ _
      clear x0 x1 x2 x3
      have KA := KA.later hg
      have KE := KE.later hg
      have L := bl_trans L hg
      obtain ⟨x0, x1, x2, x3⟩ := KA.three'
      refine hK.out _ _ ?_ (fun hHeld => ?_)
      · exact ⟨x0, x1, x2⟩
      clear hK K
      try simp only [List.foldl, Act.put, List.setIfInBounds_toArray, List.set_cons_zero, List.set_cons_succ]
      generalize hGe : (X.alloc (.cells #[] 64)).drew = G at b8 KA KE L hHeld x0 x1 x2 x3 ⊢
      clear hGe hg
      rw [sX] at b8
      try rw [sX]
      have sX2 := sX
      clear sX
      have o8 : OV G (w.heap.size + 1 + 1) (.slice (some ⟨w.heap.size + 1 + 1, 0, none⟩) 0 0) [] := own0v b8 (Nat.le_refl _)
      have sG := b8.lt
      clear b8
      refine wpAnyH_ready (rs := [3]) (by kernel_rfl) (by simp) ?_
      refine AllReadyH.cons rfl (fun K hK => ?_) AllReadyH.nil
      refine step_append_opt rfl (.tmp 19) (.tmp 21) rfl (w.heap.size + 1 + 1) (some ⟨w.heap.size + 1 + 1, 0, none⟩) 0 [] rfl o8 _ s1 c1 O rfl (hO.later L) OKO.out O (List.nil_append _) (by simp; omega) (by omega) ?_
      intro v22 G2 o22 hgr
      clear o8
      have KA2 := KA.kept' hgr (by simp [Value.ownBlock] <;> omega)
      have KE2 := KE.kept' hgr (by simp [Value.ownBlock] <;> omega)
      have L2 := L.grown hgr L.size (fun k e => by simp [Value.ownBlock] at e; omega)
      have sG2 := hgr.size
      clear KA KE L hgr x0 x1 x2 x3
      obtain ⟨x0, x1, x2, x3⟩ := KA2.three'
      refine hK.out _ _ ?_ (fun hHeld => ?_)
      · exact ⟨x0, x1, x2⟩
      clear hK K
      try simp only [List.foldl, Act.put, List.setIfInBounds_toArray, List.set_cons_zero, List.set_cons_succ]
      obtain ⟨s22, e22, rfl⟩ := o22.shape
      refine wpAnyH_ready (rs := [6]) (by kernel_rfl) (by simp) ?_
      refine AllReadyH.cons rfl (fun K hK => ?_) AllReadyH.nil
      refine step_append_opt rfl (.tmp 22) (.tmp 24) rfl (w.heap.size + 1 + 1) s22 e22 O rfl o22 _ s2 c2 N rfl (hN.later L2) OKN.out A hA.out.symm (by omega) (by omega) ?_
      intro v25 G3 o25 hgr
      have n0 := fun q hq => (o22.lt q hq).1
      have KA3 := KA2.kept' hgr (fun e => by have := n0 _ e; omega)
      have KE3 := KE2.kept' hgr (fun e => by have := n0 _ e; omega)
      have L3 := L2.grown hgr L2.size (fun k e => by have := n0 _ e; omega)
      have sG3 := hgr.size
      clear KA2 KE2 L2 hgr o22 n0 x0 x1 x2 x3
      obtain ⟨x0, x1, x2, x3⟩ := KA3.three'
      refine hK.out _ _ ?_ (fun hHeld => ?_)
      · exact ⟨x0, x1, x2⟩
      clear hK K
      try simp only [List.foldl, Act.put, List.setIfInBounds_toArray, List.set_cons_zero, List.set_cons_succ]
      refine wpAnyH_one (i := 7) (d := 8) (v := ?_) rfl rfl (by kernel_rfl) (by kernel_rfl) (by kernel_rfl) (fun _ _ _ h => h) (by rfl) (by assumption) ?_ ?_
      rotate_left 1
      · intro w hSw; (try dsimp only at hSw); go_simp <;> with_reducible rfl
      simp only [List.foldl, Act.put, List.setIfInBounds_toArray, List.set_cons_zero, List.set_cons_succ]
      refine wpAnyH_done (by kernel_rfl) ?_ _
      obtain ⟨s8, e8, rfl⟩ := o25.shape
      clear hHeld
      go_wp2_with fail
      have hap0 : Ap (.slice (some ⟨w.heap.size + 1, 0, none⟩) 0 0) (.slice s8 A.length e8) := fun q e1 e2 => by
        simp [Value.ownBlock] at e1
        have := (o25.lt q e2).1
        omega
      have o7 : OV G3 (w.heap.size + 1) (.slice (some ⟨w.heap.size + 1, 0, none⟩) 0 0) (came cur f A 0) := by rw [came_zero]; exact own0v KE3 (Nat.le_refl _)
      clear KE3 x0 x1 x2 x3
      have IV : Hid (Uq w G3 f s1 c1 s2 c2 O N A s8 e8 (.slice (some ⟨w.heap.size + 1, 0, none⟩) 0 0) (came cur f A 0)) := ⟨L3, KA3, o25, o7, hap0⟩
      clear o7 o25 hap0 KA3 L3
      go_loopw [7, 9] (fun v i wr => ∃ (k : Nat) (s7 : Option Addr) (e7 n7 : Nat), k ≤ A.length ∧ i = .int .i64 k ∧ v = .slice s7 n7 e7 ∧ Hid (Uq w wr f s1 c1 s2 c2 O N A s8 e8 (.slice s7 n7 e7) (came cur f A k))) (fun _ i _ => A.length - (intOf i).toNat)
      case atStart => exact ⟨0, _, _, _, Nat.zero_le _, rfl, rfl, IV⟩
      case round =>
        clear IV
        obtain ⟨k, s7, e7, n7, hk, rfl, rfl, IV⟩ := hrel
        obtain ⟨x0, x1, x2, x3⟩ := IV.out.k.three'
        have lA : A.length ≤ 2097152 := HLA.out
        have hn7 : n7 = (came cur f A k).length := uq_len IV.out
        subst hn7
        have hcl : (came cur f A k).length ≤ 2097152 := by unfold came; simp; omega
        by_cases hlt : k < A.length
        · obtain ⟨x, hx⟩ := get_some hlt
          obtain ⟨b, o, rfl, _, hp, _, e1, e2, e3, e4⟩ := eVal_cells (IV.out.a.els OKA.out) hx
          have tw0 : IntKind.i64.wrap (f + (k : Int)) = f + (k : Int) := by rw [IntKind.wrap_i64]; omega
          have HXX : Hid (A[k]? = some x) := hx
          have HIV := IV
          clear IV hx
          have kI : (k : Int) < (A.length : Int) := by omega
          by_cases hcu : cur ≤ f + (k : Int)
          · have h9 := HIV.out.app x
            obtain ⟨hS, hR, hO1⟩ := h9
            have HS : Hid (∀ j u, (vcells x)[j]? = some u → (wr.alloc (.cells #[.int .i64 x.1, .int .i64 x.2.1, .float .f64 x.2.2.1, .float .f64 x.2.2.2] 64)).cell? ((⟨wr.heap.size, 0, none⟩ : Addr).add j) = some u) := hS
            have HR : Hid (World.ownsRow (wr.alloc (.cells #[.int .i64 x.1, .int .i64 x.2.1, .float .f64 x.2.2.1, .float .f64 x.2.2.2] 64)) (w.heap.size + 1) 64 4 (.slice s7 (came cur f A k).length e7) (came cur f A k).length ((came cur f A k).flatMap vcells)) := hR
            have HO1 : Hid (∀ u ∈ vcells x, u.oneCell' = true) := hO1
            have hsz : w.heap.size + 1 ≤ (wr.alloc (.cells #[.int .i64 x.1, .int .i64 x.2.1, .float .f64 x.2.2.1, .float .f64 x.2.2.2] 64)).heap.size := by have := HIV.out.k.lt; simp; omega
            clear hS hR hO1
            go_wp2_with (at_builtin; refine wpList_append_lies _ rfl _ _ 24 rfl (w.heap.size + 1) 64 i0 (.agg #[.int .i64 0, .int .i64 0, .float .f64 0, .float .f64 0]) 4 32 Try.underlying24 hi hz0 hz1 hz2 rfl (by decide) _ _ _ rfl HR.out ⟨wr.heap.size, 0, none⟩ 1 1 (vcells x) rfl rfl HS.out HO1.out (by omega) (by unfold maxLen; omega) (by omega) hsz _ rfl ?_; intro g7 d7 w5 hown hgrow hor hlg; have HU := HIV.out.push hown hgrow hor; rw [← came_in HXX.out hcu] at HU)
            go_roundw
            case rel => exact ⟨k + 1, _, _, _, by omega, by go_num, rfl, HU⟩
            case measure => simp [intOf]; omega
          · have hcu' : ¬ cur ≤ f + (k : Int) := hcu
            have HCU : Hid (¬ cur ≤ f + (k : Int)) := hcu
            go_wp2_with fail
            go_roundw
            case rel => exact ⟨k + 1, s7, e7, _, by omega, by go_num, rfl, by rw [came_out HCU.out]; exact HIV⟩
            case measure => simp [intOf]; omega
        · obtain rfl : k = A.length := by omega
          have EN : Hid (f + (A.length : Int) = unN f O N) := by show _ = _; rw [unN, if_pos HF.out, hA.out]; simp; omega
          have EL : Hid (came cur f A A.length = unL cur f O N) := by show _ = _; rw [came_all, unL, if_pos HF.out, hA.out] <;> (congr 1; omega)
          have tw2 : IntKind.i64.wrap (f + (A.length : Int)) = f + (A.length : Int) := by rw [IntKind.wrap_i64]; omega
          have HIV := IV
          clear IV
          by_cases hm : cur < f
          · have EM : Hid (f - cur = unM cur f) := by show _ = _; rw [unM, if_pos HF.out]; unfold missedOf; rw [HT.out, if_neg (by omega)]
            have tw3 : IntKind.i64.wrap (f - cur) = f - cur := by rw [IntKind.wrap_i64]; omega
            skip
            go_wp2_with fail
            go_quiet (fail)
            go_wp2_with fail
            go_ret3
            exact uq_fin HIV.out (by rw [← EN.out, ← EM.out]; rfl) EL.out
          · have EM : Hid (0 = unM cur f) := by show _ = _; rw [unM, if_pos HF.out]; unfold missedOf; rw [HT.out]; split <;> omega
            go_wp2_with fail
            go_quiet (fail)
            go_wp2_with fail
            go_ret3
            exact uq_fin HIV.out (by rw [← EN.out, ← EM.out]; rfl) EL.out
end Go.Proofs.Ytpfamdpgcbpiaaa
