import Derived.Test.YtknallkcengbbaaGreatDoorOk
import Derived.Test.YtknallkcengbbaaGreatDoorOh
import Derived.Test.YtknallkcengbbaaGreatDoorOi
import Derived.Test.YtknallkcengbbaaGreatDoorTz
import Derived.Deep.RegionHeld3
namespace Go.Proofs.YtknallkcengbbaaGreatDoor
open Go.RowKit
set_option linter.unusedVariables false
set_option linter.unusedSimpArgs false

theorem sl_eqI {L M : List Int} : sl eqI L M = decide (L = M) := by
  unfold sl
  by_cases h : L = M
  · subst h
    have : ∀ l : List Int, (l.zip l).all (fun p => eqI p.1 p.2) = true := by
      intro l
      induction l with
      | nil => rfl
      | cons a l ih => simp [eqI] at ih ⊢; exact ih
    simp [this]
  · rw [decide_eq_false h]
    by_cases hl : L.length = M.length
    · rw [decide_eq_true hl, Bool.true_and]
      cases hz : (L.zip M).all (fun p => eqI p.1 p.2) with
      | false => rfl
      | true =>
        exfalso
        apply h
        refine List.ext_getElem hl fun i h1 h2 => ?_
        rw [List.all_eq_true] at hz
        have := hz (L[i], M[i]) (by rw [List.mem_iff_getElem]; exact ⟨i, by simp; omega, by simp⟩)
        simpa [eqI] using this
    · rw [decide_eq_false hl]; rfl
theorem OI.take {w : World} {B : Nat} {s : Option Addr} {c : Nat} {A : List Int} (h : OI w B (.slice s A.length c) A) (r : Nat) (hr : r ≤ A.length) : OI w B (.slice s (A.take r).length c) (A.take r) := by
  have hl : (A.take r).length = r := by simp; omega
  rcases h.2 with ⟨h1, h2⟩ | ⟨g, cap, cur, h1, hb, hg, hc, hm, hsz, ht⟩
  · have h3 : r = 0 := by omega
    subst h3
    simp only [Value.slice.injEq] at h1
    obtain ⟨rfl, _, rfl⟩ := h1
    exact OI.nil _ _
  · simp only [Value.slice.injEq] at h1
    obtain ⟨rfl, _, rfl⟩ := h1
    refine ⟨by simp, Or.inr ⟨g, c, cur, rfl, hb, hg, by omega, hm, hsz, ?_⟩⟩
    rw [hl, List.map_take, ← ht, List.take_take]
    congr 1
    omega
theorem Tryz.htI : Tryz.prog.underlying 23 = some (.slice (Tryz.prog.elem 23)) := by kernel_rfl
/-- a list of one's own from place r on. -/
theorem slice_tail {w : World} {B : Nat} {s : Option Addr} {c : Nat} {A : List Int} (h : OI w B (.slice s A.length c) A) (r : Nat) (hr : r ≤ A.length) :
    ∃ s8 c8, (∀ W, (Instr.slice 23 (.slice s A.length c) (some (.int .i64 (r : Int))) none none).run Tryz.prog W = .ok (.slice s8 (A.drop r).length c8) W) ∧ Els 1 cInt w B s8 (A.drop r) := by
  have hrun : ∀ W, (Instr.slice 23 (.slice s A.length c) (some (.int .i64 (r : Int))) none none).run Tryz.prog W = .ok (sliced s r A.length c 1) W := by
    intro W
    rw [run_slice_l (P := Tryz.prog) W 23 s A.length c Tryz.htI .i64 (r : Int) (by omega) (by omega)]
    have e1 : (Go.sizeOf (Tryz.prog.elem 23)).run Tryz.prog W = .ok 1 W := by kernel_rfl
    rw [e1]
    simp [Result.andThen]
  refine ⟨if c = r then s else s.map (·.add (r * 1)), c - r, fun W => (hrun W).trans ?_, ?_⟩
  · unfold sliced
    rw [List.length_drop]
  · rcases h.els with h0 | ⟨b, o, rfl, h1, h2, h3, hz⟩
    · exact Or.inl (by simp [h0])
    · by_cases e : c = r
      · have := h.cap
        exact Or.inl (List.drop_eq_nil_of_le (by omega))
      · rw [if_neg e]
        refine Or.inr ⟨b, o + r, by simp [Addr.add, Nat.add_comm], h1, h2, fun j a ha => ?_, hz⟩
        rw [List.getElem?_drop] at ha
        obtain ⟨cs, e1, e2, e3⟩ := h3 (r + j) a ha
        refine ⟨cs, e1, fun i u hu => ?_, e3⟩
        have := e2 i u hu
        rw [show o + r + j * 1 + i = o + (r + j) * 1 + i by omega]
        exact this
/-- a list of one's own up to place r. -/
theorem slice_head {w : World} {B : Nat} {s : Option Addr} {c : Nat} {A : List Int} (h : OI w B (.slice s A.length c) A) (r : Nat) (hr : r ≤ A.length) :
    ∀ W, (Instr.slice 23 (.slice s A.length c) none (some (.int .i64 (r : Int))) none).run Tryz.prog W = .ok (.slice s r c) W := by
  intro W
  have hc := h.cap
  rw [run_slice_h (P := Tryz.prog) W 23 s A.length c Tryz.htI .i64 (r : Int) (by omega) (by omega)]
  have e1 : (Go.sizeOf (Tryz.prog.elem 23)).run Tryz.prog W = .ok 1 W := by kernel_rfl
  rw [e1]
  unfold sliced
  cases s <;> simp [Result.andThen, Addr.add]

/-! What the program's row says of the tree. -/
theorem tre_run {t : Tre} (h : treP t) : Run (kidsOf t) (okN t) 0 t.nodes.length [] t.tops := run_fit.2 h.2.1
theorem tre_step {t : Tre} {k : Nat} {A : List Int} {nd : Nd} (hR : Run (kidsOf t) (okN t) 0 k [] A) (hnd : t.nodes[k]? = some nd) (h : treP t) : okN t k ∧ ∃ A0, A = A0 ++ nd.kids := by
  have hk : k < t.nodes.length := (List.getElem?_eq_some_iff.1 hnd).1
  obtain ⟨l1, g1, g2⟩ := Run.split (Nat.zero_le k) (tre_run h) (by omega)
  obtain rfl := hR.same g1
  cases g2 with
  | nil => omega
  | cons _ _ _ l2 _ h1 _ =>
    obtain ⟨h2, A0, h3, _⟩ := h1
    rw [kidsOf_some hnd] at h3
    exact ⟨h2, A0, h3⟩
theorem run_next {t : Tre} {k : Nat} {A0 : List Int} {nd : Nd} (hR : Run (kidsOf t) (okN t) 0 k [] (A0 ++ nd.kids)) (hnd : t.nodes[k]? = some nd) (hok : okN t k) : Run (kidsOf t) (okN t) 0 (k + 1) [] (A0 ++ [(k : Int)]) :=
  hR.trans (Run.one ⟨hok, A0, by rw [kidsOf_some hnd], rfl⟩)
theorem run_valid {t : Tre} {k : Nat} {A : List Int} (hR : Run (kidsOf t) (okN t) 0 k [] A) : ∀ x ∈ A, ∃ m : Nat, x = m ∧ m < k := hR.mem (fun x hx => by cases hx)
theorem tops_role {t : Tre} {A : List Int} (hv : ∀ x ∈ A, ∃ m : Nat, x = m ∧ m < t.nodes.length) : (∀ (j : Nat) (x : Int), A[j]? = some x → ∃ (m : Nat) (nd : Nd), x = m ∧ t.nodes[m]? = some nd ∧ clsOk 9 nd.kind) ↔ ∀ b ∈ (A.map (kkAt t)).map rl, b = 116 := by
  constructor
  · intro h b hb
    simp only [List.mem_map] at hb
    obtain ⟨y, ⟨x, hx, rfl⟩, rfl⟩ := hb
    obtain ⟨j, hj⟩ := List.mem_iff_getElem?.1 hx
    obtain ⟨m, nd, rfl, e1, e2⟩ := h j x hj
    have := (clsOk_rl nd.kind 9 (by omega) (by omega)).1 e2
    simp [kkAt, e1]
    exact this
  · intro h j x hx
    obtain ⟨m, rfl, hm⟩ := hv x (List.mem_of_getElem? hx)
    refine ⟨m, t.nodes[m], rfl, by simp [hm], (clsOk_rl _ 9 (by omega) (by omega)).2 ?_⟩
    have := h (rl (kkAt t m)) (List.mem_map.2 ⟨_, List.mem_map.2 ⟨_, List.mem_of_getElem? hx, rfl⟩, rfl⟩)
    simp [kkAt, hm] at this
    exact this
theorem kidB_get {k : Int} {ks : List Int} (h : kidB k ks = true) : KidsP k ks := by
  by_cases g : KidsP k ks
  · exact g
  · rw [kidB_false g] at h; cases h
set_option maxRecDepth 100000 in
set_option maxHeartbeats 8000000 in
theorem implTreeOk_any (t : Tre) (s1 s2 : Option Addr) (c1 c2 B : Nat) (w : World) (hT : InT w B s1 s2 t) (hkt : kTre t) :
    Calls Tryz.prog 23 #[.agg #[.slice s1 t.nodes.length c1, .slice s2 t.tops.length c2]] w fun e w' => e = .returned (.bool (treB t)) ∧ Below w.heap.size w w' := by
  have hal := alloc_old
  have haf := alloc_oldf
  have k0 := Blk.new w #[.slice s1 t.nodes.length c1, .slice s2 t.tops.length c2] 29
  have L0 := bl_alloc (Below.refl _ w) (.cells #[.slice s1 t.nodes.length c1, .slice s2 t.tops.length c2] 29)
  obtain ⟨x0, x1, x2⟩ := k0.two
  have hn := hkt.1.1
  have ht := hkt.2
  have HKN : Hid (∀ n ∈ t.nodes, kNode n) := hkt.1.2
  have HT : Hid (InT w B s1 s2 t) := hT
  clear hkt hT
  by_cases h4 : t.nodes.length ≤ 4000
  rotate_left
  · have q1 : decide ((4000 : Int) < (t.nodes.length : Int)) = true := by simp; omega
    have HE : Hid (treB t = false) := treB_false fun h => h4 h.1
    clear h4
    go_enter Tryz.func23, Tryz.ntmps23
    go_wp2_with fail
    go_ret
    exact ⟨ret_bool' HE.out.symm, L0⟩
  have q1 : decide ((4000 : Int) < (t.nodes.length : Int)) = false := by simp; omega
  go_enter Tryz.func23, Tryz.ntmps23
  go_wp2_with fail
  refine (wordSet_any _).mono ?_
  rintro e W1 ⟨rfl, hown, hb1⟩
  have e1 : (w.alloc (.cells #[.slice s1 t.nodes.length c1, .slice s2 t.tops.length c2] 29)).heap.size = w.heap.size + 1 := by simp
  rw [e1] at hown ⊢
  have L1 : Hid (Below w.heap.size w W1) := bl_trans L0 hb1
  have K1 : Hid (Blk W1 w.heap.size #[.slice s1 t.nodes.length c1, .slice s2 t.tops.length c2] 29) := k0.later hb1
  have HM : Hid (W1.ownsMap Tryz.prog 9 (unitElem (H := Unit)) (w.heap.size + 1) 32 (wordMap words (.map []))) := hown
  have sz1 : w.heap.size + 2 ≤ W1.heap.size := by have := hown.lt; omega
  clear hown hb1 e1 L0 k0 x0 x1 x2
  obtain ⟨x0, x1, x2⟩ := K1.out.two
  go_wp2_with fail
  go_loopw [4, 16] (fun v i wr => ∃ (k : Nat) (A : List Int) (sa : Option Addr) (ca : Nat), k ≤ t.nodes.length ∧ i = .int .i64 k ∧ v = .slice sa A.length ca ∧ Hid (Run (kidsOf t) (okN t) 0 k [] A) ∧ Hid (OI wr W1.heap.size (.slice sa A.length ca) A) ∧ Hid (Below W1.heap.size W1 wr)) (fun _ i _ => t.nodes.length - (intOf i).toNat)
  case atStart => exact ⟨0, [], none, 0, Nat.zero_le _, rfl, rfl, Run.nil _ _, OI.nil _ _, Below.refl _ _⟩
  case round =>
    clear x0 x1 x2
    obtain ⟨k, A, sa, ca, hk, rfl, rfl, hRun, hO, hb⟩ := hrel
    have lA : A.length ≤ 4000 := by have := hRun.out.len; simp at this; omega
    have hbW : Hid (Below w.heap.size w wr) := Below.trans L1.out (by have := hb.out; exact ⟨this.os, this.tape, this.output, this.size, fun j hj => this.block j (by omega)⟩)
    by_cases hlt : k < t.nodes.length
    · obtain ⟨nd, hnd⟩ := get_some hlt
      have hkd := HKN.out nd (List.mem_of_getElem? hnd)
      obtain ⟨hkt, hkl⟩ := hkd
      obtain ⟨b, o, rfl, _, hp, s9, c9, e0, e1, e2, e3, hK⟩ := eNode_cells HT.out.n hnd
      have z0 := (hbW.out.cell (p := ⟨b, o + k * 4, none⟩) hp).trans e0
      have z1 := (hbW.out.cell (p := ⟨b, o + k * 4 + 1, none⟩) hp).trans e1
      have z2 := (hbW.out.cell (p := ⟨b, o + k * 4 + 2, none⟩) hp).trans e2
      have z3 := (hbW.out.cell (p := ⟨b, o + k * 4 + 3, none⟩) hp).trans e3
      have HND : Hid (t.nodes[k]? = some nd) := hnd
      have hkI : (k : Int) < (t.nodes.length : Int) := by omega
      clear hnd e0 e1 e2 e3
      have kN := Blk.new wr #[.int .i64 nd.kind, .string nd.text, .int .i64 nd.num, .slice s9 nd.kids.length c9] 57
      have LX := bl_alloc (Below.refl _ wr) (.cells #[.int .i64 nd.kind, .string nd.text, .int .i64 nd.num, .slice s9 nd.kids.length c9] 57)
      go_upto_region 8 with fail
      generalize hX : wr.alloc (.cells #[.int .i64 nd.kind, .string nd.text, .int .i64 nd.num, .slice s9 nd.kids.length c9] 57) = X at kN LX ⊢
      clear hX z0 z1 z2 z3
      have ltN : wr.heap.size < X.heap.size := kN.lt
      obtain ⟨n0, n1, n2, n3, n4⟩ := kN.four'
      have hOX : Hid (OI X W1.heap.size (.slice sa A.length ca) A) := hO.out.later LX
      have hbX : Hid (Below W1.heap.size W1 X) := bl_trans hb.out LX
      have HBX : Hid (Below w.heap.size w X) := bl_trans hbW.out LX
      have HKX : Hid (Els 1 cInt X B s9 nd.kids) := hK.later cInt_keeps HBX.out
      have szX : W1.heap.size ≤ X.heap.size := hbX.out.size
      clear hK
      by_cases hle : nd.kids.length ≤ A.length
      rotate_left
      · have tw : IntKind.i64.wrap ((A.length : Int) - (nd.kids.length : Int)) = (A.length : Int) - (nd.kids.length : Int) := by rw [IntKind.wrap_i64]; omega
        have q2 : decide ((A.length : Int) - (nd.kids.length : Int) < 0) = true := by simp; omega
        have HE : Hid (treB t = false) := treB_false fun h => by
          obtain ⟨_, A0, h6⟩ := tre_step hRun.out HND.out h
          have := congrArg List.length h6
          simp at this
          omega
        clear hle
        go_upto_region 9 with fail
        refine wp_region_held_drew (S := (fun _ => True)) (by kernel_rfl) ?_ (fun hHeld => ?_)
        · trivial
        refine wpAnyH_one (i := 0) (d := 27) (v := ?_) rfl rfl (by kernel_rfl) (by kernel_rfl) (by kernel_rfl) (fun _ _ _ h => h) (by rfl) (by assumption) ?_ ?_
        rotate_left 1
        · intro w hSw; (try dsimp only at hSw); go_simp <;> with_reducible rfl
        simp only [List.foldl, Act.put, List.setIfInBounds_toArray, List.set_cons_zero, List.set_cons_succ]
        refine wpAnyH_one (i := 1) (d := 28) (v := ?_) rfl rfl (by kernel_rfl) (by kernel_rfl) (by kernel_rfl) (fun _ _ _ h => h) (by rfl) (by assumption) ?_ ?_
        rotate_left 1
        · intro w hSw; (try dsimp only at hSw); go_simp <;> with_reducible rfl
        simp only [List.foldl, Act.put, List.setIfInBounds_toArray, List.set_cons_zero, List.set_cons_succ]
        refine wpAnyH_one (i := 2) (d := 29) (v := ?_) rfl rfl (by kernel_rfl) (by kernel_rfl) (by kernel_rfl) (fun _ _ _ h => h) (by rfl) (by assumption) ?_ ?_
        rotate_left 1
        · intro w hSw; (try dsimp only at hSw); go_simp <;> with_reducible rfl
        simp only [List.foldl, Act.put, List.setIfInBounds_toArray, List.set_cons_zero, List.set_cons_succ]
        refine wpAnyH_skip (by kernel_rfl) (fun _ _ _ _ h => h) [(3, 30), (4, 31), (5, 32), (6, 33), (7, 34), (8, 35), (9, 36)] 1 _ _ _ (by assumption) (by kernel_rfl) ?_ _ rfl
        simp only [List.foldl, Act.put, List.setIfInBounds_toArray, List.set_cons_zero, List.set_cons_succ]
        refine wpAnyH_one (i := 10) (d := 37) (v := ?_) rfl rfl (by kernel_rfl) (by kernel_rfl) (by kernel_rfl) (fun _ _ _ h => h) (by rfl) (by assumption) ?_ ?_
        rotate_left 1
        · intro w hSw; (try dsimp only at hSw); go_simp <;> with_reducible rfl
        simp only [List.foldl, Act.put, List.setIfInBounds_toArray, List.set_cons_zero, List.set_cons_succ]
        refine wpAnyH_done (by kernel_rfl) ?_ _
        go_wp2_with fail
        go_ret
        exact ⟨ret_bool' HE.out.symm, bl_drew HBX.out⟩
      obtain ⟨A0, HA0⟩ : ∃ A0, Hid (A.take (A.length - nd.kids.length) = A0) := ⟨_, rfl⟩
      have lA0 : A0.length + nd.kids.length = A.length := by rw [← HA0.out]; simp; omega
      have hr0 : A0.length ≤ A.length := by omega
      have tw : IntKind.i64.wrap ((A.length : Int) - (nd.kids.length : Int)) = (A0.length : Int) := by rw [IntKind.wrap_i64]; omega
      have q2 : decide ((A0.length : Int) < 0) = false := by simp
      obtain ⟨s8, c8, hsl, hE8⟩ := slice_tail hOX.out A0.length hr0
      obtain ⟨D, HD⟩ : ∃ D, Hid (A.drop A0.length = D) := ⟨_, rfl⟩
      have lD : D.length ≤ 4000 := by rw [← HD.out]; simp; omega
      rw [HD.out] at hsl hE8
      have HE8 : Hid (Els 1 cInt X W1.heap.size s8 D) := hE8
      have hsh := slice_head hOX.out A0.length hr0
      have HA : Hid (A.take A0.length = A0) := by
        show _ = _
        have h7 := HA0.out
        rw [show A.length - nd.kids.length = A0.length by omega] at h7
        exact h7
      have hO0 : Hid (OI X W1.heap.size (.slice sa A0.length ca) A0) := by
        have := hOX.out.take A0.length hr0
        rw [HA.out] at this
        exact this
      have HLA : Hid (A0.length + nd.kids.length = A.length) := lA0
      have lA1 : A0.length ≤ 4000 := by omega
      have lK1 : nd.kids.length ≤ 4000 := by omega
      clear hE8 hle lA0
      by_cases heq : D = nd.kids
      rotate_left
      · have qe : decide (D = nd.kids) = false := decide_eq_false heq
        have HE : Hid (treB t = false) := treB_false fun h => by
          obtain ⟨_, A9, h6⟩ := tre_step hRun.out HND.out h
          have h7 := congrArg List.length h6
          simp at h7
          have lA0 := HLA.out
          apply heq
          rw [← HD.out, h6, List.drop_left' (by omega)]
        clear heq hsh
        go_upto_region 9 with fail
        refine wp_region_held_drew (S := (fun w' => w'.cell? ⟨wr.heap.size, 3, none⟩ = some (.slice s9 nd.kids.length c9))) (by kernel_rfl) ?_ (fun hHeld => ?_)
        · exact n3
        refine wpAnyH_one (i := 0) (d := 27) (v := ?_) rfl rfl (by kernel_rfl) (by kernel_rfl) (by kernel_rfl) (fun _ _ _ h => h) (by rfl) (by assumption) ?_ ?_
        rotate_left 1
        · intro w hSw; (try dsimp only at hSw); go_simp <;> with_reducible rfl
        simp only [List.foldl, Act.put, List.setIfInBounds_toArray, List.set_cons_zero, List.set_cons_succ]
        refine wpAnyH_one (i := 1) (d := 28) (v := ?_) rfl rfl (by kernel_rfl) (by kernel_rfl) (by kernel_rfl) (fun _ _ _ h => h) (by rfl) (by assumption) ?_ ?_
        rotate_left 1
        · intro w hSw; (try dsimp only at hSw); go_simp <;> with_reducible rfl
        simp only [List.foldl, Act.put, List.setIfInBounds_toArray, List.set_cons_zero, List.set_cons_succ]
        refine wpAnyH_one (i := 2) (d := 29) (v := ?_) rfl rfl (by kernel_rfl) (by kernel_rfl) (by kernel_rfl) (fun _ _ _ h => h) (by rfl) (by assumption) ?_ ?_
        rotate_left 1
        · intro w hSw; (try dsimp only at hSw); go_simp <;> with_reducible rfl
        simp only [List.foldl, Act.put, List.setIfInBounds_toArray, List.set_cons_zero, List.set_cons_succ]
        refine wpAnyH_one (i := 3) (d := 30) (v := ?_) rfl rfl (by kernel_rfl) (by kernel_rfl) (by kernel_rfl) (fun _ _ _ h => h) (by rfl) (by assumption) ?_ ?_
        rotate_left 1
        · intro w hSw; (try dsimp only at hSw); go_simp <;> with_reducible rfl
        simp only [List.foldl, Act.put, List.setIfInBounds_toArray, List.set_cons_zero, List.set_cons_succ]
        refine wpAnyH_one (i := 4) (d := 31) (v := ?_) rfl rfl (by kernel_rfl) (by kernel_rfl) (by kernel_rfl) (fun _ _ _ h => h) (by rfl) (by assumption) ?_ ?_
        rotate_left 1
        · intro w hSw; (try dsimp only at hSw); go_simp <;> with_reducible rfl
        simp only [List.foldl, Act.put, List.setIfInBounds_toArray, List.set_cons_zero, List.set_cons_succ]
        refine wpAnyH_one (i := 5) (d := 32) (v := ?_) rfl rfl (by kernel_rfl) (by kernel_rfl) (by kernel_rfl) (fun _ _ _ h => h) (by rfl) (by assumption) ?_ ?_
        rotate_left 1
        · intro w hSw; (try dsimp only at hSw); go_simp <;> with_reducible rfl
        simp only [List.foldl, Act.put, List.setIfInBounds_toArray, List.set_cons_zero, List.set_cons_succ]
        refine wpAnyH_one (i := 6) (d := 33) (v := ?_) rfl rfl (by kernel_rfl) (by kernel_rfl) (by kernel_rfl) (fun _ _ _ h => h) (by rfl) (by assumption) ?_ ?_
        rotate_left 1
        · intro w hSw; (try dsimp only at hSw); go_simp <;> with_reducible rfl
        simp only [List.foldl, Act.put, List.setIfInBounds_toArray, List.set_cons_zero, List.set_cons_succ]
        refine wpAnyH_one (i := 7) (d := 34) (v := ?_) rfl rfl (by kernel_rfl) (by kernel_rfl) (by kernel_rfl) (fun _ _ _ h => h) (by rfl) (by assumption) ?_ ?_
        rotate_left 1
        · intro w hSw; (try dsimp only at hSw); go_simp <;> with_reducible rfl
        simp only [List.foldl, Act.put, List.setIfInBounds_toArray, List.set_cons_zero, List.set_cons_succ]
        refine wpAnyH_ready (rs := [8]) (by kernel_rfl) (by simp) ?_
        refine AllReadyH.cons rfl (fun K hK => ?_) AllReadyH.nil
        go_simp
        refine (equalI_any s8 s9 c8 c9 D nd.kids W1.heap.size B _ (HE8.out.later cInt_keeps (bl_drew (Below.refl _ _))) (HKX.out.later cInt_keeps (bl_drew (Below.refl _ _))) (by omega) hkl).mono ?_
        rintro e w2 ⟨rfl, hb2⟩
        rw [sl_eqI, qe]
        have hb2 : Below X.heap.size X w2 := bl_trans (bl_drew (Below.refl _ _)) hb2
        have n3 := (hb2.cell (p := ⟨wr.heap.size, 3, none⟩) ltN).trans n3
        refine hK.out _ _ ?_ (fun hHeld => ?_)
        · exact n3
        clear hK K
        try simp only [List.foldl, Act.put, List.setIfInBounds_toArray, List.set_cons_zero, List.set_cons_succ]
        refine wpAnyH_one (i := 9) (d := 36) (v := ?_) rfl rfl (by kernel_rfl) (by kernel_rfl) (by kernel_rfl) (fun _ _ _ h => h) (by rfl) (by assumption) ?_ ?_
        rotate_left 1
        · intro w hSw; (try dsimp only at hSw); go_simp <;> with_reducible rfl
        simp only [List.foldl, Act.put, List.setIfInBounds_toArray, List.set_cons_zero, List.set_cons_succ]
        refine wpAnyH_one (i := 10) (d := 37) (v := ?_) rfl rfl (by kernel_rfl) (by kernel_rfl) (by kernel_rfl) (fun _ _ _ h => h) (by rfl) (by assumption) ?_ ?_
        rotate_left 1
        · intro w hSw; (try dsimp only at hSw); go_simp <;> with_reducible rfl
        simp only [List.foldl, Act.put, List.setIfInBounds_toArray, List.set_cons_zero, List.set_cons_succ]
        refine wpAnyH_done (by kernel_rfl) ?_ _
        go_wp2_with fail
        go_ret
        exact ⟨ret_bool' HE.out.symm, bl_trans HBX.out hb2⟩
      have qe : decide (D = nd.kids) = true := decide_eq_true heq
      have HAA : Hid (A = A0 ++ nd.kids) := by
        show _ = _
        have h7 := (List.take_append_drop A0.length A).symm
        rw [HA.out, HD.out, heq] at h7
        exact h7
      have HVK : Hid (∀ x ∈ nd.kids, ∃ m : Nat, x = m ∧ m < t.nodes.length) := fun x hx => by
        obtain ⟨m, e, hm⟩ := run_valid hRun.out x (by rw [HAA.out]; simp [hx])
        exact ⟨m, e, by omega⟩
      clear heq
      go_upto_region 9 with fail
      refine wp_region_held_drew (S := (fun w' => w'.cell? ⟨wr.heap.size, 3, none⟩ = some (.slice s9 nd.kids.length c9))) (by kernel_rfl) ?_ (fun hHeld => ?_)
      · exact n3
      refine wpAnyH_one (i := 0) (d := 27) (v := ?_) rfl rfl (by kernel_rfl) (by kernel_rfl) (by kernel_rfl) (fun _ _ _ h => h) (by rfl) (by assumption) ?_ ?_
      rotate_left 1
      · intro w hSw; (try dsimp only at hSw); go_simp <;> with_reducible rfl
      simp only [List.foldl, Act.put, List.setIfInBounds_toArray, List.set_cons_zero, List.set_cons_succ]
      refine wpAnyH_one (i := 1) (d := 28) (v := ?_) rfl rfl (by kernel_rfl) (by kernel_rfl) (by kernel_rfl) (fun _ _ _ h => h) (by rfl) (by assumption) ?_ ?_
      rotate_left 1
      · intro w hSw; (try dsimp only at hSw); go_simp <;> with_reducible rfl
      simp only [List.foldl, Act.put, List.setIfInBounds_toArray, List.set_cons_zero, List.set_cons_succ]
      refine wpAnyH_one (i := 2) (d := 29) (v := ?_) rfl rfl (by kernel_rfl) (by kernel_rfl) (by kernel_rfl) (fun _ _ _ h => h) (by rfl) (by assumption) ?_ ?_
      rotate_left 1
      · intro w hSw; (try dsimp only at hSw); go_simp <;> with_reducible rfl
      simp only [List.foldl, Act.put, List.setIfInBounds_toArray, List.set_cons_zero, List.set_cons_succ]
      refine wpAnyH_one (i := 3) (d := 30) (v := ?_) rfl rfl (by kernel_rfl) (by kernel_rfl) (by kernel_rfl) (fun _ _ _ h => h) (by rfl) (by assumption) ?_ ?_
      rotate_left 1
      · intro w hSw; (try dsimp only at hSw); go_simp <;> with_reducible rfl
      simp only [List.foldl, Act.put, List.setIfInBounds_toArray, List.set_cons_zero, List.set_cons_succ]
      refine wpAnyH_one (i := 4) (d := 31) (v := ?_) rfl rfl (by kernel_rfl) (by kernel_rfl) (by kernel_rfl) (fun _ _ _ h => h) (by rfl) (by assumption) ?_ ?_
      rotate_left 1
      · intro w hSw; (try dsimp only at hSw); go_simp <;> with_reducible rfl
      simp only [List.foldl, Act.put, List.setIfInBounds_toArray, List.set_cons_zero, List.set_cons_succ]
      refine wpAnyH_one (i := 5) (d := 32) (v := ?_) rfl rfl (by kernel_rfl) (by kernel_rfl) (by kernel_rfl) (fun _ _ _ h => h) (by rfl) (by assumption) ?_ ?_
      rotate_left 1
      · intro w hSw; (try dsimp only at hSw); go_simp <;> with_reducible rfl
      simp only [List.foldl, Act.put, List.setIfInBounds_toArray, List.set_cons_zero, List.set_cons_succ]
      refine wpAnyH_one (i := 6) (d := 33) (v := ?_) rfl rfl (by kernel_rfl) (by kernel_rfl) (by kernel_rfl) (fun _ _ _ h => h) (by rfl) (by assumption) ?_ ?_
      rotate_left 1
      · intro w hSw; (try dsimp only at hSw); go_simp <;> with_reducible rfl
      simp only [List.foldl, Act.put, List.setIfInBounds_toArray, List.set_cons_zero, List.set_cons_succ]
      refine wpAnyH_one (i := 7) (d := 34) (v := ?_) rfl rfl (by kernel_rfl) (by kernel_rfl) (by kernel_rfl) (fun _ _ _ h => h) (by rfl) (by assumption) ?_ ?_
      rotate_left 1
      · intro w hSw; (try dsimp only at hSw); go_simp <;> with_reducible rfl
      simp only [List.foldl, Act.put, List.setIfInBounds_toArray, List.set_cons_zero, List.set_cons_succ]
      refine wpAnyH_ready (rs := [8]) (by kernel_rfl) (by simp) ?_
      refine AllReadyH.cons rfl (fun K hK => ?_) AllReadyH.nil
      go_simp
      refine (equalI_any s8 s9 c8 c9 D nd.kids W1.heap.size B _ (HE8.out.later cInt_keeps (bl_drew (Below.refl _ _))) (HKX.out.later cInt_keeps (bl_drew (Below.refl _ _))) (by omega) hkl).mono ?_
      rintro e w2 ⟨rfl, hb2⟩
      rw [sl_eqI, qe]
      have hb2 : Below X.heap.size X w2 := bl_trans (bl_drew (Below.refl _ _)) hb2
      have n3 := (hb2.cell (p := ⟨wr.heap.size, 3, none⟩) ltN).trans n3
      refine hK.out _ _ ?_ (fun hHeld => ?_)
      · exact n3
      clear hK K
      try simp only [List.foldl, Act.put, List.setIfInBounds_toArray, List.set_cons_zero, List.set_cons_succ]
      refine wpAnyH_one (i := 9) (d := 36) (v := ?_) rfl rfl (by kernel_rfl) (by kernel_rfl) (by kernel_rfl) (fun _ _ _ h => h) (by rfl) (by assumption) ?_ ?_
      rotate_left 1
      · intro w hSw; (try dsimp only at hSw); go_simp <;> with_reducible rfl
      simp only [List.foldl, Act.put, List.setIfInBounds_toArray, List.set_cons_zero, List.set_cons_succ]
      refine wpAnyH_one (i := 10) (d := 37) (v := ?_) rfl rfl (by kernel_rfl) (by kernel_rfl) (by kernel_rfl) (fun _ _ _ h => h) (by rfl) (by assumption) ?_ ?_
      rotate_left 1
      · intro w hSw; (try dsimp only at hSw); go_simp <;> with_reducible rfl
      simp only [List.foldl, Act.put, List.setIfInBounds_toArray, List.set_cons_zero, List.set_cons_succ]
      refine wpAnyH_done (by kernel_rfl) ?_ _
      clear hsl HE8
      replace kN := kN.later hb2
      have HO2 : Hid (OI w2 W1.heap.size (.slice sa A0.length ca) A0) := hO0.out.later hb2
      have HB2 : Hid (Below W1.heap.size W1 w2) := bl_trans hbX.out hb2
      have HW2 : Hid (Below w.heap.size w w2) := bl_trans HBX.out hb2
      have hM2 : Hid (w2.ownsMap Tryz.prog 9 (unitElem (H := Unit)) (w.heap.size + 1) 32 (wordMap words (.map []))) := HM.out.kept (grown_of_below HB2.out) (by simp)
      have K2 : Hid (Blk w2 w.heap.size #[.slice (some ⟨b, o, none⟩) t.nodes.length c1, .slice s2 t.tops.length c2] 29) := K1.out.later HB2.out
      have HK2 : Hid (Els 1 cInt w2 B s9 nd.kids) := HKX.out.later cInt_keeps hb2
      have HN2 : Hid (Els 4 cNode w2 B (some ⟨b, o, none⟩) t.nodes) := HT.out.n.later cNode_keeps HW2.out
      clear n0 n1 n2 n3 n4 hb2 hOX hbX HBX HKX hO hb
      obtain ⟨n0, n1, n2, n3, n4⟩ := kN.four'
      obtain ⟨x0, x1, x2⟩ := K2.out.two
      cases qt : tfB nd.kind nd.text
      · have HE : Hid (treB t = false) := treB_false fun h => by have h5 := (okN_kids HND.out HVK.out).1 (tre_step hRun.out HND.out h).1; rw [has_split] at h5; rw [qt] at h5; simp at h5
        go_wp2_with (go_at_call 36; refine (textFits_any nd.kind nd.text hkt nd.num s9 nd.kids.length c9 (w.heap.size + 1) _ hM2.out).mono ?_; rintro e w3 ⟨rfl, hb3⟩; rw [qt]; obtain ⟨n0, n1, n2, n3, n4⟩ := (kN.later hb3).four'; obtain ⟨x0, x1, x2⟩ := (K2.out.later hb3).two)
        go_ret
        exact ⟨ret_bool' HE.out.symm, bl_trans HW2.out hb3⟩
      cases qn : nfB nd.kind nd.num
      · have HE : Hid (treB t = false) := treB_false fun h => by have h5 := (okN_kids HND.out HVK.out).1 (tre_step hRun.out HND.out h).1; rw [has_split] at h5; rw [qn] at h5; simp at h5
        go_wp2_with (first | (go_at_call 36; refine (textFits_any nd.kind nd.text hkt nd.num s9 nd.kids.length c9 (w.heap.size + 1) _ hM2.out).mono ?_; rintro e w3 ⟨rfl, hb3⟩; rw [qt]; obtain ⟨n0, n1, n2, n3, n4⟩ := (kN.later hb3).four'; obtain ⟨x0, x1, x2⟩ := (K2.out.later hb3).two) | (go_at_call 37; refine (numberFits_any nd.kind nd.text nd.num s9 nd.kids.length c9 _).mono ?_; rintro e w4 ⟨rfl, hb4⟩; rw [qn]; obtain ⟨n0, n1, n2, n3, n4⟩ := ((kN.later hb3).later hb4).four'; obtain ⟨x0, x1, x2⟩ := ((K2.out.later hb3).later hb4).two))
        go_ret
        exact ⟨ret_bool' HE.out.symm, bl_trans (bl_trans HW2.out hb3) hb4⟩
      cases qk : kidB nd.kind (nd.kids.map (kkAt t))
      · have HE : Hid (treB t = false) := treB_false fun h => by have h5 := (okN_kids HND.out HVK.out).1 (tre_step hRun.out HND.out h).1; rw [has_split] at h5; have h6 := kidB_true h5.2; rw [qk] at h6; cases h6
        go_wp2_with (first | (go_at_call 36; refine (textFits_any nd.kind nd.text hkt nd.num s9 nd.kids.length c9 (w.heap.size + 1) _ hM2.out).mono ?_; rintro e w3 ⟨rfl, hb3⟩; rw [qt]; obtain ⟨n0, n1, n2, n3, n4⟩ := (kN.later hb3).four'; obtain ⟨x0, x1, x2⟩ := (K2.out.later hb3).two) | (go_at_call 37; refine (numberFits_any nd.kind nd.text nd.num s9 nd.kids.length c9 _).mono ?_; rintro e w4 ⟨rfl, hb4⟩; rw [qn]; obtain ⟨n0, n1, n2, n3, n4⟩ := ((kN.later hb3).later hb4).four'; obtain ⟨x0, x1, x2⟩ := ((K2.out.later hb3).later hb4).two) | (go_at_call 38; refine (kidsFit_any nd.kind t nd.text nd.num s9 (some ⟨b, o, none⟩) c9 c1 nd.kids B B _ ((HK2.out.later cInt_keeps hb3).later cInt_keeps hb4) ((HN2.out.later cNode_keeps hb3).later cNode_keeps hb4) HVK.out hkl hn).mono ?_; rintro e w5 ⟨rfl, hb5⟩; rw [qk]))
        go_ret
        exact ⟨ret_bool' HE.out.symm, bl_trans (bl_trans (bl_trans HW2.out hb3) hb4) hb5⟩
      have HOK : Hid (okN t k) := (okN_kids HND.out HVK.out).2 ⟨by rw [has_split, qt, qn]; rfl, kidB_get qk⟩
      go_upto_region 13 with (first | (go_at_call 36; refine (textFits_any nd.kind nd.text hkt nd.num s9 nd.kids.length c9 (w.heap.size + 1) _ hM2.out).mono ?_; rintro e w3 ⟨rfl, hb3⟩; rw [qt]; obtain ⟨n0, n1, n2, n3, n4⟩ := (kN.later hb3).four'; obtain ⟨x0, x1, x2⟩ := (K2.out.later hb3).two) | (go_at_call 37; refine (numberFits_any nd.kind nd.text nd.num s9 nd.kids.length c9 _).mono ?_; rintro e w4 ⟨rfl, hb4⟩; rw [qn]; obtain ⟨n0, n1, n2, n3, n4⟩ := ((kN.later hb3).later hb4).four'; obtain ⟨x0, x1, x2⟩ := ((K2.out.later hb3).later hb4).two) | (go_at_call 38; refine (kidsFit_any nd.kind t nd.text nd.num s9 (some ⟨b, o, none⟩) c9 c1 nd.kids B B _ ((HK2.out.later cInt_keeps hb3).later cInt_keeps hb4) ((HN2.out.later cNode_keeps hb3).later cNode_keeps hb4) HVK.out hkl hn).mono ?_; rintro e w5 ⟨rfl, hb5⟩; rw [qk]))
      have hb25 : Below w2.heap.size w2 w5 := bl_trans (bl_trans hb3 hb4) hb5
      obtain ⟨R2, hR2⟩ : ∃ R2, Hid (A0 ++ [(k : Int)] = R2) := ⟨_, (rfl : A0 ++ [(k : Int)] = _)⟩
      have hb6 : Below W1.heap.size W1 (w5.alloc (.cells #[.int .i64 (k : Int)] 3)) := bl_alloc (bl_trans HB2.out hb25) _
      have hO6 : Hid (OI (w5.alloc (.cells #[.int .i64 (k : Int)] 3)) W1.heap.size (.slice sa A0.length ca) A0) := (HO2.out.later hb25).later (bl_alloc (Below.refl _ _) _)
      have E6 : Hid (Els 1 cInt (w5.alloc (.cells #[.int .i64 (k : Int)] 3)) w5.heap.size (some ⟨w5.heap.size, 0, none⟩) [(k : Int)]) := Els.one (Blk.new w5 #[.int .i64 (k : Int)] 3)
      clear n0 n1 n2 n3 n4 x0 x1 x2 hb3 hb4 hb5 hb25 kN HK2 HN2 hM2
      go_wp2_with (at_builtin; refine wpList_append_ints rfl _ _ rfl W1.heap.size sa ca A0 rfl hO6.out w5.heap.size _ 1 [(k : Int)] rfl E6.out R2 hR2.out (by simp; omega) hb6.size ?_; intro s' c' w7 hO7 hg7 hn7)
      have hO7 : Hid (OI w7 W1.heap.size (.slice s' R2.length c') R2) := hO7
      have hb7 : Hid (Below W1.heap.size W1 w7) := grown_oi hb6 hb6.size hO6.out hg7
      clear hg7 hn7 hO6 E6 hb6
      go_wp2_with fail
      go_roundw
      case rel =>
        refine ⟨k + 1, R2, s', c', by omega, by go_num, rfl, ?_, hO7, hb7⟩
        have h8 := hRun.out
        rw [HAA.out] at h8
        have h9 := run_next h8 HND.out HOK.out
        rw [hR2.out] at h9
        exact h9
      case measure => simp [intOf]; omega
    · have hkn : k = t.nodes.length := by omega
      have hR9 := hRun.out
      rw [hkn] at hR9
      have HR9 : Hid (Run (kidsOf t) (okN t) 0 t.nodes.length [] A) := hR9
      have HV : Hid (∀ x ∈ A, ∃ m : Nat, x = m ∧ m < t.nodes.length) := run_valid hR9
      have H4 : Hid (t.nodes.length ≤ 4000) := h4
      have KZ : Hid (Blk wr w.heap.size #[.slice s1 t.nodes.length c1, .slice s2 t.tops.length c2] 29) := K1.out.later hb.out
      have hkI : ¬ (k : Int) < (t.nodes.length : Int) := by omega
      clear hR9 hkn
      obtain ⟨x0, x1, x2⟩ := KZ.out.two
      by_cases heq : A = t.tops
      rotate_left
      · have qe : decide (A = t.tops) = false := decide_eq_false heq
        have HE : Hid (treB t = false) := treB_false fun h => heq (HR9.out.same (tre_run h))
        clear heq
        go_wp2_with (go_at_call 35; refine (equalI_any sa s2 ca c2 A t.tops W1.heap.size B _ hO.out.els (HT.out.t.later cInt_keeps hbW.out) (by omega) ht).mono ?_; rintro e w2 ⟨rfl, hb2⟩; rw [sl_eqI, qe])
        go_ret
        exact ⟨ret_bool' HE.out.symm, bl_trans hbW.out hb2⟩
      have qe : decide (A = t.tops) = true := decide_eq_true heq
      obtain ⟨R, HRR⟩ : ∃ R, Hid ((A.map (kkAt t)).map rl = R) := ⟨_, rfl⟩
      have lR : R.length ≤ 1048576 := by rw [← HRR.out]; simp; omega
      have HE : Hid (treB t = decide (∀ b ∈ R, b = 116)) := by
        show _ = _
        by_cases hall : ∀ b ∈ R, b = 116
        · rw [decide_eq_true hall]
          refine treB_true ⟨H4.out, ?_, ?_⟩
          · rw [← heq]; exact run_fit.1 HR9.out
          · rw [← heq]
            exact (tops_role HV.out).2 (by rw [HRR.out]; exact hall)
        · rw [decide_eq_false hall]
          refine treB_false fun h => hall ?_
          have h6 := h.2.2
          rw [← heq] at h6
          have h7 := (tops_role HV.out).1 h6
          rw [HRR.out] at h7
          exact h7
      have HL : Hid (t.tops.length = A.length) := by show _ = _; rw [heq]
      clear heq
      go_wp2_with (first | (go_at_call 35; refine (equalI_any sa s2 ca c2 A t.tops W1.heap.size B _ hO.out.els (HT.out.t.later cInt_keeps hbW.out) (by omega) ht).mono ?_; rintro e w2 ⟨rfl, hb2⟩; rw [sl_eqI, qe]; obtain ⟨x0, x1, x2⟩ := (KZ.out.later hb2).two) | (go_at_call 40; refine (rolesOf_any t sa s1 ca c1 A W1.heap.size B _ (hO.out.els.later cInt_keeps hb2) ((HT.out.n.later cNode_keeps hbW.out).later cNode_keeps hb2) HV.out (by omega) hn).mono ?_; rintro e w3 ⟨rfl, hb3⟩; rw [HRR.out]) | (go_at_call 39; refine (only_any R 116 (by decide) lR _).mono ?_; rintro e w4 ⟨rfl, hb4⟩))
      go_ret
      exact ⟨ret_bool' HE.out.symm, bl_trans (bl_trans (bl_trans hbW.out hb2) hb3) hb4⟩
end Go.Proofs.YtknallkcengbbaaGreatDoor
