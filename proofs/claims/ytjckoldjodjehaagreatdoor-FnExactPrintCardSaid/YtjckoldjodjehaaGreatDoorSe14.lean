import Derived.Test.YtjckoldjodjehaaGreatDoorSe13
import Derived.Test.YtjckoldjodjehaaGreatDoorSe12
namespace Go.Proofs.YtjckoldjodjehaaGreatDoor
set_option linter.unusedVariables false
set_option linter.unusedSimpArgs false
section
open Go.RowKit
def sl {α : Type} (f : α → α → Bool) (L M : List α) : Bool := decide (L.length = M.length) && (L.zip M).all (fun p => f p.1 p.2)
theorem sl_len {α : Type} {f : α → α → Bool} {L M : List α} (h : ¬ L.length = M.length) : false = sl f L M := by simp [sl, h]
theorem sl_at {α : Type} {f : α → α → Bool} {L M : List α} {j : Nat} {a b : α} (ha : L[j]? = some a) (hb : M[j]? = some b) (h : f a b = false) : false = sl f L M := by
 have hz : (L.zip M)[j]? = some (a, b) := by rw [List.getElem?_zip_eq_some]; exact ⟨ha, hb⟩
 have hm := List.mem_of_getElem? hz
 cases hs : sl f L M
 ·
  rfl
 simp only [sl, Bool.and_eq_true, List.all_eq_true] at hs
 have := hs.2 _ hm
 simp only at this
 rw [h] at this
 cases this
theorem sl_all {α : Type} {f : α → α → Bool} {L M : List α} (hn : L.length = M.length) (h : ∀ (j : Nat) a b, j < L.length → L[j]? = some a → M[j]? = some b → f a b = true) : true = sl f L M := by
 symm
 simp only [sl, Bool.and_eq_true, List.all_eq_true, decide_eq_true_eq]
 refine ⟨hn, fun p hp => ?_⟩
 obtain ⟨j, hj⟩ := List.mem_iff_getElem?.1 hp
 obtain ⟨a, b⟩ := p
 rw [List.getElem?_zip_eq_some] at hj
 exact h j a b (List.getElem?_eq_some_iff.1 hj.1).1 hj.1 hj.2
def eqI (a b : Int) : Bool := a == b
set_option maxHeartbeats 4000000 in
theorem equalI_any (s t : Option Addr) (c d : Nat) (L M : List Int) (B C : Nat) (w : World) (hs : Els 1 cInt w B s L) (ht : Els 1 cInt w C t M) (hl : L.length ≤ 1048576) (hl2 : M.length ≤ 1048576) :
  Calls Tryz.prog 34 #[.slice s L.length c, .slice t M.length d] w fun e w' => e = .returned (.bool (sl eqI L M)) ∧ Below w.heap.size w w' := by
 have hal := alloc_old
 have haf := alloc_oldf
 by_cases hn : L.length = M.length
 ·
  have t0 : ((L.length : Int) != (M.length : Int)) = false := by simp [hn]
  have HN : Hid (L.length = M.length) := hn
  clear hn; go_enter Tryz.func34, Tryz.ntmps34
  go_wp2_with fail; clear t0; go_loopw [13] (fun i wr => ∃ k : Nat, k ≤ L.length ∧ i = .int .i64 k ∧ Hid (∀ (j : Nat) a b, j < k → L[j]? = some a → M[j]? = some b → eqI a b = true) ∧ Below w.heap.size w wr) (fun i _ => L.length - (intOf i).toNat)
  case atStart => exact ⟨0, Nat.zero_le _, rfl, fun j a b hj => by omega, Below.refl _ _⟩
  obtain ⟨k, hk, rfl, hall, hb⟩ := hrel
  by_cases hlt : k < L.length
  ·
   have hltM : k < M.length := by have := HN.out; omega
   obtain ⟨a, ha⟩ := get_some hlt
   obtain ⟨b, hb0⟩ := get_some hltM
   obtain ⟨b1, o1, rfl, _, hpb1, eb1⟩ := eInt_cells (hs.later cInt_keeps hb) ha
   obtain ⟨b2, o2, rfl, _, hpb2, eb2⟩ := eInt_cells (ht.later cInt_keeps hb) hb0
   have HA : Hid (L[k]? = some a) := ha
   have HB : Hid (M[k]? = some b) := hb0
   clear hs ht ha hb0; cases hf : eqI a b
   ·
    have E0 : Hid (false = sl eqI L M) := sl_at HA.out HB.out hf
    have g : (a != b) = true := by simp [eqI] at hf; simp [hf]
    clear hf; go_wp2_with fail; go_region
    all_goals
     go_wp2_with fail; go_ret; refine ⟨ret_bool' E0.out, ?_⟩
     exact blq
   have hst : Hid (∀ (j : Nat) a b, j < k + 1 → L[j]? = some a → M[j]? = some b → eqI a b = true) := by
    intro j a' b' hj ha' hb'
    by_cases e : j = k
    ·
     subst e
     rw [HA.out] at ha'
     rw [HB.out] at hb'
     cases ha'
     cases hb'
     exact hf
    exact hall.out j a' b' (by omega) ha' hb'
   have g : a = b := by simpa [eqI] using hf
   subst g
   clear hf; go_wp2_with fail; go_region
   all_goals
    go_wp2_with fail; go_roundw
    case rel =>
     refine ⟨k + 1, by omega, by go_num, hst, ?_⟩
     exact blq
    case measure => simp [intOf]; omega
  have E0 : Hid (true = sl eqI L M) := sl_all HN.out (fun j a b hj ha hb => hall.out j a b (by omega) ha hb)
  go_wp2_with fail; go_ret; exact ⟨ret_bool' E0.out, hb⟩
 have t0 : ((L.length : Int) != (M.length : Int)) = true := by simp; omega
 go_enter Tryz.func34, Tryz.ntmps34
 go_wp2_with fail; go_ret; exact ⟨ret_bool' (sl_len hn), Below.refl _ _⟩
end
section
open Go.RowKit
theorem sl_eqI {L M : List Int} : sl eqI L M = decide (L = M) := by
 unfold sl
 by_cases h : L = M
 ·
  subst h
  have : ∀ l : List Int, (l.zip l).all (fun p => eqI p.1 p.2) = true := by
   intro l
   induction l with
   | nil => rfl
   | cons a l ih => simp [eqI] at ih ⊢; exact ih
  simp [this]
 rw [decide_eq_false h]
 by_cases hl : L.length = M.length
 ·
  rw [decide_eq_true hl, Bool.true_and]
  cases hz : (L.zip M).all (fun p => eqI p.1 p.2) with
  | false => rfl
  | true =>
   exfalso
   apply h
   refine List.ext_getElem hl fun i h1 h2 => ?_
   rw [List.all_eq_true] at hz
   have := hz (L[i], M[i]) (by rw [List.mem_iff_getElem]; exact ⟨i, by simp; omega, by simp⟩)
   simpa [eqI] using this
 rw [decide_eq_false hl]; rfl
theorem OI.take {w : World} {B : Nat} {s : Option Addr} {c : Nat} {A : List Int} (h : OI w B (.slice s A.length c) A) (r : Nat) (hr : r ≤ A.length) : OI w B (.slice s (A.take r).length c) (A.take r) := by
 have hl : (A.take r).length = r := by simp; omega
 rcases h.2 with ⟨h1, h2⟩ | ⟨g, cap, cur, h1, hb, hg, hc, hm, hsz, ht⟩
 ·
  have h3 : r = 0 := by omega
  subst h3
  simp only [Value.slice.injEq] at h1
  obtain ⟨rfl, _, rfl⟩ := h1
  exact OI.nil _ _
 simp only [Value.slice.injEq] at h1
 obtain ⟨rfl, _, rfl⟩ := h1
 refine ⟨by simp, Or.inr ⟨g, c, cur, rfl, hb, hg, by omega, hm, hsz, ?_⟩⟩
 rw [hl, List.map_take, ← ht, List.take_take]
 congr 1
 omega
theorem Tryz.htI : Tryz.prog.underlying 23 = some (.slice (Tryz.prog.elem 23)) := by kernel_rfl
theorem slice_tail {w : World} {B : Nat} {s : Option Addr} {c : Nat} {A : List Int} (h : OI w B (.slice s A.length c) A) (r : Nat) (hr : r ≤ A.length) :
  ∃ s8 c8, (∀ W, (Instr.slice 23 (.slice s A.length c) (some (.int .i64 (r : Int))) none none).run Tryz.prog W = .ok (.slice s8 (A.drop r).length c8) W) ∧ Els 1 cInt w B s8 (A.drop r) := by
 have hrun : ∀ W, (Instr.slice 23 (.slice s A.length c) (some (.int .i64 (r : Int))) none none).run Tryz.prog W = .ok (sliced s r A.length c 1) W := by
  intro W
  rw [run_slice_l (P := Tryz.prog) W 23 s A.length c Tryz.htI .i64 (r : Int) (by omega) (by omega)]
  have e1 : (Go.sizeOf (Tryz.prog.elem 23)).run Tryz.prog W = .ok 1 W := by kernel_rfl
  rw [e1]
  simp [Result.andThen]
 refine ⟨if c = r then s else s.map (·.add (r * 1)), c - r, fun W => (hrun W).trans ?_, ?_⟩
 ·
  unfold sliced
  rw [List.length_drop]
 rcases h.els with h0 | ⟨b, o, rfl, h1, h2, h3, hz⟩
 ·
  exact Or.inl (by simp [h0])
 by_cases e : c = r
 ·
  have := h.cap
  exact Or.inl (List.drop_eq_nil_of_le (by omega))
 rw [if_neg e]
 refine Or.inr ⟨b, o + r, by simp [Addr.add, Nat.add_comm], h1, h2, fun j a ha => ?_, hz⟩
 rw [List.getElem?_drop] at ha
 obtain ⟨cs, e1, e2, e3⟩ := h3 (r + j) a ha
 refine ⟨cs, e1, fun i u hu => ?_, e3⟩
 have := e2 i u hu
 rw [show o + r + j * 1 + i = o + (r + j) * 1 + i by omega]
 exact this
theorem slice_head {w : World} {B : Nat} {s : Option Addr} {c : Nat} {A : List Int} (h : OI w B (.slice s A.length c) A) (r : Nat) (hr : r ≤ A.length) :
  ∀ W, (Instr.slice 23 (.slice s A.length c) none (some (.int .i64 (r : Int))) none).run Tryz.prog W = .ok (.slice s r c) W := by
 intro W
 have hc := h.cap
 rw [run_slice_h (P := Tryz.prog) W 23 s A.length c Tryz.htI .i64 (r : Int) (by omega) (by omega)]
 have e1 : (Go.sizeOf (Tryz.prog.elem 23)).run Tryz.prog W = .ok 1 W := by kernel_rfl
 rw [e1]
 unfold sliced
 cases s <;> simp [Result.andThen, Addr.add]
theorem tre_run {t : Tre} (h : treP t) : Run (kidsOf t) (okN t) 0 t.nodes.length [] t.tops := run_fit.2 h.2.1
theorem tre_step {t : Tre} {k : Nat} {A : List Int} {nd : Nd} (hR : Run (kidsOf t) (okN t) 0 k [] A) (hnd : t.nodes[k]? = some nd) (h : treP t) : okN t k ∧ ∃ A0, A = A0 ++ nd.kids := by
 have hk : k < t.nodes.length := (List.getElem?_eq_some_iff.1 hnd).1
 obtain ⟨l1, g1, g2⟩ := Run.split (Nat.zero_le k) (tre_run h) (by omega)
 obtain rfl := hR.same g1
 cases g2 with
 | nil => omega
 | cons _ _ _ l2 _ h1 _ =>
  obtain ⟨h2, A0, h3, _⟩ := h1
  rw [kidsOf_some hnd] at h3
  exact ⟨h2, A0, h3⟩
theorem run_next {t : Tre} {k : Nat} {A0 : List Int} {nd : Nd} (hR : Run (kidsOf t) (okN t) 0 k [] (A0 ++ nd.kids)) (hnd : t.nodes[k]? = some nd) (hok : okN t k) : Run (kidsOf t) (okN t) 0 (k + 1) [] (A0 ++ [(k : Int)]) :=
 hR.trans (Run.one ⟨hok, A0, by rw [kidsOf_some hnd], rfl⟩)
theorem run_valid {t : Tre} {k : Nat} {A : List Int} (hR : Run (kidsOf t) (okN t) 0 k [] A) : ∀ x ∈ A, ∃ m : Nat, x = m ∧ m < k := hR.mem (fun x hx => by cases hx)
theorem tops_role {t : Tre} {A : List Int} (hv : ∀ x ∈ A, ∃ m : Nat, x = m ∧ m < t.nodes.length) : (∀ (j : Nat) (x : Int), A[j]? = some x → ∃ (m : Nat) (nd : Nd), x = m ∧ t.nodes[m]? = some nd ∧ clsOk 9 nd.kind) ↔ ∀ b ∈ (A.map (kkAt t)).map rl, b = 116 := by
 constructor
 ·
  intro h b hb
  simp only [List.mem_map] at hb
  obtain ⟨y, ⟨x, hx, rfl⟩, rfl⟩ := hb
  obtain ⟨j, hj⟩ := List.mem_iff_getElem?.1 hx
  obtain ⟨m, nd, rfl, e1, e2⟩ := h j x hj
  have := (clsOk_rl nd.kind 9 (by omega) (by omega)).1 e2
  simp [kkAt, e1]
  exact this
 intro h j x hx
 obtain ⟨m, rfl, hm⟩ := hv x (List.mem_of_getElem? hx)
 refine ⟨m, t.nodes[m], rfl, by simp [hm], (clsOk_rl _ 9 (by omega) (by omega)).2 ?_⟩
 have := h (rl (kkAt t m)) (List.mem_map.2 ⟨_, List.mem_map.2 ⟨_, List.mem_of_getElem? hx, rfl⟩, rfl⟩)
 simp [kkAt, hm] at this
 exact this
theorem kidB_get {k : Int} {ks : List Int} (h : kidB k ks = true) : KidsP k ks := by
 by_cases g : KidsP k ks
 ·
  exact g
 rw [kidB_false g] at h; cases h
set_option maxRecDepth 100000 in
set_option maxHeartbeats 8000000 in
theorem implTreeOk_any (t : Tre) (s1 s2 : Option Addr) (c1 c2 B : Nat) (w : World) (hT : InT w B s1 s2 t) (hkt : kTre t) :
  Calls Tryz.prog 16 #[.agg #[.slice s1 t.nodes.length c1, .slice s2 t.tops.length c2]] w fun e w' => e = .returned (.bool (treB t)) ∧ Below w.heap.size w w' := by
 have hal := alloc_old
 have haf := alloc_oldf
 have k0 := Blk.new w #[.slice s1 t.nodes.length c1, .slice s2 t.tops.length c2] 31
 have L0 := bl_alloc (Below.refl _ w) (.cells #[.slice s1 t.nodes.length c1, .slice s2 t.tops.length c2] 31)
 obtain ⟨x0, x1, x2⟩ := k0.two
 have hn := hkt.1.1
 have ht := hkt.2
 have HKN : Hid (∀ n ∈ t.nodes, kNode n) := hkt.1.2
 have HT : Hid (InT w B s1 s2 t) := hT
 clear hkt hT; by_cases h4 : t.nodes.length ≤ 4000
 rotate_left
 ·
  have q1 : decide ((4000 : Int) < (t.nodes.length : Int)) = true := by simp; omega
  have HE : Hid (treB t = false) := treB_false fun h => h4 h.1
  clear h4; go_enter Tryz.func16, Tryz.ntmps16
  go_wp2_with fail; go_ret; exact ⟨ret_bool' HE.out.symm, L0⟩
 have q1 : decide ((4000 : Int) < (t.nodes.length : Int)) = false := by simp; omega
 go_enter Tryz.func16, Tryz.ntmps16
 go_wp2_with fail; refine (wordSet_any _).mono ?_
 rintro e W1 ⟨rfl, hown, hb1⟩
 have e1 : (w.alloc (.cells #[.slice s1 t.nodes.length c1, .slice s2 t.tops.length c2] 31)).heap.size = w.heap.size + 1 := by simp
 rw [e1] at hown ⊢
 have L1 : Hid (Below w.heap.size w W1) := bl_trans L0 hb1
 have K1 : Hid (Blk W1 w.heap.size #[.slice s1 t.nodes.length c1, .slice s2 t.tops.length c2] 31) := k0.later hb1
 have HM : Hid (W1.ownsMap Tryz.prog 9 (unitElem (H := Unit)) (w.heap.size + 1) 32 (wordMap words (.map []))) := hown
 have sz1 : w.heap.size + 2 ≤ W1.heap.size := by have := hown.lt; omega
 clear hown hb1 e1 L0 k0 x0 x1 x2; obtain ⟨x0, x1, x2⟩ := K1.out.two
 go_wp2_with fail; go_loopw [4, 16] (fun v i wr => ∃ (k : Nat) (A : List Int) (sa : Option Addr) (ca : Nat), k ≤ t.nodes.length ∧ i = .int .i64 k ∧ v = .slice sa A.length ca ∧ Hid (Run (kidsOf t) (okN t) 0 k [] A) ∧ Hid (OI wr W1.heap.size (.slice sa A.length ca) A) ∧ Hid (Below W1.heap.size W1 wr)) (fun _ i _ => t.nodes.length - (intOf i).toNat)
 case atStart => exact ⟨0, [], none, 0, Nat.zero_le _, rfl, rfl, Run.nil _ _, OI.nil _ _, Below.refl _ _⟩
 clear x0 x1 x2; obtain ⟨k, A, sa, ca, hk, rfl, rfl, hRun, hO, hb⟩ := hrel
 have lA : A.length ≤ 4000 := by have := hRun.out.len; simp at this; omega
 have hbW : Hid (Below w.heap.size w wr) := Below.trans L1.out (by have := hb.out; exact ⟨this.os, this.tape, this.output, this.size, fun j hj => this.block j (by omega)⟩)
 by_cases hlt : k < t.nodes.length
 ·
  obtain ⟨nd, hnd⟩ := get_some hlt
  have hkd := HKN.out nd (List.mem_of_getElem? hnd)
  obtain ⟨hkt, hkl⟩ := hkd
  obtain ⟨b, o, rfl, _, hp, s9, c9, e0, e1, e2, e3, hK⟩ := eNode_cells HT.out.n hnd
  have z0 := (hbW.out.cell (p := ⟨b, o + k * 4, none⟩) hp).trans e0
  have z1 := (hbW.out.cell (p := ⟨b, o + k * 4 + 1, none⟩) hp).trans e1
  have z2 := (hbW.out.cell (p := ⟨b, o + k * 4 + 2, none⟩) hp).trans e2
  have z3 := (hbW.out.cell (p := ⟨b, o + k * 4 + 3, none⟩) hp).trans e3
  have HND : Hid (t.nodes[k]? = some nd) := hnd
  have hkI : (k : Int) < (t.nodes.length : Int) := by omega
  clear hnd e0 e1 e2 e3; have kN := Blk.new wr #[.int .i64 nd.kind, .string nd.text, .int .i64 nd.num, .slice s9 nd.kids.length c9] 66
  have LX := bl_alloc (Below.refl _ wr) (.cells #[.int .i64 nd.kind, .string nd.text, .int .i64 nd.num, .slice s9 nd.kids.length c9] 66)
  go_upto_region 8 with fail
  generalize hX : wr.alloc (.cells #[.int .i64 nd.kind, .string nd.text, .int .i64 nd.num, .slice s9 nd.kids.length c9] 66) = X at kN LX ⊢
  clear hX z0 z1 z2 z3; have ltN : wr.heap.size < X.heap.size := kN.lt
  obtain ⟨n0, n1, n2, n3, n4⟩ := kN.four'
  have hOX : Hid (OI X W1.heap.size (.slice sa A.length ca) A) := hO.out.later LX
  have hbX : Hid (Below W1.heap.size W1 X) := bl_trans hb.out LX
  have HBX : Hid (Below w.heap.size w X) := bl_trans hbW.out LX
  have HKX : Hid (Els 1 cInt X B s9 nd.kids) := hK.later cInt_keeps HBX.out
  have szX : W1.heap.size ≤ X.heap.size := hbX.out.size
  clear hK; by_cases hle : nd.kids.length ≤ A.length
  rotate_left
  ·
   have tw : IntKind.i64.wrap ((A.length : Int) - (nd.kids.length : Int)) = (A.length : Int) - (nd.kids.length : Int) := by rw [IntKind.wrap_i64]; omega
   have q2 : decide ((A.length : Int) - (nd.kids.length : Int) < 0) = true := by simp; omega
   have HE : Hid (treB t = false) := treB_false fun h => by
    obtain ⟨_, A0, h6⟩ := tre_step hRun.out HND.out h
    have := congrArg List.length h6
    simp at this
    omega
   clear hle; go_upto_region 9 with fail
   refine wp_region_held_drew (S := (fun _ => True)) (by kernel_rfl) ?_ (fun hHeld => ?_)
   ·
    trivial
   refine wpr 0 27 ?_; simp only [zs]; refine wpr 1 28 ?_; simp only [zs]; refine wpr 2 29 ?_; simp only [zs]; refine wpAnyH_skip (by kernel_rfl) (fun _ _ _ _ h => h) [(3, 30), (4, 31), (5, 32), (6, 33), (7, 34), (8, 35), (9, 36)] 1 _ _ _ (by assumption) (by kernel_rfl) ?_ _ rfl
   simp only [zs]; refine wpr 10 37 ?_; simp only [zs]; refine wpAnyH_done (by kernel_rfl) ?_ _
   go_wp2_with fail; go_ret; exact ⟨ret_bool' HE.out.symm, bl_drew HBX.out⟩
  obtain ⟨A0, HA0⟩ : ∃ A0, Hid (A.take (A.length - nd.kids.length) = A0) := ⟨_, rfl⟩
  have lA0 : A0.length + nd.kids.length = A.length := by rw [← HA0.out]; simp; omega
  have hr0 : A0.length ≤ A.length := by omega
  have tw : IntKind.i64.wrap ((A.length : Int) - (nd.kids.length : Int)) = (A0.length : Int) := by rw [IntKind.wrap_i64]; omega
  have q2 : decide ((A0.length : Int) < 0) = false := by simp
  obtain ⟨s8, c8, hsl, hE8⟩ := slice_tail hOX.out A0.length hr0
  obtain ⟨D, HD⟩ : ∃ D, Hid (A.drop A0.length = D) := ⟨_, rfl⟩
  have lD : D.length ≤ 4000 := by rw [← HD.out]; simp; omega
  rw [HD.out] at hsl hE8
  have HE8 : Hid (Els 1 cInt X W1.heap.size s8 D) := hE8
  have hsh := slice_head hOX.out A0.length hr0
  have HA : Hid (A.take A0.length = A0) := by
   show _ = _
   have h7 := HA0.out
   rw [show A.length - nd.kids.length = A0.length by omega] at h7
   exact h7
  have hO0 : Hid (OI X W1.heap.size (.slice sa A0.length ca) A0) := by
   have := hOX.out.take A0.length hr0
   rw [HA.out] at this
   exact this
  have HLA : Hid (A0.length + nd.kids.length = A.length) := lA0
  have lA1 : A0.length ≤ 4000 := by omega
  have lK1 : nd.kids.length ≤ 4000 := by omega
  clear hE8 hle lA0; by_cases heq : D = nd.kids
  rotate_left
  ·
   have qe : decide (D = nd.kids) = false := decide_eq_false heq
   have HE : Hid (treB t = false) := treB_false fun h => by
    obtain ⟨_, A9, h6⟩ := tre_step hRun.out HND.out h
    have h7 := congrArg List.length h6
    simp at h7
    have lA0 := HLA.out
    apply heq
    rw [← HD.out, h6, List.drop_left' (by omega)]
   clear heq hsh; go_upto_region 9 with fail
   refine wp_region_held_drew (S := (fun w' => w'.cell? ⟨wr.heap.size, 3, none⟩ = some (.slice s9 nd.kids.length c9))) (by kernel_rfl) ?_ (fun hHeld => ?_)
   ·
    exact n3
   refine wpr 0 27 ?_; simp only [zs]; refine wpr 1 28 ?_; simp only [zs]; refine wpr 2 29 ?_; simp only [zs]; refine wpr 3 30 ?_; simp only [zs]; refine wpr 4 31 ?_; simp only [zs]; refine wpr 5 32 ?_; simp only [zs]; refine wpr 6 33 ?_; simp only [zs]; refine wpr 7 34 ?_; simp only [zs]; refine wpy 8 fun K hK => ?_
   go_simp; refine (equalI_any s8 s9 c8 c9 D nd.kids W1.heap.size B _ (HE8.out.later cInt_keeps (bl_drew (Below.refl _ _))) (HKX.out.later cInt_keeps (bl_drew (Below.refl _ _))) (by omega) hkl).mono ?_
   rintro e w2 ⟨rfl, hb2⟩
   rw [sl_eqI, qe]
   have hb2 : Below X.heap.size X w2 := bl_trans (bl_drew (Below.refl _ _)) hb2
   have n3 := (hb2.cell (p := ⟨wr.heap.size, 3, none⟩) ltN).trans n3
   refine hK.out _ _ ?_ (fun hHeld => ?_)
   ·
    exact n3
   clear hK K; try simp only [zs]
   refine wpr 9 36 ?_; simp only [zs]; refine wpr 10 37 ?_; simp only [zs]; refine wpAnyH_done (by kernel_rfl) ?_ _
   go_wp2_with fail; go_ret; exact ⟨ret_bool' HE.out.symm, bl_trans HBX.out hb2⟩
  have qe : decide (D = nd.kids) = true := decide_eq_true heq
  have HAA : Hid (A = A0 ++ nd.kids) := by
   show _ = _
   have h7 := (List.take_append_drop A0.length A).symm
   rw [HA.out, HD.out, heq] at h7
   exact h7
  have HVK : Hid (∀ x ∈ nd.kids, ∃ m : Nat, x = m ∧ m < t.nodes.length) := fun x hx => by
   obtain ⟨m, e, hm⟩ := run_valid hRun.out x (by rw [HAA.out]; simp [hx])
   exact ⟨m, e, by omega⟩
  clear heq; go_upto_region 9 with fail
  refine wp_region_held_drew (S := (fun w' => w'.cell? ⟨wr.heap.size, 3, none⟩ = some (.slice s9 nd.kids.length c9))) (by kernel_rfl) ?_ (fun hHeld => ?_)
  ·
   exact n3
  refine wpr 0 27 ?_; simp only [zs]; refine wpr 1 28 ?_; simp only [zs]; refine wpr 2 29 ?_; simp only [zs]; refine wpr 3 30 ?_; simp only [zs]; refine wpr 4 31 ?_; simp only [zs]; refine wpr 5 32 ?_; simp only [zs]; refine wpr 6 33 ?_; simp only [zs]; refine wpr 7 34 ?_; simp only [zs]; refine wpy 8 fun K hK => ?_
  go_simp; refine (equalI_any s8 s9 c8 c9 D nd.kids W1.heap.size B _ (HE8.out.later cInt_keeps (bl_drew (Below.refl _ _))) (HKX.out.later cInt_keeps (bl_drew (Below.refl _ _))) (by omega) hkl).mono ?_
  rintro e w2 ⟨rfl, hb2⟩
  rw [sl_eqI, qe]
  have hb2 : Below X.heap.size X w2 := bl_trans (bl_drew (Below.refl _ _)) hb2
  have n3 := (hb2.cell (p := ⟨wr.heap.size, 3, none⟩) ltN).trans n3
  refine hK.out _ _ ?_ (fun hHeld => ?_)
  ·
   exact n3
  clear hK K; try simp only [zs]
  refine wpr 9 36 ?_; simp only [zs]; refine wpr 10 37 ?_; simp only [zs]; refine wpAnyH_done (by kernel_rfl) ?_ _
  clear hsl HE8; replace kN := kN.later hb2
  have HO2 : Hid (OI w2 W1.heap.size (.slice sa A0.length ca) A0) := hO0.out.later hb2
  have HB2 : Hid (Below W1.heap.size W1 w2) := bl_trans hbX.out hb2
  have HW2 : Hid (Below w.heap.size w w2) := bl_trans HBX.out hb2
  have hM2 : Hid (w2.ownsMap Tryz.prog 9 (unitElem (H := Unit)) (w.heap.size + 1) 32 (wordMap words (.map []))) := HM.out.kept (grown_of_below HB2.out) (by simp)
  have K2 : Hid (Blk w2 w.heap.size #[.slice (some ⟨b, o, none⟩) t.nodes.length c1, .slice s2 t.tops.length c2] 31) := K1.out.later HB2.out
  have HK2 : Hid (Els 1 cInt w2 B s9 nd.kids) := HKX.out.later cInt_keeps hb2
  have HN2 : Hid (Els 4 cNode w2 B (some ⟨b, o, none⟩) t.nodes) := HT.out.n.later cNode_keeps HW2.out
  clear n0 n1 n2 n3 n4 hb2 hOX hbX HBX HKX hO hb; obtain ⟨n0, n1, n2, n3, n4⟩ := kN.four'
  obtain ⟨x0, x1, x2⟩ := K2.out.two
  cases qt : tfB nd.kind nd.text
  ·
   have HE : Hid (treB t = false) := treB_false fun h => by have h5 := (okN_kids HND.out HVK.out).1 (tre_step hRun.out HND.out h).1; rw [has_split] at h5; rw [qt] at h5; simp at h5
   go_wp2_with (go_at_call 35; refine (textFits_any nd.kind nd.text hkt nd.num s9 nd.kids.length c9 (w.heap.size + 1) _ hM2.out).mono ?_; rintro e w3 ⟨rfl, hb3⟩; rw [qt]; obtain ⟨n0, n1, n2, n3, n4⟩ := (kN.later hb3).four'; obtain ⟨x0, x1, x2⟩ := (K2.out.later hb3).two)
   go_ret; exact ⟨ret_bool' HE.out.symm, bl_trans HW2.out hb3⟩
  cases qn : nfB nd.kind nd.num
  ·
   have HE : Hid (treB t = false) := treB_false fun h => by have h5 := (okN_kids HND.out HVK.out).1 (tre_step hRun.out HND.out h).1; rw [has_split] at h5; rw [qn] at h5; simp at h5
   go_wp2_with (first | (go_at_call 35; refine (textFits_any nd.kind nd.text hkt nd.num s9 nd.kids.length c9 (w.heap.size + 1) _ hM2.out).mono ?_; rintro e w3 ⟨rfl, hb3⟩; rw [qt]; obtain ⟨n0, n1, n2, n3, n4⟩ := (kN.later hb3).four'; obtain ⟨x0, x1, x2⟩ := (K2.out.later hb3).two) | (go_at_call 36; refine (numberFits_any nd.kind nd.text nd.num s9 nd.kids.length c9 _).mono ?_; rintro e w4 ⟨rfl, hb4⟩; rw [qn]; obtain ⟨n0, n1, n2, n3, n4⟩ := ((kN.later hb3).later hb4).four'; obtain ⟨x0, x1, x2⟩ := ((K2.out.later hb3).later hb4).two))
   go_ret; exact ⟨ret_bool' HE.out.symm, bl_trans (bl_trans HW2.out hb3) hb4⟩
  cases qk : kidB nd.kind (nd.kids.map (kkAt t))
  ·
   have HE : Hid (treB t = false) := treB_false fun h => by have h5 := (okN_kids HND.out HVK.out).1 (tre_step hRun.out HND.out h).1; rw [has_split] at h5; have h6 := kidB_true h5.2; rw [qk] at h6; cases h6
   go_wp2_with (first | (go_at_call 35; refine (textFits_any nd.kind nd.text hkt nd.num s9 nd.kids.length c9 (w.heap.size + 1) _ hM2.out).mono ?_; rintro e w3 ⟨rfl, hb3⟩; rw [qt]; obtain ⟨n0, n1, n2, n3, n4⟩ := (kN.later hb3).four'; obtain ⟨x0, x1, x2⟩ := (K2.out.later hb3).two) | (go_at_call 36; refine (numberFits_any nd.kind nd.text nd.num s9 nd.kids.length c9 _).mono ?_; rintro e w4 ⟨rfl, hb4⟩; rw [qn]; obtain ⟨n0, n1, n2, n3, n4⟩ := ((kN.later hb3).later hb4).four'; obtain ⟨x0, x1, x2⟩ := ((K2.out.later hb3).later hb4).two) | (go_at_call 37; refine (kidsFit_any nd.kind t nd.text nd.num s9 (some ⟨b, o, none⟩) c9 c1 nd.kids B B _ ((HK2.out.later cInt_keeps hb3).later cInt_keeps hb4) ((HN2.out.later cNode_keeps hb3).later cNode_keeps hb4) HVK.out hkl hn).mono ?_; rintro e w5 ⟨rfl, hb5⟩; rw [qk]))
   go_ret; exact ⟨ret_bool' HE.out.symm, bl_trans (bl_trans (bl_trans HW2.out hb3) hb4) hb5⟩
  have HOK : Hid (okN t k) := (okN_kids HND.out HVK.out).2 ⟨by rw [has_split, qt, qn]; rfl, kidB_get qk⟩
  go_upto_region 13 with (first | (go_at_call 35; refine (textFits_any nd.kind nd.text hkt nd.num s9 nd.kids.length c9 (w.heap.size + 1) _ hM2.out).mono ?_; rintro e w3 ⟨rfl, hb3⟩; rw [qt]; obtain ⟨n0, n1, n2, n3, n4⟩ := (kN.later hb3).four'; obtain ⟨x0, x1, x2⟩ := (K2.out.later hb3).two) | (go_at_call 36; refine (numberFits_any nd.kind nd.text nd.num s9 nd.kids.length c9 _).mono ?_; rintro e w4 ⟨rfl, hb4⟩; rw [qn]; obtain ⟨n0, n1, n2, n3, n4⟩ := ((kN.later hb3).later hb4).four'; obtain ⟨x0, x1, x2⟩ := ((K2.out.later hb3).later hb4).two) | (go_at_call 37; refine (kidsFit_any nd.kind t nd.text nd.num s9 (some ⟨b, o, none⟩) c9 c1 nd.kids B B _ ((HK2.out.later cInt_keeps hb3).later cInt_keeps hb4) ((HN2.out.later cNode_keeps hb3).later cNode_keeps hb4) HVK.out hkl hn).mono ?_; rintro e w5 ⟨rfl, hb5⟩; rw [qk]))
  have hb25 : Below w2.heap.size w2 w5 := bl_trans (bl_trans hb3 hb4) hb5
  obtain ⟨R2, hR2⟩ : ∃ R2, Hid (A0 ++ [(k : Int)] = R2) := ⟨_, (rfl : A0 ++ [(k : Int)] = _)⟩
  have hb6 : Below W1.heap.size W1 (w5.alloc (.cells #[.int .i64 (k : Int)] 3)) := bl_alloc (bl_trans HB2.out hb25) _
  have hO6 : Hid (OI (w5.alloc (.cells #[.int .i64 (k : Int)] 3)) W1.heap.size (.slice sa A0.length ca) A0) := (HO2.out.later hb25).later (bl_alloc (Below.refl _ _) _)
  have E6 : Hid (Els 1 cInt (w5.alloc (.cells #[.int .i64 (k : Int)] 3)) w5.heap.size (some ⟨w5.heap.size, 0, none⟩) [(k : Int)]) := Els.one (Blk.new w5 #[.int .i64 (k : Int)] 3)
  clear n0 n1 n2 n3 n4 x0 x1 x2 hb3 hb4 hb5 hb25 kN HK2 HN2 hM2; go_wp2_with (at_builtin; refine wpList_append_ints rfl _ _ rfl W1.heap.size sa ca A0 rfl hO6.out w5.heap.size _ 1 [(k : Int)] rfl E6.out R2 hR2.out (by simp; omega) hb6.size ?_; intro s' c' w7 hO7 hg7 hn7)
  have hO7 : Hid (OI w7 W1.heap.size (.slice s' R2.length c') R2) := hO7
  have hb7 : Hid (Below W1.heap.size W1 w7) := grown_oi hb6 hb6.size hO6.out hg7
  clear hg7 hn7 hO6 E6 hb6; go_wp2_with fail; go_roundw
  case rel =>
   refine ⟨k + 1, R2, s', c', by omega, by go_num, rfl, ?_, hO7, hb7⟩
   have h8 := hRun.out
   rw [HAA.out] at h8
   have h9 := run_next h8 HND.out HOK.out
   rw [hR2.out] at h9
   exact h9
  case measure => simp [intOf]; omega
 have hkn : k = t.nodes.length := by omega
 have hR9 := hRun.out
 rw [hkn] at hR9
 have HR9 : Hid (Run (kidsOf t) (okN t) 0 t.nodes.length [] A) := hR9
 have HV : Hid (∀ x ∈ A, ∃ m : Nat, x = m ∧ m < t.nodes.length) := run_valid hR9
 have H4 : Hid (t.nodes.length ≤ 4000) := h4
 have KZ : Hid (Blk wr w.heap.size #[.slice s1 t.nodes.length c1, .slice s2 t.tops.length c2] 31) := K1.out.later hb.out
 have hkI : ¬ (k : Int) < (t.nodes.length : Int) := by omega
 clear hR9 hkn; obtain ⟨x0, x1, x2⟩ := KZ.out.two
 by_cases heq : A = t.tops
 rotate_left
 ·
  have qe : decide (A = t.tops) = false := decide_eq_false heq
  have HE : Hid (treB t = false) := treB_false fun h => heq (HR9.out.same (tre_run h))
  clear heq; go_wp2_with (go_at_call 34; refine (equalI_any sa s2 ca c2 A t.tops W1.heap.size B _ hO.out.els (HT.out.t.later cInt_keeps hbW.out) (by omega) ht).mono ?_; rintro e w2 ⟨rfl, hb2⟩; rw [sl_eqI, qe])
  go_ret; exact ⟨ret_bool' HE.out.symm, bl_trans hbW.out hb2⟩
 have qe : decide (A = t.tops) = true := decide_eq_true heq
 obtain ⟨R, HRR⟩ : ∃ R, Hid ((A.map (kkAt t)).map rl = R) := ⟨_, rfl⟩
 have lR : R.length ≤ 1048576 := by rw [← HRR.out]; simp; omega
 have HE : Hid (treB t = decide (∀ b ∈ R, b = 116)) := by
  show _ = _
  by_cases hall : ∀ b ∈ R, b = 116
  ·
   rw [decide_eq_true hall]
   refine treB_true ⟨H4.out, ?_, ?_⟩
   ·
    rw [← heq]; exact run_fit.1 HR9.out
   rw [← heq]
   exact (tops_role HV.out).2 (by rw [HRR.out]; exact hall)
  rw [decide_eq_false hall]
  refine treB_false fun h => hall ?_
  have h6 := h.2.2
  rw [← heq] at h6
  have h7 := (tops_role HV.out).1 h6
  rw [HRR.out] at h7
  exact h7
 have HL : Hid (t.tops.length = A.length) := by show _ = _; rw [heq]
 clear heq; go_wp2_with (first | (go_at_call 34; refine (equalI_any sa s2 ca c2 A t.tops W1.heap.size B _ hO.out.els (HT.out.t.later cInt_keeps hbW.out) (by omega) ht).mono ?_; rintro e w2 ⟨rfl, hb2⟩; rw [sl_eqI, qe]; obtain ⟨x0, x1, x2⟩ := (KZ.out.later hb2).two) | (go_at_call 39; refine (rolesOf_any t sa s1 ca c1 A W1.heap.size B _ (hO.out.els.later cInt_keeps hb2) ((HT.out.n.later cNode_keeps hbW.out).later cNode_keeps hb2) HV.out (by omega) hn).mono ?_; rintro e w3 ⟨rfl, hb3⟩; rw [HRR.out]) | (go_at_call 38; refine (only_any R 116 (by decide) lR _).mono ?_; rintro e w4 ⟨rfl, hb4⟩))
 go_ret; exact ⟨ret_bool' HE.out.symm, bl_trans (bl_trans (bl_trans hbW.out hb2) hb3) hb4⟩
end
section
open Go.RowKit
set_option maxRecDepth 100000
noncomputable def prA (T : Tre) : ByteArray := if treB T = true then prS T T.tops else ⟨#[]⟩
theorem Nt.later {w w' : World} {B0 : Nat} {n1 : Option Addr} {T : Tre} (h : Nt w B0 n1 T) (hb : Below w.heap.size w w') : Nt w' B0 n1 T :=
 ⟨h.els.later cNodeC_keeps hb, h.k, ⟨fun q h1 h2 => ⟨(hb.cell (p := ⟨1, q, none⟩) (h.tb.k q h1 h2).2).trans (h.tb.k q h1 h2).1, Nat.lt_of_lt_of_le (h.tb.k q h1 h2).2 hb.size⟩, fun q h1 h2 => ⟨(hb.cell (p := ⟨0, q, none⟩) (h.tb.o q h1 h2).2).trans (h.tb.o q h1 h2).1, Nat.lt_of_lt_of_le (h.tb.o q h1 h2).2 hb.size⟩, fun q h1 h2 => ⟨(hb.cell (p := ⟨2, q, none⟩) (h.tb.u q h1 h2).2).trans (h.tb.u q h1 h2).1, Nat.lt_of_lt_of_le (h.tb.u q h1 h2).2 hb.size⟩⟩, h.pw.later hb⟩
theorem pr_start (w : World) (nv : Value) : Pr w (w.alloc (.cells #[nv, .slice none 0 0] 49)) w.heap.size nv (.slice none 0 0) [] :=
 ⟨Blk.new w _ _, World.ownsRow_nil _ _ _ _, by simp [Value.ownBlock], Nat.le_refl _, bl_alloc (Below.refl _ _) _⟩
set_option maxHeartbeats 32000000 in
theorem implPrint_any (T : Tre) (s1 s2 : Option Addr) (c1 c2 B : Nat) (w : World) (hT : InT w B s1 s2 T) (hG : Nt w B s1 T) (hm : ∀ n ∈ T.nodes, okI n.num) :
  Calls Tryz.prog 7 #[.agg #[.slice s1 T.nodes.length c1, .slice s2 T.tops.length c2]] w fun e w' => e = .returned (.tuple #[.string (prA T), .bool (treB T)]) ∧ Below w.heap.size w w' := by
 have hk := hG.k
 have k0 := Blk.new w #[.slice s1 T.nodes.length c1, .slice s2 T.tops.length c2] 31
 have L0 := bl_alloc (Below.refl _ w) (.cells #[.slice s1 T.nodes.length c1, .slice s2 T.tops.length c2] 31)
 obtain ⟨x0, x1, x2⟩ := k0.two
 have K0 := hid k0
 have BL0 := hid L0
 have HT := hid hT
 have HG := hid hG
 have HM := hid hm
 clear hT hG hm k0 L0; go_enter Tryz.func7, Tryz.ntmps7
 go_wp2_with fail; refine (implTreeOk_any T s1 s2 c1 c2 B _ (HT.out.later BL0.out) hk).mono ?_
 rintro e w1 ⟨rfl, hb1⟩
 have K1 := hid (K0.out.later hb1)
 have BL1 : Hid (Below w.heap.size w w1) := BL0.out.trans (hb1.mono BL0.out.size)
 clear hb1 x0 x1 x2; obtain ⟨x0, x1, x2⟩ := K1.out.two
 by_cases htr : treP T
 ·
  have hB := treB_true htr
  have hA : Hid (prA T = prS T T.tops) := by show _ = _; unfold prA; rw [if_pos hB]
  have HTR := hid htr
  have HB0 := hid hB
  rw [hB]
  clear hB htr; obtain ⟨a0, a1, a2⟩ := (K1.out.later (bl_alloc (Below.refl _ _) (.cells #[.pointer none, .slice none 0 0] 46))).two
  go_wp2_with fail; clear a0 a1 a2; go_loopw [14] (fun i wr => ∃ k : Nat, k ≤ T.tops.length ∧ i = .int .i64 k ∧ Hid (IsBu w1.heap.size w1.heap.size (Lib.strCells (prS T (T.tops.take k))) wr) ∧ Hid (Below w1.heap.size w1 wr)) (fun i _ => T.tops.length - (intOf i).toNat)
  case atStart => exact ⟨0, Nat.zero_le _, rfl, hid (by rw [show Lib.strCells (prS T (T.tops.take 0)) = [] from rfl]; exact bu_new w1), hid (bl_alloc (Below.refl _ _) _)⟩
  obtain ⟨k, hk', rfl, HB, HW⟩ := hrel
  have hW0 : Hid (Below w.heap.size w wr) := BL1.out.trans (HW.out.mono BL1.out.size)
  have KR := K1.out.later (HW.out)
  obtain ⟨y0, y1, y2⟩ := KR.two
  have htl := tops_len HTR.out
  have hps := pr_size HTR.out hk HM.out k hk'
  have hsz : w1.heap.size ≤ wr.heap.size := HW.out.size
  by_cases hlt : k < T.tops.length
  ·
   obtain ⟨x, hx⟩ : ∃ x, T.tops[k]? = some x := ⟨_, List.getElem?_eq_getElem hlt⟩
   have HPT := hid (pr_take (T := T) hx)
   obtain ⟨m, n, rfl, hv, hkd, hmn⟩ := top_vn HTR.out hx
   obtain ⟨tb, tof, rfl, _, htb, p0⟩ := eInt_cells HT.out.t hx
   have p1 := (hW0.out.cell (p := ⟨tb, tof + k, none⟩) htb).trans p0
   have kI : (k : Int) < (T.tops.length : Int) := by omega
   have HV := hid hv
   have HKD := hid hkd
   have hjs := top_size HTR.out hk HM.out hv
   have HTL := hid (top_len HTR.out hv)
   clear hx hv hkd p0; go_wp2_with fail; refine (node_all (nc := c1) (HG.out.later hW0.out) (m + 1) m n _ _ _ (by omega) HV.out HKD.out (pr_start wr _) (by have := HTL.out; simp; omega)).mono ?_
   rintro e w3 ⟨rfl, v1, h1, f1⟩
   rw [List.nil_append] at h1
   have H1 := hid h1
   have q1 : w3.cell? ⟨wr.heap.size, 1, none⟩ = some v1 := (h1.bx.cell 1).trans rfl
   clear h1 f1; go_wp2_with fail; refine (joinAny_is w3 H1.out.os (by have := HTL.out; omega) (smL_tkA hk HM.out _)).mono ?_
   rintro e w4 ⟨rfl, hb4⟩
   obtain ⟨J, hJ⟩ : ∃ J, Hid (jnB (tkA T (m : Int)) = J) := ⟨_, hid rfl⟩
   rw [hJ.out] at hjs HPT ⊢
   have B4 : Hid (Below wr.heap.size wr w4) := H1.out.bl.trans (hb4.mono H1.out.bl.size)
   clear hb4; go_wp2_with fail; refine (writeString_is w1.heap.size w1.heap.size _ J w4 (bu_later HB.out B4.out) (by rw [Lib.strCells_length]; omega) (Nat.le_trans hsz B4.out.size)).mono ?_
   rintro e w5 ⟨rfl, g5, hb5⟩
   have G5 := hid g5
   have B5 : Hid (Below w1.heap.size w1 w5) := (HW.out.trans (B4.out.mono hsz)).trans hb5
   clear g5 hb5; go_wp2_with fail; refine (writeByte_is w1.heap.size w1.heap.size _ 10 w5 (Or.inr G5.out) (by rw [List.length_append, Lib.strCells_length, Lib.strCells_length]; omega) B5.out.size).mono ?_
   rintro e w6 ⟨rfl, g6, hb6⟩
   have G6 : Hid (IsBu w1.heap.size w1.heap.size (Lib.strCells (prS T (T.tops.take (k + 1)))) w6) := by
    show IsBu _ _ _ _
    rw [HPT.out, strCells_app, strCells_app]
    exact Or.inr g6
   have B6 : Hid (Below w1.heap.size w1 w6) := B5.out.trans hb6
   clear g6 hb6; go_wp2_with fail; exact ⟨⟨k + 1, by omega, by go_num, G6, B6⟩, by simp [intOf]; omega⟩
  have hke : k = T.tops.length := by omega
  have kI : ¬ (k : Int) < (T.tops.length : Int) := by omega
  rw [hke, List.take_of_length_le (Nat.le_refl _), Lib.strCells_eq] at HB
  clear hke; go_wp2_with fail; refine (Any.Builder_String_any_k Tryz.laysBString Tryz.extraS w1.heap.size w1.heap.size _ wr HB.out hsz).mono ?_
  rintro e w5 ⟨rfl, _, b5, _⟩
  have B5 := hid (HW.out.trans b5)
  clear b5; go_wp2_with fail; refine bodyPost_ret (v := .tuple #[.string (prS T T.tops), .bool true]) (by simp [results, Tryz.results7, go_sem]) rfl ?_
  exact ⟨by rw [hA.out, HB0.out], BL1.out.trans (B5.out.mono BL1.out.size)⟩
 have hB := treB_false htr
 have hA : Hid (prA T = ⟨#[]⟩) := by show _ = _; unfold prA; rw [if_neg (by rw [hB]; simp)]
 have HB0 := hid hB
 rw [hB]
 clear hB htr; go_wp2_with fail; refine bodyPost_ret (v := .tuple #[.string ⟨#[]⟩, .bool false]) (by simp [results, Tryz.results7, go_sem]) rfl ?_
 exact ⟨by rw [hA.out, HB0.out], BL1.out⟩
end
section
open Go.RowKit
set_option maxRecDepth 100000
theorem top_no {T : Tre} (h : treP T) {k m : Nat} {n : Nd} (hx : T.tops[k]? = some (m : Int)) (hv : VN T m n) : ¬ n.kind = 29 ∧ ¬ n.kind = 30 := by
 obtain ⟨m', nd, e, hm, hc⟩ := h.2.2 k _ hx
 have e' : m = m' := by omega
 subst e'
 rw [hv.at_] at hm
 cases hm
 exact cls_no hc (by omega) (by omega)
set_option maxHeartbeats 32000000 in
theorem specPrint_any (T : Tre) (s1 s2 : Option Addr) (c1 c2 B : Nat) (w : World) (hT : InC w B s1 s2 T) (hk : kTre T) (hm : ∀ n ∈ T.nodes, okI n.num) :
  Calls Tryz.prog 5 #[.agg #[.slice s1 T.nodes.length c1, .slice s2 T.tops.length c2]] w fun e w' => e = .returned (.tuple #[.string (prA T), .bool (treB T)]) ∧ Below w.heap.size w w' := by
 have k0 := Blk.new w #[.slice s1 T.nodes.length c1, .slice s2 T.tops.length c2] 31
 have L0 := bl_alloc (Below.refl _ w) (.cells #[.slice s1 T.nodes.length c1, .slice s2 T.tops.length c2] 31)
 obtain ⟨x0, x1, x2⟩ := k0.two
 have K0 := hid k0
 have BL0 := hid L0
 have HT := hid hT
 have HM := hid hm
 clear hT hm k0 L0; go_enter Tryz.func5, Tryz.ntmps5
 go_wp2_with fail; refine (specTreeOk_any T s1 s2 c1 c2 B _ (HT.out.i.later BL0.out) hk).mono ?_
 rintro e w1 ⟨rfl, hb1⟩
 have K1 := hid (K0.out.later hb1)
 have BL1 : Hid (Below w.heap.size w w1) := BL0.out.trans (hb1.mono BL0.out.size)
 clear hb1 x0 x1 x2; by_cases htr : treP T
 ·
  have hB := treB_true htr
  have hA : Hid (prA T = prS T T.tops) := by show _ = _; unfold prA; rw [if_pos hB]
  have HTR := hid htr
  have HB0 := hid hB
  rw [hB]
  clear hB htr; go_wp2_with fail; go_loopw [4, 5] (fun ov iv wr => ∃ k : Nat, k ≤ T.tops.length ∧ Hid (ov = .string (prS T (T.tops.take k))) ∧ iv = .int .i64 k ∧ Hid (Below w1.heap.size w1 wr)) (fun ov iv _ => T.tops.length - (intOf iv).toNat)
  case atStart => exact ⟨0, Nat.zero_le _, rfl, rfl, hid (Below.refl _ _)⟩
  obtain ⟨k, hk', ho, rfl, HW⟩ := hrel
  have ho := ho.out
  subst ho
  have hW0 : Hid (Below w.heap.size w wr) := BL1.out.trans (HW.out.mono BL1.out.size)
  obtain ⟨y0, y1, y2⟩ := (K1.out.later HW.out).two
  have htl := tops_len HTR.out
  have hps := pr_size HTR.out hk HM.out k hk'
  by_cases hlt : k < T.tops.length
  ·
   obtain ⟨x, hx⟩ : ∃ x, T.tops[k]? = some x := ⟨_, List.getElem?_eq_getElem hlt⟩
   have HPT := hid (pr_take (T := T) hx)
   obtain ⟨m, n, rfl, hv, hkd, hmn⟩ := top_vn HTR.out hx
   have HNO := hid (top_no HTR.out hx hv)
   obtain ⟨tb, tof, rfl, _, htb, p0⟩ := eInt_cells HT.out.i.t hx
   have PP : Hid (w.cell? ⟨tb, tof + k, none⟩ = some (.int .i64 (m : Int))) := p0
   have kI : (k : Int) < (T.tops.length : Int) := by omega
   have HV := hid hv
   have hjs := top_size HTR.out hk HM.out hv
   have HTL := hid (top_len HTR.out hv)
   obtain ⟨P, hP⟩ : ∃ P, Hid (prS T (T.tops.take k) = P) := ⟨_, hid rfl⟩
   obtain ⟨J, hJ⟩ : ∃ J, Hid (jnB (tkA T (m : Int)) = J) := ⟨_, hid rfl⟩
   rw [hP.out] at hps HPT ⊢
   rw [hJ.out] at hjs HPT
   have f1 : ∀ w, (Op.stringOp .add P J).run Tryz.prog w = .ok (.string (P ++ J)) w := fun w => run_string_add_sum w _ _ (by omega)
   have f2 : ∀ w, (Op.stringOp .add (P ++ J) ⟨#[10]⟩).run Tryz.prog w = .ok (.string (P ++ J ++ bNl)) w := fun w => run_string_add_sum w _ _ (by rw [ByteArray.size_append]; have : (⟨#[10]⟩ : ByteArray).size = 1 := rfl; omega)
   clear hx hv hkd p0; go_wp2_with fail; have BC : ∀ Y, Below w1.heap.size w1 Y → Y.cell? ⟨w.heap.size, 0, none⟩ = some (.slice s1 T.nodes.length c1) ∧ Y.cell? ⟨w.heap.size, 1, none⟩ = some (.slice (some ⟨tb, tof, none⟩) T.tops.length c2) ∧ Y.cell? ⟨tb, tof + k, none⟩ = some (.int .i64 (m : Int)) := fun Y hY => ⟨((K1.out.later hY).cell 0).trans rfl, ((K1.out.later hY).cell 1).trans rfl, ((BL1.out.trans (hY.mono BL1.out.size)).cell (p := ⟨tb, tof + k, none⟩) htb).trans PP.out⟩
   have M : Below w1.heap.size w1 wr.drew := HW.out.drew
   clear y0 y1 y2; go_region_held3 (fun Y => Y.cell? ⟨w.heap.size, 0, none⟩ = some (.slice s1 T.nodes.length c1) ∧ Y.cell? ⟨w.heap.size, 1, none⟩ = some (.slice (some ⟨tb, tof, none⟩) T.tops.length c2) ∧ Y.cell? ⟨tb, tof + k, none⟩ = some (.int .i64 (m : Int))) (exact BC _ M)
    (first
     | (go_at_call 13; refine (toks_any HTR.out.1 (m + 1) m n _ (by omega) HV.out HNO.out (HT.out.later (BL1.out.trans (M.mono BL1.out.size)))).mono ?_; rintro e wa ⟨⟨v9, rfl, ho⟩, hb⟩; have M := M.trans (hb.mono M.size))
     | (go_at_call 12; refine (join_any ho.rt (smL_tkA hk HM.out _) (by have := HTL.out; omega)).mono ?_; rintro e wb ⟨rfl, hwb⟩; have e2 := hwb.symm; clear hwb; subst e2; rw [hJ.out]))
   have HM9 := hid M
   clear M ho hb BC; go_wp2_with fail; go_roundw
   case rel => exact ⟨k + 1, by omega, by show _ = _; rw [HPT.out], by go_num, HM9⟩
   case measure => simp [intOf]; omega
  have hke : k = T.tops.length := by omega
  have kI : ¬ (k : Int) < (T.tops.length : Int) := by omega
  have hF : Hid (prS T (T.tops.take k) = prS T T.tops) := by show _ = _; rw [hke, List.take_length]
  go_wp2_with fail; refine bodyPost_ret (v := .tuple #[.string (prS T T.tops), .bool true]) (by simp [results, Tryz.results5, go_sem]) rfl ?_
  exact ⟨by rw [hA.out, HB0.out], hW0.out⟩
 have hB := treB_false htr
 have hA : Hid (prA T = ⟨#[]⟩) := by show _ = _; unfold prA; rw [if_neg (by rw [hB]; simp)]
 have HB0 := hid hB
 rw [hB]
 clear hB htr; go_wp2_with fail; refine bodyPost_ret (v := .tuple #[.string ⟨#[]⟩, .bool false]) (by simp [results, Tryz.results5, go_sem]) rfl ?_
 exact ⟨by rw [hA.out, HB0.out], BL1.out⟩
end
section
open Go.RowKit
theorem Tryz.infoNd : (Tryz.prog.info? 66).map (fun i => (i.zero, i.size, i.bytes)) = some (some (.agg #[.int .i64 0, .string { data := #[] }, .int .i64 0, .slice none 0 0]), 4, 56) := by kernel_rfl
set_option maxHeartbeats 4000000 in
theorem toNode_made (s : Option Addr) (cap : Nat) (n : Nd) (B : Nat) (w : World) (hL : Els 1 cInt w B s n.kids) (hk : kNode n) :
  Calls Tryz.prog 32 #[.agg #[.int .i64 n.kind, .string n.text, .int .i64 n.num, .slice s n.kids.length cap]] w fun e w' => (∃ g : Nat, e = .returned (.agg #[.int .i64 n.kind, .string n.text, .int .i64 n.num, .slice (some ⟨g, 0, none⟩) n.kids.length n.kids.length]) ∧ Els 1 cInt w' w.heap.size (some ⟨g, 0, none⟩) n.kids) ∧ Below w.heap.size w w' := by
 have hal := alloc_old
 have haf := alloc_oldf
 obtain ⟨k0, k1, k2⟩ := blk3t w #[.int .i64 n.kind, .string n.text, .int .i64 n.num, .slice s n.kids.length cap] #[.int .i64 0, .string { data := #[] }, .int .i64 0, .slice none 0 0] #[.int .i64 n.kind, .string n.text, .int .i64 n.num, .slice none 0 0] 62 66 66
 have L0 : Below w.heap.size w (((w.alloc (.cells #[.int .i64 n.kind, .string n.text, .int .i64 n.num, .slice s n.kids.length cap] 62)).alloc (.cells #[.int .i64 0, .string { data := #[] }, .int .i64 0, .slice none 0 0] 66)).alloc (.cells #[.int .i64 n.kind, .string n.text, .int .i64 n.num, .slice none 0 0] 66)) := blq
 have n0 : ¬ w.heap.size = w.heap.size + 1 + 1 := by omega
 have n1 : ¬ w.heap.size + 1 = w.heap.size + 1 + 1 := by omega
 have lx := k2.lt
 go_enter Tryz.func32, Tryz.ntmps32
 go_wp2_with fail; refine (toInts_made s cap n.kids B _ (hL.later cInt_keeps L0) hk.2).mono ?_
 rintro e w3 ⟨g, rfl, e3, d3, hb3⟩
 have d3 := d3.drop cInt_drops (B' := w.heap.size + 1 + 1 + 1) (by omega)
 have L3 := bl_trans L0 hb3
 have S1 := k1.later hb3
 have S2 := k2.later hb3
 clear k0 k1 k2 L0 hb3; obtain ⟨z0, z1, z2, z3, z4⟩ := S2.four'
 obtain ⟨y0, y1, y2, y3, y4⟩ := S1.four'
 go_wp2_with fail; refine bodyPost_ret (v := .agg #[.int .i64 n.kind, .string n.text, .int .i64 n.num, .slice (some ⟨g, 0, none⟩) n.kids.length n.kids.length]) (by simp [results, Tryz.results32, go_sem, y0, y1, y2, y3]) rfl ⟨⟨g, rfl, ?_⟩, ?_⟩
 ·
  refine (d3.kept cInt_keeps ?_).drop cInt_drops (by omega)
  repeat (first | with_reducible exact Kept.refl _ _ | with_reducible refine Kept.trans ?_ (Kept.set _ (by simp <;> omega) _))
 repeat (first | with_reducible exact L3 | with_reducible refine Below.setCell ?_ (by simp <;> omega) _)
set_option maxHeartbeats 4000000 in
theorem toNodeS_made (s : Option Addr) (c : Nat) (L : List Nd) (B : Nat) (w : World) (hL : Els 4 cNode w B s L) (hl : L.length ≤ 1048576) (hk : ∀ n ∈ L, kNode n) :
  Calls Tryz.prog 14 #[.slice s L.length c] w fun e w' => Made 4 cNode w L e w' := by
 have HK : Hid (∀ n ∈ L, kNode n) := hk
 clear hk; obtain ⟨i0, hi, hz0, hz1, hz2⟩ := info_parts Tryz.infoNd
 go_enter Tryz.func14, Tryz.ntmps14
 go_wp2_with (at_make; refine wpList_make_full _ rfl _ _ 29 rfl w.heap.size 66 i0 (.agg #[.int .i64 0, .string { data := #[] }, .int .i64 0, .slice none 0 0]) 4 Tryz.underlying29 hi hz0 hz1 .i64 .i64 _ _ L.length rfl rfl rfl rfl (by rw [hz2]; omega) (by unfold maxLen; omega) (Nat.le_refl _) ?_)
 intro w1 hown hgrow
 have hrow : Hid (Mk 4 cNode [.int .i64 0, .string { data := #[] }, .int .i64 0, .slice none 0 0] 66 w1 w.heap.size w.heap.size L 0) := Mk.start (z := #[.int .i64 0, .string { data := #[] }, .int .i64 0, .slice none 0 0]) rfl hown
 have hbel : Hid (Below w.heap.size w w1) := (Below.refl _ w).grown hgrow (Nat.le_refl _) (fun k h => by cases h)
 clear hown hgrow hi hz0 hz1 hz2; go_wp2_with fail; go_loopw [4] (fun i wr => ∃ k : Nat, k ≤ L.length ∧ i = .int .i64 k ∧ Hid (Mk 4 cNode [.int .i64 0, .string { data := #[] }, .int .i64 0, .slice none 0 0] 66 wr w.heap.size w.heap.size L k) ∧ Hid (Below w.heap.size w wr)) (fun i _ => L.length - (intOf i).toNat)
 case atStart => exact ⟨0, Nat.zero_le _, rfl, hrow, hbel⟩
 obtain ⟨k, hk, rfl, hrow, hbel⟩ := hrel
 by_cases hlt : k < L.length
 ·
  obtain ⟨a, ha⟩ := get_some hlt
  obtain ⟨b, o, rfl, hB, hp, s', c', e0, e1, e2, e3, f⟩ := eNode_cells (hL.later cNode_keeps hbel.out) ha
  have hka := HK.out a (List.mem_of_getElem? ha)
  have hgr := (hrow.out.at hlt).2.1
  clear hL; go_wp2_with fail; refine (toNode_made s' c' a B _ f hka).mono ?_
  rintro e w2 ⟨⟨g, rfl, d1⟩, hb2⟩
  have hr2 := hrow.out.later cNode_keeps hb2
  have L2 : Hid (Below w.heap.size w w2) := bl_trans hbel.out hb2
  obtain ⟨_, hg, fz, cz⟩ := hr2.at hlt
  have g0 := cz 0 _ rfl
  have g1 := cz 1 _ rfl
  have g2 := cz 2 _ rfl
  have g3 := cz 3 _ rfl
  rw [Nat.add_zero] at g0
  have hputH : Hid (Mk 4 cNode [.int .i64 0, .string { data := #[] }, .int .i64 0, .slice none 0 0] 66 ((((w2.setCell ⟨w.heap.size, k * 4, none⟩ (.int .i64 a.kind)).setCell ⟨w.heap.size, k * 4 + 1, none⟩ (.string a.text)).setCell ⟨w.heap.size, k * 4 + 2, none⟩ (.int .i64 a.num)).setCell ⟨w.heap.size, k * 4 + 3, none⟩ (.slice (some ⟨g, 0, none⟩) a.kids.length a.kids.length)) w.heap.size w.heap.size L (k + 1)) :=
   hr2.push cNode_keeps ha (c := [.int .i64 a.kind, .string a.text, .int .i64 a.num, .slice (some ⟨g, 0, none⟩) a.kids.length a.kids.length]) rfl ⟨_, _, rfl, d1.drop cInt_drops (by omega)⟩ (by repeat (first | with_reducible exact Kept.refl _ _ | with_reducible refine Kept.trans ?_ (Kept.set _ (by simp) _))) (fun A C hA h => put4 hA h)
  clear hr2 hrow ha cz f d1 hka; go_wp2_with fail; go_roundw
  case rel =>
   refine ⟨k + 1, by omega, by go_num, hputH, ?_⟩
   show Below _ _ _
   repeat (first | with_reducible exact L2.out | with_reducible refine Below.setCell ?_ (by simp) _)
  case measure => simp [intOf]; omega
 have hm' : k = L.length := by omega
 subst hm'
 go_wp2_with fail; go_ret; exact ⟨_, rfl, Nat.le_refl _, hrow.out.done cNode_drops, hbel.out⟩
set_option maxHeartbeats 4000000 in
theorem toTree_made (s1 s2 : Option Addr) (c1 c2 : Nat) (t : Tre) (B : Nat) (w : World) (hT : InT w B s1 s2 t) (hk : kTre t) :
  Calls Tryz.prog 6 #[.agg #[.slice s1 t.nodes.length c1, .slice s2 t.tops.length c2]] w fun e w' => (∃ a b : Nat, e = .returned (.agg #[.slice (some ⟨a, 0, none⟩) t.nodes.length t.nodes.length, .slice (some ⟨b, 0, none⟩) t.tops.length t.tops.length]) ∧ InT w' w.heap.size (some ⟨a, 0, none⟩) (some ⟨b, 0, none⟩) t) ∧ Below w.heap.size w w' := by
 have hal := alloc_old
 have haf := alloc_oldf
 obtain ⟨⟨m1, m2⟩, m3⟩ := hk
 obtain ⟨k0, k1, k2⟩ := blk3t w #[.slice s1 t.nodes.length c1, .slice s2 t.tops.length c2] #[.slice none 0 0, .slice none 0 0] #[.slice none 0 0, .slice none 0 0] 25 31 31
 go_enter Tryz.func6, Tryz.ntmps6
 go_wp2_with fail; refine (toNodeS_made s1 c1 t.nodes B _ (hT.n.later cNode_keeps blq) m1 m2).mono ?_
 rintro e w1 ⟨g1, rfl, e1, d1, hb1⟩
 simp only [World.size_alloc] at e1
 have L1 : Below w.heap.size w w1 := blq
 have d1 := d1.drop cNode_drops e1
 have P0 := (k0.later hb1).other (m := w.heap.size + 1 + 1) (by omega) 0 (.slice (some ⟨g1, 0, none⟩) t.nodes.length t.nodes.length)
 have P1 := (k1.later hb1).other (m := w.heap.size + 1 + 1) (by omega) 0 (.slice (some ⟨g1, 0, none⟩) t.nodes.length t.nodes.length)
 have P2 := (k2.later hb1).set 0 (.slice (some ⟨g1, 0, none⟩) t.nodes.length t.nodes.length)
 have D1 := d1.kept cNode_keeps (Kept.set w1 (p := ⟨w.heap.size + 1 + 1, 0, none⟩) (by simp) (.slice (some ⟨g1, 0, none⟩) t.nodes.length t.nodes.length))
 have LX := L1.setCell (p := ⟨w.heap.size + 1 + 1, 0, none⟩) (by simp; omega) (.slice (some ⟨g1, 0, none⟩) t.nodes.length t.nodes.length)
 obtain ⟨z0, z1, z2⟩ := (k2.later hb1).two
 obtain ⟨x0, x1, x2⟩ := (k0.later hb1).two
 have n0 : ¬ w.heap.size = w.heap.size + 1 + 1 := by omega
 clear k0 k1 k2 hb1 d1 L1 m2; go_wp2_with fail; clear x0 x1 x2 z0 z1 z2; generalize hX : w1.setCell ⟨w.heap.size + 1 + 1, 0, none⟩ (.slice (some ⟨g1, 0, none⟩) t.nodes.length t.nodes.length) = X at P0 P1 P2 D1 LX ⊢
 clear hX; have P2 : Blk X (w.heap.size + 1 + 1) #[.slice (some ⟨g1, 0, none⟩) t.nodes.length t.nodes.length, .slice none 0 0] 31 := P2
 refine (toInts_made s2 c2 t.tops B _ (hT.t.later cInt_keeps LX) m3).mono ?_
 rintro e w3 ⟨g3, rfl, e3, d3, hb3⟩
 have ly : w.heap.size + 1 + 1 < X.heap.size := P2.lt
 have d3 := d3.drop cInt_drops (B' := w.heap.size + 1 + 1 + 1) (by omega)
 have L3 := bl_trans LX hb3
 have R1 := (P1.later hb3)
 have R2 := (P2.later hb3)
 have G1 := D1.later cNode_keeps hb3
 clear P0 P1 P2 D1 LX hb3; obtain ⟨z0, z1, z2⟩ := R2.two
 obtain ⟨y0, y1, y2⟩ := R1.two
 have n1 : ¬ w.heap.size + 1 = w.heap.size + 1 + 1 := by omega
 go_wp2_with fail; refine bodyPost_ret (v := .agg #[.slice (some ⟨g1, 0, none⟩) t.nodes.length t.nodes.length, .slice (some ⟨g3, 0, none⟩) t.tops.length t.tops.length]) (by simp [results, Tryz.results6, go_sem, y0, y1]) rfl ⟨⟨g1, g3, rfl, ?_⟩, ?_⟩
 ·
  refine InT.drop (B := w.heap.size + 1 + 1 + 1) (InT.kept (w := w3) ⟨G1, d3⟩ ?_) (by omega)
  repeat (first | with_reducible exact Kept.refl _ _ | with_reducible refine Kept.trans ?_ (Kept.set _ (by simp <;> omega) _))
 repeat (first | with_reducible exact L3 | with_reducible refine Below.setCell ?_ (by simp <;> omega) _)
end
section
open Go.RowKit
theorem els_c {w : World} {B : Nat} {s : Option Addr} {L : List Nd} (h : Els 4 cNodeC w B s L) : Els 4 cNode w B s L := by
 rcases h with h0 | ⟨b, o, h1, h2, h3, h4, h5⟩
 ·
  exact Or.inl h0
 refine Or.inr ⟨b, o, h1, h2, h3, fun k a ha => ?_, h5⟩
 obtain ⟨cs, g1, g2, s', c', e1, e2, e3⟩ := h4 k a ha
 exact ⟨cs, g1, g2, s', c', e1, e2⟩
set_option maxHeartbeats 4000000 in
theorem toNodeS_madeC (s : Option Addr) (c : Nat) (L : List Nd) (B : Nat) (w : World) (hL : Els 4 cNode w B s L) (hl : L.length ≤ 1048576) (hk : ∀ n ∈ L, kNode n) :
  Calls Tryz.prog 14 #[.slice s L.length c] w fun e w' => Made 4 cNodeC w L e w' := by
 have HK : Hid (∀ n ∈ L, kNode n) := hk
 clear hk; obtain ⟨i0, hi, hz0, hz1, hz2⟩ := info_parts Tryz.infoNd
 go_enter Tryz.func14, Tryz.ntmps14
 go_wp2_with (at_make; refine wpList_make_full _ rfl _ _ 29 rfl w.heap.size 66 i0 (.agg #[.int .i64 0, .string { data := #[] }, .int .i64 0, .slice none 0 0]) 4 Tryz.underlying29 hi hz0 hz1 .i64 .i64 _ _ L.length rfl rfl rfl rfl (by rw [hz2]; omega) (by unfold maxLen; omega) (Nat.le_refl _) ?_)
 intro w1 hown hgrow
 have hrow : Hid (Mk 4 cNodeC [.int .i64 0, .string { data := #[] }, .int .i64 0, .slice none 0 0] 66 w1 w.heap.size w.heap.size L 0) := Mk.start (z := #[.int .i64 0, .string { data := #[] }, .int .i64 0, .slice none 0 0]) rfl hown
 have hbel : Hid (Below w.heap.size w w1) := (Below.refl _ w).grown hgrow (Nat.le_refl _) (fun k h => by cases h)
 clear hown hgrow hi hz0 hz1 hz2; go_wp2_with fail; go_loopw [4] (fun i wr => ∃ k : Nat, k ≤ L.length ∧ i = .int .i64 k ∧ Hid (Mk 4 cNodeC [.int .i64 0, .string { data := #[] }, .int .i64 0, .slice none 0 0] 66 wr w.heap.size w.heap.size L k) ∧ Hid (Below w.heap.size w wr)) (fun i _ => L.length - (intOf i).toNat)
 case atStart => exact ⟨0, Nat.zero_le _, rfl, hrow, hbel⟩
 obtain ⟨k, hk, rfl, hrow, hbel⟩ := hrel
 by_cases hlt : k < L.length
 ·
  obtain ⟨a, ha⟩ := get_some hlt
  obtain ⟨b, o, rfl, hB, hp, s', c', e0, e1, e2, e3, f⟩ := eNode_cells (hL.later cNode_keeps hbel.out) ha
  have hka := HK.out a (List.mem_of_getElem? ha)
  have hgr := (hrow.out.at hlt).2.1
  clear hL; go_wp2_with fail; refine (toNode_made s' c' a B _ f hka).mono ?_
  rintro e w2 ⟨⟨g, rfl, d1⟩, hb2⟩
  have hr2 := hrow.out.later cNodeC_keeps hb2
  have L2 : Hid (Below w.heap.size w w2) := bl_trans hbel.out hb2
  obtain ⟨_, hg, fz, cz⟩ := hr2.at hlt
  have g0 := cz 0 _ rfl
  have g1 := cz 1 _ rfl
  have g2 := cz 2 _ rfl
  have g3 := cz 3 _ rfl
  rw [Nat.add_zero] at g0
  have hputH : Hid (Mk 4 cNodeC [.int .i64 0, .string { data := #[] }, .int .i64 0, .slice none 0 0] 66 ((((w2.setCell ⟨w.heap.size, k * 4, none⟩ (.int .i64 a.kind)).setCell ⟨w.heap.size, k * 4 + 1, none⟩ (.string a.text)).setCell ⟨w.heap.size, k * 4 + 2, none⟩ (.int .i64 a.num)).setCell ⟨w.heap.size, k * 4 + 3, none⟩ (.slice (some ⟨g, 0, none⟩) a.kids.length a.kids.length)) w.heap.size w.heap.size L (k + 1)) :=
   hr2.push cNodeC_keeps ha (c := [.int .i64 a.kind, .string a.text, .int .i64 a.num, .slice (some ⟨g, 0, none⟩) a.kids.length a.kids.length]) rfl ⟨_, _, rfl, d1.drop cInt_drops (by omega), Nat.le_refl _⟩ (by repeat (first | with_reducible exact Kept.refl _ _ | with_reducible refine Kept.trans ?_ (Kept.set _ (by simp) _))) (fun A C hA h => put4 hA h)
  clear hr2 hrow ha cz f d1 hka; go_wp2_with fail; go_roundw
  case rel =>
   refine ⟨k + 1, by omega, by go_num, hputH, ?_⟩
   show Below _ _ _
   repeat (first | with_reducible exact L2.out | with_reducible refine Below.setCell ?_ (by simp) _)
  case measure => simp [intOf]; omega
 have hm' : k = L.length := by omega
 subst hm'
 go_wp2_with fail; go_ret; exact ⟨_, rfl, Nat.le_refl _, hrow.out.done cNodeC_drops, hbel.out⟩
set_option maxHeartbeats 4000000 in
theorem toTree_madeC (s1 s2 : Option Addr) (c1 c2 : Nat) (t : Tre) (B : Nat) (w : World) (hT : InT w B s1 s2 t) (hk : kTre t) :
  Calls Tryz.prog 6 #[.agg #[.slice s1 t.nodes.length c1, .slice s2 t.tops.length c2]] w fun e w' => (∃ a b : Nat, e = .returned (.agg #[.slice (some ⟨a, 0, none⟩) t.nodes.length t.nodes.length, .slice (some ⟨b, 0, none⟩) t.tops.length t.tops.length]) ∧ InT w' w.heap.size (some ⟨a, 0, none⟩) (some ⟨b, 0, none⟩) t ∧ Els 4 cNodeC w' w.heap.size (some ⟨a, 0, none⟩) t.nodes) ∧ Below w.heap.size w w' := by
 have hal := alloc_old
 have haf := alloc_oldf
 obtain ⟨⟨m1, m2⟩, m3⟩ := hk
 obtain ⟨k0, k1, k2⟩ := blk3t w #[.slice s1 t.nodes.length c1, .slice s2 t.tops.length c2] #[.slice none 0 0, .slice none 0 0] #[.slice none 0 0, .slice none 0 0] 25 31 31
 go_enter Tryz.func6, Tryz.ntmps6
 go_wp2_with fail; refine (toNodeS_madeC s1 c1 t.nodes B _ (hT.n.later cNode_keeps blq) m1 m2).mono ?_
 rintro e w1 ⟨g1, rfl, e1, d1, hb1⟩
 simp only [World.size_alloc] at e1
 have L1 : Below w.heap.size w w1 := blq
 have d1 := d1.drop cNodeC_drops e1
 have P0 := (k0.later hb1).other (m := w.heap.size + 1 + 1) (by omega) 0 (.slice (some ⟨g1, 0, none⟩) t.nodes.length t.nodes.length)
 have P1 := (k1.later hb1).other (m := w.heap.size + 1 + 1) (by omega) 0 (.slice (some ⟨g1, 0, none⟩) t.nodes.length t.nodes.length)
 have P2 := (k2.later hb1).set 0 (.slice (some ⟨g1, 0, none⟩) t.nodes.length t.nodes.length)
 have D1 := d1.kept cNodeC_keeps (Kept.set w1 (p := ⟨w.heap.size + 1 + 1, 0, none⟩) (by simp) (.slice (some ⟨g1, 0, none⟩) t.nodes.length t.nodes.length))
 have LX := L1.setCell (p := ⟨w.heap.size + 1 + 1, 0, none⟩) (by simp; omega) (.slice (some ⟨g1, 0, none⟩) t.nodes.length t.nodes.length)
 obtain ⟨z0, z1, z2⟩ := (k2.later hb1).two
 obtain ⟨x0, x1, x2⟩ := (k0.later hb1).two
 have n0 : ¬ w.heap.size = w.heap.size + 1 + 1 := by omega
 clear k0 k1 k2 hb1 d1 L1 m2; go_wp2_with fail; clear x0 x1 x2 z0 z1 z2; generalize hX : w1.setCell ⟨w.heap.size + 1 + 1, 0, none⟩ (.slice (some ⟨g1, 0, none⟩) t.nodes.length t.nodes.length) = X at P0 P1 P2 D1 LX ⊢
 clear hX; have P2 : Blk X (w.heap.size + 1 + 1) #[.slice (some ⟨g1, 0, none⟩) t.nodes.length t.nodes.length, .slice none 0 0] 31 := P2
 refine (toInts_made s2 c2 t.tops B _ (hT.t.later cInt_keeps LX) m3).mono ?_
 rintro e w3 ⟨g3, rfl, e3, d3, hb3⟩
 have ly : w.heap.size + 1 + 1 < X.heap.size := P2.lt
 have d3 := d3.drop cInt_drops (B' := w.heap.size + 1 + 1 + 1) (by omega)
 have L3 := bl_trans LX hb3
 have R1 := (P1.later hb3)
 have R2 := (P2.later hb3)
 have G1 := D1.later cNodeC_keeps hb3
 clear P0 P1 P2 D1 LX hb3; obtain ⟨z0, z1, z2⟩ := R2.two
 obtain ⟨y0, y1, y2⟩ := R1.two
 have n1 : ¬ w.heap.size + 1 = w.heap.size + 1 + 1 := by omega
 go_wp2_with fail; refine bodyPost_ret (v := .agg #[.slice (some ⟨g1, 0, none⟩) t.nodes.length t.nodes.length, .slice (some ⟨g3, 0, none⟩) t.tops.length t.tops.length]) (by simp [results, Tryz.results6, go_sem, y0, y1]) rfl ⟨⟨g1, g3, rfl, ?_⟩, ?_⟩
 ·
  refine ⟨InT.drop (B := w.heap.size + 1 + 1 + 1) (InT.kept (w := w3) ⟨els_c G1, d3⟩ ?_) (by omega), Els.drop (B := w.heap.size + 1 + 1 + 1) cNodeC_drops (G1.kept cNodeC_keeps ?_) (by omega)⟩
  all_goals repeat (first | with_reducible exact Kept.refl _ _ | with_reducible refine Kept.trans ?_ (Kept.set _ (by simp <;> omega) _))
 repeat (first | with_reducible exact L3 | with_reducible refine Below.setCell ?_ (by simp <;> omega) _)
end
section
open Go.RowKit
theorem blkTwo (w : World) (c d : Array Value) (t u : TypeId) : Blk ((w.alloc (.cells c t)).alloc (.cells d u)) w.heap.size c t ∧ Blk ((w.alloc (.cells c t)).alloc (.cells d u)) (w.heap.size + 1) d u ∧ Below w.heap.size w ((w.alloc (.cells c t)).alloc (.cells d u)) :=
 ⟨(Blk.new w c t).alloc _, Blk.new' _ d u (by simp), bl_alloc (bl_alloc (Below.refl _ _) _) _⟩
set_option maxHeartbeats 4000000 in
theorem eqNode_self (s t : Option Addr) (cs ct : Nat) (n : Nd) (B C : Nat) (w : World) (hs : Els 1 cInt w B s n.kids) (ht : Els 1 cInt w C t n.kids) (hk : kNode n) :
  Calls Tryz.prog 46 #[.agg #[.int .i64 n.kind, .string n.text, .int .i64 n.num, .slice s n.kids.length cs], .agg #[.int .i64 n.kind, .string n.text, .int .i64 n.num, .slice t n.kids.length ct]] w fun e w' => e = .returned (.bool true) ∧ Below w.heap.size w w' := by
 have q0 : (n.kind != n.kind) = false := by simp
 have q1 : (n.num != n.num) = false := by simp
 have q2 : (n.text.toList == n.text.toList) = true := by simp
 obtain ⟨k0, k1, L0⟩ := blkTwo w #[.int .i64 n.kind, .string n.text, .int .i64 n.num, .slice s n.kids.length cs] #[.int .i64 n.kind, .string n.text, .int .i64 n.num, .slice t n.kids.length ct] 66 66
 obtain ⟨x0, x1, x2, x3, x4⟩ := k0.four'
 obtain ⟨y0, y1, y2, y3, y4⟩ := k1.four'
 go_enter Tryz.func46, Tryz.ntmps46
 go_wp2_with fail; refine (eqInts_any s t cs ct n.kids n.kids _ (hs.later cInt_keeps L0).ints (ht.later cInt_keeps L0).ints hk.2).mono ?_
 rintro e w3 ⟨rfl, hb3⟩
 rw [show decide (n.kids = n.kids) = true by simp]
 go_wp2_with fail; go_ret; exact ⟨rfl, bl_trans L0 hb3⟩
set_option maxHeartbeats 4000000 in
theorem eqNodeS_self (s t : Option Addr) (c d : Nat) (L : List Nd) (B C : Nat) (w : World) (hs : Els 4 cNode w B s L) (ht : Els 4 cNode w C t L) (hl : L.length ≤ 1048576) (hk : ∀ n ∈ L, kNode n) :
  Calls Tryz.prog 22 #[.slice s L.length c, .slice t L.length d] w fun e w' => e = .returned (.bool true) ∧ Below w.heap.size w w' := by
 have hal := alloc_old
 have haf := alloc_oldf
 have HK : Hid (∀ n ∈ L, kNode n) := hk
 clear hk; go_enter Tryz.func22, Tryz.ntmps22
 go_wp2_with fail; go_loopw [5] (fun i wr => ∃ k : Nat, k ≤ L.length ∧ i = .int .i64 k ∧ Below w.heap.size w wr) (fun i _ => L.length - (intOf i).toNat)
 case atStart => exact ⟨0, Nat.zero_le _, rfl, Below.refl _ _⟩
 obtain ⟨k, hk, rfl, hb⟩ := hrel
 by_cases hlt : k < L.length
 ·
  obtain ⟨a, ha⟩ := get_some hlt
  obtain ⟨b, o, rfl, _, hp, s', c', e0, e1, e2, e3, f⟩ := eNode_cells (hs.later cNode_keeps hb) ha
  obtain ⟨b', o', rfl, _, hp', t', d', f0, f1, f2, f3, g⟩ := eNode_cells (ht.later cNode_keeps hb) ha
  have hka : Hid (kNode a) := HK.out a (List.mem_of_getElem? ha)
  have PH : Hid (Els 1 cInt wr B s' a.kids ∧ Els 1 cInt wr C t' a.kids) := ⟨f, g⟩
  clear hs ht ha f g; go_wp2_with fail; go_region_with (first
   | (go_at_call 46; refine (eqNode_self s' t' c' d' a B C _ (PH.out.1.later cInt_keeps (bl_drew (Below.refl _ _))) (PH.out.2.later cInt_keeps (bl_drew (Below.refl _ _))) hka.out).mono ?_; rintro e w2 ⟨rfl, hb2⟩))
  all_goals
   go_wp2_with fail; go_roundw
   case rel =>
    refine ⟨k + 1, by omega, by go_num, ?_⟩
    exact blq
   case measure => simp [intOf]; omega
 go_wp2_with fail; go_ret; exact ⟨rfl, hb⟩
set_option maxHeartbeats 4000000 in
theorem eqTree_self (s1 s2 t1 t2 : Option Addr) (c1 c2 d1 d2 : Nat) (t : Tre) (B C : Nat) (w : World) (hs : InT w B s1 s2 t) (ht : InT w C t1 t2 t) (hk : kTre t) :
  Calls Tryz.prog 8 #[.agg #[.slice s1 t.nodes.length c1, .slice s2 t.tops.length c2], .agg #[.slice t1 t.nodes.length d1, .slice t2 t.tops.length d2]] w fun e w' => e = .returned (.bool true) ∧ Below w.heap.size w w' := by
 obtain ⟨⟨m1, m2⟩, m3⟩ := hk
 obtain ⟨k0, k1, L0⟩ := blkTwo w #[.slice s1 t.nodes.length c1, .slice s2 t.tops.length c2] #[.slice t1 t.nodes.length d1, .slice t2 t.tops.length d2] 31 31
 obtain ⟨x0, x1, x2⟩ := k0.two
 obtain ⟨y0, y1, y2⟩ := k1.two
 go_enter Tryz.func8, Tryz.ntmps8
 go_wp2_with fail; refine (eqNodeS_self s1 t1 c1 d1 t.nodes B C _ (hs.n.later cNode_keeps L0) (ht.n.later cNode_keeps L0) m1 m2).mono ?_
 rintro e w1 ⟨rfl, hb1⟩
 have L1 := bl_trans L0 hb1
 have k0 := k0.later hb1
 have k1 := k1.later hb1
 clear x0 x1 x2 y0 y1 y2 hb1 L0 m2; obtain ⟨x0, x1, x2⟩ := k0.two
 obtain ⟨y0, y1, y2⟩ := k1.two
 go_wp2_with fail; refine (eqInts_any s2 t2 c2 d2 t.tops t.tops _ (hs.t.later cInt_keeps L1).ints (ht.t.later cInt_keeps L1).ints m3).mono ?_
 rintro e w3 ⟨rfl, hb3⟩
 rw [show decide (t.tops = t.tops) = true by simp]
 go_wp2_with fail; go_ret; exact ⟨rfl, bl_trans L1 hb3⟩
end
section
open Go.RowKit
theorem Tb.later {w w' : World} (h : Tb w) (hb : Below w.heap.size w w') : Tb w' :=
 ⟨fun q h1 h2 => ⟨(hb.cell (p := ⟨1, q, none⟩) (h.k q h1 h2).2).trans (h.k q h1 h2).1, Nat.lt_of_lt_of_le (h.k q h1 h2).2 hb.size⟩, fun q h1 h2 => ⟨(hb.cell (p := ⟨0, q, none⟩) (h.o q h1 h2).2).trans (h.o q h1 h2).1, Nat.lt_of_lt_of_le (h.o q h1 h2).2 hb.size⟩, fun q h1 h2 => ⟨(hb.cell (p := ⟨2, q, none⟩) (h.u q h1 h2).2).trans (h.u q h1 h2).1, Nat.lt_of_lt_of_le (h.u q h1 h2).2 hb.size⟩⟩
set_option maxRecDepth 100000 in
set_option maxHeartbeats 4000000 in
theorem exactPrint_any (a1 a2 : Option Addr) (c1 c2 : Nat) (V : Tre) (w : World) (hV : InT w 0 a1 a2 V) (mV : mTre V) (hTb : Tb w) (hPw : Pw w) :
  Calls Tryz.prog 3 #[.agg #[.slice a1 V.nodes.length c1, .slice a2 V.tops.length c2]] w fun e w' => e = .returned (.bool true) ∧ Below w.heap.size w w' := by
 have hokn : Hid (∀ n ∈ V.nodes, okI n.num) := fun n hn => (mV.2.1 n hn).1.2
 have HTB := hid hTb
 have HPW := hid hPw
 clear hTb hPw; have hal := alloc_old
 have haf := alloc_oldf
 have k0 := Blk.new w #[.slice a1 V.nodes.length c1, .slice a2 V.tops.length c2] 25
 have L0 := bl_alloc (Below.refl _ w) (.cells #[.slice a1 V.nodes.length c1, .slice a2 V.tops.length c2] 25)
 obtain ⟨x0, x1, x2⟩ := k0.two
 go_enter Tryz.func3, Tryz.ntmps3
 go_wp2_with fail; refine (szTree_gen a1 a2 c1 c2 V 0 1048576 _ (hV.later L0) mV (by omega) (by omega)).mono ?_
 rintro e w1 ⟨⟨r, rfl, hr⟩, hb1⟩
 have L1 := bl_trans L0 hb1
 have k0 := k0.later hb1
 clear x0 x1 x2 hb1 L0; rcases hr with rfl | ⟨r0, r1, kv⟩
 ·
  go_wp2_with fail; go_ret; exact ⟨rfl, L1⟩
 have t1 : decide (r < 0) = false := by simp; omega
 have hI := hV.later L1
 obtain ⟨x0, x1, x2⟩ := k0.two
 clear hV mV r1; go_wp2_with fail; refine (toTree_madeC a1 a2 c1 c2 V 0 _ hI kv).mono ?_
 rintro e wa ⟨⟨h1, h2, rfl, hIa, hCa⟩, hba⟩
 have La := bl_trans L1 hba
 clear x0 x1 x2 t1; go_wp2_with fail; refine (specPrint_any V _ _ _ _ _ _ ⟨hIa, hCa⟩ kv hokn.out).mono ?_
 rintro e wc ⟨rfl, hbc⟩
 have Lc := bl_trans La hbc
 have K0 := (k0.later hba).later hbc
 have hI := (hI.later hba).later hbc
 clear hIa hCa hba hbc La L1 k0; obtain ⟨x0, x1, x2⟩ := K0.two
 go_wp2_with fail; refine (toTree_madeC a1 a2 c1 c2 V 0 _ hI kv).mono ?_
 rintro e wd ⟨⟨h1, h2, rfl, hx, hxc⟩, hbd⟩
 have LD := bl_trans Lc hbd
 have KX := Blk.new wd #[.slice (some ⟨h1, 0, none⟩) V.nodes.length V.nodes.length, .slice (some ⟨h2, 0, none⟩) V.tops.length V.tops.length] 31
 have LY : Below wd.heap.size wd (wd.alloc (.cells #[.slice (some ⟨h1, 0, none⟩) V.nodes.length V.nodes.length, .slice (some ⟨h2, 0, none⟩) V.tops.length V.tops.length] 31)) := bl_alloc (Below.refl _ _) _
 have K0 := (K0.later hbd).later LY
 have hI := (hI.later hbd).later LY
 have hx := hx.later LY
 have hxc := (hxc.drop cNodeC_drops (B' := 0) (Nat.zero_le _)).later cNodeC_keeps LY
 have LD := bl_trans LD LY
 clear x0 x1 x2 Lc hbd LY; obtain ⟨x0, x1, x2⟩ := KX.two
 go_wp2_with fail; generalize hZ : wd.alloc (.cells #[.slice (some ⟨h1, 0, none⟩) V.nodes.length V.nodes.length, .slice (some ⟨h2, 0, none⟩) V.tops.length V.tops.length] 31) = Z at KX K0 LD hI hx hxc x0 x1 x2 ⊢
 clear hZ; refine (implPrint_any V _ _ _ _ 0 Z (hx.drop (Nat.zero_le _)) ⟨hxc, kv, Tb.later HTB.out LD, HPW.out.later LD⟩ hokn.out).mono ?_
 rintro e wf ⟨rfl, hbf⟩
 have LF := bl_trans LD hbf
 have KX := KX.later hbf
 have K0 := K0.later hbf
 have hI := hI.later hbf
 have hx := hx.later hbf
 clear LD hbf x0 x1 x2 hxc; obtain ⟨x0, x1, x2⟩ := KX.two
 obtain ⟨z0, z1, z2⟩ := K0.two
 have KXH : Hid (Blk wf wd.heap.size #[.slice (some ⟨h1, 0, none⟩) V.nodes.length V.nodes.length, .slice (some ⟨h2, 0, none⟩) V.tops.length V.tops.length] 31) := KX
 have K0H : Hid (Blk wf w.heap.size #[.slice a1 V.nodes.length c1, .slice a2 V.tops.length c2] 25) := K0
 have qb : ((treB V) != (treB V)) = false := by simp
 generalize treB V = tb at qb ⊢
 generalize prA V = ts
 go_wp2_with fail; go_region_held3 (fun w' => w'.cell? ⟨wd.heap.size, 0, none⟩ = some (.slice (some ⟨h1, 0, none⟩) V.nodes.length V.nodes.length) ∧ w'.cell? ⟨wd.heap.size, 1, none⟩ = some (.slice (some ⟨h2, 0, none⟩) V.tops.length V.tops.length) ∧ w'.cell? ⟨w.heap.size, 0, none⟩ = some (.slice a1 V.nodes.length c1) ∧ w'.cell? ⟨w.heap.size, 1, none⟩ = some (.slice a2 V.tops.length c2)) (simp [x0, x1, z0, z1])
  (first
   | (go_at_call 6; refine (toTree_made a1 a2 c1 c2 V 0 _ (hI.later (bl_drew (Below.refl _ _))) kv).mono ?_; rintro e wg ⟨⟨q1, q2, rfl, hIg⟩, hbg⟩; have hwg : Below wf.heap.size wf wg := bl_trans (bl_drew (Below.refl _ _)) hbg; obtain ⟨x0, x1, x2⟩ := (KXH.out.later hwg).two; obtain ⟨z0, z1, z2⟩ := (K0H.out.later hwg).two)
   | (go_at_call 8; refine (eqTree_self _ _ _ _ _ _ _ _ V _ _ wg (hx.later hwg) hIg kv).mono ?_; rintro e wh ⟨rfl, hbh⟩; have hwh : Below wf.heap.size wf wh := bl_trans hwg hbh; obtain ⟨x0, x1, x2⟩ := (KXH.out.later hwh).two; obtain ⟨z0, z1, z2⟩ := (K0H.out.later hwh).two))
 have LH := bl_trans LF hwh
 go_wp2_with fail; go_ret; exact ⟨rfl, LH⟩
end
section
open Go.ChangeShapes Go.WideShapes Go.ChangeAt Go.RowKit Go.Joins
set_option maxRecDepth 100000
theorem Tryz.cellsI : Tryz.prog.cellsOf 3 = 1 := by kernel_rfl
theorem Tryz.cellsIs : Tryz.prog.cellsOf 23 = 1 := by kernel_rfl
section
variable {H : Type} {enc : TypeId × Value → H} {w : World} {base : Nat} {spare : Nat → Bool} {held : Bool}
theorem bd_of_wf {n : Int} (h : (Lit.int .i64 n).wf = true) : -9223372036854775808 ≤ n ∧ n ≤ 9223372036854775807 := by
 have e1 : IntKind.i64.min = -9223372036854775808 := by decide +kernel
 have e2 : IntKind.i64.max = 9223372036854775807 := by decide +kernel
 simp only [Lit.wf, Bool.and_eq_true, decide_eq_true_eq, e1, e2] at h
 exact h
theorem openEls {α : Type} {t e : TypeId} {k : Nat} {E : World → Nat → List Value → α → Prop} {ok : α → Prop} (ht : Tryz.prog.underlying t = some (.slice e)) (hc : Tryz.prog.cellsOf e = k) (hk : 0 < k)
  (one : ∀ (m : Nat) (cs : List Value) (y : DataW H × List MemPlace), DataW.trod enc Tryz.prog w base spare held m e cs = some y → ∃ a, E w 0 cs a ∧ ok a)
  {fuel : Nat} {cs0 : List Value} {y : DataW H × List MemPlace} (h : DataW.trod enc Tryz.prog w base spare held fuel t cs0 = some y) :
  ∃ s c L, cs0 = [.slice s (List.length (α := α) L) c] ∧ Els k E w 0 s L ∧ (∀ a ∈ L, ok a) ∧ L.length ≤ 9223372036854775807 := by
 subst hc
 rcases DataW.trod_slice ht h with ⟨hcs, _⟩ | ⟨a, len, cap, elems, rest, n, _, hcs, _, hb, hl, hm, hlen, hel, _, _⟩
 ·
  exact ⟨none, 0, [], hcs, Or.inl rfl, fun a ha => by simp at ha, by simp⟩
 have each : ∀ i, i < len → ∃ (x : α) (cs : List Value), cs.length = Tryz.prog.cellsOf e ∧ (∀ j, j < Tryz.prog.cellsOf e → w.cell? ((a.add (i * Tryz.prog.cellsOf e)).add j) = cs[j]?) ∧ E w 0 cs x ∧ ok x := by
  intro i hi
  have := hel i hi
  obtain ⟨q, hq⟩ : ∃ q, elems[i]? = some q := ⟨elems[i], by simp [hlen, hi]⟩
  rw [hq, Option.bind_eq_some_iff] at this
  obtain ⟨cs, hcs', hy⟩ := this
  have hc := World.cells?_some hcs'
  obtain ⟨x, hx, hok⟩ := one _ _ _ hy
  exact ⟨x, cs, hc.2.1, hc.2.2, hx, hok⟩
 by_cases h0 : len = 0
 ·
  subst h0
  exact ⟨some a, cap, [], by simpa using hcs, Or.inl rfl, fun a ha => by simp at ha, by simp⟩
 have hlenm : len ≤ 9223372036854775807 := by unfold maxLen at hm; omega
 let g : Nat → α := fun i => if h : i < len then Classical.choose (each i h) else Classical.choose (each 0 (by omega))
 have hg : ∀ i, i < len → ∃ cs, cs.length = Tryz.prog.cellsOf e ∧ (∀ j, j < Tryz.prog.cellsOf e → w.cell? ((a.add (i * Tryz.prog.cellsOf e)).add j) = cs[j]?) ∧ E w 0 cs (g i) ∧ ok (g i) := by
  intro i hi
  have : g i = Classical.choose (each i hi) := by simp [g, hi]
  rw [this]
  exact Classical.choose_spec (each i hi)
 have hL : ((List.range len).map g).length = len := by simp
 obtain ⟨b, off, spot⟩ := a
 obtain ⟨cs00, c00, c01, _⟩ := hg 0 (by omega)
 have h00 := c01 0 hk
 obtain ⟨u0, hu0⟩ : ∃ u, cs00[0]? = some u := ⟨cs00[0], by simp [c00, hk]⟩
 rw [hu0] at h00
 have hspot : spot = none := by simpa [Addr.add] using World.cell?_spot h00
 subst hspot
 refine ⟨some ⟨b, off, none⟩, cap, (List.range len).map g, by rw [hL]; exact hcs, Or.inr ⟨b, off, rfl, Nat.zero_le _, ?_, fun j x hx => ?_, fun h => absurd h (by omega)⟩, ?_, by rw [hL]; exact hlenm⟩
 ·
  have := World.block_lt_of_cell? _ _ h00
  simpa [Addr.add] using this
 ·
  have hj : j < len := by
   have := (List.getElem?_eq_some_iff.1 hx).1
   simpa using this
  obtain ⟨cs, d1, d2, d3, d4⟩ := hg j hj
  have ex : x = g j := by simp [hj] at hx; exact hx.symm
  subst ex
  refine ⟨cs, d1, fun i u hu => ?_, d3⟩
  have hi : i < Tryz.prog.cellsOf e := by rw [← d1]; exact (List.getElem?_eq_some_iff.1 hu).1
  have := d2 i hi
  rw [hu] at this
  rw [Addr.add_add, add_plain, ← Nat.add_assoc] at this
  exact this
 intro x hx
 simp only [List.mem_map, List.mem_range] at hx
 obtain ⟨i, hi, rfl⟩ := hx
 obtain ⟨_, _, _, _, d4⟩ := hg i hi
 exact d4
end
end
end Go.Proofs.YtjckoldjodjehaaGreatDoor
