import Derived.Test.YtkkofminndboaaaGreatDoorSb18
import Derived.Defers
import Derived.Recover
namespace Go.Proofs.YtkkofminndboaaaGreatDoor
set_option linter.unusedVariables false
set_option linter.unusedSimpArgs false
section
open Go.RowKit
set_option maxRecDepth 100000
structure AllS (T : List Tk) (E : Int) (X : World) (B k g cp i : Nat) : Prop where
 prim : Says T E X B k g cp 41 83 #[.pointer (some ⟨k, 0, none⟩)] .prim i
 lvl : ∀ l : Nat, 1 ≤ l → l ≤ 6 → Says T E X B k g cp 41 74 #[.pointer (some ⟨k, 0, none⟩), .int .i64 l] (fun d => .lvl d l) i
 expr : Says T E X B k g cp 40 62 #[.pointer (some ⟨k, 0, none⟩)] .expr i
 stmt : Says T E X B k g cp 40 47 #[.pointer (some ⟨k, 0, none⟩)] .stmt i
 block : Says T E X B k g cp 40 32 #[.pointer (some ⟨k, 0, none⟩)] .block i
theorem all_step {T : List Tk} {E : Int} {X : World} {B k g cp i : Nat} (EV : Env T E X B g) (NWT : NW T) (hi : i ≤ T.length) (h : ∀ j, i < j → j ≤ T.length → AllS T E X B k g cp j) : AllS T E X B k g cp i := by
 have hp := operand_of T E X B k g cp i EV hi (fun j h1 h2 => (h j h1 h2).expr) (fun hlt => (h (i + 1) (by omega) hlt).prim)
 have hl := operation_of T E X B k g cp i EV hi hp (fun j l h1 h2 h3 h4 => (h j h1 h2).lvl l h3 h4)
 exact ⟨hp, hl, whole_of T E X B k g cp i EV hi (hl 1 (by omega) (by omega)), statement_of T E X B k g cp i EV NWT hi (fun j h1 h2 => (h j h1 h2).expr) (fun j h1 h2 => (h j h1 h2).block), block_of T E X B k g cp i EV hi (fun j h1 h2 => (h j h1 h2).stmt)⟩
theorem all_says {T : List Tk} {E : Int} {X : World} {B k g cp : Nat} (EV : Env T E X B g) (NWT : NW T) : ∀ (m i : Nat), T.length - i ≤ m → i ≤ T.length → AllS T E X B k g cp i := by
 intro m
 induction m with
 | zero => exact fun i hm hi => all_step EV NWT hi fun j h1 h2 => by omega
 | succ m ih => exact fun i hm hi => all_step EV NWT hi fun j h1 h2 => ih j (by omega) h2
theorem top_says {T : List Tk} {E : Int} {X : World} {B k g cp i : Nat} (EV : Env T E X B g) (NWT : NW T) (hi : i ≤ T.length) (v : Value) (Q : List NK) (P : List OR) (w : World) (hR : Rs X B w (rR k g (T.length + 1) cp i 0 v Q P)) (hq : Q.length ≤ 2 * i) :
  Calls Tryz.prog 17 #[.pointer (some ⟨k, 0, none⟩)] w (Ok1 T X B k g cp 0 P (PAR T E .top i (Q.map (·.1)))) :=
 top_of T E X B k g cp i EV hi (fun j h1 h2 => (all_says EV NWT T.length j (by omega) h2).block) v Q P w hR hq
end
section
open Go.RowKit
set_option maxRecDepth 100000
theorem Tryz.ta_rf (v : Value) (w : World) : (Instr.typeAssert (.iface 51 v) 20 51 true).run Tryz.prog w = .ok (.tuple #[v, .bool true]) w := by kernel_rfl
theorem Tryz.ta_nil (w : World) : (Instr.typeAssert .nilIface 20 51 true).run Tryz.prog w = .ok (.tuple #[.agg #[.int .i64 0, .int .i64 0], .bool false]) w := by kernel_rfl
set_option maxHeartbeats 4000000 in
theorem catch_fault (pc pa : Nat) (c a c0 a0 : Int) (older : List PanicEntry) (X : World) (B : Nat) (R : List OR) (w : World) (hR : Rs X B w (rB pc 3 [.int .i64 c0] :: rB pa 3 [.int .i64 a0] :: R)) :
  CallsD Tryz.prog 15 #[.pointer (some ⟨pc, 0, none⟩), .pointer (some ⟨pa, 0, none⟩)] (.panicking ({ v := .iface 51 (.agg #[.int .i64 c, .int .i64 a]), recovered := false } :: older)) w fun e u' w' =>
   e = .returned (.tuple #[]) ∧ u' = .panicking ({ v := .iface 51 (.agg #[.int .i64 c, .int .i64 a]), recovered := true } :: older) ∧ Rs X B w' (rB pc 3 [.int .i64 c] :: rB pa 3 [.int .i64 a] :: R) := by
 have ht := Tryz.ta_rf
 refine callsD_of_wpS Tryz.func15 rfl fun c₀ cs hu => ?_
 apply wpS_seq
 apply wpS_region
 simp [wpOpsS, go_sem, recoverD, hu, Tryz.ntmps15, Exit.thenS, ht]
 have h1 := hid (hR.later (bl_alloc (Below.refl _ _) (.cells #[.int .i64 c, .int .i64 a] 51)))
 have kb := Blk.new w #[.int .i64 c, .int .i64 a] 51
 have n1 : pc < w.heap.size := (hR.box [] (rB pa 3 [.int .i64 a0] :: R)).lt
 have n2 : pa < w.heap.size := (hR.box [rB pc 3 [.int .i64 c0]] R).lt
 have x0 : (w.alloc (.cells #[.int .i64 c, .int .i64 a] 51)).cell? ⟨w.heap.size, 0, none⟩ = some (.int .i64 c) := kb.cell 0
 have x1 : (w.alloc (.cells #[.int .i64 c, .int .i64 a] 51)).cell? ⟨w.heap.size, 1, none⟩ = some (.int .i64 a) := kb.cell 1
 have y0 : (w.alloc (.cells #[.int .i64 c, .int .i64 a] 51)).cell? ⟨pc, 0, none⟩ = some (.int .i64 c0) := (h1.out.box [] (rB pa 3 [.int .i64 a0] :: R)).cell 0
 have y1 := (h1.out.box [] (rB pa 3 [.int .i64 a0] :: R)).frozen
 have z0 : (w.alloc (.cells #[.int .i64 c, .int .i64 a] 51)).cell? ⟨pa, 0, none⟩ = some (.int .i64 a0) := (h1.out.box [rB pc 3 [.int .i64 c0]] R).cell 0
 have z1 := (h1.out.box [rB pc 3 [.int .i64 c0]] R).frozen
 have h2 := hid (h1.out.setB [] (rB pa 3 [.int .i64 a0] :: R) 0 (.int .i64 c))
 have h3 := hid (h2.out.setB [rB pc 3 ([.int .i64 c0].set 0 (.int .i64 c))] R 0 (.int .i64 a))
 generalize w.alloc (.cells #[.int .i64 c, .int .i64 a] 51) = W1 at h1 h2 h3 x0 x1 y0 y1 z0 z1 ⊢
 have m0 : ¬ pa = pc := fun e => hR.o.off (g := pc) rfl (by rw [← e]; simp [blks, rB, Value.ownBlock])
 have m00 : ¬ pc = pa := fun e => m0 e.symm
 have m1 : ¬ pc = w.heap.size := by omega
 have m2 : ¬ pa = w.heap.size := by omega
 have m3 : ¬ w.heap.size = pc := by omega
 have m4 : ¬ w.heap.size = pa := by omega
 generalize w.heap.size = kq at x0 x1 m1 m2 m3 m4 ⊢
 refine wpS_of_wp ?_
 simp only [show Array.replicate 12 undef = #[undef, undef, undef, undef, undef, undef, undef, undef, undef, undef, undef, undef] from rfl, List.setIfInBounds_toArray, List.set_cons_zero, List.set_cons_succ, List.append_toArray, List.cons_append, List.nil_append]
 clear kb hR n1 n2 h1 h2; go_wp2_with fail; go_region
 exact ⟨rfl, _, rfl, _, results_none rfl _ _ _, rfl, rfl, h3.out.drew⟩
set_option maxHeartbeats 4000000 in
theorem catch_none (pc pa : Nat) (w : World) :
  CallsD Tryz.prog 15 #[.pointer (some ⟨pc, 0, none⟩), .pointer (some ⟨pa, 0, none⟩)] .returning w fun e u' w' => e = .returned (.tuple #[]) ∧ u' = .returning ∧ Below w.heap.size w w' := by
 have ht := Tryz.ta_nil
 refine callsD_of_wpS Tryz.func15 rfl fun c₀ cs hu => ?_
 apply wpS_seq
 apply wpS_region
 simp [wpOpsS, go_sem, recoverD, hu, Tryz.ntmps15, Exit.thenS, ht]
 have h1 : Below w.heap.size w (w.alloc (.cells #[.int .i64 0, .int .i64 0] 51)) := bl_alloc (Below.refl _ _) _
 generalize w.alloc (.cells #[.int .i64 0, .int .i64 0] 51) = W1 at h1 ⊢
 refine wpS_of_wp ?_
 simp only [show Array.replicate 12 undef = #[undef, undef, undef, undef, undef, undef, undef, undef, undef, undef, undef, undef] from rfl, List.setIfInBounds_toArray, List.set_cons_zero, List.set_cons_succ, List.append_toArray, List.cons_append, List.nil_append]
 go_wp2_with fail; cases c₀
 dsimp only at hu
 subst hu
 exact ⟨rfl, _, rfl, _, results_none rfl _ _ _, rfl, rfl, h1⟩
end
section
open Go.RowKit
set_option maxRecDepth 100000
theorem PAR_tops {T : List Tk} {E : Int} {i : Nat} {acc : List Int} {N : List Nd} (hi : i ≤ T.length) : PAR T E (.tops acc) i N = if T.length ≤ i then .ok (acc, i, N) else (PAR T E .top i N).then fun x j N => PAR T E (.tops (acc ++ [x.headD 0])) j N := by
 rw [PAR_eq (p := .tops acc) trivial hi]
 rfl
def OkT (X : World) (r : PRes) (e : Ending) (w' : World) : Prop :=
 match r with
 | .ok (x, j, M) => ∃ v Q s c, e = .returned (.tuple #[.agg #[v, .slice s x.length c], .int .i64 0, .int .i64 0]) ∧ Q.map (·.1) = M ∧ Rs X X.heap.size w' (rN v Q :: (rK Q ++ [rI (.slice s x.length c) x]))
 | .error (c, a) => e = .returned (.tuple #[.agg #[.slice none 0 0, .slice none 0 0], .int .i64 c, .int .i64 a]) ∧ Below X.heap.size X w'
theorem tok_kind (a b d : Int) (s : ByteArray) (x : Nat) (W : World) : (Instr.field 38 (.agg #[.int .i64 a, .int .i64 b, .string s, .int .i64 d, .float .f64 x]) 0).run Tryz.prog W = .ok (.int .i64 a) W := by kernel_rfl
set_option maxHeartbeats 16000000 in
theorem readTree_of (T : List Tk) (E : Int) (w : World) (g cp : Nat) (EV : Env T E w w.heap.size g) (NWT : NW T) :
  Calls Tryz.prog 9 #[.slice (some ⟨g, 0, none⟩) (T.length + 1 : Nat) cp] w (OkT w (PAR T E (.tops []) 0 [])) := by
 have hmf : ∀ (fn : Fn) (first cap : Array Value) (w : World), (Instr.makeFunc fn first cap).run Tryz.prog w = .ok (.func fn first cap) w := fun _ _ _ _ => rfl
 have hal := alloc_old
 have haf := alloc_oldf
 obtain ⟨Tg, hTg⟩ : ∃ r, Hid (PAR T E (.tops []) 0 [] = r) := ⟨_, rfl⟩
 rw [hTg.out]
 have s1 := (Rs.nil w).addB [.slice none 0 0, .slice none 0 0] 27
 have s2 := s1.addB [.int .i64 0] 3
 have s3 := s2.addB [.int .i64 0] 3
 have s4 := s3.addB [.slice (some ⟨g, 0, none⟩) (T.length + 1) cp, .int .i64 0, .int .i64 0, .slice none 0 0] 55
 simp only [World.size_alloc] at s4
 have s5 : Rs w w.heap.size ((((w.alloc (.cells #[.slice none 0 0, .slice none 0 0] 27)).alloc (.cells #[.int .i64 0] 3)).alloc (.cells #[.int .i64 0] 3)).alloc (.cells #[.slice (some ⟨g, 0, none⟩) (T.length + 1) cp, .int .i64 0, .int .i64 0, .slice none 0 0] 55)) ([rB (w.heap.size + 1 + 1 + 1) 55 [.slice (some ⟨g, 0, none⟩) (T.length + 1) cp, .int .i64 0, .int .i64 0, .slice none 0 0]] ++ rN (.slice none 0 0) [] :: [rB (w.heap.size + 1 + 1) 3 [.int .i64 0], rB (w.heap.size + 1) 3 [.int .i64 0], rB w.heap.size 27 [.slice none 0 0, .slice none 0 0]]) := Rs.ins [rB (w.heap.size + 1 + 1 + 1) 55 [.slice (some ⟨g, 0, none⟩) (T.length + 1) cp, .int .i64 0, .int .i64 0, .slice none 0 0]] [rB (w.heap.size + 1 + 1) 3 [.int .i64 0], rB (w.heap.size + 1) 3 [.int .i64 0], rB w.heap.size 27 [.slice none 0 0, .slice none 0 0]] s4 (Below.refl _ _) (World.ownsRow_nil _ _ _ _)
 have h0 := hid (rR_none (show Rs w w.heap.size ((((w.alloc (.cells #[.slice none 0 0, .slice none 0 0] 27)).alloc (.cells #[.int .i64 0] 3)).alloc (.cells #[.int .i64 0] 3)).alloc (.cells #[.slice (some ⟨g, 0, none⟩) (T.length + 1) cp, .int .i64 0, .int .i64 0, .slice none 0 0] 55)) (rR (w.heap.size + 1 + 1 + 1) g (T.length + 1) cp 0 0 (.slice none 0 0) [] [rB (w.heap.size + 1 + 1) 3 [.int .i64 0], rB (w.heap.size + 1) 3 [.int .i64 0], rB w.heap.size 27 [.slice none 0 0, .slice none 0 0]]) from s5))
 clear s1 s2 s3 s4 s5; go_enter_defers Tryz.func9, Tryz.ntmps9
 go_wp2_with fail; generalize (((w.alloc (.cells #[.slice none 0 0, .slice none 0 0] 27)).alloc (.cells #[.int .i64 0] 3)).alloc (.cells #[.int .i64 0] 3)).alloc (.cells #[.slice (some ⟨g, 0, none⟩) (T.length + 1) cp, .int .i64 0, .int .i64 0, .slice none 0 0] 55) = W0 at h0 ⊢
 go_loopw [6] (fun kv wr => ∃ (acc : List Int) (q : Nat) (v2 : Value) (Q2 : List NK) (s : Option Addr) (c : Nat), kv = .slice s acc.length c ∧ q ≤ T.length ∧ acc.length ≤ q ∧ Q2.length ≤ 2 * q ∧ Hid (PAR T E (.tops acc) q (Q2.map (·.1)) = Tg) ∧ Hid (Rs w w.heap.size wr (rR (w.heap.size + 1 + 1 + 1) g (T.length + 1) cp q 0 v2 Q2 (rI (.slice s acc.length c) acc :: [rB (w.heap.size + 1 + 1) 3 [.int .i64 0], rB (w.heap.size + 1) 3 [.int .i64 0], rB w.heap.size 27 [.slice none 0 0, .slice none 0 0]])))) (fun _ wr => T.length - idx wr (w.heap.size + 1 + 1 + 1))
 case atStart => exact ⟨[], 0, .slice none 0 0, [], none, 0, rfl, Nat.zero_le _, by simp, by simp, hTg, h0⟩
 clear h0 hTg; obtain ⟨acc, q, v2, Q2, s, c, rfl, hqT, hac, hq2, HR, h2⟩ := hrel
 have HIX := hid (idx_rs h2.out)
 have hl := EV.l
 have hf := tok_kind (kd T q) (ta T E q) (ti T q) (tx T q)
 go_wp2_with fail; refine (here_any T E (w.heap.size + 1 + 1 + 1) g cp q 0 v2 _ (h2.out.box [] (rN v2 Q2 :: (rK Q2 ++ (rI (.slice s acc.length c) acc :: [rB (w.heap.size + 1 + 1) 3 [.int .i64 0], rB (w.heap.size + 1) 3 [.int .i64 0], rB w.heap.size 27 [.slice none 0 0, .slice none 0 0]])))) (EV.t.rs h2.out EV.g) hqT EV.l).mono ?_
 rintro e w3 ⟨⟨x, rfl⟩, b3⟩
 have h3 := hid (h2.out.later b3)
 clear h2 b3; by_cases hlt : q < T.length
 ·
  have hne : (kd T q != 0) = true := by simpa using EV.z q hlt
  have hR2 := HR.out
  rw [PAR_tops hqT, if_neg (by omega)] at hR2
  have HR2 := hid hR2
  clear hR2 HR; go_wp2_with fail; obtain ⟨Res, z4⟩ : ∃ r, Hid (PAR T E .top q (Q2.map (·.1)) = r) := ⟨_, rfl⟩
  have g4 := PAR_good (T := T) (E := E) (p := .top) (i := q) (N := Q2.map (·.1)) trivial hqT
  rw [z4.out] at g4
  have G4 := hid g4
  clear g4; refine (top_says EV NWT hqT v2 Q2 _ _ h3.out hq2).mono ?_
  rw [z4.out]
  rcases Res with ⟨c4, a4⟩ | ⟨y4, j4, M4⟩
  ·
   rintro e w4 ⟨rfl, r4⟩
   have hF : Tg = .error (c4, a4) := by rw [← HR2.out, z4.out]; rfl
   clear HR2; subst hF
   dsimp +zetaDelta only [Exit.then, Exit.inBlock]
   obtain ⟨RR, r5⟩ := r4.one
   have r6 : Rs w w.heap.size w4 (rB (w.heap.size + 1) 3 [.int .i64 0] :: rB (w.heap.size + 1 + 1) 3 [.int .i64 0] :: (RR ++ [rB w.heap.size 27 [.slice none 0 0, .slice none 0 0]])) := r5.perm (by
    refine (List.perm_append_comm_assoc RR [_, _] [_]).trans ?_
    exact List.Perm.swap _ _ _)
   refine leaves_cons (f := 15) (args := #[.pointer (some ⟨w.heap.size + 1, 0, none⟩), .pointer (some ⟨w.heap.size + 1 + 1, 0, none⟩)]) (by simp) (by simp [go_sem]) ?_
   refine (catch_fault (w.heap.size + 1) (w.heap.size + 1 + 1) c4 a4 0 0 [] w w.heap.size _ w4 r6).mono ?_
   rintro e u' w5 ⟨rfl, rfl, r7⟩
   have k1 := (r7.box [] _).cell 0
   have k2 := (r7.box [rB (w.heap.size + 1) 3 [.int .i64 c4]] _).cell 0
   have k3 := r7.box (rB (w.heap.size + 1) 3 [.int .i64 c4] :: rB (w.heap.size + 1 + 1) 3 [.int .i64 a4] :: RR) []
   have k30 := k3.cell 0
   have k31 := k3.cell 1
   have kl := hid r7.l
   clear r7 r6 r5 k3; simp [Leaves, settle, results, Tryz.results9, go_sem, k1, k2, k30, k31]
   exact ⟨rfl, kl.out⟩
  rintro e w4 ⟨rfl, v4, Q4, m4, r4⟩
  subst m4
  have b4 := G4.out.okv rfl
  simp only [List.length_map, Pf.lo] at b4
  have hj1 := b4.1
  have hj2 := b4.2.1
  have hq4 : Q4.length ≤ 2 * j4 := by omega
  obtain ⟨a4, x4⟩ : ∃ c, Hid (y4.headD 0 = c) := ⟨_, rfl⟩
  rw [x4.out]
  have hR3 := HR2.out
  rw [z4.out, then_ok, x4.out] at hR3
  obtain ⟨R, eR⟩ : ∃ R, Hid (acc ++ [a4] = R) := ⟨_, rfl⟩
  rw [eR.out] at hR3
  have HR3 := hid hR3
  have LR : Hid (R.length = acc.length + 1) := by show _ = _; rw [← eR.out]; simp
  have h4 := hid r4
  clear r4 h3 b4 G4 HR2 hR3; go_wp2_with (at_builtin; refine wpList_rR1 h4.out rfl _ _ rfl rfl a4 rfl (by omega) R eR.out ?_; intro s8 c8 w8 r8)
  have h8 := hid r8
  have hidx := idx_rs r8
  clear r8 h4; go_wp2_with fail; go_roundw
  case rel => exact ⟨R, j4, v4, Q4, s8, c8, rfl, hj2, by rw [LR.out]; omega, hq4, HR3, h8⟩
  rw [hidx, HIX.out]
  omega
 have hne : (kd T q != 0) = false := by rw [kd_none hlt]; rfl
 have hR2 := HR.out
 rw [PAR_tops hqT, if_pos (by omega)] at hR2
 have HR2 := hid hR2
 clear hR2 HR; obtain ⟨sv, cv, rfl⟩ : ∃ sv cv, v2 = .slice sv Q2.length cv := by
  have hon : (rN v2 Q2).on w3 w.heap.size := h3.out.at [_] _
  have hon : w3.ownsRow w.heap.size 42 4 v2 Q2.length (Q2.flatMap nc) := hon
  rcases hon.2 with ⟨e1, e2⟩ | ⟨gg, cap, cur, e1, _⟩
  ·
   exact ⟨none, 0, by rw [e1, e2]⟩
  exact ⟨_, cap, e1⟩
 obtain ⟨y0, y1, y2, y3, y4⟩ := (h3.out.box [] (rN (.slice sv Q2.length cv) Q2 :: (rK Q2 ++ (rI (.slice s acc.length c) acc :: [rB (w.heap.size + 1 + 1) 3 [.int .i64 0], rB (w.heap.size + 1) 3 [.int .i64 0], rB w.heap.size 27 [.slice none 0 0, .slice none 0 0]])))).four'
 have e3 : Rs w w.heap.size w3 ((rB (w.heap.size + 1 + 1 + 1) 55 [.slice (some ⟨g, 0, none⟩) (T.length + 1) cp, .int .i64 q, .int .i64 (0 : Nat), .slice sv Q2.length cv] :: rN (.slice sv Q2.length cv) Q2 :: (rK Q2 ++ [rI (.slice s acc.length c) acc])) ++ [rB (w.heap.size + 1 + 1) 3 [.int .i64 0], rB (w.heap.size + 1) 3 [.int .i64 0], rB w.heap.size 27 [.slice none 0 0, .slice none 0 0]]) := by
  have := h3.out
  unfold rR at this
  simpa using this
 obtain ⟨A, hA⟩ : ∃ A, Hid ((rB (w.heap.size + 1 + 1 + 1) 55 [.slice (some ⟨g, 0, none⟩) (T.length + 1) cp, .int .i64 q, .int .i64 (0 : Nat), .slice sv Q2.length cv] :: rN (.slice sv Q2.length cv) Q2 :: (rK Q2 ++ [rI (.slice s acc.length c) acc])) = A) := ⟨_, rfl⟩
 rw [hA.out] at e3
 have f3 : Rs w w.heap.size w3 (rB w.heap.size 27 [.slice none 0 0, .slice none 0 0] :: rB (w.heap.size + 1) 3 [.int .i64 0] :: rB (w.heap.size + 1 + 1) 3 [.int .i64 0] :: A) := e3.perm (by
  refine (List.perm_append_comm (l₁ := A)).trans ?_
  exact (List.reverse_perm [rB w.heap.size 27 [.slice none 0 0, .slice none 0 0], rB (w.heap.size + 1) 3 [.int .i64 0], rB (w.heap.size + 1 + 1) 3 [.int .i64 0]]).append_right A)
 have p1 := f3.box [] _
 have p2 := f3.box [rB w.heap.size 27 [.slice none 0 0, .slice none 0 0]] _
 have p3 := f3.box [rB w.heap.size 27 [.slice none 0 0, .slice none 0 0], rB (w.heap.size + 1) 3 [.int .i64 0]] _
 have a0 : w3.cell? ⟨w.heap.size, 0, none⟩ = some (.slice none 0 0) := p1.cell 0
 have a1 : w3.cell? ⟨w.heap.size, 1, none⟩ = some (.slice none 0 0) := p1.cell 1
 have a2 := p1.frozen
 have b0 : w3.cell? ⟨w.heap.size + 1, 0, none⟩ = some (.int .i64 0) := p2.cell 0
 have b2 := p2.frozen
 have d0 : w3.cell? ⟨w.heap.size + 1 + 1, 0, none⟩ = some (.int .i64 0) := p3.cell 0
 have d2 := p3.frozen
 have F3 := hid f3
 clear e3 f3 p1 p2 p3 h3; go_wp2_with fail; go_region
 have g6 := ((((((F3.out.setB [] _ 0 (.slice none 0 0)).setB [] _ 1 (.slice none 0 0)).setB [] _ 0 (.slice sv Q2.length cv)).setB [] _ 1 (.slice s acc.length c)).setB [rB w.heap.size 27 [.slice sv Q2.length cv, .slice s acc.length c]] _ 0 (.int .i64 0)).setB [rB w.heap.size 27 [.slice sv Q2.length cv, .slice s acc.length c], rB (w.heap.size + 1) 3 [.int .i64 0]] _ 0 (.int .i64 0)).drew
 have G6 := hid g6
 clear g6 F3 a0 a1 a2 b0 b2 d0 d2 y0 y1 y2 y3 y4 hne; generalize ((((((w3.setCell ⟨w.heap.size, 0, none⟩ (.slice none 0 0)).setCell ⟨w.heap.size, 1, none⟩ (.slice none 0 0)).setCell ⟨w.heap.size, 0, none⟩ (.slice sv Q2.length cv)).setCell ⟨w.heap.size, 1, none⟩ (.slice s acc.length c)).setCell ⟨w.heap.size + 1, 0, none⟩ (.int .i64 0)).setCell ⟨w.heap.size + 1 + 1, 0, none⟩ (.int .i64 0)).drew = WE at G6 ⊢
 have G7 : Hid (Rs w w.heap.size WE (rB w.heap.size 27 [.slice sv Q2.length cv, .slice s acc.length c] :: rB (w.heap.size + 1) 3 [.int .i64 0] :: rB (w.heap.size + 1 + 1) 3 [.int .i64 0] :: A)) := G6.out
 clear G6; go_wp2_with fail; refine leaves_cons (f := 15) (args := #[.pointer (some ⟨w.heap.size + 1, 0, none⟩), .pointer (some ⟨w.heap.size + 1 + 1, 0, none⟩)]) (by simp) (by simp [go_sem]) ?_
 refine (catch_none (w.heap.size + 1) (w.heap.size + 1 + 1) _).mono ?_
 rintro e u' w5 ⟨rfl, rfl, hb5⟩
 have r7 := G7.out.later hb5
 have k1 : w5.cell? ⟨w.heap.size + 1, 0, none⟩ = some (.int .i64 0) := (r7.box [rB w.heap.size 27 [.slice sv Q2.length cv, .slice s acc.length c]] _).cell 0
 have k2 : w5.cell? ⟨w.heap.size + 1 + 1, 0, none⟩ = some (.int .i64 0) := (r7.box [rB w.heap.size 27 [.slice sv Q2.length cv, .slice s acc.length c], rB (w.heap.size + 1) 3 [.int .i64 0]] _).cell 0
 have k30 : w5.cell? ⟨w.heap.size, 0, none⟩ = some (.slice sv Q2.length cv) := (r7.box [] _).cell 0
 have k31 : w5.cell? ⟨w.heap.size, 1, none⟩ = some (.slice s acc.length c) := (r7.box [] _).cell 1
 have r8 := ((r7.less [] _).less [] _).less [] _
 have hA2 := hA.out
 rw [← hA2] at r8
 have r9 := hid (r8.less [] _)
 clear r7 r8 hb5 G7 hA2; have hF := HR2.out
 clear HR2; subst hF
 simp [Leaves, settle, results, Tryz.results9, go_sem, k1, k2, k30, k31]
 exact ⟨_, Q2, s, c, rfl, rfl, r9.out⟩
end
end Go.Proofs.YtkkofminndboaaaGreatDoor
