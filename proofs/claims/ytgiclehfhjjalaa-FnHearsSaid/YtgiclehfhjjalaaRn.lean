import Derived.Test.YtgiclehfhjjalaaRm
namespace Go.Proofs.Ytgiclehfhjjalaa
open Go.RowKit
set_option linter.unusedVariables false
set_option linter.unusedSimpArgs false

theorem ov_one {w : World} {b : Nat} {v : V4} (h : Blk w b #[.int .i64 v.1, .int .i64 v.2.1, .float .f64 v.2.2.1, .float .f64 v.2.2.2] 32) : OV w b (.slice (some ⟨b, 0, none⟩) 1 1) [v] :=
  ⟨rfl, Or.inr ⟨b, 1, _, rfl, Nat.le_refl _, h, Nat.le_refl _, by unfold maxLen; omega, rfl, rfl⟩⟩

theorem wpList_append_any {w : World} {ops : Array Oper} {rest : List Oper} {o : Oper} {a : Act} {Q : Exit → Act → World → Prop}
    (hgd : o.guard = none) (s x : Operand) (hop : o.op = Op.call { callee := Callee.builtin Builtin.append, args := #[s, x], argTypes := #[24, 24] })
    (Bs : Nat) (s0 : Option Addr) (c0 : Nat) (L : List V4) (hs : a.eval s = .slice s0 L.length c0) (hv : OV w Bs (.slice s0 L.length c0) L) (Bu : Nat) (t : Option Addr) (d : Nat) (M : List V4) (hx : a.eval x = .slice t M.length d) (hu : OV w Bu (.slice t M.length d) M) (okM : ∀ v ∈ M, okV v) (R : List V4) (hR : L ++ M = R) (hl : L.length + M.length ≤ 4194304) (hB : Bs ≤ w.heap.size)
    (h : ∀ s' c' w', OV w' Bs (.slice s' R.length c') R → w.grownBy w' (Value.slice s0 L.length c0).ownBlock → Near w (.slice s0 L.length c0) (.slice s' R.length c') → wpList Try.prog ops Q rest (a.put o.dst (.slice s' R.length c')) w') :
    wpList Try.prog ops Q (o :: rest) a w := by
  refine wpList_plain hgd fun K hK => ?_
  obtain ⟨s', c', w', hrun, h1, h2, h3⟩ := append_run w o.type Bs s0 c0 L hv Bu t d M hu okM hl hB
  rw [hR] at hrun h1 h3
  unfold Oper.wp
  simp [execOp, hop, resolve, invoke, builtin, hs, hx, hrun, Result.andThen]
  exact hK _ _ (h s' c' w' h1 h2 h3)

set_option maxRecDepth 100000 in
set_option maxHeartbeats 8000000 in
theorem hears_any (sl : Option Addr) (len cap : Nat) (w : World) (hC : Code w sl len) :
    Calls Try.prog 3 #[.slice sl len cap] w fun e w' => e = .returned (.bool true) ∧ Below w.heap.size w w' := by
  have hal := alloc_old
  have haf := alloc_oldf
  go_enter Try.func3, Try.ntmps3
  go_wp2_with fail
  refine (big_any sl len cap _).mono ?_
  rintro e w0 ⟨rfl, hw0⟩
  rw [hw0]
  clear hw0 w0
  by_cases hbig : 1048576 < (len : Int)
  · have t0 : decide (1048576 < (len : Int)) = true := by simpa using hbig
    rw [t0]
    go_wp2_with fail
    go_ret
    exact ⟨rfl, Below.refl _ _⟩
  have t0 : decide (1048576 < (len : Int)) = false := by simpa using hbig
  rw [t0]
  clear t0
  have hlen : len ≤ 1048576 := by omega
  obtain ⟨kS, k5, k6⟩ := blk3u w #[.int .i64 0, .slice none 0 0, .slice none 0 0] #[] #[] 26 32 32
  have L0 := bl_alloc (bl_alloc (bl_alloc (Below.refl _ w) (.cells #[.int .i64 0, .slice none 0 0, .slice none 0 0] 26)) (.cells #[] 32)) (.cells #[] 32)
  have H0 : Hid (Hr w (((w.alloc (.cells #[.int .i64 0, .slice none 0 0, .slice none 0 0] 26)).alloc (.cells #[] 32)).alloc (.cells #[] 32)) 0 none 0 none 0 [] [] (.slice (some ⟨w.heap.size + 1, 0, none⟩) 0 0) [] (.slice (some ⟨w.heap.size + 1 + 1, 0, none⟩) 0 0) []) :=
    ⟨L0, kS, World.ownsRow_nil _ _ _ _, World.ownsRow_nil _ _ _ _, own0v k5 (Nat.le_refl _), own0v k6 (by omega), ap_of (by omega), fun q _ e => by simp [Value.ownBlock] at e, fun q _ e => by simp [Value.ownBlock] at e, fun q _ e => by simp [Value.ownBlock] at e, fun q _ e => by simp [Value.ownBlock] at e⟩
  clear kS k5 k6 L0 hbig
  go_wp2_with fail
  have hn40 : 1 + (len : Int) % 40 ≤ 40 := by omega
  go_loopw [4, 5, 6, 8] (fun cu v5 v6 iv wr => ∃ (i : Nat) (f cur : Int) (s1 : Option Addr) (c1 : Nat) (s2 : Option Addr) (c2 : Nat) (O N sent heard : List V4) (m q : Nat) (s5 : Option Addr) (c5 : Nat) (s6 : Option Addr) (c6 : Nat), (i : Int) ≤ 1 + (len : Int) % 40 ∧ iv = .int .i64 i ∧ cu = .int .i64 cur ∧ v5 = .slice s5 sent.length c5 ∧ v6 = .slice s6 heard.length c6 ∧ Hid (Hr w wr f s1 c1 s2 c2 O N (.slice s5 sent.length c5) sent (.slice s6 heard.length c6) heard) ∧ Hid (Pu i f cur O N sent heard m q)) (fun _ _ _ iv _ => 41 - (intOf iv).toNat)
  case atStart => exact ⟨0, 0, 0, none, 0, none, 0, [], [], [], [], 0, 0, _, _, _, _, by omega, rfl, rfl, rfl, rfl, H0, ⟨rfl, rfl, rfl, Nat.le_refl _, Nat.le_refl _, rfl, Nat.le_refl _, fun x hx => by simp at hx⟩⟩
  case round =>
    clear H0
    obtain ⟨i, f, cur, s1, c1, s2, c2, O, N, sent, heard, m, q, s5, c5, s6, c6, hin, rfl, rfl, rfl, rfl, HR, PU⟩ := hrel
    have h50 : i ≤ 50 := by omega
    have lS : sent.length ≤ 50 := by have := PU.out.i; omega
    have lO : O.length ≤ 1048576 := by have := PU.out.len; omega
    have lN : N.length ≤ 1048576 := by have := PU.out.len; omega
    have lH : heard.length ≤ 50 := by rw [PU.out.h]; simp; omega
    have OKO : Hid (∀ v ∈ O, okV v) := fun v hv => (PU.out.ok v (by simp [hv])).2
    have OKN : Hid (∀ v ∈ N, okV v) := fun v hv => (PU.out.ok v (by simp [hv])).2
    have bc : -9223372036854775808 ≤ cur ∧ cur ≤ 9223372036854775807 := by have h1 := PU.out.c; have h2 := PU.out.ql; omega
    obtain ⟨U, hU⟩ : ∃ U : List V4, Hid (U = sent.drop q) := ⟨_, rfl⟩
    have OKU : Hid (∀ v ∈ U, okV v) := fun v hv => by rw [hU.out] at hv; exact (PU.out.v v (List.mem_of_mem_drop hv)).2
    have lU : U.length ≤ 50 := by rw [hU.out]; simp; omega
    obtain ⟨heard2, hH⟩ : ∃ H : List V4, Hid (H = heard ++ U) := ⟨_, rfl⟩
    have PU1 : Hid (Pu i f (sent.length : Int) O N sent heard2 m sent.length) := by
      show Pu _ _ _ _ _ _ _ _ _
      rw [hH.out, hU.out]; exact PU.out.read
    obtain ⟨x0, x1, x2, x3⟩ := HR.out.k.three'
    by_cases hlt : (i : Int) < 1 + (len : Int) % 40
    · go_wp2_with fail
      refine (at_any sl len cap i _ (by omega) hlen (hC.later' HR.out.l)).mono ?_
      rintro e w0 ⟨r, rfl, r0, r1, hw0⟩
      rw [hw0]
      clear hw0 w0
      by_cases h0 : r % 3 = 0
      · have hx : Hid (vofB 1 (((1 : Int), (i : Int), (0 : Nat), (0 : Nat)) : V4) = true ∧ okV (((1 : Int), (i : Int), (0 : Nat), (0 : Nat)) : V4)) := ⟨by simp [vofB, okV4, okB, plusB], ⟨⟨by show _ ≤ (i : Int); omega, by show (i : Int) ≤ _; omega⟩, by show (0 : Nat) < _; omega, by show (0 : Nat) < _; omega⟩⟩
        obtain ⟨M, hM⟩ : ∃ M : List V4, Hid (M = N ++ [(((1 : Int), (i : Int), (0 : Nat), (0 : Nat)) : V4)]) := ⟨N ++ [(((1 : Int), (i : Int), (0 : Nat), (0 : Nat)) : V4)], rfl⟩
        obtain ⟨sent2, hS2⟩ : ∃ S : List V4, Hid (S = sent ++ [(((1 : Int), (i : Int), (0 : Nat), (0 : Nat)) : V4)]) := ⟨sent ++ [(((1 : Int), (i : Int), (0 : Nat), (0 : Nat)) : V4)], rfl⟩
        have PU2 : Hid (Pu (i + 1) f cur O M sent2 heard m q) := by
          show Pu _ _ _ _ _ _ _ _ _
          rw [hM.out, hS2.out]; exact PU.out.send hx.out
        have HSN := PU.out.snB h50 hx.out.1
        have HSN2 : Hid (snB 1 f O N (((1 : Int), (i : Int), (0 : Nat), (0 : Nat)) : V4) = true) := HSN
        clear HSN
        go_wp2_with fail
        refine (implSend_opt 1 f s1 s2 c1 c2 O N (((1 : Int), (i : Int), (0 : Nat), (0 : Nat)) : V4) _ _ (HR.out.o.els OKO.out) (HR.out.n.els OKN.out) HR.out.o.sl HR.out.n.sl hx.out.2 lO lN).mono ?_
        rintro e w2 ⟨a, c, b, d, rfl, oa, ob, nab, hb2⟩
        rw [HSN2.out, show snL true N (((1 : Int), (i : Int), (0 : Nat), (0 : Nat)) : V4) = N ++ [(((1 : Int), (i : Int), (0 : Nat), (0 : Nat)) : V4)] from rfl, ← hM.out] at ob
        rw [HSN2.out, show snL true N (((1 : Int), (i : Int), (0 : Nat), (0 : Nat)) : V4) = N ++ [(((1 : Int), (i : Int), (0 : Nat), (0 : Nat)) : V4)] from rfl, ← hM.out]
        have HR1 : Hr w ((((w2.alloc (.cells #[.int .i64 f, .slice (some ⟨a, 0, none⟩) O.length c, .slice (some ⟨b, 0, none⟩) M.length d] 26)).setCell ⟨w.heap.size, 0, none⟩ (.int .i64 f)).setCell ⟨w.heap.size, 1, none⟩ (.slice (some ⟨a, 0, none⟩) O.length c)).setCell ⟨w.heap.size, 2, none⟩ (.slice (some ⟨b, 0, none⟩) M.length d)) f (some ⟨a, 0, none⟩) c (some ⟨b, 0, none⟩) d O M (.slice s5 sent.length c5) sent (.slice s6 heard.length c6) heard := HR.out.put (bl_alloc hb2 _) (oa.alloc _) (ob.alloc _)
        have sY : ((((w2.alloc (.cells #[.int .i64 f, .slice (some ⟨a, 0, none⟩) O.length c, .slice (some ⟨b, 0, none⟩) M.length d] 26)).setCell ⟨w.heap.size, 0, none⟩ (.int .i64 f)).setCell ⟨w.heap.size, 1, none⟩ (.slice (some ⟨a, 0, none⟩) O.length c)).setCell ⟨w.heap.size, 2, none⟩ (.slice (some ⟨b, 0, none⟩) M.length d)).heap.size = w2.heap.size + 1 := by simp
        have HR2 := HR1.later (bl_alloc (Below.refl _ _) (.cells #[.int .i64 1, .int .i64 i, .float .f64 0, .float .f64 0] 32))
        have BT := Blk.new ((((w2.alloc (.cells #[.int .i64 f, .slice (some ⟨a, 0, none⟩) O.length c, .slice (some ⟨b, 0, none⟩) M.length d] 26)).setCell ⟨w.heap.size, 0, none⟩ (.int .i64 f)).setCell ⟨w.heap.size, 1, none⟩ (.slice (some ⟨a, 0, none⟩) O.length c)).setCell ⟨w.heap.size, 2, none⟩ (.slice (some ⟨b, 0, none⟩) M.length d)) #[.int .i64 1, .int .i64 i, .float .f64 0, .float .f64 0] 32
        have OT := ov_one (v := (((1 : Int), (i : Int), (0 : Nat), (0 : Nat)) : V4)) BT
        rw [sY] at OT
        obtain ⟨y0, y1, y2, y3⟩ := (Blk.new w2 #[.int .i64 f, .slice (some ⟨a, 0, none⟩) O.length c, .slice (some ⟨b, 0, none⟩) M.length d] 26).three'
        obtain ⟨z0, z1, z2, z3⟩ := ((HR.out.k.later hb2).alloc (.cells #[.int .i64 f, .slice (some ⟨a, 0, none⟩) O.length c, .slice (some ⟨b, 0, none⟩) M.length d] 26)).three'
        have nq : ¬ w.heap.size = w2.heap.size := by have := (HR.out.k.later hb2).lt; omega
        clear HR1 BT sY oa ob nab hb2 x0 x1 x2 x3 HR
        go_wp2_with (at_builtin; refine wpList_append_any rfl _ _ rfl (w.heap.size + 1) s5 c5 sent rfl HR2.s _ (some ⟨w2.heap.size + 1, 0, none⟩) 1 [(((1 : Int), (i : Int), (0 : Nat), (0 : Nat)) : V4)] rfl OT (fun v hv => by simp at hv; subst hv; exact hx.out.2) sent2 hS2.out.symm (by simp; omega) HR2.k.lt ?_; intro s5' c5' w5 hO5 hg5 hn5; have HR3 : Hid (Hr w w5 f (some ⟨a, 0, none⟩) c (some ⟨b, 0, none⟩) d O M (.slice s5' sent2.length c5') sent2 (.slice s6 heard.length c6) heard) := HR2.appS hO5 hg5 hn5; clear HR2 hO5 hg5 hn5 OT)
        go_roundw
        case rel => exact ⟨i + 1, f, cur, _, _, _, _, O, M, sent2, heard, m, q, s5', c5', s6, c6, by omega, by go_num, rfl, rfl, rfl, HR3, PU2⟩
        case measure => simp [intOf]; omega
      · by_cases h1 : r % 3 = 1
        · go_wp2_with fail
          refine (implUnread_any cur f s1 s2 c1 c2 O N _ _ (HR.out.o.els OKO.out) (HR.out.n.els OKN.out) lO lN bc).mono ?_
          rintro e w2 ⟨vu, rfl, OU, hb2⟩
          rw [PU.out.unL h50, ← hU.out] at OU
          rw [PU.out.unN h50, PU.out.unM h50]
          obtain ⟨su, cu, rfl⟩ := OU.shape
          have HR1 := HR.out.later hb2
          clear x0 x1 x2 x3
          go_wp2_with (at_builtin; refine wpList_append_any rfl _ _ rfl (w.heap.size + 1) s6 c6 heard rfl HR1.h _ su cu U rfl OU OKU.out heard2 hH.out.symm (by omega) HR1.k.lt ?_; intro s6' c6' w5 hO6 hg6 hn6; have HR2 : Hid (Hr w w5 f s1 c1 s2 c2 O N (.slice s5 sent.length c5) sent (.slice s6' heard2.length c6') heard2) := HR1.appH hO6 hg6 hn6; obtain ⟨x0, x1, x2, x3⟩ := HR2.out.k.three'; clear HR1 hO6 hg6 hn6 OU hb2)
          refine (implTurn_opt f s1 s2 O.length c1 c2 N _ _ (HR2.out.n.els OKN.out) HR2.out.n.sl lO lN).mono ?_
          rintro e w6 ⟨g, cg, rfl, oT, _, hb6⟩
          have ON : OV w6 w5.heap.size (.slice none ([] : List V4).length 0) [] := World.ownsRow_nil _ _ _ _
          have HR3 : Hid (Hr w ((((w6).setCell ⟨w.heap.size, 0, none⟩ (.int .i64 (fb f O.length))).setCell ⟨w.heap.size, 1, none⟩ (.slice (some ⟨g, 0, none⟩) N.length cg)).setCell ⟨w.heap.size, 2, none⟩ (.slice none 0 0)) (fb f O.length) (some ⟨g, 0, none⟩) cg none 0 N [] (.slice s5 sent.length c5) sent (.slice s6' heard2.length c6') heard2) := HR2.out.put (N' := []) (t2 := none) (e2 := 0) hb6 oT ON
          have PU3 : Hid (Pu (i + 1) (fb f O.length) (sent.length : Int) N [] sent heard2 (m + O.length) sent.length) := (PU1.out.turn h50).next
          clear x0 x1 x2 x3
          obtain ⟨x0, x1, x2, x3⟩ := (HR2.out.k.later hb6).three'
          clear HR2 oT hb6 ON
          go_wp2_with fail
          go_roundw
          case rel => exact ⟨i + 1, _, _, _, _, _, _, N, [], sent, heard2, _, _, s5, c5, s6', c6', by omega, by go_num, rfl, rfl, rfl, HR3, PU3⟩
          case measure => simp [intOf]; omega
        · have h2 : r % 3 = 2 := by omega
          go_wp2_with fail
          refine (implUnread_any cur f s1 s2 c1 c2 O N _ _ (HR.out.o.els OKO.out) (HR.out.n.els OKN.out) lO lN bc).mono ?_
          rintro e w2 ⟨vu, rfl, OU, hb2⟩
          rw [PU.out.unL h50, ← hU.out] at OU
          rw [PU.out.unN h50, PU.out.unM h50]
          obtain ⟨su, cu, rfl⟩ := OU.shape
          have HR1 := HR.out.later hb2
          clear x0 x1 x2 x3
          go_wp2_with (at_builtin; refine wpList_append_any rfl _ _ rfl (w.heap.size + 1) s6 c6 heard rfl HR1.h _ su cu U rfl OU OKU.out heard2 hH.out.symm (by omega) HR1.k.lt ?_; intro s6' c6' w5 hO6 hg6 hn6; have HR2 : Hid (Hr w w5 f s1 c1 s2 c2 O N (.slice s5 sent.length c5) sent (.slice s6' heard2.length c6') heard2) := HR1.appH hO6 hg6 hn6; obtain ⟨x0, x1, x2, x3⟩ := HR2.out.k.three'; clear HR1 hO6 hg6 hn6 OU hb2)
          go_roundw
          case rel => exact ⟨i + 1, f, _, s1, c1, s2, c2, O, N, sent, heard2, m, _, s5, c5, s6', c6', by omega, by go_num, rfl, rfl, rfl, HR2, PU1.out.next⟩
          case measure => simp [intOf]; omega
    · go_wp2_with fail
      refine (implUnread_any cur f s1 s2 c1 c2 O N _ _ (HR.out.o.els OKO.out) (HR.out.n.els OKN.out) lO lN bc).mono ?_
      rintro e w2 ⟨vu, rfl, OU, hb2⟩
      rw [PU.out.unL h50, ← hU.out] at OU
      rw [PU.out.unN h50, PU.out.unM h50]
      obtain ⟨su, cu, rfl⟩ := OU.shape
      have HR1 := HR.out.later hb2
      clear x0 x1 x2 x3
      go_wp2_with (at_builtin; refine wpList_append_any rfl _ _ rfl (w.heap.size + 1) s6 c6 heard rfl HR1.h _ su cu U rfl OU OKU.out heard2 hH.out.symm (by omega) HR1.k.lt ?_; intro s6' c6' w5 hO6 hg6 hn6; have HR2 : Hid (Hr w w5 f s1 c1 s2 c2 O N (.slice s5 sent.length c5) sent (.slice s6' heard2.length c6') heard2) := HR1.appH hO6 hg6 hn6; obtain ⟨x0, x1, x2, x3⟩ := HR2.out.k.three'; clear HR1 hO6 hg6 hn6 OU hb2)
      have eH : Hid (heard2 = sent) := by show _ = _; rw [PU1.out.h, List.take_length]
      refine (implUnread_any (sent.length : Int) f s1 s2 c1 c2 O N _ _ (HR2.out.o.els OKO.out) (HR2.out.n.els OKN.out) lO lN (by omega)).mono ?_
      rintro e w6 ⟨vu2, rfl, OU2, hb6⟩
      rw [PU1.out.unL h50, List.drop_length] at OU2
      rw [PU1.out.unN h50, PU1.out.unM h50]
      obtain ⟨su2, cu2, rfl⟩ := OU2.shape
      have HR3 := HR2.out.later hb6
      rw [eH.out] at HR3 ⊢
      go_wp2_with fail
      refine (sameVals_self s6' s5 c6' c5 sent _ _ _ (HR3.h.els (fun v hv => (PU.out.v v hv).2)) (HR3.s.els (fun v hv => (PU.out.v v hv).2)) (by omega)).mono ?_
      rintro e w7 ⟨rfl, hb7⟩
      go_wp2_with fail
      go_ret
      exact ⟨rfl, bl_trans HR3.l hb7⟩
end Go.Proofs.Ytgiclehfhjjalaa
