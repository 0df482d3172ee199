import Derived.Test.YtnockfpobpidgaaGreatSl36
import Derived.Test.YtnockfpobpidgaaGreatSl38
import Derived.Test.YtnockfpobpidgaaGreatSl26
namespace Go.Proofs.YtnockfpobpidgaaGreat
section
open Go.RowKit Go.Maps Go.WideMaps
set_option linter.unusedVariables false
set_option linter.unusedSimpArgs false
set_option maxRecDepth 100000
theorem wpList_appR {B : Nat} {Q : World → List OR → Prop} (c : Carr B Q) (w : World) {ops : Array Oper} {rest : List Oper} {o : Oper} {a : Act} {Qx : Exit → Act → World → Prop} (hg : o.guard = none) (s x : Operand) (t : TypeId) (hop : o.op = Op.call { callee := Callee.builtin Builtin.append, args := #[s, x], argTypes := #[t, t] })
  (P S : List OR) {r : OR} (hR : Q w (P ++ r :: S)) {i : TypeInfo} {z : Value} (bytes : Nat)
  (hu : Tryz.prog.underlying t = some (.slice r.T)) (hi : Tryz.prog.info? r.T = some i) (hz : i.zero = some z) (hsize : i.size = r.k) (hby : i.bytes = bytes) (hzs : z.cells.size = r.k) (hsz : 0 < r.k) (hs : a.eval s = r.v)
  (ad : Addr) (m d : Nat) (hx : a.eval x = .slice (some ad) m d) (news : List Value) (hl : news.length = m * r.k) (hnews : ∀ j u, news[j]? = some u → w.cell? (ad.add j) = some u) (h1 : ∀ u ∈ news, u.oneCell' = true)
  (h63 : r.n + m ≤ maxLen) (hbytes : (r.n + m) * bytes ≤ 140737488355328) (N : Nat) (hN : r.n + m = N) (f : Value → OR) (hf : ∀ v, f v = ⟨r.T, r.k, v, N, r.cs ++ news⟩)
  (hK : ∀ s' c' w', Q w' (P ++ f (.slice s' N c') :: S) → wpList Tryz.prog ops Qx rest (a.put o.dst (.slice s' N c')) w') :
  wpList Tryz.prog ops Qx (o :: rest) a w := by
 refine wpList_plain hg fun K hK' => ?_
 obtain ⟨s', c', w', hrun, hq, _⟩ := c.app P S hR t o.type bytes hu hi hz hsize hby hzs hsz ad m d news hl hnews h1 h63 hbytes
 unfold Oper.wp
 simp [execOp, hop, resolve, invoke, builtin, hs, hx, hrun, Result.andThen]
 subst hN
 exact hK' _ _ (hK s' c' w' (by rw [hf]; exact hq))
theorem own_ne {w : World} {B g h : Nat} {P S : List OR} {r q : OR} (ho : Owns w B (P ++ r :: S)) (hr : r.v.ownBlock = some g) (hq : q ∈ S) (hq2 : q.v.ownBlock = some h) : ¬ g = h := by
 have h1 := (ho.perm (perm_mid P S r)).off hr
 intro e
 subst e
 exact h1 (mem_blks.2 ⟨q, List.mem_append_right _ hq, hq2⟩)
theorem rI_set {X w : World} {B g c : Nat} (P S : List OR) {L : List Int} {n : Nat} (hn : n = L.length) (q : Nat) (x : Int) (h : Rs X B w (P ++ rI (.slice (some ⟨g, 0, none⟩) n c) L :: S)) : Rs X B (w.setCell ⟨g, q, none⟩ (.int .i64 x)) (P ++ rI (.slice (some ⟨g, 0, none⟩) n c) (L.set q x) :: S) := by
 subst hn
 have h1 := (carr_Rs X B).setK P S (T := 3) (k := 1) (g := g) (n := L.length) (cap := c) (cs := L.map (Value.int .i64)) h q (.int .i64 x)
 have e : rI (.slice (some ⟨g, 0, none⟩) L.length c) (L.set q x) = ⟨3, 1, .slice (some ⟨g, 0, none⟩) L.length c, L.length, (L.map (Value.int .i64)).set q (.int .i64 x)⟩ := by
  unfold rI
  rw [List.length_set, List.map_set]
 rw [e]; exact h1
set_option maxHeartbeats 8000000 in
theorem l2Give_own {X : World} {B : Nat} (P S : List OR) (g0 c0 : Nat) (sf : Option Addr) (cf : Nat) (G F : List Int) (q : Nat) (gen : Int) (w : World) (hR : Rs X B w (P ++ rI (.slice (some ⟨g0, 0, none⟩) G.length c0) G :: (rI (.slice sf F.length cf) F :: S)))
  (hq : q < G.length) (n1 : 0 ≤ gen) (n2 : gen ≤ 1000000) (l1 : G.length ≤ 1048576) (l2 : F.length ≤ 1048576) :
  Calls Tryz.prog 83 #[.agg #[.slice (some ⟨g0, 0, none⟩) G.length c0, .slice sf F.length cf], .agg #[.int .i64 (q : Int), .int .i64 gen]] w fun e w' => ∃ sf' cf', e = .returned (.agg #[.slice (some ⟨g0, 0, none⟩) G.length c0, .slice sf' (F.length + 1) cf']) ∧
   Rs X B w' (P ++ rI (.slice (some ⟨g0, 0, none⟩) G.length c0) (G.set q (ng gen)) :: (rI (.slice sf' (F.length + 1) cf') (F ++ [(q : Int)]) :: S)) := by
 have hal := alloc_old
 have haf := alloc_oldf
 obtain ⟨iI, hiI, hzI, hsI, hbI⟩ := info_parts Tryz.infoI
 have hr0 : Rs X B (((w.alloc (.cells #[.slice (some ⟨g0, 0, none⟩) G.length c0, .slice sf F.length cf] 36)).alloc (.cells #[.int .i64 (q : Int), .int .i64 gen] 48)).alloc (.cells #[.slice none 0 0, .slice none 0 0] 36)) ((P ++ [rB w.heap.size 36 [.slice (some ⟨g0, 0, none⟩) G.length c0, .slice sf F.length cf], rB (w.heap.size + 1) 48 [.int .i64 (q : Int), .int .i64 gen], rB (w.heap.size + 1 + 1) 36 [.slice none 0 0, .slice none 0 0]]) ++ rI (.slice (some ⟨g0, 0, none⟩) G.length c0) G :: (rI (.slice sf F.length cf) F :: S)) := by
  have h1 := Rs.ins P _ hR (bl_alloc (Below.refl _ _) (.cells #[.slice (some ⟨g0, 0, none⟩) G.length c0, .slice sf F.length cf] 36)) (blk_rB (cs := [.slice (some ⟨g0, 0, none⟩) G.length c0, .slice sf F.length cf]) (Blk.new w _ _) (Nat.le_refl _))
  have h2 := Rs.ins (P ++ [rB w.heap.size 36 [.slice (some ⟨g0, 0, none⟩) G.length c0, .slice sf F.length cf]]) (rI (.slice (some ⟨g0, 0, none⟩) G.length c0) G :: (rI (.slice sf F.length cf) F :: S)) (by simpa only [List.append_assoc, List.cons_append, List.nil_append] using h1) (bl_alloc (Below.refl _ _) (.cells #[.int .i64 (q : Int), .int .i64 gen] 48)) (blk_rB (cs := [.int .i64 (q : Int), .int .i64 gen]) (Blk.new _ _ _) (Nat.le_refl _))
  have h3 := Rs.ins (P ++ [rB w.heap.size 36 [.slice (some ⟨g0, 0, none⟩) G.length c0, .slice sf F.length cf], rB (w.alloc (.cells #[.slice (some ⟨g0, 0, none⟩) G.length c0, .slice sf F.length cf] 36)).heap.size 48 [.int .i64 (q : Int), .int .i64 gen]]) (rI (.slice (some ⟨g0, 0, none⟩) G.length c0) G :: (rI (.slice sf F.length cf) F :: S)) (by simpa only [List.append_assoc, List.cons_append, List.nil_append] using h2) (bl_alloc (Below.refl _ _) (.cells #[.slice none 0 0, .slice none 0 0] 36)) (blk_rB (cs := [.slice none 0 0, .slice none 0 0]) (Blk.new _ _ _) (Nat.le_refl _))
  simp only [World.size_alloc] at h3
  simpa only [List.append_assoc, List.cons_append, List.nil_append] using h3
 have HR0 := Hid.mk' hr0
 go_enter Tryz.func83, Tryz.ntmps83
 go_upto_region 1 with fail
 generalize hX0 : (((w.alloc (.cells #[.slice (some ⟨g0, 0, none⟩) G.length c0, .slice sf F.length cf] 36)).alloc (.cells #[.int .i64 (q : Int), .int .i64 gen] 48)).alloc (.cells #[.slice none 0 0, .slice none 0 0] 36)) = X0 at HR0 ⊢
 generalize hka : w.heap.size = ka at HR0 ⊢
 generalize hkb : ka + 1 = kb at HR0 ⊢
 generalize hkc : kb + 1 = kc at HR0 ⊢
 clear hX0 hka hkb hkc hr0 hR
 obtain ⟨x0, x1, x2⟩ := (show Blk X0 ka #[.slice (some ⟨g0, 0, none⟩) G.length c0, .slice sf F.length cf] 36 from rB_blk (HR0.out.o.on (rB ka 36 [.slice (some ⟨g0, 0, none⟩) G.length c0, .slice sf F.length cf]) (by simp))).two
 obtain ⟨y0, y1, y2⟩ := (show Blk X0 kb #[.int .i64 (q : Int), .int .i64 gen] 48 from rB_blk (HR0.out.o.on (rB kb 48 [.int .i64 (q : Int), .int .i64 gen]) (by simp))).two
 have oG := HR0.out.o.on (rI (.slice (some ⟨g0, 0, none⟩) G.length c0) G) (by simp)
 have u1 : X0.cell? ⟨g0, q, none⟩ = some (.int .i64 (G[q]?.getD 0)) := by
  have oG' : World.ownsRow X0 B 3 1 (.slice (some ⟨g0, 0, none⟩) G.length c0) G.length (G.map (Value.int .i64)) := oG
  rw [World.ownsRow.cellAt oG' q (by omega)]
  simp [hq]
 have u2 : ∀ o, X0.frozen? ⟨g0, o, none⟩ = false := fun o => World.ownsRow.frozenAt (show World.ownsRow X0 B 3 1 (.slice (some ⟨g0, 0, none⟩) G.length c0) G.length (G.map (Value.int .i64)) from oG) o
 obtain ⟨old, hold⟩ : ∃ x, Hid (G[q]?.getD 0 = x) := ⟨_, rfl⟩
 rw [hold.out] at u1
 clear oG
 have hqI : (q : Int) < (G.length : Int) := by omega
 have e1 : ¬ ka = g0 := own_ne (P := P) (r := rB ka 36 [.slice (some ⟨g0, 0, none⟩) G.length c0, .slice sf F.length cf]) (q := rI (.slice (some ⟨g0, 0, none⟩) G.length c0) G) (by have h := HR0.out.o; simp only [List.append_assoc, List.cons_append, List.nil_append] at h; exact h) rfl (by simp) rfl
 have e2 : ¬ kb = g0 := own_ne (P := P ++ [rB ka 36 [.slice (some ⟨g0, 0, none⟩) G.length c0, .slice sf F.length cf]]) (r := rB kb 48 [.int .i64 (q : Int), .int .i64 gen]) (q := rI (.slice (some ⟨g0, 0, none⟩) G.length c0) G) (by have h := HR0.out.o; simp only [List.append_assoc, List.cons_append, List.nil_append] at h ⊢; exact h) rfl (by simp) rfl
 have tw : IntKind.i64.wrap (gen + 1) = gen + 1 := by rw [IntKind.wrap_i64]; omega
 have HR4 : Hid (Rs X B (if gen = 1000000 then (X0.setCell ⟨g0, q, none⟩ (.int .i64 (gen + 1))).setCell ⟨g0, q, none⟩ (.int .i64 0) else X0.setCell ⟨g0, q, none⟩ (.int .i64 (gen + 1))) ((P ++ [rB ka 36 [.slice (some ⟨g0, 0, none⟩) G.length c0, .slice sf F.length cf], rB kb 48 [.int .i64 (q : Int), .int .i64 gen], rB kc 36 [.slice none 0 0, .slice none 0 0]]) ++ rI (.slice (some ⟨g0, 0, none⟩) G.length c0) (G.set q (ng gen)) :: (rI (.slice sf F.length cf) F :: S))) := by
  show Rs _ _ _ _
  by_cases hg : gen = 1000000
  ·
   rw [if_pos hg]
   have h1 := rI_set _ _ rfl q (gen + 1) HR0.out
   have h2 := rI_set _ _ (by rw [List.length_set]) q 0 h1
   rw [List.set_set] at h2
   have e : ng gen = 0 := by simp [ng]; omega
   rw [e]; exact h2
  ·
   rw [if_neg hg]
   have h1 := rI_set _ _ rfl q (gen + 1) HR0.out
   have e : ng gen = gen + 1 := by simp [ng]; omega
   rw [e]; exact h1
 clear HR0
 by_cases hg : gen = 1000000
 ·
  rw [if_pos hg] at HR4
  have hge : 1000000 ≤ gen := by omega
  clear hg
  go_upto_region 4 with fail
  generalize hX4 : (X0.setCell ⟨g0, q, none⟩ (.int .i64 (gen + 1))).setCell ⟨g0, q, none⟩ (.int .i64 0) = X4 at HR4 ⊢
  clear hX4 x0 x1 x2 y0 y1 y2 u1 u2
  obtain ⟨x0, x1, x2⟩ := (show Blk X4 ka #[.slice (some ⟨g0, 0, none⟩) G.length c0, .slice sf F.length cf] 36 from rB_blk (HR4.out.o.on (rB ka 36 [.slice (some ⟨g0, 0, none⟩) G.length c0, .slice sf F.length cf]) (by simp))).two
  obtain ⟨y0, y1, y2⟩ := (show Blk X4 kb #[.int .i64 (q : Int), .int .i64 gen] 48 from rB_blk (HR4.out.o.on (rB kb 48 [.int .i64 (q : Int), .int .i64 gen]) (by simp))).two
  have hba : Below X4.heap.size X4 (X4.alloc (.cells #[.int .i64 (q : Int)] 3)) := bl_alloc (Below.refl _ _) _
  have hR5 := HR4.out.later hba
  have hz := (Blk.new X4 #[.int .i64 (q : Int)] 3).cell 0
  have HR5 : Hid (Rs X B (X4.alloc (.cells #[.int .i64 (q : Int)] 3)) (((P ++ [rB ka 36 [.slice (some ⟨g0, 0, none⟩) G.length c0, .slice sf F.length cf], rB kb 48 [.int .i64 (q : Int), .int .i64 gen], rB kc 36 [.slice none 0 0, .slice none 0 0]]) ++ [rI (.slice (some ⟨g0, 0, none⟩) G.length c0) (G.set q (ng gen))]) ++ rI (.slice sf F.length cf) F :: S)) := by
   show Rs _ _ _ _
   simpa only [List.append_assoc, List.cons_append, List.nil_append] using hR5
  have HNW : Hid (∀ (j : Nat) (u : Value), [Value.int .i64 (q : Int)][j]? = some u → (X4.alloc (.cells #[.int .i64 (q : Int)] 3)).cell? ((⟨X4.heap.size, 0, none⟩ : Addr).add j) = some u) := by
   intro j u hj
   match j, hj with
   | 0, hj => simp at hj; subst hj; simp [Addr.add]
  have HON1 : Hid (∀ u ∈ [Value.int .i64 (q : Int)], u.oneCell' = true) := by intro u hu; simp at hu; subst hu; rfl
  have HFE : Hid (∀ v : Value, (fun v => rI v (F ++ [(q : Int)])) v = ⟨(rI (.slice sf F.length cf) F).T, (rI (.slice sf F.length cf) F).k, v, F.length + 1, (rI (.slice sf F.length cf) F).cs ++ [.int .i64 (q : Int)]⟩) := by
   intro v
   show rI v (F ++ [(q : Int)]) = _
   unfold rI
   rw [List.length_append, List.map_append]
   rfl
  have HM1 : Hid ((rI (.slice sf F.length cf) F).n + 1 ≤ maxLen) := by show F.length + 1 ≤ _; unfold maxLen; omega
  have HM2 : Hid (((rI (.slice sf F.length cf) F).n + 1) * 8 ≤ 140737488355328) := by show (F.length + 1) * 8 ≤ _; omega
  clear hba hR5 HR4
  go_wp2_with (at_builtin; refine wpList_appR (carr_Rs X B) _ rfl (.tmp 22) (.tmp 25) 25 rfl ((P ++ [rB ka 36 [.slice (some ⟨g0, 0, none⟩) G.length c0, .slice sf F.length cf], rB kb 48 [.int .i64 (q : Int), .int .i64 gen], rB kc 36 [.slice none 0 0, .slice none 0 0]]) ++ [rI (.slice (some ⟨g0, 0, none⟩) G.length c0) (G.set q (ng gen))]) S (r := rI (.slice sf F.length cf) F) HR5.out 8 Tryz.underlying25 hiI hzI hsI hbI rfl Nat.zero_lt_one rfl ⟨X4.heap.size, 0, none⟩ 1 1 rfl [.int .i64 (q : Int)] rfl HNW.out HON1.out HM1.out HM2.out (F.length + 1) rfl (fun v => rI v (F ++ [(q : Int)])) HFE.out ?_)
  intro sf' cf' w6 hR6
  have HR6 := Hid.mk' hR6
  clear hR6 HR5 hz x0 x1 x2 y0 y1 y2
  obtain ⟨x0, x1, x2⟩ := (show Blk w6 ka #[.slice (some ⟨g0, 0, none⟩) G.length c0, .slice sf F.length cf] 36 from rB_blk (HR6.out.o.on (rB ka 36 [.slice (some ⟨g0, 0, none⟩) G.length c0, .slice sf F.length cf]) (by simp))).two
  obtain ⟨z0, z1, z2⟩ := (show Blk w6 kc #[.slice none 0 0, .slice none 0 0] 36 from rB_blk (HR6.out.o.on (rB kc 36 [.slice none 0 0, .slice none 0 0]) (by simp))).two
  have hac : ¬ ka = kc := own_ne (P := P) (r := rB ka 36 [.slice (some ⟨g0, 0, none⟩) G.length c0, .slice sf F.length cf]) (q := rB kc 36 [.slice none 0 0, .slice none 0 0]) (by have h := HR6.out.o; (try simp only [List.append_assoc, List.cons_append, List.nil_append] at h); exact h) rfl (by simp) rfl
  have hca : ¬ kc = ka := fun h => hac h.symm
  have h7 : Rs X B (((w6.setCell ⟨ka, 1, none⟩ (.slice sf' (F.length + 1) cf')).setCell ⟨kc, 0, none⟩ (.slice (some ⟨g0, 0, none⟩) G.length c0)).setCell ⟨kc, 1, none⟩ (.slice sf' (F.length + 1) cf')) (P ++ rI (.slice (some ⟨g0, 0, none⟩) G.length c0) (G.set q (ng gen)) :: (rI (.slice sf' (F.length + 1) cf') (F ++ [(q : Int)]) :: S)) := by
   have h8 : Rs X B w6 (P ++ rB ka 36 [.slice (some ⟨g0, 0, none⟩) G.length c0, .slice sf F.length cf] :: (rB kb 48 [.int .i64 (q : Int), .int .i64 gen] :: rB kc 36 [.slice none 0 0, .slice none 0 0] :: rI (.slice (some ⟨g0, 0, none⟩) G.length c0) (G.set q (ng gen)) :: (rI (.slice sf' (F.length + 1) cf') (F ++ [(q : Int)]) :: S))) := by have h := HR6.out; (try simp only [List.append_assoc, List.cons_append, List.nil_append] at h); exact h
   have h9 := Rs.less P _ (Rs.less P _ (Rs.setB P _ 1 (.slice sf' (F.length + 1) cf') h8))
   have h10 := Rs.setB P _ 1 (.slice sf' (F.length + 1) cf') (Rs.setB P _ 0 (.slice (some ⟨g0, 0, none⟩) G.length c0) h9)
   exact Rs.less P _ h10
  have H7 := Hid.mk' h7
  clear h7 HR6
  go_wp2_with fail
  refine bodyPost_ret (v := .agg #[.slice (some ⟨g0, 0, none⟩) G.length c0, .slice sf' (F.length + 1) cf']) (by simp [results, Tryz.results83, go_sem, z0, z1]) rfl ⟨sf', cf', rfl, H7.out⟩
 ·
  rw [if_neg hg] at HR4
  have hge : ¬ 1000000 ≤ gen := by omega
  clear hg
  go_upto_region 4 with fail
  generalize hX4 : X0.setCell ⟨g0, q, none⟩ (.int .i64 (gen + 1)) = X4 at HR4 ⊢
  clear hX4 x0 x1 x2 y0 y1 y2 u1 u2
  obtain ⟨x0, x1, x2⟩ := (show Blk X4 ka #[.slice (some ⟨g0, 0, none⟩) G.length c0, .slice sf F.length cf] 36 from rB_blk (HR4.out.o.on (rB ka 36 [.slice (some ⟨g0, 0, none⟩) G.length c0, .slice sf F.length cf]) (by simp))).two
  obtain ⟨y0, y1, y2⟩ := (show Blk X4 kb #[.int .i64 (q : Int), .int .i64 gen] 48 from rB_blk (HR4.out.o.on (rB kb 48 [.int .i64 (q : Int), .int .i64 gen]) (by simp))).two
  have hba : Below X4.heap.size X4 (X4.alloc (.cells #[.int .i64 (q : Int)] 3)) := bl_alloc (Below.refl _ _) _
  have hR5 := HR4.out.later hba
  have hz := (Blk.new X4 #[.int .i64 (q : Int)] 3).cell 0
  have HR5 : Hid (Rs X B (X4.alloc (.cells #[.int .i64 (q : Int)] 3)) (((P ++ [rB ka 36 [.slice (some ⟨g0, 0, none⟩) G.length c0, .slice sf F.length cf], rB kb 48 [.int .i64 (q : Int), .int .i64 gen], rB kc 36 [.slice none 0 0, .slice none 0 0]]) ++ [rI (.slice (some ⟨g0, 0, none⟩) G.length c0) (G.set q (ng gen))]) ++ rI (.slice sf F.length cf) F :: S)) := by
   show Rs _ _ _ _
   simpa only [List.append_assoc, List.cons_append, List.nil_append] using hR5
  have HNW : Hid (∀ (j : Nat) (u : Value), [Value.int .i64 (q : Int)][j]? = some u → (X4.alloc (.cells #[.int .i64 (q : Int)] 3)).cell? ((⟨X4.heap.size, 0, none⟩ : Addr).add j) = some u) := by
   intro j u hj
   match j, hj with
   | 0, hj => simp at hj; subst hj; simp [Addr.add]
  have HON1 : Hid (∀ u ∈ [Value.int .i64 (q : Int)], u.oneCell' = true) := by intro u hu; simp at hu; subst hu; rfl
  have HFE : Hid (∀ v : Value, (fun v => rI v (F ++ [(q : Int)])) v = ⟨(rI (.slice sf F.length cf) F).T, (rI (.slice sf F.length cf) F).k, v, F.length + 1, (rI (.slice sf F.length cf) F).cs ++ [.int .i64 (q : Int)]⟩) := by
   intro v
   show rI v (F ++ [(q : Int)]) = _
   unfold rI
   rw [List.length_append, List.map_append]
   rfl
  have HM1 : Hid ((rI (.slice sf F.length cf) F).n + 1 ≤ maxLen) := by show F.length + 1 ≤ _; unfold maxLen; omega
  have HM2 : Hid (((rI (.slice sf F.length cf) F).n + 1) * 8 ≤ 140737488355328) := by show (F.length + 1) * 8 ≤ _; omega
  clear hba hR5 HR4
  go_wp2_with (at_builtin; refine wpList_appR (carr_Rs X B) _ rfl (.tmp 22) (.tmp 25) 25 rfl ((P ++ [rB ka 36 [.slice (some ⟨g0, 0, none⟩) G.length c0, .slice sf F.length cf], rB kb 48 [.int .i64 (q : Int), .int .i64 gen], rB kc 36 [.slice none 0 0, .slice none 0 0]]) ++ [rI (.slice (some ⟨g0, 0, none⟩) G.length c0) (G.set q (ng gen))]) S (r := rI (.slice sf F.length cf) F) HR5.out 8 Tryz.underlying25 hiI hzI hsI hbI rfl Nat.zero_lt_one rfl ⟨X4.heap.size, 0, none⟩ 1 1 rfl [.int .i64 (q : Int)] rfl HNW.out HON1.out HM1.out HM2.out (F.length + 1) rfl (fun v => rI v (F ++ [(q : Int)])) HFE.out ?_)
  intro sf' cf' w6 hR6
  have HR6 := Hid.mk' hR6
  clear hR6 HR5 hz x0 x1 x2 y0 y1 y2
  obtain ⟨x0, x1, x2⟩ := (show Blk w6 ka #[.slice (some ⟨g0, 0, none⟩) G.length c0, .slice sf F.length cf] 36 from rB_blk (HR6.out.o.on (rB ka 36 [.slice (some ⟨g0, 0, none⟩) G.length c0, .slice sf F.length cf]) (by simp))).two
  obtain ⟨z0, z1, z2⟩ := (show Blk w6 kc #[.slice none 0 0, .slice none 0 0] 36 from rB_blk (HR6.out.o.on (rB kc 36 [.slice none 0 0, .slice none 0 0]) (by simp))).two
  have hac : ¬ ka = kc := own_ne (P := P) (r := rB ka 36 [.slice (some ⟨g0, 0, none⟩) G.length c0, .slice sf F.length cf]) (q := rB kc 36 [.slice none 0 0, .slice none 0 0]) (by have h := HR6.out.o; (try simp only [List.append_assoc, List.cons_append, List.nil_append] at h); exact h) rfl (by simp) rfl
  have hca : ¬ kc = ka := fun h => hac h.symm
  have h7 : Rs X B (((w6.setCell ⟨ka, 1, none⟩ (.slice sf' (F.length + 1) cf')).setCell ⟨kc, 0, none⟩ (.slice (some ⟨g0, 0, none⟩) G.length c0)).setCell ⟨kc, 1, none⟩ (.slice sf' (F.length + 1) cf')) (P ++ rI (.slice (some ⟨g0, 0, none⟩) G.length c0) (G.set q (ng gen)) :: (rI (.slice sf' (F.length + 1) cf') (F ++ [(q : Int)]) :: S)) := by
   have h8 : Rs X B w6 (P ++ rB ka 36 [.slice (some ⟨g0, 0, none⟩) G.length c0, .slice sf F.length cf] :: (rB kb 48 [.int .i64 (q : Int), .int .i64 gen] :: rB kc 36 [.slice none 0 0, .slice none 0 0] :: rI (.slice (some ⟨g0, 0, none⟩) G.length c0) (G.set q (ng gen)) :: (rI (.slice sf' (F.length + 1) cf') (F ++ [(q : Int)]) :: S))) := by have h := HR6.out; (try simp only [List.append_assoc, List.cons_append, List.nil_append] at h); exact h
   have h9 := Rs.less P _ (Rs.less P _ (Rs.setB P _ 1 (.slice sf' (F.length + 1) cf') h8))
   have h10 := Rs.setB P _ 1 (.slice sf' (F.length + 1) cf') (Rs.setB P _ 0 (.slice (some ⟨g0, 0, none⟩) G.length c0) h9)
   exact Rs.less P _ h10
  have H7 := Hid.mk' h7
  clear h7 HR6
  go_wp2_with fail
  refine bodyPost_ret (v := .agg #[.slice (some ⟨g0, 0, none⟩) G.length c0, .slice sf' (F.length + 1) cf']) (by simp [results, Tryz.results83, go_sem, z0, z1]) rfl ⟨sf', cf', rfl, H7.out⟩
end
end Go.Proofs.YtnockfpobpidgaaGreat
