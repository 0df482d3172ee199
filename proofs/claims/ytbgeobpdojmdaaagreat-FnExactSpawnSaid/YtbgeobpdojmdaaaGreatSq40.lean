import Derived.Test.YtbgeobpdojmdaaaGreatSq39
namespace Go.Proofs.YtbgeobpdojmdaaaGreat
set_option linter.unusedVariables false
set_option linter.unusedSimpArgs false
section
open Go.RowKit Go.Maps Go.WideMaps
set_option maxRecDepth 100000
theorem Carr.rowsO {B : Nat} {Q : World → List OR → Prop} (c : Carr B Q) {w w1 : World} {P : List OR} {V : WV} {W : Wd} {i : Nat} {t : TV} {T : Tab} {v' : Value} {R' : List E2} (hR : Q w (P ++ rW V W)) (ht : V.ts[i]? = some t) (hT : W.tabs[i]? = some T)
  (hg : w.grownBy w1 t.r.ownBlock) (hr : (rE v' R').on w1 B) (ho : ∀ g, v'.ownBlock = some g → t.r.ownBlock = some g ∨ w.heap.size ≤ g) : (∀ r ∈ P ++ [rI V.g W.gens, rI V.f W.free, rT V.t V.ts, rV V.r W.res], r.on w1 B) ∧ ∀ (k : Nat) (u : TV) (U : Tab), ¬ k = i → V.ts[k]? = some u → W.tabs[k]? = some U → ∀ r ∈ rTab u U, r.on w1 B := by
 rw [rW_split ht hT] at hR
 have h1 := c.turn ((P ++ [rI V.g W.gens, rI V.f W.free, rT V.t V.ts, rV V.r W.res] ++ rTabs (V.ts.take i) (W.tabs.take i)) ++ [rI t.c T.cols]) (rS t.x t.xs :: rVs t.xs T.cells ++ rTabs (V.ts.drop (i + 1)) (W.tabs.drop (i + 1))) (r := rE t.r T.rows) (r' := rE v' R') (by simpa [rTab] using hR) hg hr ho
 refine ⟨fun r hr => (c.own h1).on r (List.mem_append_left _ (List.mem_append_left _ (List.mem_append_left _ hr))), fun k u U hk hu hU r hr => ?_⟩
 by_cases hlt : k < i
 ·
  have := rTabs_mem (ts := V.ts.take i) (Ts := W.tabs.take i) (by rw [List.getElem?_take, if_pos hlt]; exact hu) (by rw [List.getElem?_take, if_pos hlt]; exact hU) r hr
  exact (c.own h1).on r (by simp [this])
 have e : i + 1 + (k - (i + 1)) = k := by omega
 have := rTabs_mem (ts := V.ts.drop (i + 1)) (Ts := W.tabs.drop (i + 1)) (j := k - (i + 1)) (by rw [List.getElem?_drop, e]; exact hu) (by rw [List.getElem?_drop, e]; exact hU) r hr
 exact (c.own h1).on r (by simp [this])
end
section
open Go.RowKit Go.Maps Go.WideMaps
set_option maxRecDepth 100000
def tk (G F : List Int) : List Int × List Int × (Int × Int) × Int :=
 if 0 < F.length then (G, F.take (F.length - 1), ((F[F.length - 1]?).getD 0, (G[((F[F.length - 1]?).getD 0).toNat]?).getD 0), 0) else if 2000 ≤ G.length then (G, F, (0, 0), 3) else (G ++ [0], F, ((G.length : Int), 0), 0)
set_option maxHeartbeats 8000000 in
theorem l2Take_own {X : World} {B : Nat} (P S : List OR) (sg : Option Addr) (cg : Nat) (sf : Option Addr) (cf : Nat) (G F : List Int) (w : World) (hR : Rs X B w (P ++ rI (.slice sg G.length cg) G :: (rI (.slice sf F.length cf) F :: S))) (hin : ∀ f ∈ F, 0 ≤ f ∧ f < (G.length : Int)) (l1 : G.length ≤ 2000) (l2 : F.length ≤ 2000) :
  Calls Tryz.prog 61 #[.agg #[.slice sg G.length cg, .slice sf F.length cf]] w fun r w' => ∃ (sg' : Option Addr) (cg' : Nat) (sf' : Option Addr) (cf' : Nat), r = .returned (.tuple #[.agg #[.slice sg' (tk G F).1.length cg', .slice sf' (tk G F).2.1.length cf'], .agg #[.int .i64 (tk G F).2.2.1.1, .int .i64 (tk G F).2.2.1.2], .int .i64 (tk G F).2.2.2]) ∧ Rs X B w' (P ++ rI (.slice sg' (tk G F).1.length cg') (tk G F).1 :: (rI (.slice sf' (tk G F).2.1.length cf') (tk G F).2.1 :: S)) := by
 have hal := alloc_old
 have haf := alloc_oldf
 obtain ⟨iI, hiI, hzI, hsI, hbI⟩ := info_parts Tryz.infoI
 have hr0 : Rs X B (((w.alloc (.cells #[.slice sg G.length cg, .slice sf F.length cf] 36)).alloc (.cells #[.slice none 0 0, .slice none 0 0] 36)).alloc (.cells #[.int .i64 0, .int .i64 0] 42)) ((P ++ [rB w.heap.size 36 [.slice sg G.length cg, .slice sf F.length cf], rB (w.heap.size + 1) 36 [.slice none 0 0, .slice none 0 0], rB (w.heap.size + 1 + 1) 42 [.int .i64 0, .int .i64 0]]) ++ rI (.slice sg G.length cg) G :: (rI (.slice sf F.length cf) F :: S)) := by
  have h1 := Rs.ins P _ hR (bl_alloc (Below.refl _ _) (.cells #[.slice sg G.length cg, .slice sf F.length cf] 36)) (blk_rB (cs := [.slice sg G.length cg, .slice sf F.length cf]) (Blk.new w _ _) (Nat.le_refl _))
  have h2 := Rs.ins (P ++ [rB w.heap.size 36 [.slice sg G.length cg, .slice sf F.length cf]]) (rI (.slice sg G.length cg) G :: (rI (.slice sf F.length cf) F :: S)) (by simpa only [List.append_assoc, List.cons_append, List.nil_append] using h1) (bl_alloc (Below.refl _ _) (.cells #[.slice none 0 0, .slice none 0 0] 36)) (blk_rB (cs := [.slice none 0 0, .slice none 0 0]) (Blk.new _ _ _) (Nat.le_refl _))
  have h3 := Rs.ins (P ++ [rB w.heap.size 36 [.slice sg G.length cg, .slice sf F.length cf], rB (w.alloc (.cells #[.slice sg G.length cg, .slice sf F.length cf] 36)).heap.size 36 [.slice none 0 0, .slice none 0 0]]) (rI (.slice sg G.length cg) G :: (rI (.slice sf F.length cf) F :: S)) (by simpa only [List.append_assoc, List.cons_append, List.nil_append] using h2) (bl_alloc (Below.refl _ _) (.cells #[.int .i64 0, .int .i64 0] 42)) (blk_rB (cs := [.int .i64 0, .int .i64 0]) (Blk.new _ _ _) (Nat.le_refl _))
  simp only [World.size_alloc] at h3
  simpa only [List.append_assoc, List.cons_append, List.nil_append] using h3
 have HR0 := Hid.mk' hr0
 go_enter Tryz.func61, Tryz.ntmps61
 go_upto_region 1 with fail
 generalize hX0 : (((w.alloc (.cells #[.slice sg G.length cg, .slice sf F.length cf] 36)).alloc (.cells #[.slice none 0 0, .slice none 0 0] 36)).alloc (.cells #[.int .i64 0, .int .i64 0] 42)) = X0 at HR0 ⊢
 generalize hka : w.heap.size = ka at HR0 ⊢
 generalize hkc : ka + 1 = kc at HR0 ⊢
 generalize hkd : kc + 1 = kd at HR0 ⊢
 clear hX0 hka hkc hkd hr0 hR; obtain ⟨x0, x1, x2⟩ := (show Blk X0 ka #[.slice sg G.length cg, .slice sf F.length cf] 36 from rB_blk (HR0.out.o.on (rB ka 36 [.slice sg G.length cg, .slice sf F.length cf]) (by simp))).two
 by_cases hF : 0 < F.length
 ·
  have t1 : decide ((F.length : Int) > 0) = true := by simp; omega
  obtain ⟨q, hq⟩ : ∃ q : Nat, (F[F.length - 1]?).getD 0 = (q : Int) ∧ q < G.length := by
   have hm : (F[F.length - 1]?).getD 0 ∈ F := by rw [List.getElem?_eq_getElem (by omega)]; exact List.getElem_mem _
   have h := hin _ hm
   exact ⟨((F[F.length - 1]?).getD 0).toNat, by omega, by omega⟩
  have hFl : F[F.length - 1]? = some (q : Int) := by
   have h := hq.1
   rw [List.getElem?_eq_getElem (by omega)] at h ⊢
   simpa using h
  have oF : World.ownsRow X0 B 3 1 (.slice sf F.length cf) F.length (F.map (Value.int .i64)) := HR0.out.o.on (rI (.slice sf F.length cf) F) (by simp)
  obtain ⟨f0, rfl⟩ := own_some oF hF
  have hcap := own_cap oF
  have u1 : X0.cell? ⟨f0, F.length - 1, none⟩ = some (.int .i64 (q : Int)) := by
   rw [World.ownsRow.cellAt oF (F.length - 1) (by omega), List.getElem?_map, hFl]
   rfl
  have oG : World.ownsRow X0 B 3 1 (.slice sg G.length cg) G.length (G.map (Value.int .i64)) := HR0.out.o.on (rI (.slice sg G.length cg) G) (by simp)
  obtain ⟨g0, rfl⟩ := own_some oG (by omega)
  have tw : IntKind.i64.wrap ((F.length : Int) - 1) = ((F.length - 1 : Nat) : Int) := by rw [IntKind.wrap_i64]; omega
  have fI0 : (0 : Int) ≤ ((F.length - 1 : Nat) : Int) := by omega
  have fI1 : ((F.length - 1 : Nat) : Int) < (F.length : Int) := by omega
  have hsI' : ∀ W, (Go.sizeOf (Tryz.prog.elem 25)).run Tryz.prog W = .ok 1 W := fun W => by kernel_rfl
  have s1 := slice_upto 25 1 (by kernel_rfl) hsI' f0 F.length cf (F.length - 1) (by omega)
  obtain ⟨F1, hF1⟩ : ∃ F1, Hid (F.take (F.length - 1) = F1) := ⟨_, rfl⟩
  have hFl1 : F1.length = F.length - 1 := by rw [← hF1.out, List.length_take]; omega
  have HTK : Hid (tk G F = (G, F1, ((q : Int), (G[q]?).getD 0), 0)) := by
   show _ = _
   unfold tk
   rw [if_pos hF, hF1.out, hq.1, Int.toNat_natCast]
  have HQL := Hid.mk' hq.2
  have HR6 : Hid (Rs X B (X0.alloc (.cells #[] 3)) (((P ++ [rB ka 36 [.slice (some ⟨g0, 0, none⟩) G.length cg, .slice (some ⟨f0, 0, none⟩) F.length cf], rB kc 36 [.slice none 0 0, .slice none 0 0], rB kd 42 [.int .i64 0, .int .i64 0]]) ++ [rI (.slice (some ⟨g0, 0, none⟩) G.length cg) G, rI (.slice (some ⟨f0, 0, none⟩) F.length cf) F]) ++ rI (.slice (some ⟨X0.heap.size, 0, none⟩) 0 0) [] :: S)) := Rs.ins _ S (by simpa only [List.append_assoc, List.cons_append, List.nil_append] using HR0.out) (bl_alloc (Below.refl _ _) _) (rI_nil X0)
  have HNW : Hid (∀ (j : Nat) (u : Value), (F1.map (Value.int .i64))[j]? = some u → (X0.alloc (.cells #[] 3)).cell? ((⟨f0, 0, none⟩ : Addr).add j) = some u) := by
   intro j u hj
   have hjl := (List.getElem?_eq_some_iff.1 hj).1
   rw [List.length_map] at hjl
   rw [Addr.add_lit, Nat.zero_add]
   have oF6 : World.ownsRow (X0.alloc (.cells #[] 3)) B 3 1 (.slice (some ⟨f0, 0, none⟩) F.length cf) F.length (F.map (Value.int .i64)) := HR6.out.o.on (rI (.slice (some ⟨f0, 0, none⟩) F.length cf) F) (by simp)
   rw [World.ownsRow.cellAt oF6 j (by omega)]
   rw [← hF1.out, List.map_take, List.getElem?_take] at hj
   split at hj
   ·
    exact hj
   cases hj
  have HON1 : Hid (∀ u ∈ F1.map (Value.int .i64), u.oneCell' = true) := by intro u hu; simp only [List.mem_map] at hu; obtain ⟨q, _, rfl⟩ := hu; rfl
  have HLN : Hid ((F1.map (Value.int .i64)).length = F1.length * (rI (.slice (some ⟨X0.heap.size, 0, none⟩) 0 0) []).k) := by show _ = F1.length * 1; rw [List.length_map, Nat.mul_one]
  have HFE : Hid (∀ v : Value, (fun v => rI v F1) v = ⟨(rI (.slice (some ⟨X0.heap.size, 0, none⟩) 0 0) []).T, (rI (.slice (some ⟨X0.heap.size, 0, none⟩) 0 0) []).k, v, F1.length, (rI (.slice (some ⟨X0.heap.size, 0, none⟩) 0 0) []).cs ++ F1.map (Value.int .i64)⟩) := fun v => rfl
  have HM1 : Hid ((rI (.slice (some ⟨X0.heap.size, 0, none⟩) 0 0) []).n + F1.length ≤ maxLen) := by show 0 + F1.length ≤ _; unfold maxLen; omega
  have HM2 : Hid (((rI (.slice (some ⟨X0.heap.size, 0, none⟩) 0 0) []).n + F1.length) * 8 ≤ 140737488355328) := by show (0 + F1.length) * 8 ≤ _; omega
  have HN0 : Hid ((rI (.slice (some ⟨X0.heap.size, 0, none⟩) 0 0) []).n + F1.length = F1.length) := by show 0 + F1.length = _; omega
  have HFL := Hid.mk' hFl1
  rw [← hFl1] at s1 tw fI0 fI1 u1
  clear oF oG hFl hFl1 hq HR0 hin hF; go_wp2_with (at_builtin; refine wpList_appR (carr_Rs X B) _ rfl (.tmp 18) (.tmp 23) 25 rfl ((P ++ [rB ka 36 [.slice (some ⟨g0, 0, none⟩) G.length cg, .slice (some ⟨f0, 0, none⟩) F.length cf], rB kc 36 [.slice none 0 0, .slice none 0 0], rB kd 42 [.int .i64 0, .int .i64 0]]) ++ [rI (.slice (some ⟨g0, 0, none⟩) G.length cg) G, rI (.slice (some ⟨f0, 0, none⟩) F.length cf) F]) S (r := rI (.slice (some ⟨X0.heap.size, 0, none⟩) 0 0) []) HR6.out 8 Tryz.underlying25 hiI hzI hsI hbI rfl Nat.zero_lt_one rfl ⟨f0, 0, none⟩ F1.length cf rfl (F1.map (Value.int .i64)) HLN.out HNW.out HON1.out HM1.out HM2.out F1.length HN0.out (fun v => rI v F1) HFE.out ?_)
  intro s' c' w6 hR6
  have h8 : Rs X B w6 (P ++ rB ka 36 [.slice (some ⟨g0, 0, none⟩) G.length cg, .slice (some ⟨f0, 0, none⟩) F.length cf] :: (rB kc 36 [.slice none 0 0, .slice none 0 0] :: rB kd 42 [.int .i64 0, .int .i64 0] :: rI (.slice (some ⟨g0, 0, none⟩) G.length cg) G :: rI (.slice (some ⟨f0, 0, none⟩) F.length cf) F :: rI (.slice s' F1.length c') F1 :: S)) := by simpa only [List.append_assoc, List.cons_append, List.nil_append] using hR6
  have h9 := Rs.setB P _ 1 (.slice s' F1.length c') h8
  have h9' : Rs X B (w6.setCell ⟨ka, 1, none⟩ (.slice s' F1.length c')) ((P ++ [rB ka 36 [.slice (some ⟨g0, 0, none⟩) G.length cg, .slice s' F1.length c'], rB kc 36 [.slice none 0 0, .slice none 0 0], rB kd 42 [.int .i64 0, .int .i64 0], rI (.slice (some ⟨g0, 0, none⟩) G.length cg) G]) ++ rI (.slice (some ⟨f0, 0, none⟩) F.length cf) F :: (rI (.slice s' F1.length c') F1 :: S)) := by
   have h := h9
   simp only [List.append_assoc, List.cons_append, List.nil_append] at h ⊢
   exact h
  have HR7 : Hid (Rs X B (w6.setCell ⟨ka, 1, none⟩ (.slice s' F1.length c')) (P ++ rB ka 36 [.slice (some ⟨g0, 0, none⟩) G.length cg, .slice s' F1.length c'] :: (rB kc 36 [.slice none 0 0, .slice none 0 0] :: rB kd 42 [.int .i64 0, .int .i64 0] :: rI (.slice (some ⟨g0, 0, none⟩) G.length cg) G :: rI (.slice s' F1.length c') F1 :: S))) := by
   show Rs _ _ _ _
   have h := Rs.less _ _ h9'
   simpa only [List.append_assoc, List.cons_append, List.nil_append] using h
  have KA6 := (show Blk w6 ka #[.slice (some ⟨g0, 0, none⟩) G.length cg, .slice (some ⟨f0, 0, none⟩) F.length cf] 36 from rB_blk (hR6.o.on (rB ka 36 [.slice (some ⟨g0, 0, none⟩) G.length cg, .slice (some ⟨f0, 0, none⟩) F.length cf]) (by simp)))
  obtain ⟨x0, x1, x2⟩ := KA6.two
  clear h8 h9 h9' hR6 HR6 HNW HON1 HLN HFE HM1 HM2 HN0 KA6; go_upto_region 5 with fail
  generalize hX7 : w6.setCell ⟨ka, 1, none⟩ (.slice s' F1.length c') = X7 at HR7 ⊢
  clear hX7 x0 x1 x2 u1; obtain ⟨x0, x1, x2⟩ := (show Blk X7 ka #[.slice (some ⟨g0, 0, none⟩) G.length cg, .slice s' F1.length c'] 36 from rB_blk (HR7.out.o.on (rB ka 36 [.slice (some ⟨g0, 0, none⟩) G.length cg, .slice s' F1.length c']) (by simp))).two
  obtain ⟨z0, z1, z2⟩ := (show Blk X7 kc #[.slice none 0 0, .slice none 0 0] 36 from rB_blk (HR7.out.o.on (rB kc 36 [.slice none 0 0, .slice none 0 0]) (by simp))).two
  obtain ⟨y0, y1, y2⟩ := (show Blk X7 kd #[.int .i64 0, .int .i64 0] 42 from rB_blk (HR7.out.o.on (rB kd 42 [.int .i64 0, .int .i64 0]) (by simp))).two
  have oG : World.ownsRow X7 B 3 1 (.slice (some ⟨g0, 0, none⟩) G.length cg) G.length (G.map (Value.int .i64)) := HR7.out.o.on (rI (.slice (some ⟨g0, 0, none⟩) G.length cg) G) (by simp)
  have u2 : X7.cell? ⟨g0, q, none⟩ = some (.int .i64 ((G[q]?).getD 0)) := by
   have hql := HQL.out
   rw [World.ownsRow.cellAt oG q (by omega), List.getElem?_map, List.getElem?_eq_getElem hql]
   rfl
  obtain ⟨gen, hgen⟩ : ∃ gen, Hid ((G[q]?).getD 0 = gen) := ⟨_, rfl⟩
  rw [hgen.out] at u2 HTK
  have qI : (q : Int) < (G.length : Int) := by have := HQL.out; omega
  have hac : ¬ kc = kd := own_ne (P := P ++ [rB ka 36 [.slice (some ⟨g0, 0, none⟩) G.length cg, .slice s' F1.length c']]) (r := rB kc 36 [.slice none 0 0, .slice none 0 0]) (q := rB kd 42 [.int .i64 0, .int .i64 0]) (by have h := HR7.out.o; (try simp only [List.append_assoc, List.cons_append, List.nil_append] at h ⊢); exact h) rfl (by simp) rfl
  have hca : ¬ kd = kc := fun h => hac h.symm
  have hcg : ¬ kc = g0 := own_ne (P := P ++ [rB ka 36 [.slice (some ⟨g0, 0, none⟩) G.length cg, .slice s' F1.length c']]) (r := rB kc 36 [.slice none 0 0, .slice none 0 0]) (q := rI (.slice (some ⟨g0, 0, none⟩) G.length cg) G) (by have h := HR7.out.o; (try simp only [List.append_assoc, List.cons_append, List.nil_append] at h ⊢); exact h) rfl (by simp) rfl
  have hdg : ¬ kd = g0 := own_ne (P := P ++ [rB ka 36 [.slice (some ⟨g0, 0, none⟩) G.length cg, .slice s' F1.length c'], rB kc 36 [.slice none 0 0, .slice none 0 0]]) (r := rB kd 42 [.int .i64 0, .int .i64 0]) (q := rI (.slice (some ⟨g0, 0, none⟩) G.length cg) G) (by have h := HR7.out.o; (try simp only [List.append_assoc, List.cons_append, List.nil_append] at h ⊢); exact h) rfl (by simp) rfl
  have hak : ¬ ka = kc := own_ne (P := P) (r := rB ka 36 [.slice (some ⟨g0, 0, none⟩) G.length cg, .slice s' F1.length c']) (q := rB kc 36 [.slice none 0 0, .slice none 0 0]) (by have h := HR7.out.o; (try simp only [List.append_assoc, List.cons_append, List.nil_append] at h ⊢); exact h) rfl (by simp) rfl
  have had : ¬ ka = kd := own_ne (P := P) (r := rB ka 36 [.slice (some ⟨g0, 0, none⟩) G.length cg, .slice s' F1.length c']) (q := rB kd 42 [.int .i64 0, .int .i64 0]) (by have h := HR7.out.o; (try simp only [List.append_assoc, List.cons_append, List.nil_append] at h ⊢); exact h) rfl (by simp) rfl
  have hka : ¬ kc = ka := fun h => hak h.symm
  have hda : ¬ kd = ka := fun h => had h.symm
  have H9 := Hid.mk' (Rs.less P _ (Rs.setB P _ 1 (.int .i64 gen) (Rs.setB P _ 0 (.int .i64 (q : Int)) (Rs.less P _ (Rs.setB P _ 1 (.slice s' F1.length c') (Rs.setB P _ 0 (.slice (some ⟨g0, 0, none⟩) G.length cg) (Rs.less P _ HR7.out)))))))
  clear oG HR7; go_region
  all_goals
   go_wp2_with fail; refine bodyPost_ret (v := .tuple #[.agg #[.slice (some ⟨g0, 0, none⟩) G.length cg, .slice s' F1.length c'], .agg #[.int .i64 (q : Int), .int .i64 gen], .int .i64 0]) (by simp [results, Tryz.results61, go_sem, z0, z1, y0, y1, hac, hca]) rfl ⟨_, cg, s', c', by rw [HTK.out], by rw [HTK.out]; exact H9.out.drew⟩
 have t1 : decide ((F.length : Int) > 0) = false := by simp at hF; simp [hF]
 have tF : ¬ (0 : Int) < (F.length : Int) := by simp at hF; simp [hF]
 by_cases hG : 2000 ≤ G.length
 ·
  have tG : (2000 : Int) ≤ (G.length : Int) := by omega
  have HTK : Hid (tk G F = (G, F, (0, 0), 3)) := by show _ = _; unfold tk; rw [if_neg hF, if_pos hG]
  obtain ⟨z0, z1, z2⟩ := (show Blk X0 kc #[.slice none 0 0, .slice none 0 0] 36 from rB_blk (HR0.out.o.on (rB kc 36 [.slice none 0 0, .slice none 0 0]) (by simp))).two
  obtain ⟨y0, y1, y2⟩ := (show Blk X0 kd #[.int .i64 0, .int .i64 0] 42 from rB_blk (HR0.out.o.on (rB kd 42 [.int .i64 0, .int .i64 0]) (by simp))).two
  have hac : ¬ kc = kd := own_ne (P := P ++ [rB ka 36 [.slice sg G.length cg, .slice sf F.length cf]]) (r := rB kc 36 [.slice none 0 0, .slice none 0 0]) (q := rB kd 42 [.int .i64 0, .int .i64 0]) (by have h := HR0.out.o; simp only [List.append_assoc, List.cons_append, List.nil_append] at h ⊢; exact h) rfl (by simp) rfl
  have hca : ¬ kd = kc := fun h => hac h.symm
  have h8 : Rs X B X0 (P ++ rB ka 36 [.slice sg G.length cg, .slice sf F.length cf] :: (rB kc 36 [.slice none 0 0, .slice none 0 0] :: rB kd 42 [.int .i64 0, .int .i64 0] :: rI (.slice sg G.length cg) G :: (rI (.slice sf F.length cf) F :: S))) := by simpa only [List.append_assoc, List.cons_append, List.nil_append] using HR0.out
  have H9 := Hid.mk' (Rs.less P _ (Rs.setB P _ 1 (.int .i64 0) (Rs.setB P _ 0 (.int .i64 0) (Rs.less P _ (Rs.setB P _ 1 (.slice sf F.length cf) (Rs.setB P _ 0 (.slice sg G.length cg) (Rs.less P _ h8)))))))
  clear h8 HR0 hF hG hin; go_wp2_with fail; refine bodyPost_ret (v := .tuple #[.agg #[.slice sg G.length cg, .slice sf F.length cf], .agg #[.int .i64 0, .int .i64 0], .int .i64 3]) (by simp [results, Tryz.results61, go_sem, z0, z1, y0, y1, hac, hca]) rfl ⟨sg, cg, sf, cf, by rw [HTK.out], by rw [HTK.out]; exact H9.out⟩
 have tG : ¬ (2000 : Int) ≤ (G.length : Int) := by omega
 obtain ⟨G1, hG1⟩ : ∃ G1 : List Int, Hid (G ++ [0] = G1) := ⟨G ++ [0], rfl⟩
 have HGL : Hid (G.length + 1 = G1.length) := by show _ = _; rw [← hG1.out, List.length_append]; rfl
 have HTK : Hid (tk G F = (G1, F, ((G.length : Int), 0), 0)) := by show _ = _; unfold tk; rw [if_neg hF, if_neg hG, hG1.out]
 have HR3 : Hid (Rs X B (X0.alloc (.cells #[.int .i64 0] 3)) ((P ++ [rB ka 36 [.slice sg G.length cg, .slice sf F.length cf], rB kc 36 [.slice none 0 0, .slice none 0 0], rB kd 42 [.int .i64 0, .int .i64 0]]) ++ rI (.slice sg G.length cg) G :: (rI (.slice sf F.length cf) F :: S))) := HR0.out.later (bl_alloc (Below.refl _ _) _)
 have HNW : Hid (∀ (j : Nat) (u : Value), [Value.int .i64 0][j]? = some u → (X0.alloc (.cells #[.int .i64 0] 3)).cell? ((⟨X0.heap.size, 0, none⟩ : Addr).add j) = some u) := by
  intro j u hj
  have hb := Blk.new X0 #[.int .i64 0] 3
  match j, hj with
  | 0, hj => simp at hj; subst hj; exact hb.cell 0
 have HON1 : Hid (∀ u ∈ [Value.int .i64 0], u.oneCell' = true) := by intro u hu; simp at hu; subst hu; rfl
 have HFE : Hid (∀ v : Value, (fun v => rI v G1) v = ⟨(rI (.slice sg G.length cg) G).T, (rI (.slice sg G.length cg) G).k, v, G1.length, (rI (.slice sg G.length cg) G).cs ++ [.int .i64 0]⟩) := by
  intro v
  show rI v G1 = _
  unfold rI
  rw [← hG1.out, List.map_append]
  rfl
 have HM1 : Hid ((rI (.slice sg G.length cg) G).n + 1 ≤ maxLen) := by show G.length + 1 ≤ _; unfold maxLen; omega
 have HM2 : Hid (((rI (.slice sg G.length cg) G).n + 1) * 8 ≤ 140737488355328) := by show (G.length + 1) * 8 ≤ _; omega
 have HN1 : Hid ((rI (.slice sg G.length cg) G).n + 1 = G1.length) := HGL.out
 have lG1 : G1.length ≤ 2001 := by have := HGL.out; omega
 have tw : IntKind.i64.wrap ((G1.length : Int) - 1) = (G.length : Int) := by rw [IntKind.wrap_i64]; have := HGL.out; omega
 clear HR0 hF hG hin; go_wp2_with (at_builtin; refine wpList_appR (carr_Rs X B) _ rfl (.tmp 41) (.tmp 42) 25 rfl (P ++ [rB ka 36 [.slice sg G.length cg, .slice sf F.length cf], rB kc 36 [.slice none 0 0, .slice none 0 0], rB kd 42 [.int .i64 0, .int .i64 0]]) (rI (.slice sf F.length cf) F :: S) (r := rI (.slice sg G.length cg) G) HR3.out 8 Tryz.underlying25 hiI hzI hsI hbI rfl Nat.zero_lt_one rfl ⟨X0.heap.size, 0, none⟩ 1 1 rfl [.int .i64 0] rfl HNW.out HON1.out HM1.out HM2.out G1.length HN1.out (fun v => rI v G1) HFE.out ?_)
 intro s' c' w6 hR6
 have h8 : Rs X B w6 (P ++ rB ka 36 [.slice sg G.length cg, .slice sf F.length cf] :: (rB kc 36 [.slice none 0 0, .slice none 0 0] :: rB kd 42 [.int .i64 0, .int .i64 0] :: rI (.slice s' G1.length c') G1 :: (rI (.slice sf F.length cf) F :: S))) := by simpa only [List.append_assoc, List.cons_append, List.nil_append] using hR6
 have HR7 : Hid (Rs X B (w6.setCell ⟨ka, 0, none⟩ (.slice s' G1.length c')) (P ++ rB ka 36 [.slice s' G1.length c', .slice sf F.length cf] :: (rB kc 36 [.slice none 0 0, .slice none 0 0] :: rB kd 42 [.int .i64 0, .int .i64 0] :: rI (.slice s' G1.length c') G1 :: (rI (.slice sf F.length cf) F :: S)))) := Rs.setB P _ 0 (.slice s' G1.length c') h8
 have KA6 := (show Blk w6 ka #[.slice sg G.length cg, .slice sf F.length cf] 36 from rB_blk (hR6.o.on (rB ka 36 [.slice sg G.length cg, .slice sf F.length cf]) (by simp)))
 obtain ⟨x0, x1, x2⟩ := KA6.two
 clear h8 hR6 HR3 HNW HON1 HFE HM1 HM2 HN1 KA6; go_upto_region 9 with fail
 generalize hX7 : w6.setCell ⟨ka, 0, none⟩ (.slice s' G1.length c') = X7 at HR7 ⊢
 clear hX7 x0 x1 x2; obtain ⟨x0, x1, x2⟩ := (show Blk X7 ka #[.slice s' G1.length c', .slice sf F.length cf] 36 from rB_blk (HR7.out.o.on (rB ka 36 [.slice s' G1.length c', .slice sf F.length cf]) (by simp))).two
 obtain ⟨z0, z1, z2⟩ := (show Blk X7 kc #[.slice none 0 0, .slice none 0 0] 36 from rB_blk (HR7.out.o.on (rB kc 36 [.slice none 0 0, .slice none 0 0]) (by simp))).two
 obtain ⟨y0, y1, y2⟩ := (show Blk X7 kd #[.int .i64 0, .int .i64 0] 42 from rB_blk (HR7.out.o.on (rB kd 42 [.int .i64 0, .int .i64 0]) (by simp))).two
 have hac : ¬ kc = kd := own_ne (P := P ++ [rB ka 36 [.slice s' G1.length c', .slice sf F.length cf]]) (r := rB kc 36 [.slice none 0 0, .slice none 0 0]) (q := rB kd 42 [.int .i64 0, .int .i64 0]) (by have h := HR7.out.o; (try simp only [List.append_assoc, List.cons_append, List.nil_append] at h ⊢); exact h) rfl (by simp) rfl
 have hca : ¬ kd = kc := fun h => hac h.symm
 have hak : ¬ ka = kc := own_ne (P := P) (r := rB ka 36 [.slice s' G1.length c', .slice sf F.length cf]) (q := rB kc 36 [.slice none 0 0, .slice none 0 0]) (by have h := HR7.out.o; (try simp only [List.append_assoc, List.cons_append, List.nil_append] at h ⊢); exact h) rfl (by simp) rfl
 have had : ¬ ka = kd := own_ne (P := P) (r := rB ka 36 [.slice s' G1.length c', .slice sf F.length cf]) (q := rB kd 42 [.int .i64 0, .int .i64 0]) (by have h := HR7.out.o; (try simp only [List.append_assoc, List.cons_append, List.nil_append] at h ⊢); exact h) rfl (by simp) rfl
 have hka : ¬ kc = ka := fun h => hak h.symm
 have hda : ¬ kd = ka := fun h => had h.symm
 have H9 := Hid.mk' (Rs.less P _ (Rs.setB P _ 1 (.int .i64 0) (Rs.setB P _ 0 (.int .i64 (G.length : Int)) (Rs.less P _ (Rs.setB P _ 1 (.slice sf F.length cf) (Rs.setB P _ 0 (.slice s' G1.length c') (Rs.less P _ HR7.out)))))))
 clear HR7; go_region
 all_goals
  go_wp2_with fail; refine bodyPost_ret (v := .tuple #[.agg #[.slice s' G1.length c', .slice sf F.length cf], .agg #[.int .i64 (G.length : Int), .int .i64 0], .int .i64 0]) (by simp [results, Tryz.results61, go_sem, z0, z1, y0, y1, hac, hca]) rfl ⟨s', c', sf, cf, by rw [HTK.out], by rw [HTK.out]; exact H9.out.drew⟩
end
end Go.Proofs.YtbgeobpdojmdaaaGreat
