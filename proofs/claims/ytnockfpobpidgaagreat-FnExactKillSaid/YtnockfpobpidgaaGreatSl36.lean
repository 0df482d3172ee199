import Derived.Test.YtnockfpobpidgaaGreatSl33
import Derived.Test.YtnockfpobpidgaaGreatSl35
import Derived.Maps.OwnSet
import Derived.BigRegion
import Derived.Test.YtnockfpobpidgaaGreatSl30
namespace Go.Proofs.YtnockfpobpidgaaGreat
section
open Go.RowKit Go.Maps Go.WideMaps
set_option linter.unusedVariables false
set_option linter.unusedSimpArgs false
set_option maxRecDepth 100000
theorem StM.del {D : DataW Value} {f : E2 → Option E2} (h : StM D f) {e : E2} (he : bE e) : StM (D.del (ekey e)) (fun x => if x = e then none else f x) := by
 refine ⟨h.1.del _, fun x hx => ?_⟩
 by_cases hxe : x = e
 ·
  subst hxe
  refine ⟨?_, fun z => ?_⟩
  ·
   rw [has_del_same]; simp
  ·
   rw [atKey_del_same]; simp
 ·
  have hne : ekey x ≠ ekey e := fun q => hxe (ekey_inj hx he q)
  refine ⟨?_, fun z => ?_⟩
  ·
   rw [has_del_other hne, (h.2 x hx).1]; simp [hxe]
  ·
   rw [atKey_del_other hne, (h.2 x hx).2 z]; simp [hxe]
theorem own_nil {w : World} {B n c : Nat} {s : Option Addr} {L : List Int} (h : (rI (.slice s n c) L).on w B) : s = none → c = 0 := by
 intro hs
 subst hs
 rcases h.2 with ⟨h1, _⟩ | ⟨g, cap, cur, h1, _⟩
 ·
  have h1 : Value.slice none n c = .slice none 0 0 := h1
  simp only [Value.slice.injEq] at h1
  exact h1.2.2
 ·
  have h1 : Value.slice none n c = .slice (some ⟨g, 0, none⟩) L.length cap := h1
  simp at h1
def killW (W : Wd) (i j : Nat) (T : Tab) (e : E2) : Wd := ⟨W.gens.set e.1.toNat (ng e.2), W.free ++ [e.1], W.tabs.set i (gone T j), W.res⟩
def killF (T : Tab) (i j : Nat) (e : E2) (f : E2 → Option E2) : E2 → Option E2 := fun x => if x = e then none else goneF T i j f x
set_option maxHeartbeats 8000000 in
theorem kill_any {X : World} {B b n : Nat} {f : E2 → Option E2} (P : List OR) (bb : Nat) (g1 g2 : Option Addr) (d1 d2 : Nat) (Vr : Value) (a3 : Option Addr) (cp : Nat) (ts : List TV) (W : Wd) (e : E2) (w : World) (hR : Rm X B b n f w (P ++ rB bb 90 [.slice g1 W.gens.length d1, .slice g2 W.free.length d2, .slice a3 W.tabs.length cp, Vr, .map (some b)] :: rW ⟨.slice g1 W.gens.length d1, .slice g2 W.free.length d2, .slice a3 W.tabs.length cp, Vr, ts⟩ W)) (hF : OWf ⟨.slice g1 W.gens.length d1, .slice g2 W.free.length d2, .slice a3 W.tabs.length cp, Vr, ts⟩ W) (hk : kW W)
  (hS : Std (listB W.gens W.free) W.tabs (rowsOf W.tabs) f) (hlv : ∀ x, x ∈ listB W.gens W.free → x ∈ rowsOf W.tabs) (hok : okE W.gens W.free = true) (hrt : ∀ t ∈ W.tabs, RTab t) (bR : ∀ t ∈ W.tabs, ∀ x ∈ t.rows, bE x) (be : bE e) (hn : n ≤ 1100000000000) :
  Calls Tryz.prog 43 #[.pointer (some ⟨bb, 0, none⟩), .agg #[.int .i64 e.1, .int .i64 e.2]] w fun r w' =>
   (r = .returned (.int .i64 2) ∧ ¬ e ∈ rowsOf W.tabs ∧ Rm X B b n f w' (P ++ rB bb 90 [.slice g1 W.gens.length d1, .slice g2 W.free.length d2, .slice a3 W.tabs.length cp, Vr, .map (some b)] :: rW ⟨.slice g1 W.gens.length d1, .slice g2 W.free.length d2, .slice a3 W.tabs.length cp, Vr, ts⟩ W)) ∨
   (∃ (i j : Nat) (T : Tab) (s' t' : Option Addr) (c' e' : Nat) (ts' : List TV) (n' : Nat), r = .returned (.int .i64 0) ∧ W.tabs[i]? = some T ∧ T.rows[j]? = some e ∧ Rm X B b n' (killF T i j e f) w' (P ++ rB bb 90 [.slice s' (killW W i j T e).gens.length c', .slice t' (killW W i j T e).free.length e', .slice a3 W.tabs.length cp, Vr, .map (some b)] :: rW ⟨.slice s' (killW W i j T e).gens.length c', .slice t' (killW W i j T e).free.length e', .slice a3 W.tabs.length cp, Vr, ts'⟩ (killW W i j T e)) ∧
    OWf ⟨.slice s' (killW W i j T e).gens.length c', .slice t' (killW W i j T e).free.length e', .slice a3 W.tabs.length cp, Vr, ts'⟩ (killW W i j T e) ∧ n' ≤ n + 1) := by
 have hal := alloc_old
 have haf := alloc_oldf
 have hR0 : Rm X B b n f (w.alloc (.cells #[.int .i64 e.1, .int .i64 e.2] 48)) (P ++ rB w.heap.size 48 [.int .i64 e.1, .int .i64 e.2] :: (rB bb 90 [.slice g1 W.gens.length d1, .slice g2 W.free.length d2, .slice a3 W.tabs.length cp, Vr, .map (some b)] :: rW ⟨.slice g1 W.gens.length d1, .slice g2 W.free.length d2, .slice a3 W.tabs.length cp, Vr, ts⟩ W)) :=
  Rm.ins P _ hR (bl_alloc (Below.refl _ _) _) (blk_rB (Blk.new w _ _) (Nat.le_refl _))
 go_enter Tryz.func43, Tryz.ntmps43
 go_wp2_with fail
 generalize hX0 : w.alloc (.cells #[.int .i64 e.1, .int .i64 e.2] 48) = X0 at hR0 ⊢
 generalize hke : w.heap.size = ke at hR0 ⊢
 clear hX0 hke hR
 have HF := Hid.mk' hF
 have HR0 := Hid.mk' hR0
 obtain ⟨f0, f1, f2⟩ := (show Blk X0 ke #[.int .i64 e.1, .int .i64 e.2] 48 from rB_blk (hR0.rs.o.on (rB ke 48 [.int .i64 e.1, .int .i64 e.2]) (by simp))).two
 have b4 : X0.cell? ⟨bb, 4, none⟩ = some (.map (some b)) := (rB_blk (hR0.rs.o.on (rB bb 90 [.slice g1 W.gens.length d1, .slice g2 W.free.length d2, .slice a3 W.tabs.length cp, Vr, .map (some b)]) (by simp))).cell 4
 clear hR0 hF
 have HS := Hid.mk' hS
 have HLV := Hid.mk' hlv
 by_cases hf : f e = none
 ·
  have hlk1 : (Instr.lookup 88 (.map (some b)) (.agg #[.int .i64 e.1, .int .i64 e.2]) true).run Tryz.prog X0.drew = .ok (.tuple #[.agg #[.int .i64 0, .int .i64 0], .bool false]) X0.drew := by
   have := ((carr_Rm X B b n f).drew HR0.out).sm.look be
   rw [hf] at this
   simpa [stv] using this
  have hlk2 : ∀ ob, (Instr.lookup 88 (.map (some b)) (.agg #[.int .i64 e.1, .int .i64 e.2]) true).run Tryz.prog (X0.alloc ob).drew = .ok (.tuple #[.agg #[.int .i64 0, .int .i64 0], .bool false]) (X0.alloc ob).drew := by
   intro ob
   have := (show SM (X0.alloc ob).drew b n f from HR0.out.sm.later (bl_drew (bl_alloc (Below.refl _ _) ob))).look be
   rw [hf] at this
   simpa [stv] using this
  have HE : Hid (¬ e ∈ rowsOf W.tabs) := fun hm => by
   obtain ⟨s, hs, _⟩ := HS.out.taken e hm
   rw [hf] at hs
   cases hs
  have HR1 := Hid.mk' ((carr_Rm X B b n f).drew ((carr_Rm X B b n f).later HR0.out (bl_alloc (Below.refl _ X0) (.cells #[.int .i64 0, .int .i64 0] 154))))
  clear hf hS hlv
  go_region
  all_goals
   go_wp2_with fail
   go_ret
   exact Or.inl ⟨rfl, HE.out, Rm.less P _ HR1.out⟩
 ·
  obtain ⟨i, j, T, hfe, hT, hTj⟩ : ∃ (i j : Nat) (T : Tab), f e = some ((i : Int), (j : Int)) ∧ W.tabs[i]? = some T ∧ T.rows[j]? = some e := by
   have hin : e ∈ listB W.gens W.free := by
    by_cases h : e ∈ listB W.gens W.free
    ·
     exact h
    ·
     exact absurd (HS.out.out e h) hf
   obtain ⟨s, hs, i, j, T, rfl, h1, h2⟩ := HS.out.taken e (HLV.out e hin)
   exact ⟨i, j, T, hs, h1, h2⟩
  have hlive : l2B W.gens W.free e.1 e.2 = true := by
   have hin : e ∈ listB W.gens W.free := by
    by_cases h : e ∈ listB W.gens W.free
    ·
     exact h
    ·
     exact absurd (HS.out.out e h) hf
   exact (mem_live hok).1 hin
  obtain ⟨G2, hG2⟩ : ∃ G2, Hid (W.gens.set e.1.toNat (ng e.2) = G2) := ⟨_, rfl⟩
  obtain ⟨F2, hF2'⟩ : ∃ F2, Hid (W.free ++ [e.1] = F2) := ⟨_, rfl⟩
  have HG : Hid (giveB W.gens W.free e.1 e.2 = (G2, F2, 0)) := by
   show _ = _
   unfold giveB
   rw [if_pos hok, if_pos hlive, hG2.out, hF2'.out]
  have hlk1 : (Instr.lookup 88 (.map (some b)) (.agg #[.int .i64 e.1, .int .i64 e.2]) true).run Tryz.prog X0.drew = .ok (.tuple #[.agg #[.int .i64 i, .int .i64 j], .bool true]) X0.drew := by
   have := ((carr_Rm X B b n f).drew HR0.out).sm.look be
   rw [hfe] at this
   simpa [stv] using this
  have hlk2 : ∀ ob, (Instr.lookup 88 (.map (some b)) (.agg #[.int .i64 e.1, .int .i64 e.2]) true).run Tryz.prog (X0.alloc ob).drew = .ok (.tuple #[.agg #[.int .i64 i, .int .i64 j], .bool true]) (X0.alloc ob).drew := by
   intro ob
   have := (show SM (X0.alloc ob).drew b n f from HR0.out.sm.later (bl_drew (bl_alloc (Below.refl _ _) ob))).look be
   rw [hfe] at this
   simpa [stv] using this
  have hi : i < W.tabs.length := (List.getElem?_eq_some_iff.1 hT).1
  have hjl : j < T.rows.length := (List.getElem?_eq_some_iff.1 hTj).1
  obtain ⟨t, tb, cp', sr, cr, sx, cx, ht, eV, _⟩ := tab_at HR0.out.rs.o (V := ⟨.slice g1 W.gens.length d1, .slice g2 W.free.length d2, .slice a3 W.tabs.length cp, Vr, ts⟩) (W := W) (fun r hr => by simp [hr]) HF.out hT
  simp only [Value.slice.injEq, true_and] at eV
  obtain ⟨rfl, rfl⟩ := eV
  have HR1 : Hid (Rm X B b n f (X0.alloc (.cells #[.int .i64 i, .int .i64 j] 154)).drew ((P ++ [rB ke 48 [.int .i64 e.1, .int .i64 e.2], rB X0.heap.size 154 [.int .i64 i, .int .i64 j]]) ++ rB bb 90 [.slice g1 W.gens.length d1, .slice g2 W.free.length d2, .slice (some ⟨tb, 0, none⟩) W.tabs.length cp, Vr, .map (some b)] :: rW ⟨.slice g1 W.gens.length d1, .slice g2 W.free.length d2, .slice (some ⟨tb, 0, none⟩) W.tabs.length cp, Vr, ts⟩ W)) := by
   have h := (carr_Rm X B b n f).ins (P ++ [rB ke 48 [.int .i64 e.1, .int .i64 e.2]]) (rB bb 90 [.slice g1 W.gens.length d1, .slice g2 W.free.length d2, .slice (some ⟨tb, 0, none⟩) W.tabs.length cp, Vr, .map (some b)] :: rW ⟨.slice g1 W.gens.length d1, .slice g2 W.free.length d2, .slice (some ⟨tb, 0, none⟩) W.tabs.length cp, Vr, ts⟩ W) (by simpa using HR0.out) (bl_alloc (Below.refl _ X0) (.cells #[.int .i64 i, .int .i64 j] 154)) (blk_rB (cs := [.int .i64 i, .int .i64 j]) (Blk.new X0 _ _) (Nat.le_refl _))
   have h2 := (carr_Rm X B b n f).drew h
   have e9 : (P ++ [rB ke 48 [.int .i64 e.1, .int .i64 e.2]]) ++ rB X0.heap.size 154 [.int .i64 i, .int .i64 j] :: (rB bb 90 [.slice g1 W.gens.length d1, .slice g2 W.free.length d2, .slice (some ⟨tb, 0, none⟩) W.tabs.length cp, Vr, .map (some b)] :: rW ⟨.slice g1 W.gens.length d1, .slice g2 W.free.length d2, .slice (some ⟨tb, 0, none⟩) W.tabs.length cp, Vr, ts⟩ W) = (P ++ [rB ke 48 [.int .i64 e.1, .int .i64 e.2], rB X0.heap.size 154 [.int .i64 i, .int .i64 j]]) ++ rB bb 90 [.slice g1 W.gens.length d1, .slice g2 W.free.length d2, .slice (some ⟨tb, 0, none⟩) W.tabs.length cp, Vr, .map (some b)] :: rW ⟨.slice g1 W.gens.length d1, .slice g2 W.free.length d2, .slice (some ⟨tb, 0, none⟩) W.tabs.length cp, Vr, ts⟩ W := by simp
   rw [e9] at h2
   exact h2
  have HT := Hid.mk' hT
  have HTj := Hid.mk' hTj
  have hlT : ∀ L ∈ T.cells, L.length = T.rows.length := by
   intro L hL
   obtain ⟨q, hq, rfl⟩ := List.getElem_of_mem hL
   exact (hrt T (List.mem_of_getElem? hT)).each q _ (List.getElem?_eq_getElem hq)
  have hbT := bR T (List.mem_of_getElem? hT)
  have HLT := Hid.mk' hlT
  have HBT := Hid.mk' hbT
  clear hf hfe hS hlv hlive hok ht hT hTj hlT hbT hrt bR HS HLV HR0
  go_region
  go_wp2_with fail
  generalize hX1 : (X0.alloc (.cells #[.int .i64 i, .int .i64 j] 154)).drew = X1 at HR1 ⊢
  generalize hks : X0.heap.size = ks at HR1 ⊢
  clear hX1 hks hlk1 hlk2 f0 f1 f2 b4
  refine (leave_any (P ++ [rB ke 48 [.int .i64 e.1, .int .i64 e.2], rB ks 154 [.int .i64 i, .int .i64 j]]) bb _ _ Vr tb cp ts W i j T X1 HR1.out HF.out HT.out hjl hk HLT.out HBT.out (by omega)).mono ?_
  rintro r w2 ⟨rfl, ts', n', hR2, hF2, hn'⟩
  have HR2 := Hid.mk' hR2
  have HF2 := Hid.mk' hF2
  clear hR2 hF2 HR1
  obtain ⟨f0, f1, f2⟩ := (show Blk w2 ke #[.int .i64 e.1, .int .i64 e.2] 48 from rB_blk (HR2.out.rs.o.on (rB ke 48 [.int .i64 e.1, .int .i64 e.2]) (by simp))).two
  have b4 : w2.cell? ⟨bb, 4, none⟩ = some (.map (some b)) := (rB_blk (HR2.out.rs.o.on (rB bb 90 [.slice g1 W.gens.length d1, .slice g2 W.free.length d2, .slice (some ⟨tb, 0, none⟩) W.tabs.length cp, Vr, .map (some b)]) (by simp))).cell 4
  obtain ⟨D, q1, q2⟩ := ((carr_Rm X B b n' (goneF T i j f)).drew HR2.out).sm
  obtain ⟨w3, hrun, r1, r2⟩ := World.ownsMap.drop (t := 88) q1 ekeyed Tryz.underlying88 (key := .agg #[.int .i64 e.1, .int .i64 e.2]) (keyOfE e be) 0
  have HR3 : Hid (Rm X B b n' (killF T i j e f) w3 ((P ++ [rB ke 48 [.int .i64 e.1, .int .i64 e.2], rB ks 154 [.int .i64 i, .int .i64 j]]) ++ rB bb 90 [.slice g1 W.gens.length d1, .slice g2 W.free.length d2, .slice (some ⟨tb, 0, none⟩) W.tabs.length cp, Vr, .map (some b)] :: rW ⟨.slice g1 W.gens.length d1, .slice g2 W.free.length d2, .slice (some ⟨tb, 0, none⟩) W.tabs.length cp, Vr, ts'⟩ (setW W i (gone T j)))) := Rm.write ((carr_Rm X B b n' (goneF T i j f)).drew HR2.out) r2.grown ⟨_, r1, q2.del be⟩
  clear q1 q2 r1 r2 HR2
  go_wp2_with fail
  go_region
  go_wp2_with fail
  clear f0 f1 f2 b4 hrun
  have HR3D := Hid.mk' ((carr_Rm X B b n' (killF T i j e f)).drew HR3.out)
  obtain ⟨f0, f1, f2⟩ := (show Blk w3 ke #[.int .i64 e.1, .int .i64 e.2] 48 from rB_blk (HR3.out.rs.o.on (rB ke 48 [.int .i64 e.1, .int .i64 e.2]) (by simp))).two
  have c0 : w3.cell? ⟨bb, 0, none⟩ = some (.slice g1 W.gens.length d1) := (rB_blk (HR3.out.rs.o.on (rB bb 90 [.slice g1 W.gens.length d1, .slice g2 W.free.length d2, .slice (some ⟨tb, 0, none⟩) W.tabs.length cp, Vr, .map (some b)]) (by simp))).cell 0
  have c1 : w3.cell? ⟨bb, 1, none⟩ = some (.slice g2 W.free.length d2) := (rB_blk (HR3.out.rs.o.on (rB bb 90 [.slice g1 W.gens.length d1, .slice g2 W.free.length d2, .slice (some ⟨tb, 0, none⟩) W.tabs.length cp, Vr, .map (some b)]) (by simp))).cell 1
  have o1 : (rI (.slice g1 W.gens.length d1) W.gens).on w3.drew B := HR3D.out.rs.o.on _ (by simp [rW, setW])
  have o2 : (rI (.slice g2 W.free.length d2) W.free).on w3.drew B := HR3D.out.rs.o.on _ (by simp [rW, setW])
  have hgv := implGive_gen g1 g2 d1 d2 W.gens W.free e.1 e.2 w3.drew (rI_els o1).ints (rI_els o2).ints hk.1 hk.2.1 (own_nil o1) (own_nil o2)
  rw [HG.out] at hgv
  have HGV := Hid.mk' hgv
  clear hgv o1 o2
  go_region_with (first
   | (go_at_call 90; refine HGV.out.mono ?_; rintro r w4 ⟨s1, k1, s2, k2, hr4, va, vb, hap, hb4⟩; dsimp only at hr4 va vb hap; subst hr4; have hR4 := (carr_Rm X B b n' (killF T i j e f)).later HR3D.out hb4; have KB4 := (show Blk w4 bb #[.slice g1 W.gens.length d1, .slice g2 W.free.length d2, .slice (some ⟨tb, 0, none⟩) W.tabs.length cp, Vr, .map (some b)] 90 from rB_blk (hR4.rs.o.on (rB bb 90 [.slice g1 W.gens.length d1, .slice g2 W.free.length d2, .slice (some ⟨tb, 0, none⟩) W.tabs.length cp, Vr, .map (some b)]) (by simp))); have c0 := KB4.cell 0; have c1 := KB4.cell 1; have fb := KB4.frozen))
  all_goals
   have hO : Owns w4 w3.drew.heap.size [rI (.slice s1 G2.length k1) G2, rI (.slice s2 F2.length k2) F2] := (Owns.one (r := rI (.slice s1 G2.length k1) G2) va).join (Owns.one (r := rI (.slice s2 F2.length k2) F2) vb) (fun g h1 h2 => by
    obtain ⟨q, hq, e1⟩ := mem_blks.1 h1
    obtain ⟨q', hq', e2⟩ := mem_blks.1 h2
    simp only [List.mem_singleton] at hq hq'
    subst hq hq'
    exact hap g e1 e2)
   have h0 : Rm X B b n' (killF T i j e f) w3.drew ((P ++ [rB ke 48 [.int .i64 e.1, .int .i64 e.2], rB ks 154 [.int .i64 i, .int .i64 j], rB bb 90 [.slice g1 W.gens.length d1, .slice g2 W.free.length d2, .slice (some ⟨tb, 0, none⟩) W.tabs.length cp, Vr, .map (some b)]]) ++ rI (.slice g1 W.gens.length d1) W.gens :: (rI (.slice g2 W.free.length d2) W.free :: (rT (.slice (some ⟨tb, 0, none⟩) W.tabs.length cp) ts' :: rV Vr W.res :: rTabs ts' (W.tabs.set i (gone T j))))) := by
    have h := HR3D.out
    simp only [rW, setW, List.append_assoc, List.cons_append, List.nil_append] at h ⊢
    exact h
   have h2 := Rm.insM (P ++ [rB ke 48 [.int .i64 e.1, .int .i64 e.2], rB ks 154 [.int .i64 i, .int .i64 j], rB bb 90 [.slice g1 W.gens.length d1, .slice g2 W.free.length d2, .slice (some ⟨tb, 0, none⟩) W.tabs.length cp, Vr, .map (some b)]]) [rI (.slice s1 G2.length k1) G2, rI (.slice s2 F2.length k2) F2] (rT (.slice (some ⟨tb, 0, none⟩) W.tabs.length cp) ts' :: rV Vr W.res :: rTabs ts' (W.tabs.set i (gone T j))) (Rm.less _ _ (Rm.less _ _ h0)) hb4 hO
   have h3 : Rm X B b n' (killF T i j e f) w4 ((P ++ [rB ke 48 [.int .i64 e.1, .int .i64 e.2], rB ks 154 [.int .i64 i, .int .i64 j]]) ++ rB bb 90 [.slice g1 W.gens.length d1, .slice g2 W.free.length d2, .slice (some ⟨tb, 0, none⟩) W.tabs.length cp, Vr, .map (some b)] :: rW ⟨.slice s1 G2.length k1, .slice s2 F2.length k2, .slice (some ⟨tb, 0, none⟩) W.tabs.length cp, Vr, ts'⟩ ⟨G2, F2, W.tabs.set i (gone T j), W.res⟩) := by
    simp only [rW, List.append_assoc, List.cons_append, List.nil_append] at h2 ⊢
    exact h2
   have h4 := (carr_Rm X B b n' (killF T i j e f)).setB _ _ 1 (.slice s2 F2.length k2) ((carr_Rm X B b n' (killF T i j e f)).setB _ _ 0 (.slice s1 G2.length k1) h3)
   have h4a := Rm.less P _ (r := rB ke 48 [.int .i64 e.1, .int .i64 e.2]) (by simp only [List.append_assoc, List.cons_append, List.nil_append] at h4; exact h4)
   have h5 := Rm.less P _ h4a
   have HR5 := Hid.mk' h5
   clear h0 h2 h3 h4 h4a h5 hO va vb hap hR4 KB4
   go_wp2_with fail
   go_ret
   have hkw : killW W i j T e = ⟨G2, F2, W.tabs.set i (gone T j), W.res⟩ := by unfold killW; rw [hG2.out, hF2'.out]
   refine Or.inr ⟨i, j, T, s1, s2, k1, k2, ts', n', rfl, HT.out, HTj.out, ?_, ?_, hn'⟩
   ·
    rw [hkw]; exact HR5.out
   ·
    rw [hkw]; exact ⟨HF2.out.len, HF2.out.lens, HF2.out.okc, HF2.out.okr⟩
end
section
open Go.RowKit Go.Maps Go.WideMaps
set_option linter.unusedVariables false
set_option linter.unusedSimpArgs false
set_option maxRecDepth 100000
def WSays (R : Wd → Int → Prop) (w : World) (r : Ending) (w' : World) : Prop := ∃ (V : WV) (W' : Wd) (code : Int), r = .returned (.tuple #[.agg #[V.g, V.f, V.t, V.r], .int .i64 code]) ∧ OW w' w.heap.size V W' ∧ R W' code ∧ Below w.heap.size w w'
theorem Owns.put4 {w : World} {B : Nat} {R : List OR} (h : Owns w B R) {n : Nat} (hn : n < B) (u0 u1 u2 u3 : Value) : Owns ((((w.setCell ⟨n, 0, none⟩ u0).setCell ⟨n, 1, none⟩ u1).setCell ⟨n, 2, none⟩ u2).setCell ⟨n, 3, none⟩ u3) B R := (((h.putC hn _).putC hn _).putC hn _).putC hn _
theorem bl_put4 {w0 w : World} {B : Nat} (h : Below B w0 w) {n : Nat} (hn : B ≤ n) (u0 u1 u2 u3 : Value) : Below B w0 ((((w.setCell ⟨n, 0, none⟩ u0).setCell ⟨n, 1, none⟩ u1).setCell ⟨n, 2, none⟩ u2).setCell ⟨n, 3, none⟩ u3) := (((h.setCell hn _).setCell hn _).setCell hn _).setCell hn _
end
section
open Go.RowKit Go.Maps Go.WideMaps
set_option linter.unusedVariables false
set_option linter.unusedSimpArgs false
set_option maxRecDepth 100000
def KillR (A B C : List (ByteArray × Int)) (W : Wd) (e : E2) (W' : Wd) (code : Int) : Prop :=
 (standB A B C W = false ∧ W' = W ∧ code = 1) ∨
 (standB A B C W = true ∧ ((¬ e ∈ rowsOf W.tabs ∧ W' = W ∧ code = 2) ∨
 (∃ (i j : Nat) (T : Tab), W.tabs[i]? = some T ∧ T.rows[j]? = some e ∧ W' = killW W i j T e ∧ code = 0)))
theorem KillR.same {A B C : List (ByteArray × Int)} {W : Wd} {e : E2} {W1 W2 : Wd} {c1 c2 : Int} (h1 : KillR A B C W e W1 c1) (h2 : KillR A B C W e W2 c2) : W1 = W2 ∧ c1 = c2 := by
 rcases h1 with ⟨hf, rfl, rfl⟩ | ⟨ht, h1⟩
 ·
  rcases h2 with ⟨_, rfl, rfl⟩ | ⟨ht, _⟩
  ·
   exact ⟨rfl, rfl⟩
  ·
   rw [hf] at ht; cases ht
 ·
  obtain ⟨hrt, hon⟩ := stand_tabs ht
  simp only [onceB, decide_eq_true_eq] at hon
  rcases h2 with ⟨hf, _⟩ | ⟨_, h2⟩
  ·
   rw [hf] at ht; cases ht
  ·
   rcases h1 with ⟨n1, rfl, rfl⟩ | ⟨i, j, T, hT, hj, rfl, rfl⟩
   ·
    rcases h2 with ⟨n2, rfl, rfl⟩ | ⟨i, j, T, hT, hj, rfl, rfl⟩
    ·
     exact ⟨rfl, rfl⟩
    ·
     exact absurd (mem_rows hT hj) n1
   ·
    rcases h2 with ⟨n2, rfl, rfl⟩ | ⟨i', j', T', hT', hj', rfl, rfl⟩
    ·
     exact absurd (mem_rows hT hj) n2
    ·
     obtain ⟨rfl, rfl⟩ := rows_unique hon.1 hT hj hT' hj'
     rw [hT] at hT'
     cases hT'
     exact ⟨rfl, rfl⟩
theorem stand_okE {A B C : List (ByteArray × Int)} {W : Wd} (h : standB A B C W = true) : okE W.gens W.free = true := by
 simp only [standB, Bool.and_eq_true] at h
 exact h.1.1.1.1.2
theorem wo_le {α : Type} (L : List α) (j : Nat) : (wo L j).length ≤ L.length := by
 unfold wo
 cases L[L.length - 1]? with
 | none => exact Nat.le_refl _
 | some x => simp
theorem kTab_gone {T : Tab} (h : kTab T) (j : Nat) : kTab (gone T j) := by
 refine ⟨h.1, Nat.le_trans (wo_le _ _) h.2.1, ?_, ?_⟩
 ·
  show (T.cells.map _).length ≤ _
  rw [List.length_map]; exact h.2.2.1
 ·
  intro L hL
  have hL : L ∈ T.cells.map fun L => wo L j := hL
  simp only [List.mem_map] at hL
  obtain ⟨M, hM, rfl⟩ := hL
  exact Nat.le_trans (wo_le _ _) (h.2.2.2 M hM)
theorem KillR.kW {A B C : List (ByteArray × Int)} {W : Wd} {e : E2} {W1 : Wd} {c1 : Int} (h : KillR A B C W e W1 c1) (hk : kW W) : kW W1 := by
 rcases h with ⟨_, rfl, _⟩ | ⟨hst, ⟨_, rfl, _⟩ | ⟨i, j, T, hT, hj, rfl, _⟩⟩
 ·
  exact hk
 ·
  exact hk
 ·
  obtain ⟨l1, l2⟩ := okE_len (stand_okE hst)
  refine ⟨?_, ?_, ⟨?_, ?_⟩, hk.2.2.2⟩
  ·
   show (W.gens.set _ _).length ≤ _
   rw [List.length_set]; exact hk.1
  ·
   show (W.free ++ [e.1]).length ≤ _
   rw [List.length_append]; simp; omega
  ·
   show (W.tabs.set _ _).length ≤ _
   rw [List.length_set]; exact hk.2.2.1.1
  ·
   intro U hU
   have hU : U ∈ W.tabs.set i (gone T j) := hU
   rcases List.mem_or_eq_of_mem_set hU with h' | rfl
   ·
    exact hk.2.2.1.2 U h'
   ·
    exact kTab_gone (hk.2.2.1.2 T (List.mem_of_getElem? hT)) j
theorem box4y (w : World) (c d f g : Array Value) (t u v x : TypeId) : ∃ X, X = (((w.alloc (.cells c t)).alloc (.cells d u)).alloc (.cells f v)).alloc (.cells g x) ∧ Blk X w.heap.size c t ∧ Blk X (w.heap.size + 1) d u ∧ Blk X (w.heap.size + 1 + 1) f v ∧ Blk X (w.heap.size + 1 + 1 + 1) g x ∧ Below w.heap.size w X :=
 ⟨_, rfl, (((Blk.new w c t).alloc _).alloc _).alloc _, ((Blk.new' _ d u (by simp)).alloc _).alloc _, (Blk.new' _ f v (by simp)).alloc _, Blk.new' _ g x (by simp), bl_alloc (bl_alloc (bl_alloc (bl_alloc (Below.refl _ _) _) _) _) _⟩
set_option maxHeartbeats 8000000 in
theorem implKill_any (s1 s2 s3 : Option Addr) (c1 c2 c3 : Nat) (A B C : List (ByteArray × Int)) (a1 a2 a3 a4 : Option Addr) (b1 b2 b3 b4 : Nat) (W : Wd) (e : E2) (w : World) (hA : Decls w s1 A) (hB : Decls w s2 B) (hC : Decls w s3 C) (nm : ∀ i, i < (A ++ B ++ C).length → (dAt (A ++ B ++ C) i).1.size ≤ maxLen) (l1 : A.length ≤ 1048576) (l2 : B.length ≤ 1048576) (l3 : C.length ≤ 1048576)
  (hW : InW w 0 a1 a2 a3 a4 W) (hk : kW W) (hcap : W.tabs.length ≤ b3) (bR : ∀ t ∈ W.tabs, ∀ x ∈ t.rows, bE x) (be : bE e) :
  Calls Tryz.prog 13 #[.agg #[.slice s1 A.length c1, .slice s2 B.length c2, .slice s3 C.length c3], .agg #[.slice a1 W.gens.length b1, .slice a2 W.free.length b2, .slice a3 W.tabs.length b3, .slice a4 W.res.length b4], .agg #[.int .i64 e.1, .int .i64 e.2]] w fun r w' => WSays (KillR A B C W e) w r w' := by
 have hal := alloc_old
 have haf := alloc_oldf
 obtain ⟨X, hX, k0, k1, k2, k3, L0⟩ := box4y w #[.slice s1 A.length c1, .slice s2 B.length c2, .slice s3 C.length c3] #[.slice a1 W.gens.length b1, .slice a2 W.free.length b2, .slice a3 W.tabs.length b3, .slice a4 W.res.length b4] #[.int .i64 e.1, .int .i64 e.2] #[.slice none 0 0, .slice none 0 0, .slice none 0 0, .slice none 0 0] 45 40 48 40
 have n4 : w.heap.size + 1 + 1 + 1 < X.heap.size := k3.lt
 go_enter Tryz.func13, Tryz.ntmps13
 go_wp2_with fail
 rw [← hX]
 clear hX
 have BR := Hid.mk' bR
 refine (openBoard_any s1 s2 s3 c1 c2 c3 A B C a1 a2 a3 a4 b1 b2 b3 b4 W _ (hA.later L0) (hB.later L0) (hC.later L0) nm l1 l2 l3 (hW.later L0) hk hcap bR).mono ?_
 rintro r w1 ⟨bb, V, mb, rfl, hR, hF, hS⟩
 obtain ⟨g1, d1, g2, d2, g3, d3, g4, d4, ts, rfl⟩ := (hF.ow hR.o.tail).shape
 have K2 := Hid.mk' k2
 have K3 := Hid.mk' k3
 have HR := Hid.mk' hR
 have HF := Hid.mk' hF
 have HS := Hid.mk' hS
 have HK := Hid.mk' hk
 have LX := Hid.mk' L0
 clear k0 k1 k2 k3 hR hF hS hB hC hW hA nm bR hcap L0 hk
 obtain ⟨y0, y1, y2, y3, y4⟩ := (HR.out.blk K3.out n4).four'
 have KB : Blk w1 bb #[.slice g1 W.gens.length d1, .slice g2 W.free.length d2, .slice g3 W.tabs.length d3, .slice g4 W.res.length d4, .map mb] 90 := rB_blk HR.out.o.head
 have x0 := KB.cell 0
 have x1 := KB.cell 1
 have x2 := KB.cell 2
 have x3 := KB.cell 3
 have lw : Hid (Below w.heap.size w w1) := bl_trans LX.out HR.out.l
 have hb0 : X.heap.size ≤ bb := (HR.out.o.head.lt bb rfl).1
 cases hst : standB A B C W
 ·
  have HG : Hid (KillR A B C W e W 1) := Or.inl ⟨hst, rfl, rfl⟩
  have hO := Hid.mk' ((HR.out.o.tail.put4 (n := w.heap.size + 1 + 1 + 1) n4 (.slice g1 W.gens.length d1) (.slice g2 W.free.length d2) (.slice g3 W.tabs.length d3) (.slice g4 W.res.length d4)).mono (B' := w.heap.size) (by omega))
  clear hst KB HS HR
  go_wp2_with fail
  refine bodyPost_ret (v := .tuple #[.agg #[.slice g1 W.gens.length d1, .slice g2 W.free.length d2, .slice g3 W.tabs.length d3, .slice g4 W.res.length d4], .int .i64 1]) (by simp [results, Tryz.results13, go_sem, y0, y1, y2, y3]) rfl ⟨_, W, 1, rfl, HF.out.ow hO.out, HG.out, bl_put4 lw.out (by omega) _ _ _ _⟩
 ·
  obtain ⟨b, n, f, rfl, hM, hSt, hnb, hlb, hnn⟩ := HS.out hst
  obtain ⟨hrt, hon⟩ := stand_tabs hst
  simp only [onceB, decide_eq_true_eq] at hon
  have hlv : ∀ x, x ∈ listB W.gens W.free → x ∈ rowsOf W.tabs := all_in hon.1 hon.2.1 hon.2.2
  have hok := stand_okE hst
  have HM : Hid (Rm X X.heap.size b n f w1 ([] ++ rB bb 90 [.slice g1 W.gens.length d1, .slice g2 W.free.length d2, .slice g3 W.tabs.length d3, .slice g4 W.res.length d4, .map (some b)] :: rW ⟨.slice g1 W.gens.length d1, .slice g2 W.free.length d2, .slice g3 W.tabs.length d3, .slice g4 W.res.length d4, ts⟩ W)) := ⟨HR.out, hM, hnb, hlb⟩
  have HKL := Hid.mk' (kill_any (X := X) (B := X.heap.size) [] bb g1 g2 d1 d2 (.slice g4 W.res.length d4) g3 d3 ts W e w1 HM.out HF.out HK.out hSt hlv hok hrt BR.out be (by omega))
  obtain ⟨z0, z1, z2⟩ := (HR.out.blk K2.out (by omega)).two
  have HST := Hid.mk' hst
  clear hst KB HS HR HM hM hSt hnb hlb hnn hrt hon hlv hok x0 x1 x2 x3
  go_wp2_with fail
  refine HKL.out.mono ?_
  rintro r w2 hr
  clear HKL y0 y1 y2 y3 y4 z0 z1 z2 lw
  rcases hr with ⟨rfl, hno, hR2⟩ | ⟨i, j, T, t1, t2, k1, k2, ts', n', rfl, hT, hj, hR2, hF2, hn'⟩
  ·
   have HG : Hid (KillR A B C W e W 2) := Or.inr ⟨HST.out, Or.inl ⟨hno, rfl, rfl⟩⟩
   have HR2 := Hid.mk' hR2
   obtain ⟨y0, y1, y2, y3, y4⟩ := (HR2.out.rs.blk K3.out n4).four'
   have KB : Blk w2 bb #[.slice g1 W.gens.length d1, .slice g2 W.free.length d2, .slice g3 W.tabs.length d3, .slice g4 W.res.length d4, .map (some b)] 90 := rB_blk HR2.out.rs.o.head
   have x0 := KB.cell 0
   have x1 := KB.cell 1
   have x2 := KB.cell 2
   have x3 := KB.cell 3
   have lw : Hid (Below w.heap.size w w2) := bl_trans LX.out HR2.out.rs.l
   have hO := Hid.mk' ((HR2.out.rs.o.tail.put4 (n := w.heap.size + 1 + 1 + 1) n4 (.slice g1 W.gens.length d1) (.slice g2 W.free.length d2) (.slice g3 W.tabs.length d3) (.slice g4 W.res.length d4)).mono (B' := w.heap.size) (by omega))
   clear KB HR2 hR2 hno
   go_wp2_with fail
   refine bodyPost_ret (v := .tuple #[.agg #[.slice g1 W.gens.length d1, .slice g2 W.free.length d2, .slice g3 W.tabs.length d3, .slice g4 W.res.length d4], .int .i64 2]) (by simp [results, Tryz.results13, go_sem, y0, y1, y2, y3]) rfl ⟨_, W, 2, rfl, HF.out.ow hO.out, HG.out, bl_put4 lw.out (by omega) _ _ _ _⟩
  ·
   obtain ⟨W2, hW2⟩ : ∃ W2, Hid (killW W i j T e = W2) := ⟨_, rfl⟩
   have HG : Hid (KillR A B C W e W2 0) := Or.inr ⟨HST.out, Or.inr ⟨i, j, T, hT, hj, hW2.out.symm, rfl⟩⟩
   rw [hW2.out] at hR2 hF2
   have HR2 := Hid.mk' hR2
   have HF2 := Hid.mk' hF2
   obtain ⟨y0, y1, y2, y3, y4⟩ := (HR2.out.rs.blk K3.out n4).four'
   have KB : Blk w2 bb #[.slice t1 W2.gens.length k1, .slice t2 W2.free.length k2, .slice g3 W.tabs.length d3, .slice g4 W.res.length d4, .map (some b)] 90 := rB_blk HR2.out.rs.o.head
   have x0 := KB.cell 0
   have x1 := KB.cell 1
   have x2 := KB.cell 2
   have x3 := KB.cell 3
   have lw : Hid (Below w.heap.size w w2) := bl_trans LX.out HR2.out.rs.l
   have hO := Hid.mk' ((HR2.out.rs.o.tail.put4 (n := w.heap.size + 1 + 1 + 1) n4 (.slice t1 W2.gens.length k1) (.slice t2 W2.free.length k2) (.slice g3 W.tabs.length d3) (.slice g4 W.res.length d4)).mono (B' := w.heap.size) (by omega))
   clear KB HR2 hR2 hF2 hT hj
   go_wp2_with fail
   refine bodyPost_ret (v := .tuple #[.agg #[.slice t1 W2.gens.length k1, .slice t2 W2.free.length k2, .slice g3 W.tabs.length d3, .slice g4 W.res.length d4], .int .i64 0]) (by simp [results, Tryz.results13, go_sem, y0, y1, y2, y3]) rfl ⟨_, W2, 0, rfl, HF2.out.ow hO.out, HG.out, bl_put4 lw.out (by omega) _ _ _ _⟩
end
end Go.Proofs.YtnockfpobpidgaaGreat
