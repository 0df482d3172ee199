import Derived.Test.YtkihhadcoclnaaaGreatSl39
import Derived.Test.YtkihhadcoclnaaaGreatSl19
import Derived.Test.YtkihhadcoclnaaaGreatSl15
import Derived.BigRegion
namespace Go.Proofs.YtkihhadcoclnaaaGreat
open Go.RowKit Go.Maps Go.WideMaps
set_option linter.unusedVariables false
set_option linter.unusedSimpArgs false
set_option maxRecDepth 100000
def MvR (X : World) (B b n : Nat) (f : E2 → Option E2) (P : List OR) (bb : Nat) (Vg Vf Vr : Value) (g3 : Option Addr) (cp : Nat) (ts : List TV) (W : Wd) (e : E2) (fi fj : Nat) (T : Tab) (L : List C5) (r : Ending) (w' : World) : Prop :=
   (r = .returned (.int .i64 3) ∧ (∀ t ∈ W.tabs, ¬ t.cols = L.map (·.1)) ∧ W.tabs.length = 40 ∧ Rm X B b n f w' (P ++ rB bb 90 [Vg, Vf, .slice g3 W.tabs.length cp, Vr, .map (some b)] :: rW ⟨Vg, Vf, .slice g3 W.tabs.length cp, Vr, ts⟩ W)) ∨
   (∃ (i : Nat) (T1 : Tab) (W1 : Wd) (st : Option Addr) (cp1 : Nat) (ts1 : List TV) (n' : Nat), r = .returned (.int .i64 0) ∧ GoA W W1 T1 L i ∧ OWf ⟨Vg, Vf, .slice st W1.tabs.length cp1, Vr, ts1⟩ (setW (setW W1 i (addT T1 e L)) fi (gone T fj)) ∧ Rm X B b n' (goneF T fi fj (fun x => if x = e then some ((i : Int), (T1.rows.length : Int)) else f x)) w' (P ++ rB bb 90 [Vg, Vf, .slice st W1.tabs.length cp1, Vr, .map (some b)] :: rW ⟨Vg, Vf, .slice st W1.tabs.length cp1, Vr, ts1⟩ (setW (setW W1 i (addT T1 e L)) fi (gone T fj))) ∧ n' ≤ n + 2)
theorem MvR.less3 {X : World} {B b n : Nat} {f : E2 → Option E2} {P : List OR} {a c d : OR} {bb : Nat} {Vg Vf Vr : Value} {g3 : Option Addr} {cp : Nat} {ts : List TV} {W : Wd} {e : E2} {fi fj : Nat} {T : Tab} {L : List C5} {r : Ending} {w' : World} (h : MvR X B b n f (P ++ [a, c, d]) bb Vg Vf Vr g3 cp ts W e fi fj T L r w') : MvR X B b n f P bb Vg Vf Vr g3 cp ts W e fi fj T L r w' := by
 have less3 : ∀ {m : Nat} {k : E2 → Option E2} {S : List OR}, Rm X B b m k w' ((P ++ [a, c, d]) ++ S) → Rm X B b m k w' (P ++ S) := by
  intro m k S h
  refine Rm.less2 (r := a) (q := c) P S ?_
  have h1 := Rm.less (P ++ [a, c]) S (r := d) (by simpa only [List.append_assoc, List.cons_append, List.nil_append] using h)
  exact h1
 rcases h with ⟨h1, h2, h3, h4⟩ | ⟨i, T1, W1, st, cp1, ts1, n', h1, h2, h3, h4, h5⟩
 ·
  exact Or.inl ⟨h1, h2, h3, less3 h4⟩
 ·
  exact Or.inr ⟨i, T1, W1, st, cp1, ts1, n', h1, h2, h3, less3 h4, h5⟩
theorem erase_comps {T : Tab} {j q : Nat} (h : T.cells.length = T.cols.length) : ((rowC T j).eraseIdx q).map (·.1) = T.cols.eraseIdx q := by
 rw [List.eraseIdx_eq_take_drop_succ, List.eraseIdx_eq_take_drop_succ, List.map_append, List.map_take, List.map_drop, rowC_comps h]
set_option maxHeartbeats 16000000 in
theorem drop_any {X : World} {B b n : Nat} {f : E2 → Option E2} (P : List OR) (bb : Nat) (Vg Vf Vr : Value) (g3 : Option Addr) (cp : Nat) (ts : List TV) (W : Wd) (e : E2) (x : Int) (w : World) (hR : Rm X B b n f w (P ++ rB bb 90 [Vg, Vf, .slice g3 W.tabs.length cp, Vr, .map (some b)] :: rW ⟨Vg, Vf, .slice g3 W.tabs.length cp, Vr, ts⟩ W)) (hF : OWf ⟨Vg, Vf, .slice g3 W.tabs.length cp, Vr, ts⟩ W) (hk : kW W)
  (hS : Std (listB W.gens W.free) W.tabs (rowsOf W.tabs) f) (hlv : ∀ x, x ∈ listB W.gens W.free → x ∈ rowsOf W.tabs) (hrt : ∀ t ∈ W.tabs, RTab t) (bR : ∀ t ∈ W.tabs, ∀ x ∈ t.rows, bE x) (be : bE e) (hn : n ≤ 1100000000000)
  (hcl : ∀ T ∈ W.tabs, T.cols.length ≤ 1000) (hrl : ∀ T ∈ W.tabs, T.rows.length ≤ 100000) (h40 : W.tabs.length ≤ 40) :
  Calls Tryz.prog 42 #[.pointer (some ⟨bb, 0, none⟩), .agg #[.int .i64 e.1, .int .i64 e.2], .int .i64 x] w fun r w' =>
   (r = .returned (.int .i64 2) ∧ ¬ e ∈ rowsOf W.tabs ∧ Rm X B b n f w' (P ++ rB bb 90 [Vg, Vf, .slice g3 W.tabs.length cp, Vr, .map (some b)] :: rW ⟨Vg, Vf, .slice g3 W.tabs.length cp, Vr, ts⟩ W)) ∨
   (∃ (i j : Nat) (T : Tab), W.tabs[i]? = some T ∧ T.rows[j]? = some e ∧ ((r = .returned (.int .i64 4) ∧ ¬ x ∈ T.cols ∧ Rm X B b n f w' (P ++ rB bb 90 [Vg, Vf, .slice g3 W.tabs.length cp, Vr, .map (some b)] :: rW ⟨Vg, Vf, .slice g3 W.tabs.length cp, Vr, ts⟩ W)) ∨
    ∃ q : Nat, T.cols[q]? = some x ∧ MvR X B b n f P bb Vg Vf Vr g3 cp ts W e i j T ((rowC T j).eraseIdx q) r w')) := by
 have hal := alloc_old
 have haf := alloc_oldf
 have hR0 : Rm X B b n f (w.alloc (.cells #[.int .i64 e.1, .int .i64 e.2] 48)) (P ++ rB w.heap.size 48 [.int .i64 e.1, .int .i64 e.2] :: (rB bb 90 [Vg, Vf, .slice g3 W.tabs.length cp, Vr, .map (some b)] :: rW ⟨Vg, Vf, .slice g3 W.tabs.length cp, Vr, ts⟩ W)) :=
  Rm.ins P _ hR (bl_alloc (Below.refl _ _) _) (blk_rB (Blk.new w _ _) (Nat.le_refl _))
 go_enter Tryz.func42, Tryz.ntmps42
 go_wp2_with fail
 generalize hX0 : w.alloc (.cells #[.int .i64 e.1, .int .i64 e.2] 48) = X0 at hR0 ⊢
 generalize hke : w.heap.size = ke at hR0 ⊢
 clear hX0 hke hR
 have HF := Hid.mk' hF
 have HR0 := Hid.mk' hR0
 obtain ⟨f0, f1, f2⟩ := (show Blk X0 ke #[.int .i64 e.1, .int .i64 e.2] 48 from rB_blk (hR0.rs.o.on (rB ke 48 [.int .i64 e.1, .int .i64 e.2]) (by simp))).two
 have b4 : X0.cell? ⟨bb, 4, none⟩ = some (.map (some b)) := (rB_blk (hR0.rs.o.on (rB bb 90 [Vg, Vf, .slice g3 W.tabs.length cp, Vr, .map (some b)]) (by simp))).cell 4
 clear hR0 hF
 have HS := Hid.mk' hS
 have HLV := Hid.mk' hlv
 by_cases hf : f e = none
 ·
  have hlk1 : (Instr.lookup 88 (.map (some b)) (.agg #[.int .i64 e.1, .int .i64 e.2]) true).run Tryz.prog X0.drew = .ok (.tuple #[.agg #[.int .i64 0, .int .i64 0], .bool false]) X0.drew := by
   have := ((carr_Rm X B b n f).drew HR0.out).sm.look be
   rw [hf] at this
   simpa [stv] using this
  have hlk2 : ∀ ob, (Instr.lookup 88 (.map (some b)) (.agg #[.int .i64 e.1, .int .i64 e.2]) true).run Tryz.prog (X0.alloc ob).drew = .ok (.tuple #[.agg #[.int .i64 0, .int .i64 0], .bool false]) (X0.alloc ob).drew := by
   intro ob
   have := (show SM (X0.alloc ob).drew b n f from HR0.out.sm.later (bl_drew (bl_alloc (Below.refl _ _) ob))).look be
   rw [hf] at this
   simpa [stv] using this
  have HE : Hid (¬ e ∈ rowsOf W.tabs) := fun hm => by
   obtain ⟨s, hs, _⟩ := HS.out.taken e hm
   rw [hf] at hs
   cases hs
  have HR1 := Hid.mk' ((carr_Rm X B b n f).drew ((carr_Rm X B b n f).later HR0.out (bl_alloc (Below.refl _ X0) (.cells #[.int .i64 0, .int .i64 0] 150))))
  clear hf hS hlv
  go_region
  all_goals
   go_wp2_with fail
   go_ret
   exact Or.inl ⟨rfl, HE.out, Rm.less P _ HR1.out⟩
 ·
  obtain ⟨i, j, T, hfe, hT, hTj⟩ : ∃ (i j : Nat) (T : Tab), f e = some ((i : Int), (j : Int)) ∧ W.tabs[i]? = some T ∧ T.rows[j]? = some e := by
   have hin : e ∈ listB W.gens W.free := by
    by_cases h : e ∈ listB W.gens W.free
    ·
     exact h
    ·
     exact absurd (HS.out.out e h) hf
   obtain ⟨s, hs, i, j, T, rfl, h1, h2⟩ := HS.out.taken e (HLV.out e hin)
   exact ⟨i, j, T, hs, h1, h2⟩
  have hlk1 : (Instr.lookup 88 (.map (some b)) (.agg #[.int .i64 e.1, .int .i64 e.2]) true).run Tryz.prog X0.drew = .ok (.tuple #[.agg #[.int .i64 i, .int .i64 j], .bool true]) X0.drew := by
   have := ((carr_Rm X B b n f).drew HR0.out).sm.look be
   rw [hfe] at this
   simpa [stv] using this
  have hlk2 : ∀ ob, (Instr.lookup 88 (.map (some b)) (.agg #[.int .i64 e.1, .int .i64 e.2]) true).run Tryz.prog (X0.alloc ob).drew = .ok (.tuple #[.agg #[.int .i64 i, .int .i64 j], .bool true]) (X0.alloc ob).drew := by
   intro ob
   have := (show SM (X0.alloc ob).drew b n f from HR0.out.sm.later (bl_drew (bl_alloc (Below.refl _ _) ob))).look be
   rw [hfe] at this
   simpa [stv] using this
  have hm := List.mem_of_getElem? hT
  have hi : i < W.tabs.length := (List.getElem?_eq_some_iff.1 hT).1
  have hjl : j < T.rows.length := (List.getElem?_eq_some_iff.1 hTj).1
  have hlT : ∀ L ∈ T.cells, L.length = T.rows.length := by
   intro L hL
   obtain ⟨q, hq, rfl⟩ := List.getElem_of_mem hL
   exact (hrt T hm).each q _ (List.getElem?_eq_getElem hq)
  have HR1 : Hid (Rm X B b n f (X0.alloc (.cells #[.int .i64 i, .int .i64 j] 150)).drew ((P ++ [rB ke 48 [.int .i64 e.1, .int .i64 e.2], rB X0.heap.size 150 [.int .i64 i, .int .i64 j]]) ++ rB bb 90 [Vg, Vf, .slice g3 W.tabs.length cp, Vr, .map (some b)] :: rW ⟨Vg, Vf, .slice g3 W.tabs.length cp, Vr, ts⟩ W)) := by
   show Rm _ _ _ _ _ _ _
   have h := (carr_Rm X B b n f).drew ((carr_Rm X B b n f).ins (P ++ [rB ke 48 [.int .i64 e.1, .int .i64 e.2]]) (rB bb 90 [Vg, Vf, .slice g3 W.tabs.length cp, Vr, .map (some b)] :: rW ⟨Vg, Vf, .slice g3 W.tabs.length cp, Vr, ts⟩ W) (by simpa using HR0.out) (bl_alloc (Below.refl _ X0) (.cells #[.int .i64 i, .int .i64 j] 150)) (blk_rB (cs := [.int .i64 i, .int .i64 j]) (Blk.new X0 _ _) (Nat.le_refl _)))
   simpa only [List.append_assoc, List.cons_append, List.nil_append] using h
  have HT := Hid.mk' hT
  have HTj := Hid.mk' hTj
  have HLT := Hid.mk' hlT
  have HBT := Hid.mk' (bR T hm)
  have HRT := Hid.mk' (hrt T hm)
  have HCL := Hid.mk' hcl
  have HRL := Hid.mk' hrl
  have HRA := Hid.mk' hrt
  have hct := hcl T hm
  clear hf hfe hS hlv hT hTj hlT hrt bR HS HLV HR0 hcl hrl hm
  go_region
  go_wp2_with fail
  generalize hX1 : (X0.alloc (.cells #[.int .i64 i, .int .i64 j] 150)).drew = X1 at HR1 ⊢
  generalize hks : X0.heap.size = ks at HR1 ⊢
  clear hX1 hks hlk1 hlk2 f0 f1 f2 b4
  obtain ⟨q1, r1, q2, r2, q3, r3, q4, r4, f1, f2, f3, f4, hIn⟩ := (HF.out.ow (HR1.out.rs.o.right.tail)).inW
  simp only [Value.slice.injEq] at f3
  obtain ⟨rfl, -, rfl⟩ := f3
  have hIt := Hid.mk' hIn.t
  clear hIn f1 f2 f4
  obtain ⟨tb, t0, rfl, _, _, s1, d1, s2, d2, s3, d3, e1, _, _, E1, _, _⟩ := eTab_cells hIt.out HT.out
  have b2 : X1.cell? ⟨bb, 2, none⟩ = some (.slice (some ⟨tb, t0, none⟩) W.tabs.length cp) := (rB_blk (HR1.out.rs.o.on (rB bb 90 [Vg, Vf, .slice (some ⟨tb, t0, none⟩) W.tabs.length cp, Vr, .map (some b)]) (by simp))).cell 2
  obtain ⟨f0, f1, f2⟩ := (show Blk X1 ks #[.int .i64 i, .int .i64 j] 150 from rB_blk (HR1.out.rs.o.on (rB ks 150 [.int .i64 i, .int .i64 j]) (by simp))).two
  have i0 : (0 : Int) ≤ (i : Int) := by omega
  have i1 : (i : Int) < (W.tabs.length : Int) := by omega
  have HE1 := Hid.mk' (E1.later cInt_keeps (bl_drew (Below.refl _ X1)))
  have HUP : Hid (∀ (p q : Nat) a b, p ≤ q → T.cols[p]? = some a → T.cols[q]? = some b → a ≤ b) := by
   intro p q a b hpq ha hb
   by_cases h : p = q
   ·
    subst h
    rw [ha] at hb
    cases hb
    exact Int.le_refl _
   ·
    exact Int.le_of_lt (HRT.out.up p q a b (by omega) ha hb)
  have HR1D := Hid.mk' ((carr_Rm X B b n f).drew HR1.out)
  clear E1 hIt
  go_cut [9, 10] (fun p q wx => ∃ k : Nat, p = .int .i64 k ∧ q = .bool (decide (T.cols[k]? = some x)) ∧ Hid (Fnd T.cols x k) ∧ Hid (Rm X B b n f wx ((P ++ [rB ke 48 [.int .i64 e.1, .int .i64 e.2], rB ks 150 [.int .i64 i, .int .i64 j]]) ++ rB bb 90 [Vg, Vf, .slice (some ⟨tb, t0, none⟩) W.tabs.length cp, Vr, .map (some b)] :: rW ⟨Vg, Vf, .slice (some ⟨tb, t0, none⟩) W.tabs.length cp, Vr, ts⟩ W)))
  case first =>
   go_region_with (first
    | (go_at_call 85; refine (binSearch_any s1 d1 T.cols x _ _ HE1.out (by omega) HUP.out).mono ?_; rintro r w5 ⟨⟨k, hr5, hq5⟩, hw5⟩; subst hr5; subst hw5))
   all_goals
    go_wp2_with fail
    go_meet
    exact ⟨k, rfl, rfl, hq5, HR1D.out⟩
  case rest =>
   obtain ⟨k, rfl, rfl, HFD, HRC⟩ := hcut
   clear HR1 HR1D HE1 b2 f0 f1 f2 e1 HUP
   by_cases hfd : T.cols[k]? = some x
   ·
    have tf : decide (T.cols[k]? = some x) = true := by simp [hfd]
    rw [tf]
    have hkl : k < T.cols.length := (List.getElem?_eq_some_iff.1 hfd).1
    have HXK := Hid.mk' hfd
    have hrc : (rowC T j).length = T.cols.length := rowC_len HRT.out.len
    have hle : ((rowC T j).eraseIdx k).length = (rowC T j).length - 1 := List.length_eraseIdx_of_lt (by omega)
    have HOK : Hid (okCs ((rowC T j).eraseIdx k)) := by
     intro c hc
     exact okCs_rowC (fun M hM => HF.out.okc T (List.mem_of_getElem? HT.out) M hM) (fun M hM => by rw [HLT.out M hM]; exact hjl) c (List.mem_of_mem_eraseIdx hc)
    have HNE : Hid (¬ T.cols = ((rowC T j).eraseIdx k).map (·.1)) := by
     intro h
     rw [erase_comps HRT.out.len] at h
     have h1 := congrArg List.length h
     rw [List.length_eraseIdx_of_lt hkl] at h1
     omega
    have HCC : Hid (∀ T ∈ W.tabs, T.cells.length = T.cols.length) := fun t ht => (HRA.out t ht).len
    have HLL : Hid (∀ T ∈ W.tabs, ∀ M ∈ T.cells, M.length ≤ 100000) := by
     intro t ht M hM
     obtain ⟨q, hq, rfl⟩ := List.getElem_of_mem hM
     rw [(HRA.out t ht).each q _ (List.getElem?_eq_getElem hq)]
     exact HRL.out t ht
    have lL : ((rowC T j).eraseIdx k).length ≤ 1000 := by omega
    have HKT : Hid (kTab T) := hk.2.2.1.2 T (List.mem_of_getElem? HT.out)
    have HRD := Hid.mk' ((carr_Rm X B b n f).drew HRC.out)
    have HB2 : Hid (wc.drew.cell? ⟨bb, 2, none⟩ = some (.slice (some ⟨tb, t0, none⟩) W.tabs.length cp)) := (rB_blk (HRD.out.rs.o.on (rB bb 90 [Vg, Vf, .slice (some ⟨tb, t0, none⟩) W.tabs.length cp, Vr, .map (some b)]) (by simp))).cell 2
    obtain ⟨q1, r1, q2, r2, q3, r3, q4, r4, f1, f2, f3, f4, hIn⟩ := (HF.out.ow (HRD.out.rs.o.right.tail)).inW
    simp only [Value.slice.injEq] at f3
    obtain ⟨rfl, -, rfl⟩ := f3
    have hIt := Hid.mk' hIn.t
    clear hIn f1 f2 f4
    have HCO := Hid.mk' (cellsOf_any bb (some ⟨tb, t0, none⟩) cp W i j T _ wc.drew HB2.out hIt.out HT.out HRT.out.len HLT.out hjl HKT.out (by omega) (rowC T j) rfl)
    have HDE : Hid (∀ (g : Nat) (w5 : World), (rC (.slice (some ⟨g, 0, none⟩) (rowC T j).length (rowC T j).length) (rowC T j)).on w5 B → Calls Tryz.prog 87 #[.slice (some ⟨g, 0, none⟩) (rowC T j).length (rowC T j).length, .int .i64 (k : Int), .int .i64 ((k : Int) + 1)] w5 fun e w' => e = .returned (.slice (some ⟨g, 0, none⟩) ((rowC T j).eraseIdx k).length (rowC T j).length) ∧ (rC (.slice (some ⟨g, 0, none⟩) ((rowC T j).eraseIdx k).length (rowC T j).length) ((rowC T j).eraseIdx k)).on w' B ∧ w5.grownBy w' (some g) ∧ w'.heap.size = w5.heap.size) := by
     intro g w5 h
     rw [hle]
     exact deleteC_any g (rowC T j) k (k + 1) B w5 h (by omega) (by omega) rfl
    obtain ⟨f0, f1, f2⟩ := (show Blk wc ks #[.int .i64 i, .int .i64 j] 150 from rB_blk (HRC.out.rs.o.on (rB ks 150 [.int .i64 i, .int .i64 j]) (by simp))).two
    obtain ⟨y0, y1, y2⟩ := (show Blk wc ke #[.int .i64 e.1, .int .i64 e.2] 48 from rB_blk (HRC.out.rs.o.on (rB ke 48 [.int .i64 e.1, .int .i64 e.2]) (by simp))).two
    have HK := Hid.mk' hk
    have HN := Hid.mk' hn
    have hw1 : IntKind.i64.wrap ((k : Int) + 1) = (k : Int) + 1 := by rw [IntKind.wrap_i64]; omega
    clear hfd tf HB2 hIt HRC hk hle hrc
    go_wp2_with fail
    refine wp_region_held_drew (S := (fun w' => w'.cell? ⟨ks, 0, none⟩ = some (.int .i64 i) ∧ w'.cell? ⟨ks, 1, none⟩ = some (.int .i64 j) ∧ w'.cell? ⟨ke, 0, none⟩ = some (.int .i64 e.1) ∧ w'.cell? ⟨ke, 1, none⟩ = some (.int .i64 e.2))) (by kernel_rfl) ?_ (fun hHeld => ?_)
    ·
     exact ⟨f0, f1, y0, y1⟩
    refine wpr 0 39 ?_
    simp only [zs]
    refine wpr 1 40 ?_
    simp only [zs]
    refine wpr 2 41 ?_
    simp only [zs]
    refine wpr 3 42 ?_
    simp only [zs]
    refine wpr 4 43 ?_
    simp only [zs]
    refine wpr 6 45 ?_
    simp only [zs]
    refine wpr 7 46 ?_
    simp only [zs]
    refine wpr 8 47 ?_
    simp only [zs]
    refine wpAnyH_ready (rs := [5]) (by kernel_rfl) (by simp) ?_
    refine AllReadyH.cons rfl (fun K hK => ?_) AllReadyH.nil
    go_simp
    refine HCO.out.mono ?_
    rintro r w5 ⟨g, hr5, hO5, hb5⟩
    subst hr5
    have HR5 := Hid.mk' ((carr_Rm X B b n f).ins (P ++ [rB ke 48 [.int .i64 e.1, .int .i64 e.2], rB ks 150 [.int .i64 i, .int .i64 j]]) _ HRD.out hb5 hO5)
    clear hO5 hb5 f0 f1 f2 y0 y1 y2
    obtain ⟨f0, f1, f2⟩ := (show Blk w5 ks #[.int .i64 i, .int .i64 j] 150 from rB_blk (HR5.out.rs.o.on (rB ks 150 [.int .i64 i, .int .i64 j]) (by simp))).two
    obtain ⟨y0, y1, y2⟩ := (show Blk w5 ke #[.int .i64 e.1, .int .i64 e.2] 48 from rB_blk (HR5.out.rs.o.on (rB ke 48 [.int .i64 e.1, .int .i64 e.2]) (by simp))).two
    refine hK.out _ _ ?_ (fun hHeld => ?_)
    ·
     exact ⟨f0, f1, y0, y1⟩
    clear hK K
    try simp only [zs]
    refine wpAnyH_ready (rs := [9]) (by kernel_rfl) (by simp) ?_
    refine AllReadyH.cons rfl (fun K hK => ?_) AllReadyH.nil
    go_simp
    refine (HDE.out g _ (HR5.out.rs.o.on (rC (.slice (some ⟨g, 0, none⟩) (rowC T j).length (rowC T j).length) (rowC T j)) (by simp))).mono ?_
    rintro r w6 ⟨hr6, hO6, hg6, _⟩
    subst hr6
    have HR6 := Hid.mk' ((carr_Rm X B b n f).turn (P ++ [rB ke 48 [.int .i64 e.1, .int .i64 e.2], rB ks 150 [.int .i64 i, .int .i64 j]]) _ (r := rC (.slice (some ⟨g, 0, none⟩) (rowC T j).length (rowC T j).length) (rowC T j)) (r' := rC (.slice (some ⟨g, 0, none⟩) ((rowC T j).eraseIdx k).length (rowC T j).length) ((rowC T j).eraseIdx k)) HR5.out hg6 hO6 (fun g hg => Or.inl hg))
    clear hO6 hg6 f0 f1 f2 y0 y1 y2
    obtain ⟨f0, f1, f2⟩ := (show Blk w6 ks #[.int .i64 i, .int .i64 j] 150 from rB_blk (HR6.out.rs.o.on (rB ks 150 [.int .i64 i, .int .i64 j]) (by simp))).two
    obtain ⟨y0, y1, y2⟩ := (show Blk w6 ke #[.int .i64 e.1, .int .i64 e.2] 48 from rB_blk (HR6.out.rs.o.on (rB ke 48 [.int .i64 e.1, .int .i64 e.2]) (by simp))).two
    refine hK.out _ _ ?_ (fun hHeld => ?_)
    ·
     exact ⟨f0, f1, y0, y1⟩
    clear hK K
    try simp only [zs]
    refine wpAnyH_ready (rs := [10]) (by kernel_rfl) (by simp) ?_
    refine AllReadyH.cons rfl (fun K hK => ?_) AllReadyH.nil
    go_simp
    refine (move_any (P ++ [rB ke 48 [.int .i64 e.1, .int .i64 e.2], rB ks 150 [.int .i64 i, .int .i64 j], rC (.slice (some ⟨g, 0, none⟩) ((rowC T j).eraseIdx k).length (rowC T j).length) ((rowC T j).eraseIdx k)]) bb Vg Vf Vr (some ⟨tb, t0, none⟩) cp ts W e i j T (some ⟨g, 0, none⟩) (rowC T j).length ((rowC T j).eraseIdx k) w6 (by simpa only [List.append_assoc, List.cons_append, List.nil_append] using HR6.out) HF.out HK.out (by simp) HOK.out lL HCC.out HRL.out HLL.out h40 be (by omega) HT.out hjl HLT.out HBT.out HNE.out).mono ?_
    intro r w7 hmv
    have hmz : ∃ z : Int, r = .returned (.int .i64 z) ∧ MvR X B b n f P bb Vg Vf Vr (some ⟨tb, t0, none⟩) cp ts W e i j T ((rowC T j).eraseIdx k) (.returned (.int .i64 z)) w7 := by
     have h := MvR.less3 (show MvR X B b n f (P ++ [rB ke 48 [.int .i64 e.1, .int .i64 e.2], rB ks 150 [.int .i64 i, .int .i64 j], rC (.slice (some ⟨g, 0, none⟩) ((rowC T j).eraseIdx k).length (rowC T j).length) ((rowC T j).eraseIdx k)]) bb Vg Vf Vr (some ⟨tb, t0, none⟩) cp ts W e i j T ((rowC T j).eraseIdx k) r w7 from hmv)
     rcases hmv with ⟨he, _⟩ | ⟨_, _, _, _, _, _, _, he, _⟩
     ·
      exact ⟨3, he, by rw [← he]; exact h⟩
     ·
      exact ⟨0, he, by rw [← he]; exact h⟩
    have hbx : w7.cell? ⟨ks, 0, none⟩ = some (.int .i64 i) ∧ w7.cell? ⟨ks, 1, none⟩ = some (.int .i64 j) ∧ w7.cell? ⟨ke, 0, none⟩ = some (.int .i64 e.1) ∧ w7.cell? ⟨ke, 1, none⟩ = some (.int .i64 e.2) := by
     rcases hmv with ⟨_, _, _, hq⟩ | ⟨_, _, _, _, _, _, _, _, _, _, hq, _⟩
     ·
      exact ⟨(rB_blk (hq.rs.o.on (rB ks 150 [.int .i64 i, .int .i64 j]) (by simp))).cell 0, (rB_blk (hq.rs.o.on (rB ks 150 [.int .i64 i, .int .i64 j]) (by simp))).cell 1, (rB_blk (hq.rs.o.on (rB ke 48 [.int .i64 e.1, .int .i64 e.2]) (by simp))).cell 0, (rB_blk (hq.rs.o.on (rB ke 48 [.int .i64 e.1, .int .i64 e.2]) (by simp))).cell 1⟩
     ·
      exact ⟨(rB_blk (hq.rs.o.on (rB ks 150 [.int .i64 i, .int .i64 j]) (by simp))).cell 0, (rB_blk (hq.rs.o.on (rB ks 150 [.int .i64 i, .int .i64 j]) (by simp))).cell 1, (rB_blk (hq.rs.o.on (rB ke 48 [.int .i64 e.1, .int .i64 e.2]) (by simp))).cell 0, (rB_blk (hq.rs.o.on (rB ke 48 [.int .i64 e.1, .int .i64 e.2]) (by simp))).cell 1⟩
    clear hmv
    obtain ⟨z, hr7, hm7⟩ := hmz
    have HMV := Hid.mk' hm7
    clear hm7
    subst hr7
    refine hK.out _ _ ?_ (fun hHeld => ?_)
    ·
     exact hbx
    clear hK K
    try simp only [zs]
    refine wpr 11 6 ?_
    simp only [zs]
    refine wpAnyH_done (by kernel_rfl) ?_ _
    go_wp2_with fail
    go_ret
    exact Or.inr ⟨i, j, T, HT.out, HTj.out, Or.inr ⟨k, HXK.out, HMV.out⟩⟩
   ·
    have tf : decide (T.cols[k]? = some x) = false := by simp [hfd]
    rw [tf]
    have HNX : Hid (¬ x ∈ T.cols) := by
     intro hx
     obtain ⟨m, hm⟩ := List.mem_iff_getElem?.1 hx
     have hml := (List.getElem?_eq_some_iff.1 hm).1
     rcases Nat.lt_trichotomy m k with h | h | h
     ·
      exact absurd (HFD.out.2.1 m x h hm) (Int.lt_irrefl _)
     ·
      subst h; exact hfd hm
     ·
      obtain ⟨a, ha⟩ := get_some (L := T.cols) (k := k) (by omega)
      have h1 := HFD.out.2.2 k a (Nat.le_refl _) ha
      have h2 := HRT.out.up k m a x h ha hm
      omega
    clear hfd tf
    go_wp2_with fail
    go_ret
    exact Or.inr ⟨i, j, T, HT.out, HTj.out, Or.inl ⟨rfl, HNX.out, Rm.less2 P _ HRC.out⟩⟩
end Go.Proofs.YtkihhadcoclnaaaGreat
