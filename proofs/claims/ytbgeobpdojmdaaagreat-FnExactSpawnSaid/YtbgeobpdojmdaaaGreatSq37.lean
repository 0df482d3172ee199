import Derived.Test.YtbgeobpdojmdaaaGreatSq36
import Derived.Test.YtbgeobpdojmdaaaGreatSq18
namespace Go.Proofs.YtbgeobpdojmdaaaGreat
open Go.RowKit
set_option linter.unusedVariables false
set_option linter.unusedSimpArgs false
set_option maxRecDepth 100000
theorem Rs.roundT1 {X W : World} {B : Nat} {P : List OR} {ts : List TV} {Ts : List Tab} {k : Nat} {T : Tab} (hx : ts.length = k) (h : Ts[k]? = some T) {t : TV} {q : OR} (hR : Rs X B W (P ++ (q :: (rTab t T ++ rTabs ts (Ts.take k))))) : Rs X B W (P ++ rTabs (ts ++ [t]) (Ts.take (k + 1))) := by
 rw [rTabs_snoc hx h]
 exact (Rs.less P _ hR).perm (List.Perm.append_left P List.perm_append_comm)
set_option maxHeartbeats 8000000 in
theorem l4Copy_new (a1 a2 a3 a4 : Option Addr) (c1 c2 c3 c4 : Nat) (W : Wd) (B0 : Nat) (w : World) (hW : InW w B0 a1 a2 a3 a4 W) (hk : kW W) :
  Calls Tryz.prog 26 #[.agg #[.slice a1 W.gens.length c1, .slice a2 W.free.length c2, .slice a3 W.tabs.length c3, .slice a4 W.res.length c4]] w fun e w' => (∃ V : WV, e = .returned (.agg #[V.g, V.f, V.t, V.r]) ∧ OW w' w.heap.size V W) ∧ Below w.heap.size w w' := by
 have hal := alloc_old
 have haf := alloc_oldf
 obtain ⟨m1, m2, ⟨m3, hkts⟩, m4⟩ := hk
 have HKT := Hid.mk' hkts
 obtain ⟨iW, hiW, hzW, hsW, hbW⟩ := info_parts Tryz.infoWd
 obtain ⟨iV, hiV, hzV, hsV, hbV⟩ := info_parts Tryz.infoV
 obtain ⟨iT, hiT, hzT, hsT, hbT⟩ := info_parts Tryz.infoTb
 obtain ⟨k0, k1, L0'⟩ := boxWE' w #[.slice a1 W.gens.length c1, .slice a2 W.free.length c2, .slice a3 W.tabs.length c3, .slice a4 W.res.length c4] #[.slice none 0 0, .slice none 0 0, .slice none 0 0, .slice none 0 0] 40 40
 go_enter Tryz.func26, Tryz.ntmps26
 go_wp2_with fail; generalize hX : (w.alloc (.cells #[.slice a1 W.gens.length c1, .slice a2 W.free.length c2, .slice a3 W.tabs.length c3, .slice a4 W.res.length c4] 40)).alloc (.cells #[.slice none 0 0, .slice none 0 0, .slice none 0 0, .slice none 0 0] 40) = X at k0 k1 L0' ⊢
 clear hX hkts; have b0 : w.heap.size < X.heap.size := k0.lt
 have b1 : w.heap.size + 1 < X.heap.size := k1.lt
 have bB : w.heap.size ≤ X.heap.size := Nat.le_of_lt b0
 have K0 := Hid.mk' k0
 have K1 := Hid.mk' k1
 have L0 : Hid (Below w.heap.size w X) := L0'
 have HW := Hid.mk' hW
 have hR := Hid.mk' (Rs.nil X)
 clear k0 k1 hW L0'; go_cut [3] (fun pz wx => ∃ (kz kx : Nat) (sg : Option Addr) (cg : Nat) (sf : Option Addr) (cf : Nat) (sr : Option Addr) (cr : Nat), pz = .pointer (some ⟨kz, 0, none⟩) ∧ Rs X X.heap.size wx [rI (.slice sg W.gens.length cg) W.gens, rI (.slice sf W.free.length cf) W.free, rV (.slice sr W.res.length cr) W.res, (⟨119, 3, .slice (some ⟨kx, 0, none⟩) 0 0, 0, []⟩ : OR), rB kz 40 [.slice sg W.gens.length cg, .slice sf W.free.length cf, .slice (some ⟨kx, 0, none⟩) 0 0, .slice sr W.res.length cr]])
 case first =>
  refine wp_region_held_drew (S := (fun w' => Blk w' w.heap.size #[.slice a1 W.gens.length c1, .slice a2 W.free.length c2, .slice a3 W.tabs.length c3, .slice a4 W.res.length c4] 40 ∧ Blk w' (w.heap.size + 1) #[.slice none 0 0, .slice none 0 0, .slice none 0 0, .slice none 0 0] 40)) (by kernel_rfl) ?_ (fun hHeld => ?_)
  ·
   exact (k2 hR K0 K1 b0 b1 :)
  have hR := Hid.mk' hR.out.drew
  refine wpq (v := ?_) 0 5 rfl rfl ?_ ?_
  rotate_left 1
  ·
   intro w hSw; (try dsimp only at hSw); obtain ⟨q0, q1⟩ := hSw; obtain ⟨x0, x1, x2, x3, x4⟩ := q0.four'; go_simp <;> with_reducible rfl
  simp only [zs]; refine wpq (v := ?_) 1 6 rfl rfl ?_ ?_
  rotate_left 1
  ·
   intro w hSw; (try dsimp only at hSw); obtain ⟨q0, q1⟩ := hSw; obtain ⟨x0, x1, x2, x3, x4⟩ := q0.four'; go_simp <;> with_reducible rfl
  simp only [zs]; refine wpq (v := ?_) 5 10 rfl rfl ?_ ?_
  rotate_left 1
  ·
   intro w hSw; (try dsimp only at hSw); obtain ⟨q0, q1⟩ := hSw; obtain ⟨x0, x1, x2, x3, x4⟩ := q0.four'; go_simp <;> with_reducible rfl
  simp only [zs]; refine wpq (v := ?_) 6 11 rfl rfl ?_ ?_
  rotate_left 1
  ·
   intro w hSw; (try dsimp only at hSw); obtain ⟨q0, q1⟩ := hSw; obtain ⟨x0, x1, x2, x3, x4⟩ := q0.four'; go_simp <;> with_reducible rfl
  simp only [zs]; refine dag_start fun Gd a0 hG ha => ?_
  have st0 : ∀ (sg : Option Addr) (cg : Nat) (sf : Option Addr) (cf kx kv : Nat) (sr : Option Addr) (cr kz : Nat) (g0 : World), Hid (Rs X X.heap.size g0 [rI (.slice sg W.gens.length cg) W.gens, rI (.slice sf W.free.length cf) W.free, rV (.slice sr W.res.length cr) W.res, (⟨119, 3, (.slice (some ⟨kx, 0, none⟩) 0 0), 0, []⟩ : OR), rB kz 40 [.slice sg W.gens.length cg, .slice sf W.free.length cf, .slice (some ⟨kx, 0, none⟩) 0 0, .slice sr W.res.length cr]]) → (fun w' => Blk w' w.heap.size #[.slice a1 W.gens.length c1, .slice a2 W.free.length c2, .slice a3 W.tabs.length c3, .slice a4 W.res.length c4] 40 ∧ Blk w' (w.heap.size + 1) #[.slice none 0 0, .slice none 0 0, .slice none 0 0, .slice none 0 0] 40) g0 → Gd 0 #[true, true, true, true, true, true, true, true, true, true, true] ((((((a0.put (some 7) (.agg #[.slice sg W.gens.length cg, .slice sf W.free.length cf])).put (some 8) (.slice (some ⟨kx, 0, none⟩) 0 0)).put (some 9) (.slice (some ⟨kv, 0, none⟩) 0 0)).put (some 12) (.slice sr W.res.length cr)).put (some 13) (.agg #[.slice sg W.gens.length cg, .slice sf W.free.length cf, .slice (some ⟨kx, 0, none⟩) 0 0, .slice sr W.res.length cr])).put (some 3) (.pointer (some ⟨kz, 0, none⟩))) g0 := by
   intro sg cg sf cf kx kv sr cr kz g0 hR hHeld
   rw [hG, ha]
   simp only [zs]; refine wpAnyH_done (by kernel_rfl) ?_ _
   clear hHeld; go_wp2_with fail; go_meet; exact ⟨kz, kx, sg, cg, sf, cf, sr, cr, rfl, hR.out⟩
  have st1 : ∀ (sg : Option Addr) (cg : Nat) (sf : Option Addr) (cf kx kv : Nat) (sr : Option Addr) (cr kz : Nat) (g0 : World), Hid (Rs X X.heap.size g0 [rI (.slice sg W.gens.length cg) W.gens, rI (.slice sf W.free.length cf) W.free, rV (.slice sr W.res.length cr) W.res, (⟨119, 3, (.slice (some ⟨kx, 0, none⟩) 0 0), 0, []⟩ : OR), rB kz 40 [.slice none 0 0, .slice none 0 0, .slice none 0 0, .slice none 0 0]]) → (fun w' => Blk w' w.heap.size #[.slice a1 W.gens.length c1, .slice a2 W.free.length c2, .slice a3 W.tabs.length c3, .slice a4 W.res.length c4] 40 ∧ Blk w' (w.heap.size + 1) #[.slice none 0 0, .slice none 0 0, .slice none 0 0, .slice none 0 0] 40) g0 → Gd 1 #[true, true, true, true, true, true, true, true, true, true, false] ((((((a0.put (some 7) (.agg #[.slice sg W.gens.length cg, .slice sf W.free.length cf])).put (some 8) (.slice (some ⟨kx, 0, none⟩) 0 0)).put (some 9) (.slice (some ⟨kv, 0, none⟩) 0 0)).put (some 12) (.slice sr W.res.length cr)).put (some 13) (.agg #[.slice sg W.gens.length cg, .slice sf W.free.length cf, .slice (some ⟨kx, 0, none⟩) 0 0, .slice sr W.res.length cr])).put (some 3) (.pointer (some ⟨kz, 0, none⟩))) g0 := by
   intro sg cg sf cf kx kv sr cr kz g0 hR hHeld
   rw [hG, ha]
   simp only [zs]; refine wpy 10 fun K hK => ?_
   refine step_put [rI (.slice sg W.gens.length cg) W.gens, rI (.slice sf W.free.length cf) W.free, rV (.slice sr W.res.length cr) W.res, (⟨119, 3, (.slice (some ⟨kx, 0, none⟩) 0 0), 0, []⟩ : OR)] [] hR.out rfl (d0 := none) rfl (.tmp 3) (.tmp 13) rfl [.slice sg W.gens.length cg, .slice sf W.free.length cf, .slice (some ⟨kx, 0, none⟩) 0 0, .slice sr W.res.length cr] rfl rfl (by rw [hiW]; simp [hsW]) rfl (by simp [Value.oneCell']) ?_
   intro g1 hR'
   have hR : Hid (Rs X X.heap.size g1 [rI (.slice sg W.gens.length cg) W.gens, rI (.slice sf W.free.length cf) W.free, rV (.slice sr W.res.length cr) W.res, (⟨119, 3, (.slice (some ⟨kx, 0, none⟩) 0 0), 0, []⟩ : OR), rB kz 40 [.slice sg W.gens.length cg, .slice sf W.free.length cf, .slice (some ⟨kx, 0, none⟩) 0 0, .slice sr W.res.length cr]]) := hR'
   clear hR'; refine hK.out _ _ ?_ (fun hHeld => ?_)
   ·
    exact (k2 hR K0 K1 b0 b1 :)
   clear hK K; exact dag_to hG (st0 sg cg sf cf kx kv sr cr kz _  hR hHeld) rfl (by kernel_rfl) (by rw [ha] <;> rfl)
  have st2 : ∀ (sg : Option Addr) (cg : Nat) (sf : Option Addr) (cf kx kv : Nat) (sr : Option Addr) (cr : Nat) (g0 : World), Hid (Rs X X.heap.size g0 [rI (.slice sg W.gens.length cg) W.gens, rI (.slice sf W.free.length cf) W.free, rV (.slice sr W.res.length cr) W.res, (⟨119, 3, (.slice (some ⟨kx, 0, none⟩) 0 0), 0, []⟩ : OR)]) → (fun w' => Blk w' w.heap.size #[.slice a1 W.gens.length c1, .slice a2 W.free.length c2, .slice a3 W.tabs.length c3, .slice a4 W.res.length c4] 40 ∧ Blk w' (w.heap.size + 1) #[.slice none 0 0, .slice none 0 0, .slice none 0 0, .slice none 0 0] 40) g0 → Gd 2 #[true, true, true, true, true, true, true, true, true, false, false] (((((a0.put (some 7) (.agg #[.slice sg W.gens.length cg, .slice sf W.free.length cf])).put (some 8) (.slice (some ⟨kx, 0, none⟩) 0 0)).put (some 9) (.slice (some ⟨kv, 0, none⟩) 0 0)).put (some 12) (.slice sr W.res.length cr)).put (some 13) (.agg #[.slice sg W.gens.length cg, .slice sf W.free.length cf, .slice (some ⟨kx, 0, none⟩) 0 0, .slice sr W.res.length cr])) g0 := by
   intro sg cg sf cf kx kv sr cr g0 hR hHeld
   rw [hG, ha]
   simp only [zs]; refine wpy 9 fun K hK => ?_
   refine step_box [rI (.slice sg W.gens.length cg) W.gens, rI (.slice sf W.free.length cf) W.free, rV (.slice sr W.res.length cr) W.res, (⟨119, 3, (.slice (some ⟨kx, 0, none⟩) 0 0), 0, []⟩ : OR)] [] hR.out rfl (d0 := (some 3)) rfl 40 hiW hzW rfl ?_
   intro kz g2 hR'
   have hR : Hid (Rs X X.heap.size g2 [rI (.slice sg W.gens.length cg) W.gens, rI (.slice sf W.free.length cf) W.free, rV (.slice sr W.res.length cr) W.res, (⟨119, 3, (.slice (some ⟨kx, 0, none⟩) 0 0), 0, []⟩ : OR), rB kz 40 [.slice none 0 0, .slice none 0 0, .slice none 0 0, .slice none 0 0]]) := hR'
   clear hR'; refine hK.out _ _ ?_ (fun hHeld => ?_)
   ·
    exact (k2 hR K0 K1 b0 b1 :)
   clear hK K; exact dag_to hG (st1 sg cg sf cf kx kv sr cr kz _  hR hHeld) rfl (by kernel_rfl) (by rw [ha] <;> rfl)
  have st3 : ∀ (sg : Option Addr) (cg : Nat) (sf : Option Addr) (cf kx kv kz : Nat) (g0 : World), Hid (Rs X X.heap.size g0 [rI (.slice sg W.gens.length cg) W.gens, rI (.slice sf W.free.length cf) W.free, rV (.slice (some ⟨kv, 0, none⟩) 0 0) [], (⟨119, 3, (.slice (some ⟨kx, 0, none⟩) 0 0), 0, []⟩ : OR), rB kz 40 [.slice none 0 0, .slice none 0 0, .slice none 0 0, .slice none 0 0]]) → (fun w' => Blk w' w.heap.size #[.slice a1 W.gens.length c1, .slice a2 W.free.length c2, .slice a3 W.tabs.length c3, .slice a4 W.res.length c4] 40 ∧ Blk w' (w.heap.size + 1) #[.slice none 0 0, .slice none 0 0, .slice none 0 0, .slice none 0 0] 40) g0 → Gd 3 #[true, true, true, true, true, true, true, false, false, true, false] ((((a0.put (some 7) (.agg #[.slice sg W.gens.length cg, .slice sf W.free.length cf])).put (some 8) (.slice (some ⟨kx, 0, none⟩) 0 0)).put (some 9) (.slice (some ⟨kv, 0, none⟩) 0 0)).put (some 3) (.pointer (some ⟨kz, 0, none⟩))) g0 := by
   intro sg cg sf cf kx kv kz g0 hR hHeld
   rw [hG, ha]
   simp only [zs]; refine wpy 7 fun K hK => ?_
   refine step_app [rI (.slice sg W.gens.length cg) W.gens, rI (.slice sf W.free.length cf) W.free] [(⟨119, 3, (.slice (some ⟨kx, 0, none⟩) 0 0), 0, []⟩ : OR), rB kz 40 [.slice none 0 0, .slice none 0 0, .slice none 0 0, .slice none 0 0]] hR.out rfl (d0 := (some 12)) rfl (.tmp 9) (.tmp 11) 38 32 rfl Tryz.underlying38 hiV hzV hsV hbV rfl (Nat.succ_pos _) rfl a4 W.res.length c4 (W.res.flatMap vcells) rfl (flat_len (k := 4) (f := vcells) (fun _ => rfl) W.res) (srcV (HW.out.r.kept cVal_keeps (hR.out.keptG L0.out bB))) (vcells_one' W.res) (by show _ ≤ _; simp only [rI, rE, rV, List.length_nil]; unfold maxLen; omega) (by simp only [rI, rE, rV, List.length_nil]; omega) W.res.length (by simp [rI, rE, rV]) (fun v => rV v W.res) (fun _ => rfl) ?_
   intro sr cr g3 hR'
   have hR : Hid (Rs X X.heap.size g3 [rI (.slice sg W.gens.length cg) W.gens, rI (.slice sf W.free.length cf) W.free, rV (.slice sr W.res.length cr) W.res, (⟨119, 3, (.slice (some ⟨kx, 0, none⟩) 0 0), 0, []⟩ : OR), rB kz 40 [.slice none 0 0, .slice none 0 0, .slice none 0 0, .slice none 0 0]]) := hR'
   clear hR'; refine hK.out _ _ ?_ (fun hHeld => ?_)
   ·
    exact (k2 hR K0 K1 b0 b1 :)
   clear hK K; try simp only [zs]
   refine wpr 8 13 ?_; simp only [zs]; exact dag_to hG (st1 sg cg sf cf kx kv sr cr kz _  hR hHeld) rfl (by kernel_rfl) (by rw [ha] <;> rfl)
  have st4 : ∀ (sg : Option Addr) (cg : Nat) (sf : Option Addr) (cf kx kv : Nat) (g0 : World), Hid (Rs X X.heap.size g0 [rI (.slice sg W.gens.length cg) W.gens, rI (.slice sf W.free.length cf) W.free, rV (.slice (some ⟨kv, 0, none⟩) 0 0) [], (⟨119, 3, (.slice (some ⟨kx, 0, none⟩) 0 0), 0, []⟩ : OR)]) → (fun w' => Blk w' w.heap.size #[.slice a1 W.gens.length c1, .slice a2 W.free.length c2, .slice a3 W.tabs.length c3, .slice a4 W.res.length c4] 40 ∧ Blk w' (w.heap.size + 1) #[.slice none 0 0, .slice none 0 0, .slice none 0 0, .slice none 0 0] 40) g0 → Gd 4 #[true, true, true, true, true, true, true, false, false, false, false] (((a0.put (some 7) (.agg #[.slice sg W.gens.length cg, .slice sf W.free.length cf])).put (some 8) (.slice (some ⟨kx, 0, none⟩) 0 0)).put (some 9) (.slice (some ⟨kv, 0, none⟩) 0 0)) g0 := by
   intro sg cg sf cf kx kv g0 hR hHeld
   rw [hG, ha]
   simp only [zs]; refine wpAnyH_ready (rs := [7, 9]) (by kernel_rfl) (by simp) ?_
   refine AllReadyH.cons rfl (fun K hK => ?_) ?_
   ·
    skip
    refine step_app [rI (.slice sg W.gens.length cg) W.gens, rI (.slice sf W.free.length cf) W.free] [(⟨119, 3, (.slice (some ⟨kx, 0, none⟩) 0 0), 0, []⟩ : OR)] hR.out rfl (d0 := (some 12)) rfl (.tmp 9) (.tmp 11) 38 32 rfl Tryz.underlying38 hiV hzV hsV hbV rfl (Nat.succ_pos _) rfl a4 W.res.length c4 (W.res.flatMap vcells) rfl (flat_len (k := 4) (f := vcells) (fun _ => rfl) W.res) (srcV (HW.out.r.kept cVal_keeps (hR.out.keptG L0.out bB))) (vcells_one' W.res) (by show _ ≤ _; simp only [rI, rE, rV, List.length_nil]; unfold maxLen; omega) (by simp only [rI, rE, rV, List.length_nil]; omega) W.res.length (by simp [rI, rE, rV]) (fun v => rV v W.res) (fun _ => rfl) ?_
    intro sr cr g4 hR'
    have hR : Hid (Rs X X.heap.size g4 [rI (.slice sg W.gens.length cg) W.gens, rI (.slice sf W.free.length cf) W.free, rV (.slice sr W.res.length cr) W.res, (⟨119, 3, (.slice (some ⟨kx, 0, none⟩) 0 0), 0, []⟩ : OR)]) := hR'
    clear hR'; refine hK.out _ _ ?_ (fun hHeld => ?_)
    ·
     exact (k2 hR K0 K1 b0 b1 :)
    clear hK K; try simp only [zs]
    refine wpr 8 13 ?_; simp only [zs]; exact dag_to hG (st2 sg cg sf cf kx kv sr cr _  hR hHeld) rfl (by kernel_rfl) (by rw [ha] <;> rfl)
   refine AllReadyH.cons rfl (fun K hK => ?_) AllReadyH.nil
   refine step_box [rI (.slice sg W.gens.length cg) W.gens, rI (.slice sf W.free.length cf) W.free, rV (.slice (some ⟨kv, 0, none⟩) 0 0) [], (⟨119, 3, (.slice (some ⟨kx, 0, none⟩) 0 0), 0, []⟩ : OR)] [] hR.out rfl (d0 := (some 3)) rfl 40 hiW hzW rfl ?_
   intro kz g5 hR'
   have hR : Hid (Rs X X.heap.size g5 [rI (.slice sg W.gens.length cg) W.gens, rI (.slice sf W.free.length cf) W.free, rV (.slice (some ⟨kv, 0, none⟩) 0 0) [], (⟨119, 3, (.slice (some ⟨kx, 0, none⟩) 0 0), 0, []⟩ : OR), rB kz 40 [.slice none 0 0, .slice none 0 0, .slice none 0 0, .slice none 0 0]]) := hR'
   clear hR'; refine hK.out _ _ ?_ (fun hHeld => ?_)
   ·
    exact (k2 hR K0 K1 b0 b1 :)
   clear hK K; exact dag_to hG (st3 sg cg sf cf kx kv kz _  hR hHeld) rfl (by kernel_rfl) (by rw [ha] <;> rfl)
  have st5 : ∀ (sg : Option Addr) (cg : Nat) (sf : Option Addr) (cf kx kz : Nat) (g0 : World), Hid (Rs X X.heap.size g0 [rI (.slice sg W.gens.length cg) W.gens, rI (.slice sf W.free.length cf) W.free, (⟨119, 3, (.slice (some ⟨kx, 0, none⟩) 0 0), 0, []⟩ : OR), rB kz 40 [.slice none 0 0, .slice none 0 0, .slice none 0 0, .slice none 0 0]]) → (fun w' => Blk w' w.heap.size #[.slice a1 W.gens.length c1, .slice a2 W.free.length c2, .slice a3 W.tabs.length c3, .slice a4 W.res.length c4] 40 ∧ Blk w' (w.heap.size + 1) #[.slice none 0 0, .slice none 0 0, .slice none 0 0, .slice none 0 0] 40) g0 → Gd 4 #[true, true, true, true, false, true, true, false, false, true, false] (((a0.put (some 7) (.agg #[.slice sg W.gens.length cg, .slice sf W.free.length cf])).put (some 8) (.slice (some ⟨kx, 0, none⟩) 0 0)).put (some 3) (.pointer (some ⟨kz, 0, none⟩))) g0 := by
   intro sg cg sf cf kx kz g0 hR hHeld
   rw [hG, ha]
   simp only [zs]; refine wpy 4 fun K hK => ?_
   refine step_bs0 [rI (.slice sg W.gens.length cg) W.gens, rI (.slice sf W.free.length cf) W.free] [(⟨119, 3, (.slice (some ⟨kx, 0, none⟩) 0 0), 0, []⟩ : OR), rB kz 40 [.slice none 0 0, .slice none 0 0, .slice none 0 0, .slice none 0 0]] hR.out rfl (d0 := (some 9)) rfl 38 75 Tryz.underlying38 hiV rfl (fun v => rV v []) 4 (fun _ => rfl) ?_
   intro kv g6 hR'
   have hR : Hid (Rs X X.heap.size g6 [rI (.slice sg W.gens.length cg) W.gens, rI (.slice sf W.free.length cf) W.free, rV (.slice (some ⟨kv, 0, none⟩) 0 0) [], (⟨119, 3, (.slice (some ⟨kx, 0, none⟩) 0 0), 0, []⟩ : OR), rB kz 40 [.slice none 0 0, .slice none 0 0, .slice none 0 0, .slice none 0 0]]) := hR'
   clear hR'; refine hK.out _ _ ?_ (fun hHeld => ?_)
   ·
    exact (k2 hR K0 K1 b0 b1 :)
   clear hK K; exact dag_to hG (st3 sg cg sf cf kx kv kz _  hR hHeld) rfl (by kernel_rfl) (by rw [ha] <;> rfl)
  have st6 : ∀ (sg : Option Addr) (cg : Nat) (sf : Option Addr) (cf kx : Nat) (g0 : World), Hid (Rs X X.heap.size g0 [rI (.slice sg W.gens.length cg) W.gens, rI (.slice sf W.free.length cf) W.free, (⟨119, 3, (.slice (some ⟨kx, 0, none⟩) 0 0), 0, []⟩ : OR)]) → (fun w' => Blk w' w.heap.size #[.slice a1 W.gens.length c1, .slice a2 W.free.length c2, .slice a3 W.tabs.length c3, .slice a4 W.res.length c4] 40 ∧ Blk w' (w.heap.size + 1) #[.slice none 0 0, .slice none 0 0, .slice none 0 0, .slice none 0 0] 40) g0 → Gd 5 #[true, true, true, true, false, true, true, false, false, false, false] ((a0.put (some 7) (.agg #[.slice sg W.gens.length cg, .slice sf W.free.length cf])).put (some 8) (.slice (some ⟨kx, 0, none⟩) 0 0)) g0 := by
   intro sg cg sf cf kx g0 hR hHeld
   rw [hG, ha]
   simp only [zs]; refine wpAnyH_ready (rs := [4, 9]) (by kernel_rfl) (by simp) ?_
   refine AllReadyH.cons rfl (fun K hK => ?_) ?_
   ·
    skip
    refine step_bs0 [rI (.slice sg W.gens.length cg) W.gens, rI (.slice sf W.free.length cf) W.free] [(⟨119, 3, (.slice (some ⟨kx, 0, none⟩) 0 0), 0, []⟩ : OR)] hR.out rfl (d0 := (some 9)) rfl 38 75 Tryz.underlying38 hiV rfl (fun v => rV v []) 4 (fun _ => rfl) ?_
    intro kv g7 hR'
    have hR : Hid (Rs X X.heap.size g7 [rI (.slice sg W.gens.length cg) W.gens, rI (.slice sf W.free.length cf) W.free, rV (.slice (some ⟨kv, 0, none⟩) 0 0) [], (⟨119, 3, (.slice (some ⟨kx, 0, none⟩) 0 0), 0, []⟩ : OR)]) := hR'
    clear hR'; refine hK.out _ _ ?_ (fun hHeld => ?_)
    ·
     exact (k2 hR K0 K1 b0 b1 :)
    clear hK K; exact dag_to hG (st4 sg cg sf cf kx kv _  hR hHeld) rfl (by kernel_rfl) (by rw [ha] <;> rfl)
   refine AllReadyH.cons rfl (fun K hK => ?_) AllReadyH.nil
   refine step_box [rI (.slice sg W.gens.length cg) W.gens, rI (.slice sf W.free.length cf) W.free, (⟨119, 3, (.slice (some ⟨kx, 0, none⟩) 0 0), 0, []⟩ : OR)] [] hR.out rfl (d0 := (some 3)) rfl 40 hiW hzW rfl ?_
   intro kz g8 hR'
   have hR : Hid (Rs X X.heap.size g8 [rI (.slice sg W.gens.length cg) W.gens, rI (.slice sf W.free.length cf) W.free, (⟨119, 3, (.slice (some ⟨kx, 0, none⟩) 0 0), 0, []⟩ : OR), rB kz 40 [.slice none 0 0, .slice none 0 0, .slice none 0 0, .slice none 0 0]]) := hR'
   clear hR'; refine hK.out _ _ ?_ (fun hHeld => ?_)
   ·
    exact (k2 hR K0 K1 b0 b1 :)
   clear hK K; exact dag_to hG (st5 sg cg sf cf kx kz _  hR hHeld) rfl (by kernel_rfl) (by rw [ha] <;> rfl)
  have st7 : ∀ (sg : Option Addr) (cg : Nat) (sf : Option Addr) (cf kv : Nat) (sr : Option Addr) (cr kz : Nat) (g0 : World), Hid (Rs X X.heap.size g0 [rI (.slice sg W.gens.length cg) W.gens, rI (.slice sf W.free.length cf) W.free, rV (.slice sr W.res.length cr) W.res, rB kz 40 [.slice none 0 0, .slice none 0 0, .slice none 0 0, .slice none 0 0]]) → (fun w' => Blk w' w.heap.size #[.slice a1 W.gens.length c1, .slice a2 W.free.length c2, .slice a3 W.tabs.length c3, .slice a4 W.res.length c4] 40 ∧ Blk w' (w.heap.size + 1) #[.slice none 0 0, .slice none 0 0, .slice none 0 0, .slice none 0 0] 40) g0 → Gd 3 #[true, true, true, false, true, true, true, true, false, true, false] ((((a0.put (some 7) (.agg #[.slice sg W.gens.length cg, .slice sf W.free.length cf])).put (some 9) (.slice (some ⟨kv, 0, none⟩) 0 0)).put (some 12) (.slice sr W.res.length cr)).put (some 3) (.pointer (some ⟨kz, 0, none⟩))) g0 := by
   intro sg cg sf cf kv sr cr kz g0 hR hHeld
   rw [hG, ha]
   simp only [zs]; refine wpy 3 fun K hK => ?_
   refine step_bs0 [rI (.slice sg W.gens.length cg) W.gens, rI (.slice sf W.free.length cf) W.free, rV (.slice sr W.res.length cr) W.res] [rB kz 40 [.slice none 0 0, .slice none 0 0, .slice none 0 0, .slice none 0 0]] hR.out rfl (d0 := (some 8)) rfl 37 119 Tryz.underlying37 hiT rfl (fun v => (⟨119, 3, v, 0, []⟩ : OR)) 3 (fun _ => rfl) ?_
   intro kx g9 hR'
   have hR : Hid (Rs X X.heap.size g9 [rI (.slice sg W.gens.length cg) W.gens, rI (.slice sf W.free.length cf) W.free, rV (.slice sr W.res.length cr) W.res, (⟨119, 3, (.slice (some ⟨kx, 0, none⟩) 0 0), 0, []⟩ : OR), rB kz 40 [.slice none 0 0, .slice none 0 0, .slice none 0 0, .slice none 0 0]]) := hR'
   clear hR'; refine hK.out _ _ ?_ (fun hHeld => ?_)
   ·
    exact (k2 hR K0 K1 b0 b1 :)
   clear hK K; try simp only [zs]
   refine wpr 8 13 ?_; simp only [zs]; exact dag_to hG (st1 sg cg sf cf kx kv sr cr kz _  hR hHeld) rfl (by kernel_rfl) (by rw [ha] <;> rfl)
  have st8 : ∀ (sg : Option Addr) (cg : Nat) (sf : Option Addr) (cf kv : Nat) (sr : Option Addr) (cr : Nat) (g0 : World), Hid (Rs X X.heap.size g0 [rI (.slice sg W.gens.length cg) W.gens, rI (.slice sf W.free.length cf) W.free, rV (.slice sr W.res.length cr) W.res]) → (fun w' => Blk w' w.heap.size #[.slice a1 W.gens.length c1, .slice a2 W.free.length c2, .slice a3 W.tabs.length c3, .slice a4 W.res.length c4] 40 ∧ Blk w' (w.heap.size + 1) #[.slice none 0 0, .slice none 0 0, .slice none 0 0, .slice none 0 0] 40) g0 → Gd 4 #[true, true, true, false, true, true, true, true, false, false, false] (((a0.put (some 7) (.agg #[.slice sg W.gens.length cg, .slice sf W.free.length cf])).put (some 9) (.slice (some ⟨kv, 0, none⟩) 0 0)).put (some 12) (.slice sr W.res.length cr)) g0 := by
   intro sg cg sf cf kv sr cr g0 hR hHeld
   rw [hG, ha]
   simp only [zs]; refine wpAnyH_ready (rs := [3, 9]) (by kernel_rfl) (by simp) ?_
   refine AllReadyH.cons rfl (fun K hK => ?_) ?_
   ·
    skip
    refine step_bs0 [rI (.slice sg W.gens.length cg) W.gens, rI (.slice sf W.free.length cf) W.free, rV (.slice sr W.res.length cr) W.res] [] hR.out rfl (d0 := (some 8)) rfl 37 119 Tryz.underlying37 hiT rfl (fun v => (⟨119, 3, v, 0, []⟩ : OR)) 3 (fun _ => rfl) ?_
    intro kx g10 hR'
    have hR : Hid (Rs X X.heap.size g10 [rI (.slice sg W.gens.length cg) W.gens, rI (.slice sf W.free.length cf) W.free, rV (.slice sr W.res.length cr) W.res, (⟨119, 3, (.slice (some ⟨kx, 0, none⟩) 0 0), 0, []⟩ : OR)]) := hR'
    clear hR'; refine hK.out _ _ ?_ (fun hHeld => ?_)
    ·
     exact (k2 hR K0 K1 b0 b1 :)
    clear hK K; try simp only [zs]
    refine wpr 8 13 ?_; simp only [zs]; exact dag_to hG (st2 sg cg sf cf kx kv sr cr _  hR hHeld) rfl (by kernel_rfl) (by rw [ha] <;> rfl)
   refine AllReadyH.cons rfl (fun K hK => ?_) AllReadyH.nil
   refine step_box [rI (.slice sg W.gens.length cg) W.gens, rI (.slice sf W.free.length cf) W.free, rV (.slice sr W.res.length cr) W.res] [] hR.out rfl (d0 := (some 3)) rfl 40 hiW hzW rfl ?_
   intro kz g11 hR'
   have hR : Hid (Rs X X.heap.size g11 [rI (.slice sg W.gens.length cg) W.gens, rI (.slice sf W.free.length cf) W.free, rV (.slice sr W.res.length cr) W.res, rB kz 40 [.slice none 0 0, .slice none 0 0, .slice none 0 0, .slice none 0 0]]) := hR'
   clear hR'; refine hK.out _ _ ?_ (fun hHeld => ?_)
   ·
    exact (k2 hR K0 K1 b0 b1 :)
   clear hK K; exact dag_to hG (st7 sg cg sf cf kv sr cr kz _  hR hHeld) rfl (by kernel_rfl) (by rw [ha] <;> rfl)
  have st9 : ∀ (sg : Option Addr) (cg : Nat) (sf : Option Addr) (cf kv kz : Nat) (g0 : World), Hid (Rs X X.heap.size g0 [rI (.slice sg W.gens.length cg) W.gens, rI (.slice sf W.free.length cf) W.free, rV (.slice (some ⟨kv, 0, none⟩) 0 0) [], rB kz 40 [.slice none 0 0, .slice none 0 0, .slice none 0 0, .slice none 0 0]]) → (fun w' => Blk w' w.heap.size #[.slice a1 W.gens.length c1, .slice a2 W.free.length c2, .slice a3 W.tabs.length c3, .slice a4 W.res.length c4] 40 ∧ Blk w' (w.heap.size + 1) #[.slice none 0 0, .slice none 0 0, .slice none 0 0, .slice none 0 0] 40) g0 → Gd 4 #[true, true, true, false, true, true, true, false, false, true, false] (((a0.put (some 7) (.agg #[.slice sg W.gens.length cg, .slice sf W.free.length cf])).put (some 9) (.slice (some ⟨kv, 0, none⟩) 0 0)).put (some 3) (.pointer (some ⟨kz, 0, none⟩))) g0 := by
   intro sg cg sf cf kv kz g0 hR hHeld
   rw [hG, ha]
   simp only [zs]; refine wpAnyH_ready (rs := [3, 7]) (by kernel_rfl) (by simp) ?_
   refine AllReadyH.cons rfl (fun K hK => ?_) ?_
   ·
    skip
    refine step_bs0 [rI (.slice sg W.gens.length cg) W.gens, rI (.slice sf W.free.length cf) W.free, rV (.slice (some ⟨kv, 0, none⟩) 0 0) []] [rB kz 40 [.slice none 0 0, .slice none 0 0, .slice none 0 0, .slice none 0 0]] hR.out rfl (d0 := (some 8)) rfl 37 119 Tryz.underlying37 hiT rfl (fun v => (⟨119, 3, v, 0, []⟩ : OR)) 3 (fun _ => rfl) ?_
    intro kx g12 hR'
    have hR : Hid (Rs X X.heap.size g12 [rI (.slice sg W.gens.length cg) W.gens, rI (.slice sf W.free.length cf) W.free, rV (.slice (some ⟨kv, 0, none⟩) 0 0) [], (⟨119, 3, (.slice (some ⟨kx, 0, none⟩) 0 0), 0, []⟩ : OR), rB kz 40 [.slice none 0 0, .slice none 0 0, .slice none 0 0, .slice none 0 0]]) := hR'
    clear hR'; refine hK.out _ _ ?_ (fun hHeld => ?_)
    ·
     exact (k2 hR K0 K1 b0 b1 :)
    clear hK K; exact dag_to hG (st3 sg cg sf cf kx kv kz _  hR hHeld) rfl (by kernel_rfl) (by rw [ha] <;> rfl)
   refine AllReadyH.cons rfl (fun K hK => ?_) AllReadyH.nil
   refine step_app [rI (.slice sg W.gens.length cg) W.gens, rI (.slice sf W.free.length cf) W.free] [rB kz 40 [.slice none 0 0, .slice none 0 0, .slice none 0 0, .slice none 0 0]] hR.out rfl (d0 := (some 12)) rfl (.tmp 9) (.tmp 11) 38 32 rfl Tryz.underlying38 hiV hzV hsV hbV rfl (Nat.succ_pos _) rfl a4 W.res.length c4 (W.res.flatMap vcells) rfl (flat_len (k := 4) (f := vcells) (fun _ => rfl) W.res) (srcV (HW.out.r.kept cVal_keeps (hR.out.keptG L0.out bB))) (vcells_one' W.res) (by show _ ≤ _; simp only [rI, rE, rV, List.length_nil]; unfold maxLen; omega) (by simp only [rI, rE, rV, List.length_nil]; omega) W.res.length (by simp [rI, rE, rV]) (fun v => rV v W.res) (fun _ => rfl) ?_
   intro sr cr g13 hR'
   have hR : Hid (Rs X X.heap.size g13 [rI (.slice sg W.gens.length cg) W.gens, rI (.slice sf W.free.length cf) W.free, rV (.slice sr W.res.length cr) W.res, rB kz 40 [.slice none 0 0, .slice none 0 0, .slice none 0 0, .slice none 0 0]]) := hR'
   clear hR'; refine hK.out _ _ ?_ (fun hHeld => ?_)
   ·
    exact (k2 hR K0 K1 b0 b1 :)
   clear hK K; exact dag_to hG (st7 sg cg sf cf kv sr cr kz _  hR hHeld) rfl (by kernel_rfl) (by rw [ha] <;> rfl)
  have st10 : ∀ (sg : Option Addr) (cg : Nat) (sf : Option Addr) (cf kv : Nat) (g0 : World), Hid (Rs X X.heap.size g0 [rI (.slice sg W.gens.length cg) W.gens, rI (.slice sf W.free.length cf) W.free, rV (.slice (some ⟨kv, 0, none⟩) 0 0) []]) → (fun w' => Blk w' w.heap.size #[.slice a1 W.gens.length c1, .slice a2 W.free.length c2, .slice a3 W.tabs.length c3, .slice a4 W.res.length c4] 40 ∧ Blk w' (w.heap.size + 1) #[.slice none 0 0, .slice none 0 0, .slice none 0 0, .slice none 0 0] 40) g0 → Gd 5 #[true, true, true, false, true, true, true, false, false, false, false] ((a0.put (some 7) (.agg #[.slice sg W.gens.length cg, .slice sf W.free.length cf])).put (some 9) (.slice (some ⟨kv, 0, none⟩) 0 0)) g0 := by
   intro sg cg sf cf kv g0 hR hHeld
   rw [hG, ha]
   simp only [zs]; refine wpAnyH_ready (rs := [3, 7, 9]) (by kernel_rfl) (by simp) ?_
   refine AllReadyH.cons rfl (fun K hK => ?_) ?_
   ·
    skip
    refine step_bs0 [rI (.slice sg W.gens.length cg) W.gens, rI (.slice sf W.free.length cf) W.free, rV (.slice (some ⟨kv, 0, none⟩) 0 0) []] [] hR.out rfl (d0 := (some 8)) rfl 37 119 Tryz.underlying37 hiT rfl (fun v => (⟨119, 3, v, 0, []⟩ : OR)) 3 (fun _ => rfl) ?_
    intro kx g14 hR'
    have hR : Hid (Rs X X.heap.size g14 [rI (.slice sg W.gens.length cg) W.gens, rI (.slice sf W.free.length cf) W.free, rV (.slice (some ⟨kv, 0, none⟩) 0 0) [], (⟨119, 3, (.slice (some ⟨kx, 0, none⟩) 0 0), 0, []⟩ : OR)]) := hR'
    clear hR'; refine hK.out _ _ ?_ (fun hHeld => ?_)
    ·
     exact (k2 hR K0 K1 b0 b1 :)
    clear hK K; exact dag_to hG (st4 sg cg sf cf kx kv _  hR hHeld) rfl (by kernel_rfl) (by rw [ha] <;> rfl)
   refine AllReadyH.cons rfl (fun K hK => ?_) ?_
   ·
    skip
    refine step_app [rI (.slice sg W.gens.length cg) W.gens, rI (.slice sf W.free.length cf) W.free] [] hR.out rfl (d0 := (some 12)) rfl (.tmp 9) (.tmp 11) 38 32 rfl Tryz.underlying38 hiV hzV hsV hbV rfl (Nat.succ_pos _) rfl a4 W.res.length c4 (W.res.flatMap vcells) rfl (flat_len (k := 4) (f := vcells) (fun _ => rfl) W.res) (srcV (HW.out.r.kept cVal_keeps (hR.out.keptG L0.out bB))) (vcells_one' W.res) (by show _ ≤ _; simp only [rI, rE, rV, List.length_nil]; unfold maxLen; omega) (by simp only [rI, rE, rV, List.length_nil]; omega) W.res.length (by simp [rI, rE, rV]) (fun v => rV v W.res) (fun _ => rfl) ?_
    intro sr cr g15 hR'
    have hR : Hid (Rs X X.heap.size g15 [rI (.slice sg W.gens.length cg) W.gens, rI (.slice sf W.free.length cf) W.free, rV (.slice sr W.res.length cr) W.res]) := hR'
    clear hR'; refine hK.out _ _ ?_ (fun hHeld => ?_)
    ·
     exact (k2 hR K0 K1 b0 b1 :)
    clear hK K; exact dag_to hG (st8 sg cg sf cf kv sr cr _  hR hHeld) rfl (by kernel_rfl) (by rw [ha] <;> rfl)
   refine AllReadyH.cons rfl (fun K hK => ?_) AllReadyH.nil
   refine step_box [rI (.slice sg W.gens.length cg) W.gens, rI (.slice sf W.free.length cf) W.free, rV (.slice (some ⟨kv, 0, none⟩) 0 0) []] [] hR.out rfl (d0 := (some 3)) rfl 40 hiW hzW rfl ?_
   intro kz g16 hR'
   have hR : Hid (Rs X X.heap.size g16 [rI (.slice sg W.gens.length cg) W.gens, rI (.slice sf W.free.length cf) W.free, rV (.slice (some ⟨kv, 0, none⟩) 0 0) [], rB kz 40 [.slice none 0 0, .slice none 0 0, .slice none 0 0, .slice none 0 0]]) := hR'
   clear hR'; refine hK.out _ _ ?_ (fun hHeld => ?_)
   ·
    exact (k2 hR K0 K1 b0 b1 :)
   clear hK K; exact dag_to hG (st9 sg cg sf cf kv kz _  hR hHeld) rfl (by kernel_rfl) (by rw [ha] <;> rfl)
  have st11 : ∀ (sg : Option Addr) (cg : Nat) (sf : Option Addr) (cf kz : Nat) (g0 : World), Hid (Rs X X.heap.size g0 [rI (.slice sg W.gens.length cg) W.gens, rI (.slice sf W.free.length cf) W.free, rB kz 40 [.slice none 0 0, .slice none 0 0, .slice none 0 0, .slice none 0 0]]) → (fun w' => Blk w' w.heap.size #[.slice a1 W.gens.length c1, .slice a2 W.free.length c2, .slice a3 W.tabs.length c3, .slice a4 W.res.length c4] 40 ∧ Blk w' (w.heap.size + 1) #[.slice none 0 0, .slice none 0 0, .slice none 0 0, .slice none 0 0] 40) g0 → Gd 5 #[true, true, true, false, false, true, true, false, false, true, false] ((a0.put (some 7) (.agg #[.slice sg W.gens.length cg, .slice sf W.free.length cf])).put (some 3) (.pointer (some ⟨kz, 0, none⟩))) g0 := by
   intro sg cg sf cf kz g0 hR hHeld
   rw [hG, ha]
   simp only [zs]; refine wpAnyH_ready (rs := [3, 4]) (by kernel_rfl) (by simp) ?_
   refine AllReadyH.cons rfl (fun K hK => ?_) ?_
   ·
    skip
    refine step_bs0 [rI (.slice sg W.gens.length cg) W.gens, rI (.slice sf W.free.length cf) W.free] [rB kz 40 [.slice none 0 0, .slice none 0 0, .slice none 0 0, .slice none 0 0]] hR.out rfl (d0 := (some 8)) rfl 37 119 Tryz.underlying37 hiT rfl (fun v => (⟨119, 3, v, 0, []⟩ : OR)) 3 (fun _ => rfl) ?_
    intro kx g17 hR'
    have hR : Hid (Rs X X.heap.size g17 [rI (.slice sg W.gens.length cg) W.gens, rI (.slice sf W.free.length cf) W.free, (⟨119, 3, (.slice (some ⟨kx, 0, none⟩) 0 0), 0, []⟩ : OR), rB kz 40 [.slice none 0 0, .slice none 0 0, .slice none 0 0, .slice none 0 0]]) := hR'
    clear hR'; refine hK.out _ _ ?_ (fun hHeld => ?_)
    ·
     exact (k2 hR K0 K1 b0 b1 :)
    clear hK K; exact dag_to hG (st5 sg cg sf cf kx kz _  hR hHeld) rfl (by kernel_rfl) (by rw [ha] <;> rfl)
   refine AllReadyH.cons rfl (fun K hK => ?_) AllReadyH.nil
   refine step_bs0 [rI (.slice sg W.gens.length cg) W.gens, rI (.slice sf W.free.length cf) W.free] [rB kz 40 [.slice none 0 0, .slice none 0 0, .slice none 0 0, .slice none 0 0]] hR.out rfl (d0 := (some 9)) rfl 38 75 Tryz.underlying38 hiV rfl (fun v => rV v []) 4 (fun _ => rfl) ?_
   intro kv g18 hR'
   have hR : Hid (Rs X X.heap.size g18 [rI (.slice sg W.gens.length cg) W.gens, rI (.slice sf W.free.length cf) W.free, rV (.slice (some ⟨kv, 0, none⟩) 0 0) [], rB kz 40 [.slice none 0 0, .slice none 0 0, .slice none 0 0, .slice none 0 0]]) := hR'
   clear hR'; refine hK.out _ _ ?_ (fun hHeld => ?_)
   ·
    exact (k2 hR K0 K1 b0 b1 :)
   clear hK K; exact dag_to hG (st9 sg cg sf cf kv kz _  hR hHeld) rfl (by kernel_rfl) (by rw [ha] <;> rfl)
  have st12 : ∀ (sg : Option Addr) (cg : Nat) (sf : Option Addr) (cf : Nat) (g0 : World), Hid (Rs X X.heap.size g0 [rI (.slice sg W.gens.length cg) W.gens, rI (.slice sf W.free.length cf) W.free]) → (fun w' => Blk w' w.heap.size #[.slice a1 W.gens.length c1, .slice a2 W.free.length c2, .slice a3 W.tabs.length c3, .slice a4 W.res.length c4] 40 ∧ Blk w' (w.heap.size + 1) #[.slice none 0 0, .slice none 0 0, .slice none 0 0, .slice none 0 0] 40) g0 → Gd 6 #[true, true, true, false, false, true, true, false, false, false, false] (a0.put (some 7) (.agg #[.slice sg W.gens.length cg, .slice sf W.free.length cf])) g0 := by
   intro sg cg sf cf g0 hR hHeld
   rw [hG, ha]
   simp only [zs]; refine wpAnyH_ready (rs := [3, 4, 9]) (by kernel_rfl) (by simp) ?_
   refine AllReadyH.cons rfl (fun K hK => ?_) ?_
   ·
    skip
    refine step_bs0 [rI (.slice sg W.gens.length cg) W.gens, rI (.slice sf W.free.length cf) W.free] [] hR.out rfl (d0 := (some 8)) rfl 37 119 Tryz.underlying37 hiT rfl (fun v => (⟨119, 3, v, 0, []⟩ : OR)) 3 (fun _ => rfl) ?_
    intro kx g19 hR'
    have hR : Hid (Rs X X.heap.size g19 [rI (.slice sg W.gens.length cg) W.gens, rI (.slice sf W.free.length cf) W.free, (⟨119, 3, (.slice (some ⟨kx, 0, none⟩) 0 0), 0, []⟩ : OR)]) := hR'
    clear hR'; refine hK.out _ _ ?_ (fun hHeld => ?_)
    ·
     exact (k2 hR K0 K1 b0 b1 :)
    clear hK K; exact dag_to hG (st6 sg cg sf cf kx _  hR hHeld) rfl (by kernel_rfl) (by rw [ha] <;> rfl)
   refine AllReadyH.cons rfl (fun K hK => ?_) ?_
   ·
    skip
    refine step_bs0 [rI (.slice sg W.gens.length cg) W.gens, rI (.slice sf W.free.length cf) W.free] [] hR.out rfl (d0 := (some 9)) rfl 38 75 Tryz.underlying38 hiV rfl (fun v => rV v []) 4 (fun _ => rfl) ?_
    intro kv g20 hR'
    have hR : Hid (Rs X X.heap.size g20 [rI (.slice sg W.gens.length cg) W.gens, rI (.slice sf W.free.length cf) W.free, rV (.slice (some ⟨kv, 0, none⟩) 0 0) []]) := hR'
    clear hR'; refine hK.out _ _ ?_ (fun hHeld => ?_)
    ·
     exact (k2 hR K0 K1 b0 b1 :)
    clear hK K; exact dag_to hG (st10 sg cg sf cf kv _  hR hHeld) rfl (by kernel_rfl) (by rw [ha] <;> rfl)
   refine AllReadyH.cons rfl (fun K hK => ?_) AllReadyH.nil
   refine step_box [rI (.slice sg W.gens.length cg) W.gens, rI (.slice sf W.free.length cf) W.free] [] hR.out rfl (d0 := (some 3)) rfl 40 hiW hzW rfl ?_
   intro kz g21 hR'
   have hR : Hid (Rs X X.heap.size g21 [rI (.slice sg W.gens.length cg) W.gens, rI (.slice sf W.free.length cf) W.free, rB kz 40 [.slice none 0 0, .slice none 0 0, .slice none 0 0, .slice none 0 0]]) := hR'
   clear hR'; refine hK.out _ _ ?_ (fun hHeld => ?_)
   ·
    exact (k2 hR K0 K1 b0 b1 :)
   clear hK K; exact dag_to hG (st11 sg cg sf cf kz _  hR hHeld) rfl (by kernel_rfl) (by rw [ha] <;> rfl)
  have st13 : ∀ (kx kv kz : Nat) (g0 : World), Hid (Rs X X.heap.size g0 [rV (.slice (some ⟨kv, 0, none⟩) 0 0) [], (⟨119, 3, (.slice (some ⟨kx, 0, none⟩) 0 0), 0, []⟩ : OR), rB kz 40 [.slice none 0 0, .slice none 0 0, .slice none 0 0, .slice none 0 0]]) → (fun w' => Blk w' w.heap.size #[.slice a1 W.gens.length c1, .slice a2 W.free.length c2, .slice a3 W.tabs.length c3, .slice a4 W.res.length c4] 40 ∧ Blk w' (w.heap.size + 1) #[.slice none 0 0, .slice none 0 0, .slice none 0 0, .slice none 0 0] 40) g0 → Gd 4 #[true, true, false, true, true, true, true, false, false, true, false] (((a0.put (some 8) (.slice (some ⟨kx, 0, none⟩) 0 0)).put (some 9) (.slice (some ⟨kv, 0, none⟩) 0 0)).put (some 3) (.pointer (some ⟨kz, 0, none⟩))) g0 := by
   intro kx kv kz g0 hR hHeld
   rw [hG, ha]
   simp only [zs]; refine wpy 2 fun K hK => ?_
   go_simp; refine (l2Copy_new a1 a2 c1 c2 W.gens W.free B0 _ (HW.out.g.kept cInt_keeps (hR.out.keptE L0.out b1)) (HW.out.f.kept cInt_keeps (hR.out.keptE L0.out b1)) m1 m2).mono ?_
   rintro z g22 ⟨⟨sg, cg, sf, cf, rfl, hO⟩, hb⟩
   have hR : Hid (Rs X X.heap.size g22 [rI (.slice sg W.gens.length cg) W.gens, rI (.slice sf W.free.length cf) W.free, rV (.slice (some ⟨kv, 0, none⟩) 0 0) [], (⟨119, 3, (.slice (some ⟨kx, 0, none⟩) 0 0), 0, []⟩ : OR), rB kz 40 [.slice none 0 0, .slice none 0 0, .slice none 0 0, .slice none 0 0]]) := Hid.mk' (hR.out.insM [] [rI (.slice sg W.gens.length cg) W.gens, rI (.slice sf W.free.length cf) W.free] [rV (.slice (some ⟨kv, 0, none⟩) 0 0) [], (⟨119, 3, (.slice (some ⟨kx, 0, none⟩) 0 0), 0, []⟩ : OR), rB kz 40 [.slice none 0 0, .slice none 0 0, .slice none 0 0, .slice none 0 0]] hb hO)
   clear hb hO; refine hK.out _ _ ?_ (fun hHeld => ?_)
   ·
    exact (k2 hR K0 K1 b0 b1 :)
   clear hK K; exact dag_to hG (st3 sg cg sf cf kx kv kz _  hR hHeld) rfl (by kernel_rfl) (by rw [ha] <;> rfl)
  have st14 : ∀ (kx kv : Nat) (g0 : World), Hid (Rs X X.heap.size g0 [rV (.slice (some ⟨kv, 0, none⟩) 0 0) [], (⟨119, 3, (.slice (some ⟨kx, 0, none⟩) 0 0), 0, []⟩ : OR)]) → (fun w' => Blk w' w.heap.size #[.slice a1 W.gens.length c1, .slice a2 W.free.length c2, .slice a3 W.tabs.length c3, .slice a4 W.res.length c4] 40 ∧ Blk w' (w.heap.size + 1) #[.slice none 0 0, .slice none 0 0, .slice none 0 0, .slice none 0 0] 40) g0 → Gd 5 #[true, true, false, true, true, true, true, false, false, false, false] ((a0.put (some 8) (.slice (some ⟨kx, 0, none⟩) 0 0)).put (some 9) (.slice (some ⟨kv, 0, none⟩) 0 0)) g0 := by
   intro kx kv g0 hR hHeld
   rw [hG, ha]
   simp only [zs]; refine wpAnyH_ready (rs := [2, 9]) (by kernel_rfl) (by simp) ?_
   refine AllReadyH.cons rfl (fun K hK => ?_) ?_
   ·
    skip
    go_simp; refine (l2Copy_new a1 a2 c1 c2 W.gens W.free B0 _ (HW.out.g.kept cInt_keeps (hR.out.keptE L0.out b1)) (HW.out.f.kept cInt_keeps (hR.out.keptE L0.out b1)) m1 m2).mono ?_
    rintro z g23 ⟨⟨sg, cg, sf, cf, rfl, hO⟩, hb⟩
    have hR : Hid (Rs X X.heap.size g23 [rI (.slice sg W.gens.length cg) W.gens, rI (.slice sf W.free.length cf) W.free, rV (.slice (some ⟨kv, 0, none⟩) 0 0) [], (⟨119, 3, (.slice (some ⟨kx, 0, none⟩) 0 0), 0, []⟩ : OR)]) := Hid.mk' (hR.out.insM [] [rI (.slice sg W.gens.length cg) W.gens, rI (.slice sf W.free.length cf) W.free] [rV (.slice (some ⟨kv, 0, none⟩) 0 0) [], (⟨119, 3, (.slice (some ⟨kx, 0, none⟩) 0 0), 0, []⟩ : OR)] hb hO)
    clear hb hO; refine hK.out _ _ ?_ (fun hHeld => ?_)
    ·
     exact (k2 hR K0 K1 b0 b1 :)
    clear hK K; exact dag_to hG (st4 sg cg sf cf kx kv _  hR hHeld) rfl (by kernel_rfl) (by rw [ha] <;> rfl)
   refine AllReadyH.cons rfl (fun K hK => ?_) AllReadyH.nil
   refine step_box [rV (.slice (some ⟨kv, 0, none⟩) 0 0) [], (⟨119, 3, (.slice (some ⟨kx, 0, none⟩) 0 0), 0, []⟩ : OR)] [] hR.out rfl (d0 := (some 3)) rfl 40 hiW hzW rfl ?_
   intro kz g24 hR'
   have hR : Hid (Rs X X.heap.size g24 [rV (.slice (some ⟨kv, 0, none⟩) 0 0) [], (⟨119, 3, (.slice (some ⟨kx, 0, none⟩) 0 0), 0, []⟩ : OR), rB kz 40 [.slice none 0 0, .slice none 0 0, .slice none 0 0, .slice none 0 0]]) := hR'
   clear hR'; refine hK.out _ _ ?_ (fun hHeld => ?_)
   ·
    exact (k2 hR K0 K1 b0 b1 :)
   clear hK K; exact dag_to hG (st13 kx kv kz _  hR hHeld) rfl (by kernel_rfl) (by rw [ha] <;> rfl)
  have st15 : ∀ (kx kz : Nat) (g0 : World), Hid (Rs X X.heap.size g0 [(⟨119, 3, (.slice (some ⟨kx, 0, none⟩) 0 0), 0, []⟩ : OR), rB kz 40 [.slice none 0 0, .slice none 0 0, .slice none 0 0, .slice none 0 0]]) → (fun w' => Blk w' w.heap.size #[.slice a1 W.gens.length c1, .slice a2 W.free.length c2, .slice a3 W.tabs.length c3, .slice a4 W.res.length c4] 40 ∧ Blk w' (w.heap.size + 1) #[.slice none 0 0, .slice none 0 0, .slice none 0 0, .slice none 0 0] 40) g0 → Gd 5 #[true, true, false, true, false, true, true, false, false, true, false] ((a0.put (some 8) (.slice (some ⟨kx, 0, none⟩) 0 0)).put (some 3) (.pointer (some ⟨kz, 0, none⟩))) g0 := by
   intro kx kz g0 hR hHeld
   rw [hG, ha]
   simp only [zs]; refine wpAnyH_ready (rs := [2, 4]) (by kernel_rfl) (by simp) ?_
   refine AllReadyH.cons rfl (fun K hK => ?_) ?_
   ·
    skip
    go_simp; refine (l2Copy_new a1 a2 c1 c2 W.gens W.free B0 _ (HW.out.g.kept cInt_keeps (hR.out.keptE L0.out b1)) (HW.out.f.kept cInt_keeps (hR.out.keptE L0.out b1)) m1 m2).mono ?_
    rintro z g25 ⟨⟨sg, cg, sf, cf, rfl, hO⟩, hb⟩
    have hR : Hid (Rs X X.heap.size g25 [rI (.slice sg W.gens.length cg) W.gens, rI (.slice sf W.free.length cf) W.free, (⟨119, 3, (.slice (some ⟨kx, 0, none⟩) 0 0), 0, []⟩ : OR), rB kz 40 [.slice none 0 0, .slice none 0 0, .slice none 0 0, .slice none 0 0]]) := Hid.mk' (hR.out.insM [] [rI (.slice sg W.gens.length cg) W.gens, rI (.slice sf W.free.length cf) W.free] [(⟨119, 3, (.slice (some ⟨kx, 0, none⟩) 0 0), 0, []⟩ : OR), rB kz 40 [.slice none 0 0, .slice none 0 0, .slice none 0 0, .slice none 0 0]] hb hO)
    clear hb hO; refine hK.out _ _ ?_ (fun hHeld => ?_)
    ·
     exact (k2 hR K0 K1 b0 b1 :)
    clear hK K; exact dag_to hG (st5 sg cg sf cf kx kz _  hR hHeld) rfl (by kernel_rfl) (by rw [ha] <;> rfl)
   refine AllReadyH.cons rfl (fun K hK => ?_) AllReadyH.nil
   refine step_bs0 [] [(⟨119, 3, (.slice (some ⟨kx, 0, none⟩) 0 0), 0, []⟩ : OR), rB kz 40 [.slice none 0 0, .slice none 0 0, .slice none 0 0, .slice none 0 0]] hR.out rfl (d0 := (some 9)) rfl 38 75 Tryz.underlying38 hiV rfl (fun v => rV v []) 4 (fun _ => rfl) ?_
   intro kv g26 hR'
   have hR : Hid (Rs X X.heap.size g26 [rV (.slice (some ⟨kv, 0, none⟩) 0 0) [], (⟨119, 3, (.slice (some ⟨kx, 0, none⟩) 0 0), 0, []⟩ : OR), rB kz 40 [.slice none 0 0, .slice none 0 0, .slice none 0 0, .slice none 0 0]]) := hR'
   clear hR'; refine hK.out _ _ ?_ (fun hHeld => ?_)
   ·
    exact (k2 hR K0 K1 b0 b1 :)
   clear hK K; exact dag_to hG (st13 kx kv kz _  hR hHeld) rfl (by kernel_rfl) (by rw [ha] <;> rfl)
  have st16 : ∀ (kx : Nat) (g0 : World), Hid (Rs X X.heap.size g0 [(⟨119, 3, (.slice (some ⟨kx, 0, none⟩) 0 0), 0, []⟩ : OR)]) → (fun w' => Blk w' w.heap.size #[.slice a1 W.gens.length c1, .slice a2 W.free.length c2, .slice a3 W.tabs.length c3, .slice a4 W.res.length c4] 40 ∧ Blk w' (w.heap.size + 1) #[.slice none 0 0, .slice none 0 0, .slice none 0 0, .slice none 0 0] 40) g0 → Gd 6 #[true, true, false, true, false, true, true, false, false, false, false] (a0.put (some 8) (.slice (some ⟨kx, 0, none⟩) 0 0)) g0 := by
   intro kx g0 hR hHeld
   rw [hG, ha]
   simp only [zs]; refine wpAnyH_ready (rs := [2, 4, 9]) (by kernel_rfl) (by simp) ?_
   refine AllReadyH.cons rfl (fun K hK => ?_) ?_
   ·
    skip
    go_simp; refine (l2Copy_new a1 a2 c1 c2 W.gens W.free B0 _ (HW.out.g.kept cInt_keeps (hR.out.keptE L0.out b1)) (HW.out.f.kept cInt_keeps (hR.out.keptE L0.out b1)) m1 m2).mono ?_
    rintro z g27 ⟨⟨sg, cg, sf, cf, rfl, hO⟩, hb⟩
    have hR : Hid (Rs X X.heap.size g27 [rI (.slice sg W.gens.length cg) W.gens, rI (.slice sf W.free.length cf) W.free, (⟨119, 3, (.slice (some ⟨kx, 0, none⟩) 0 0), 0, []⟩ : OR)]) := Hid.mk' (hR.out.insM [] [rI (.slice sg W.gens.length cg) W.gens, rI (.slice sf W.free.length cf) W.free] [(⟨119, 3, (.slice (some ⟨kx, 0, none⟩) 0 0), 0, []⟩ : OR)] hb hO)
    clear hb hO; refine hK.out _ _ ?_ (fun hHeld => ?_)
    ·
     exact (k2 hR K0 K1 b0 b1 :)
    clear hK K; exact dag_to hG (st6 sg cg sf cf kx _  hR hHeld) rfl (by kernel_rfl) (by rw [ha] <;> rfl)
   refine AllReadyH.cons rfl (fun K hK => ?_) ?_
   ·
    skip
    refine step_bs0 [] [(⟨119, 3, (.slice (some ⟨kx, 0, none⟩) 0 0), 0, []⟩ : OR)] hR.out rfl (d0 := (some 9)) rfl 38 75 Tryz.underlying38 hiV rfl (fun v => rV v []) 4 (fun _ => rfl) ?_
    intro kv g28 hR'
    have hR : Hid (Rs X X.heap.size g28 [rV (.slice (some ⟨kv, 0, none⟩) 0 0) [], (⟨119, 3, (.slice (some ⟨kx, 0, none⟩) 0 0), 0, []⟩ : OR)]) := hR'
    clear hR'; refine hK.out _ _ ?_ (fun hHeld => ?_)
    ·
     exact (k2 hR K0 K1 b0 b1 :)
    clear hK K; exact dag_to hG (st14 kx kv _  hR hHeld) rfl (by kernel_rfl) (by rw [ha] <;> rfl)
   refine AllReadyH.cons rfl (fun K hK => ?_) AllReadyH.nil
   refine step_box [(⟨119, 3, (.slice (some ⟨kx, 0, none⟩) 0 0), 0, []⟩ : OR)] [] hR.out rfl (d0 := (some 3)) rfl 40 hiW hzW rfl ?_
   intro kz g29 hR'
   have hR : Hid (Rs X X.heap.size g29 [(⟨119, 3, (.slice (some ⟨kx, 0, none⟩) 0 0), 0, []⟩ : OR), rB kz 40 [.slice none 0 0, .slice none 0 0, .slice none 0 0, .slice none 0 0]]) := hR'
   clear hR'; refine hK.out _ _ ?_ (fun hHeld => ?_)
   ·
    exact (k2 hR K0 K1 b0 b1 :)
   clear hK K; exact dag_to hG (st15 kx kz _  hR hHeld) rfl (by kernel_rfl) (by rw [ha] <;> rfl)
  have st17 : ∀ (kv kz : Nat) (g0 : World), Hid (Rs X X.heap.size g0 [rV (.slice (some ⟨kv, 0, none⟩) 0 0) [], rB kz 40 [.slice none 0 0, .slice none 0 0, .slice none 0 0, .slice none 0 0]]) → (fun w' => Blk w' w.heap.size #[.slice a1 W.gens.length c1, .slice a2 W.free.length c2, .slice a3 W.tabs.length c3, .slice a4 W.res.length c4] 40 ∧ Blk w' (w.heap.size + 1) #[.slice none 0 0, .slice none 0 0, .slice none 0 0, .slice none 0 0] 40) g0 → Gd 5 #[true, true, false, false, true, true, true, false, false, true, false] ((a0.put (some 9) (.slice (some ⟨kv, 0, none⟩) 0 0)).put (some 3) (.pointer (some ⟨kz, 0, none⟩))) g0 := by
   intro kv kz g0 hR hHeld
   rw [hG, ha]
   simp only [zs]; refine wpAnyH_ready (rs := [2, 3]) (by kernel_rfl) (by simp) ?_
   refine AllReadyH.cons rfl (fun K hK => ?_) ?_
   ·
    skip
    go_simp; refine (l2Copy_new a1 a2 c1 c2 W.gens W.free B0 _ (HW.out.g.kept cInt_keeps (hR.out.keptE L0.out b1)) (HW.out.f.kept cInt_keeps (hR.out.keptE L0.out b1)) m1 m2).mono ?_
    rintro z g30 ⟨⟨sg, cg, sf, cf, rfl, hO⟩, hb⟩
    have hR : Hid (Rs X X.heap.size g30 [rI (.slice sg W.gens.length cg) W.gens, rI (.slice sf W.free.length cf) W.free, rV (.slice (some ⟨kv, 0, none⟩) 0 0) [], rB kz 40 [.slice none 0 0, .slice none 0 0, .slice none 0 0, .slice none 0 0]]) := Hid.mk' (hR.out.insM [] [rI (.slice sg W.gens.length cg) W.gens, rI (.slice sf W.free.length cf) W.free] [rV (.slice (some ⟨kv, 0, none⟩) 0 0) [], rB kz 40 [.slice none 0 0, .slice none 0 0, .slice none 0 0, .slice none 0 0]] hb hO)
    clear hb hO; refine hK.out _ _ ?_ (fun hHeld => ?_)
    ·
     exact (k2 hR K0 K1 b0 b1 :)
    clear hK K; exact dag_to hG (st9 sg cg sf cf kv kz _  hR hHeld) rfl (by kernel_rfl) (by rw [ha] <;> rfl)
   refine AllReadyH.cons rfl (fun K hK => ?_) AllReadyH.nil
   refine step_bs0 [rV (.slice (some ⟨kv, 0, none⟩) 0 0) []] [rB kz 40 [.slice none 0 0, .slice none 0 0, .slice none 0 0, .slice none 0 0]] hR.out rfl (d0 := (some 8)) rfl 37 119 Tryz.underlying37 hiT rfl (fun v => (⟨119, 3, v, 0, []⟩ : OR)) 3 (fun _ => rfl) ?_
   intro kx g31 hR'
   have hR : Hid (Rs X X.heap.size g31 [rV (.slice (some ⟨kv, 0, none⟩) 0 0) [], (⟨119, 3, (.slice (some ⟨kx, 0, none⟩) 0 0), 0, []⟩ : OR), rB kz 40 [.slice none 0 0, .slice none 0 0, .slice none 0 0, .slice none 0 0]]) := hR'
   clear hR'; refine hK.out _ _ ?_ (fun hHeld => ?_)
   ·
    exact (k2 hR K0 K1 b0 b1 :)
   clear hK K; exact dag_to hG (st13 kx kv kz _  hR hHeld) rfl (by kernel_rfl) (by rw [ha] <;> rfl)
  have st18 : ∀ (kv : Nat) (g0 : World), Hid (Rs X X.heap.size g0 [rV (.slice (some ⟨kv, 0, none⟩) 0 0) []]) → (fun w' => Blk w' w.heap.size #[.slice a1 W.gens.length c1, .slice a2 W.free.length c2, .slice a3 W.tabs.length c3, .slice a4 W.res.length c4] 40 ∧ Blk w' (w.heap.size + 1) #[.slice none 0 0, .slice none 0 0, .slice none 0 0, .slice none 0 0] 40) g0 → Gd 6 #[true, true, false, false, true, true, true, false, false, false, false] (a0.put (some 9) (.slice (some ⟨kv, 0, none⟩) 0 0)) g0 := by
   intro kv g0 hR hHeld
   rw [hG, ha]
   simp only [zs]; refine wpAnyH_ready (rs := [2, 3, 9]) (by kernel_rfl) (by simp) ?_
   refine AllReadyH.cons rfl (fun K hK => ?_) ?_
   ·
    skip
    go_simp; refine (l2Copy_new a1 a2 c1 c2 W.gens W.free B0 _ (HW.out.g.kept cInt_keeps (hR.out.keptE L0.out b1)) (HW.out.f.kept cInt_keeps (hR.out.keptE L0.out b1)) m1 m2).mono ?_
    rintro z g32 ⟨⟨sg, cg, sf, cf, rfl, hO⟩, hb⟩
    have hR : Hid (Rs X X.heap.size g32 [rI (.slice sg W.gens.length cg) W.gens, rI (.slice sf W.free.length cf) W.free, rV (.slice (some ⟨kv, 0, none⟩) 0 0) []]) := Hid.mk' (hR.out.insM [] [rI (.slice sg W.gens.length cg) W.gens, rI (.slice sf W.free.length cf) W.free] [rV (.slice (some ⟨kv, 0, none⟩) 0 0) []] hb hO)
    clear hb hO; refine hK.out _ _ ?_ (fun hHeld => ?_)
    ·
     exact (k2 hR K0 K1 b0 b1 :)
    clear hK K; exact dag_to hG (st10 sg cg sf cf kv _  hR hHeld) rfl (by kernel_rfl) (by rw [ha] <;> rfl)
   refine AllReadyH.cons rfl (fun K hK => ?_) ?_
   ·
    skip
    refine step_bs0 [rV (.slice (some ⟨kv, 0, none⟩) 0 0) []] [] hR.out rfl (d0 := (some 8)) rfl 37 119 Tryz.underlying37 hiT rfl (fun v => (⟨119, 3, v, 0, []⟩ : OR)) 3 (fun _ => rfl) ?_
    intro kx g33 hR'
    have hR : Hid (Rs X X.heap.size g33 [rV (.slice (some ⟨kv, 0, none⟩) 0 0) [], (⟨119, 3, (.slice (some ⟨kx, 0, none⟩) 0 0), 0, []⟩ : OR)]) := hR'
    clear hR'; refine hK.out _ _ ?_ (fun hHeld => ?_)
    ·
     exact (k2 hR K0 K1 b0 b1 :)
    clear hK K; exact dag_to hG (st14 kx kv _  hR hHeld) rfl (by kernel_rfl) (by rw [ha] <;> rfl)
   refine AllReadyH.cons rfl (fun K hK => ?_) AllReadyH.nil
   refine step_box [rV (.slice (some ⟨kv, 0, none⟩) 0 0) []] [] hR.out rfl (d0 := (some 3)) rfl 40 hiW hzW rfl ?_
   intro kz g34 hR'
   have hR : Hid (Rs X X.heap.size g34 [rV (.slice (some ⟨kv, 0, none⟩) 0 0) [], rB kz 40 [.slice none 0 0, .slice none 0 0, .slice none 0 0, .slice none 0 0]]) := hR'
   clear hR'; refine hK.out _ _ ?_ (fun hHeld => ?_)
   ·
    exact (k2 hR K0 K1 b0 b1 :)
   clear hK K; exact dag_to hG (st17 kv kz _  hR hHeld) rfl (by kernel_rfl) (by rw [ha] <;> rfl)
  have st19 : ∀ (kz : Nat) (g0 : World), Hid (Rs X X.heap.size g0 [rB kz 40 [.slice none 0 0, .slice none 0 0, .slice none 0 0, .slice none 0 0]]) → (fun w' => Blk w' w.heap.size #[.slice a1 W.gens.length c1, .slice a2 W.free.length c2, .slice a3 W.tabs.length c3, .slice a4 W.res.length c4] 40 ∧ Blk w' (w.heap.size + 1) #[.slice none 0 0, .slice none 0 0, .slice none 0 0, .slice none 0 0] 40) g0 → Gd 6 #[true, true, false, false, false, true, true, false, false, true, false] (a0.put (some 3) (.pointer (some ⟨kz, 0, none⟩))) g0 := by
   intro kz g0 hR hHeld
   rw [hG, ha]
   simp only [zs]; refine wpAnyH_ready (rs := [2, 3, 4]) (by kernel_rfl) (by simp) ?_
   refine AllReadyH.cons rfl (fun K hK => ?_) ?_
   ·
    skip
    go_simp; refine (l2Copy_new a1 a2 c1 c2 W.gens W.free B0 _ (HW.out.g.kept cInt_keeps (hR.out.keptE L0.out b1)) (HW.out.f.kept cInt_keeps (hR.out.keptE L0.out b1)) m1 m2).mono ?_
    rintro z g35 ⟨⟨sg, cg, sf, cf, rfl, hO⟩, hb⟩
    have hR : Hid (Rs X X.heap.size g35 [rI (.slice sg W.gens.length cg) W.gens, rI (.slice sf W.free.length cf) W.free, rB kz 40 [.slice none 0 0, .slice none 0 0, .slice none 0 0, .slice none 0 0]]) := Hid.mk' (hR.out.insM [] [rI (.slice sg W.gens.length cg) W.gens, rI (.slice sf W.free.length cf) W.free] [rB kz 40 [.slice none 0 0, .slice none 0 0, .slice none 0 0, .slice none 0 0]] hb hO)
    clear hb hO; refine hK.out _ _ ?_ (fun hHeld => ?_)
    ·
     exact (k2 hR K0 K1 b0 b1 :)
    clear hK K; exact dag_to hG (st11 sg cg sf cf kz _  hR hHeld) rfl (by kernel_rfl) (by rw [ha] <;> rfl)
   refine AllReadyH.cons rfl (fun K hK => ?_) ?_
   ·
    skip
    refine step_bs0 [] [rB kz 40 [.slice none 0 0, .slice none 0 0, .slice none 0 0, .slice none 0 0]] hR.out rfl (d0 := (some 8)) rfl 37 119 Tryz.underlying37 hiT rfl (fun v => (⟨119, 3, v, 0, []⟩ : OR)) 3 (fun _ => rfl) ?_
    intro kx g36 hR'
    have hR : Hid (Rs X X.heap.size g36 [(⟨119, 3, (.slice (some ⟨kx, 0, none⟩) 0 0), 0, []⟩ : OR), rB kz 40 [.slice none 0 0, .slice none 0 0, .slice none 0 0, .slice none 0 0]]) := hR'
    clear hR'; refine hK.out _ _ ?_ (fun hHeld => ?_)
    ·
     exact (k2 hR K0 K1 b0 b1 :)
    clear hK K; exact dag_to hG (st15 kx kz _  hR hHeld) rfl (by kernel_rfl) (by rw [ha] <;> rfl)
   refine AllReadyH.cons rfl (fun K hK => ?_) AllReadyH.nil
   refine step_bs0 [] [rB kz 40 [.slice none 0 0, .slice none 0 0, .slice none 0 0, .slice none 0 0]] hR.out rfl (d0 := (some 9)) rfl 38 75 Tryz.underlying38 hiV rfl (fun v => rV v []) 4 (fun _ => rfl) ?_
   intro kv g37 hR'
   have hR : Hid (Rs X X.heap.size g37 [rV (.slice (some ⟨kv, 0, none⟩) 0 0) [], rB kz 40 [.slice none 0 0, .slice none 0 0, .slice none 0 0, .slice none 0 0]]) := hR'
   clear hR'; refine hK.out _ _ ?_ (fun hHeld => ?_)
   ·
    exact (k2 hR K0 K1 b0 b1 :)
   clear hK K; exact dag_to hG (st17 kv kz _  hR hHeld) rfl (by kernel_rfl) (by rw [ha] <;> rfl)
  rw [hG, ha]
  try simp only [zs]
  refine wpAnyH_ready (rs := [2, 3, 4, 9]) (by kernel_rfl) (by simp) ?_
  refine AllReadyH.cons rfl (fun K hK => ?_) ?_
  ·
   skip
   go_simp; refine (l2Copy_new a1 a2 c1 c2 W.gens W.free B0 _ (HW.out.g.kept cInt_keeps (hR.out.keptE L0.out b1)) (HW.out.f.kept cInt_keeps (hR.out.keptE L0.out b1)) m1 m2).mono ?_
   rintro z g38 ⟨⟨sg, cg, sf, cf, rfl, hO⟩, hb⟩
   have hR : Hid (Rs X X.heap.size g38 [rI (.slice sg W.gens.length cg) W.gens, rI (.slice sf W.free.length cf) W.free]) := Hid.mk' (hR.out.insM [] [rI (.slice sg W.gens.length cg) W.gens, rI (.slice sf W.free.length cf) W.free] [] hb hO)
   clear hb hO; refine hK.out _ _ ?_ (fun hHeld => ?_)
   ·
    exact (k2 hR K0 K1 b0 b1 :)
   clear hK K; exact dag_to hG (st12 sg cg sf cf _  hR hHeld) rfl (by kernel_rfl) (by rw [ha] <;> rfl)
  refine AllReadyH.cons rfl (fun K hK => ?_) ?_
  ·
   skip
   refine step_bs0 [] [] hR.out rfl (d0 := (some 8)) rfl 37 119 Tryz.underlying37 hiT rfl (fun v => (⟨119, 3, v, 0, []⟩ : OR)) 3 (fun _ => rfl) ?_
   intro kx g39 hR'
   have hR : Hid (Rs X X.heap.size g39 [(⟨119, 3, (.slice (some ⟨kx, 0, none⟩) 0 0), 0, []⟩ : OR)]) := hR'
   clear hR'; refine hK.out _ _ ?_ (fun hHeld => ?_)
   ·
    exact (k2 hR K0 K1 b0 b1 :)
   clear hK K; exact dag_to hG (st16 kx _  hR hHeld) rfl (by kernel_rfl) (by rw [ha] <;> rfl)
  refine AllReadyH.cons rfl (fun K hK => ?_) ?_
  ·
   skip
   refine step_bs0 [] [] hR.out rfl (d0 := (some 9)) rfl 38 75 Tryz.underlying38 hiV rfl (fun v => rV v []) 4 (fun _ => rfl) ?_
   intro kv g40 hR'
   have hR : Hid (Rs X X.heap.size g40 [rV (.slice (some ⟨kv, 0, none⟩) 0 0) []]) := hR'
   clear hR'; refine hK.out _ _ ?_ (fun hHeld => ?_)
   ·
    exact (k2 hR K0 K1 b0 b1 :)
   clear hK K; exact dag_to hG (st18 kv _  hR hHeld) rfl (by kernel_rfl) (by rw [ha] <;> rfl)
  refine AllReadyH.cons rfl (fun K hK => ?_) AllReadyH.nil
  refine step_box [] [] hR.out rfl (d0 := (some 3)) rfl 40 hiW hzW rfl ?_
  intro kz g41 hR'
  have hR : Hid (Rs X X.heap.size g41 [rB kz 40 [.slice none 0 0, .slice none 0 0, .slice none 0 0, .slice none 0 0]]) := hR'
  clear hR'; refine hK.out _ _ ?_ (fun hHeld => ?_)
  ·
   exact (k2 hR K0 K1 b0 b1 :)
  clear hK K; exact dag_to hG (st19 kz _  hR hHeld) rfl (by kernel_rfl) (by rw [ha] <;> rfl)
 obtain ⟨kz, kx, sg, cg, sf, cf, sr, cr, rfl, hR⟩ := hcut
 have hR := Hid.mk' hR
 go_wp2_with fail; go_loopw [4] (fun i wr => ∃ (k : Nat) (sv : Option Addr) (cv : Nat) (ts : List TV), k ≤ W.tabs.length ∧ i = .int .i64 k ∧ Hid (ts.length = k) ∧ Hid (∀ (j : Nat) u U, ts[j]? = some u → (W.tabs.take k)[j]? = some U → u.xs.length = U.cells.length) ∧ Hid (Rs X X.heap.size wr ([rI (.slice sg W.gens.length cg) W.gens, rI (.slice sf W.free.length cf) W.free, rV (.slice sr W.res.length cr) W.res, rB kz 40 [.slice sg W.gens.length cg, .slice sf W.free.length cf, .slice sv k cv, .slice sr W.res.length cr], (⟨119, 3, .slice sv k cv, k, ts.flatMap tc⟩ : OR)] ++ rTabs ts (W.tabs.take k)))) (fun i _ => W.tabs.length - (intOf i).toNat)
 case atStart =>
  refine ⟨0, some ⟨kx, 0, none⟩, 0, [], Nat.zero_le _, rfl, rfl, fun j u U h => by simp at h, ?_⟩
  exact hR.out.perm ((((List.Perm.swap _ _ _).cons _).cons _).cons _)
 clear hR; obtain ⟨k, sv, cv, ts, hk, rfl, hts, hle, hR⟩ := hrel
 have hts0 := hts
 obtain ⟨x0, x1, x2, x3, x4⟩ := (hR.out.blk K0.out b0).four'
 by_cases hlt : k < W.tabs.length
 ·
  obtain ⟨T, hT⟩ := get_some hlt
  obtain ⟨b, o, rfl, _, hp, t1, d1, t2, d2, t3, d3, e1, e2, e3, F1, F2, F3⟩ := eTab_cells HW.out.t hT
  have hkT := HKT.out T (List.mem_of_getElem? hT)
  have F1 := Hid.mk' F1
  have F2 := Hid.mk' F2
  have F3 := Hid.mk' F3
  have HTk := Hid.mk' hT
  have EC := Hid.mk' (And.intro e1 (And.intro e2 e3))
  have kI0 : (0 : Int) ≤ (k : Int) := by omega
  have kI1 : (k : Int) < (W.tabs.length : Int) := by omega
  clear hT e1 e2 e3; go_wp2_with fail; clear x0 x1 x2 x3 x4; refine wp_region_held_drew (S := (fun w' => Blk w' w.heap.size #[.slice a1 W.gens.length c1, .slice a2 W.free.length c2, .slice (some ⟨b, o, none⟩) W.tabs.length c3, .slice a4 W.res.length c4] 40 ∧ Blk w' (w.heap.size + 1) #[.slice none 0 0, .slice none 0 0, .slice none 0 0, .slice none 0 0] 40 ∧ w'.cell? ⟨b, o + k * 3, none⟩ = some (.slice t1 T.cols.length d1) ∧ w'.cell? ⟨b, o + k * 3 + 1, none⟩ = some (.slice t2 T.rows.length d2) ∧ w'.cell? ⟨b, o + k * 3 + 2, none⟩ = some (.slice t3 T.cells.length d3))) (by kernel_rfl) ?_ (fun hHeld => ?_)
  ·
   exact ⟨hR.out.blk K0.out b0, hR.out.blk K1.out b1, ((hR.out.keptE (C := 0) L0.out b1).cell (Nat.zero_le _) hp).trans EC.out.1, ((hR.out.keptE (C := 0) L0.out b1).cell (Nat.zero_le _) hp).trans EC.out.2.1, ((hR.out.keptE (C := 0) L0.out b1).cell (Nat.zero_le _) hp).trans EC.out.2.2⟩
  have hR := Hid.mk' hR.out.drew
  refine wpr 0 21 ?_; simp only [zs]; refine wpr 2 23 ?_; simp only [zs]; refine wpq (v := ?_) 3 24 rfl rfl ?_ ?_
  rotate_left 1
  ·
   intro w hSw; (try dsimp only at hSw); obtain ⟨q0, q1, q2, q3, q4⟩ := hSw; obtain ⟨x0, x1, x2, x3, x4⟩ := q0.four'; go_simp <;> with_reducible rfl
  simp only [zs]; refine wpr 4 25 ?_; simp only [zs]; refine wpq (v := ?_) 5 26 rfl rfl ?_ ?_
  rotate_left 1
  ·
   intro w hSw; (try dsimp only at hSw); obtain ⟨q0, q1, q2, q3, q4⟩ := hSw; obtain ⟨x0, x1, x2, x3, x4⟩ := q0.four'; go_simp <;> with_reducible rfl
  simp only [zs]; refine wpq (v := ?_) 6 27 rfl rfl ?_ ?_
  rotate_left 1
  ·
   intro w hSw; (try dsimp only at hSw); obtain ⟨q0, q1, q2, q3, q4⟩ := hSw; obtain ⟨x0, x1, x2, x3, x4⟩ := q0.four'; go_simp <;> with_reducible rfl
  simp only [zs]; refine dag_start fun Gd a0 hG ha => ?_
  have st0 : ∀ (t : TV) (kb : Nat) (sv2 : Option Addr) (cv2 : Nat) (g0 : World), Hid (t.xs.length = T.cells.length ∧ ∀ L ∈ T.cells, okVs L) → Hid (Rs X X.heap.size g0 ([rI (.slice sg W.gens.length cg) W.gens, rI (.slice sf W.free.length cf) W.free, rV (.slice sr W.res.length cr) W.res, rB kz 40 [.slice sg W.gens.length cg, .slice sf W.free.length cf, .slice sv2 (k + 1) cv2, .slice sr W.res.length cr], (⟨119, 3, (.slice sv2 (k + 1) cv2), k + 1, ts.flatMap tc ++ [t.c, t.r, t.x]⟩ : OR), rB kb 119 [t.c, t.r, t.x]] ++ ((rTab t T) ++ (rTabs ts (W.tabs.take k))))) → (fun w' => Blk w' w.heap.size #[.slice a1 W.gens.length c1, .slice a2 W.free.length c2, .slice (some ⟨b, o, none⟩) W.tabs.length c3, .slice a4 W.res.length c4] 40 ∧ Blk w' (w.heap.size + 1) #[.slice none 0 0, .slice none 0 0, .slice none 0 0, .slice none 0 0] 40 ∧ w'.cell? ⟨b, o + k * 3, none⟩ = some (.slice t1 T.cols.length d1) ∧ w'.cell? ⟨b, o + k * 3 + 1, none⟩ = some (.slice t2 T.rows.length d2) ∧ w'.cell? ⟨b, o + k * 3 + 2, none⟩ = some (.slice t3 T.cells.length d3)) g0 → Gd 0 #[true, true, true, true, true, true, true, true, true, true, true, true] (((((a0.put (some 22) (.slice sv k cv)).put (some 28) (.agg #[t.c, t.r, t.x])).put (some 29) (.slice (some ⟨kb, 0, none⟩) 1 1)).put (some 30) (.slice sv2 (k + 1) cv2)).put (some 31) (.pointer (some ⟨kz, 2, none⟩))) g0 := by
   intro t kb sv2 cv2 g0 HT hR hHeld
   rw [hG, ha]
   simp only [zs]; refine wpAnyH_done (by kernel_rfl) ?_ _
   clear hHeld; have hR := Hid.mk' (Rs.roundT1 (P := [rI (.slice sg W.gens.length cg) W.gens, rI (.slice sf W.free.length cf) W.free, rV (.slice sr W.res.length cr) W.res, rB kz 40 [.slice sg W.gens.length cg, .slice sf W.free.length cf, .slice sv2 (k + 1) cv2, .slice sr W.res.length cr], (⟨119, 3, .slice sv2 (k + 1) cv2, k + 1, ts.flatMap tc ++ [t.c, t.r, t.x]⟩ : OR)]) hts.out HTk.out hR.out)
   have hts : Hid ((ts ++ [t]).length = k + 1) := by show _ = _; rw [List.length_append, hts.out]; rfl
   have hle : Hid (∀ (j : Nat) u U, (ts ++ [t])[j]? = some u → (W.tabs.take (k + 1))[j]? = some U → u.xs.length = U.cells.length) := lens_snoc hle.out hts0.out HTk.out HT.out.1
   go_wp2_with fail; go_roundw
   case rel => exact ⟨k + 1, sv2, cv2, ts ++ [t], by omega, by go_num, hts, hle, by rw [List.flatMap_append, List.flatMap_singleton]; exact hR⟩
   case measure => simp [intOf]; omega
  have st1 : ∀ (t : TV) (kb : Nat) (sv2 : Option Addr) (cv2 : Nat) (g0 : World), Hid (t.xs.length = T.cells.length ∧ ∀ L ∈ T.cells, okVs L) → Hid (Rs X X.heap.size g0 ([rI (.slice sg W.gens.length cg) W.gens, rI (.slice sf W.free.length cf) W.free, rV (.slice sr W.res.length cr) W.res, rB kz 40 [.slice sg W.gens.length cg, .slice sf W.free.length cf, .slice sv k cv, .slice sr W.res.length cr], (⟨119, 3, (.slice sv2 (k + 1) cv2), k + 1, ts.flatMap tc ++ [t.c, t.r, t.x]⟩ : OR), rB kb 119 [t.c, t.r, t.x]] ++ ((rTab t T) ++ (rTabs ts (W.tabs.take k))))) → (fun w' => Blk w' w.heap.size #[.slice a1 W.gens.length c1, .slice a2 W.free.length c2, .slice (some ⟨b, o, none⟩) W.tabs.length c3, .slice a4 W.res.length c4] 40 ∧ Blk w' (w.heap.size + 1) #[.slice none 0 0, .slice none 0 0, .slice none 0 0, .slice none 0 0] 40 ∧ w'.cell? ⟨b, o + k * 3, none⟩ = some (.slice t1 T.cols.length d1) ∧ w'.cell? ⟨b, o + k * 3 + 1, none⟩ = some (.slice t2 T.rows.length d2) ∧ w'.cell? ⟨b, o + k * 3 + 2, none⟩ = some (.slice t3 T.cells.length d3)) g0 → Gd 1 #[true, true, true, true, true, true, true, true, true, true, true, false] (((((a0.put (some 22) (.slice sv k cv)).put (some 28) (.agg #[t.c, t.r, t.x])).put (some 29) (.slice (some ⟨kb, 0, none⟩) 1 1)).put (some 30) (.slice sv2 (k + 1) cv2)).put (some 31) (.pointer (some ⟨kz, 2, none⟩))) g0 := by
   intro t kb sv2 cv2 g0 HT hR hHeld
   rw [hG, ha]
   simp only [zs]; refine wpy 11 fun K hK => ?_
   have hbx := hR.out.box [rI (.slice sg W.gens.length cg) W.gens, rI (.slice sf W.free.length cf) W.free, rV (.slice sr W.res.length cr) W.res] ([(⟨119, 3, (.slice sv2 (k + 1) cv2), k + 1, ts.flatMap tc ++ [t.c, t.r, t.x]⟩ : OR), rB kb 119 [t.c, t.r, t.x]] ++ ((rTab t T) ++ (rTabs ts (W.tabs.take k))))
   have x0 := hbx.cell 2
   have x1 := hbx.frozen 2
   clear hbx; go_simp; clear x0 x1; have hR : Hid (Rs X X.heap.size _ ([rI (.slice sg W.gens.length cg) W.gens, rI (.slice sf W.free.length cf) W.free, rV (.slice sr W.res.length cr) W.res, rB kz 40 [.slice sg W.gens.length cg, .slice sf W.free.length cf, .slice sv2 (k + 1) cv2, .slice sr W.res.length cr], (⟨119, 3, (.slice sv2 (k + 1) cv2), k + 1, ts.flatMap tc ++ [t.c, t.r, t.x]⟩ : OR), rB kb 119 [t.c, t.r, t.x]] ++ ((rTab t T) ++ (rTabs ts (W.tabs.take k))))) := Hid.mk' (hR.out.setB [rI (.slice sg W.gens.length cg) W.gens, rI (.slice sf W.free.length cf) W.free, rV (.slice sr W.res.length cr) W.res] ([(⟨119, 3, (.slice sv2 (k + 1) cv2), k + 1, ts.flatMap tc ++ [t.c, t.r, t.x]⟩ : OR), rB kb 119 [t.c, t.r, t.x]] ++ ((rTab t T) ++ (rTabs ts (W.tabs.take k)))) 2 (.slice sv2 (k + 1) cv2))
   refine hK.out _ _ ?_ (fun hHeld => ?_)
   ·
    exact ⟨hR.out.blk K0.out b0, hR.out.blk K1.out b1, ((hR.out.keptE (C := 0) L0.out b1).cell (Nat.zero_le _) hp).trans EC.out.1, ((hR.out.keptE (C := 0) L0.out b1).cell (Nat.zero_le _) hp).trans EC.out.2.1, ((hR.out.keptE (C := 0) L0.out b1).cell (Nat.zero_le _) hp).trans EC.out.2.2⟩
   clear hK K; exact dag_to hG (st0 t kb sv2 cv2 _ HT hR hHeld) rfl (by kernel_rfl) (by rw [ha] <;> rfl)
  have st2 : ∀ (t : TV) (kb : Nat) (g0 : World), Hid (t.xs.length = T.cells.length ∧ ∀ L ∈ T.cells, okVs L) → Hid (Rs X X.heap.size g0 ([rI (.slice sg W.gens.length cg) W.gens, rI (.slice sf W.free.length cf) W.free, rV (.slice sr W.res.length cr) W.res, rB kz 40 [.slice sg W.gens.length cg, .slice sf W.free.length cf, .slice sv k cv, .slice sr W.res.length cr], (⟨119, 3, .slice sv k cv, k, ts.flatMap tc⟩ : OR), rB kb 119 [t.c, t.r, t.x]] ++ ((rTab t T) ++ (rTabs ts (W.tabs.take k))))) → (fun w' => Blk w' w.heap.size #[.slice a1 W.gens.length c1, .slice a2 W.free.length c2, .slice (some ⟨b, o, none⟩) W.tabs.length c3, .slice a4 W.res.length c4] 40 ∧ Blk w' (w.heap.size + 1) #[.slice none 0 0, .slice none 0 0, .slice none 0 0, .slice none 0 0] 40 ∧ w'.cell? ⟨b, o + k * 3, none⟩ = some (.slice t1 T.cols.length d1) ∧ w'.cell? ⟨b, o + k * 3 + 1, none⟩ = some (.slice t2 T.rows.length d2) ∧ w'.cell? ⟨b, o + k * 3 + 2, none⟩ = some (.slice t3 T.cells.length d3)) g0 → Gd 3 #[true, true, true, true, true, true, true, true, true, false, false, false] (((a0.put (some 22) (.slice sv k cv)).put (some 28) (.agg #[t.c, t.r, t.x])).put (some 29) (.slice (some ⟨kb, 0, none⟩) 1 1)) g0 := by
   intro t kb g0 HT hR hHeld
   rw [hG, ha]
   simp only [zs]; refine wpy 9 fun K hK => ?_
   refine step_app [rI (.slice sg W.gens.length cg) W.gens, rI (.slice sf W.free.length cf) W.free, rV (.slice sr W.res.length cr) W.res, rB kz 40 [.slice sg W.gens.length cg, .slice sf W.free.length cf, .slice sv k cv, .slice sr W.res.length cr]] ([rB kb 119 [t.c, t.r, t.x]] ++ ((rTab t T) ++ (rTabs ts (W.tabs.take k)))) hR.out rfl (d0 := (some 30)) rfl (.tmp 22) (.tmp 29) 37 72 rfl Tryz.underlying37 hiT hzT hsT hbT rfl (Nat.succ_pos _) rfl (some ⟨kb, 0, none⟩) 1 1 [t.c, t.r, t.x] rfl rfl (Or.inr ⟨_, rfl, news3 (hR.out.box [rI (.slice sg W.gens.length cg) W.gens, rI (.slice sf W.free.length cf) W.free, rV (.slice sr W.res.length cr) W.res, rB kz 40 [.slice sg W.gens.length cg, .slice sf W.free.length cf, .slice sv k cv, .slice sr W.res.length cr], (⟨119, 3, .slice sv k cv, k, ts.flatMap tc⟩ : OR)] ((rTab t T) ++ (rTabs ts (W.tabs.take k))))⟩) (oneT (T := T) hR.out.o.on (fun r hr => by simp [hr])) (by dsimp only; unfold maxLen; omega) (by dsimp only; omega) (k + 1) rfl (fun v => (⟨119, 3, v, k + 1, ts.flatMap tc ++ [t.c, t.r, t.x]⟩ : OR)) (fun _ => rfl) ?_
   intro sv2 cv2 g2 hR'
   have hR : Hid (Rs X X.heap.size g2 ([rI (.slice sg W.gens.length cg) W.gens, rI (.slice sf W.free.length cf) W.free, rV (.slice sr W.res.length cr) W.res, rB kz 40 [.slice sg W.gens.length cg, .slice sf W.free.length cf, .slice sv k cv, .slice sr W.res.length cr], (⟨119, 3, (.slice sv2 (k + 1) cv2), k + 1, ts.flatMap tc ++ [t.c, t.r, t.x]⟩ : OR), rB kb 119 [t.c, t.r, t.x]] ++ ((rTab t T) ++ (rTabs ts (W.tabs.take k))))) := hR'
   clear hR'; refine hK.out _ _ ?_ (fun hHeld => ?_)
   ·
    exact ⟨hR.out.blk K0.out b0, hR.out.blk K1.out b1, ((hR.out.keptE (C := 0) L0.out b1).cell (Nat.zero_le _) hp).trans EC.out.1, ((hR.out.keptE (C := 0) L0.out b1).cell (Nat.zero_le _) hp).trans EC.out.2.1, ((hR.out.keptE (C := 0) L0.out b1).cell (Nat.zero_le _) hp).trans EC.out.2.2⟩
   clear hK K; try simp only [zs]
   refine wpr 10 31 ?_; simp only [zs]; exact dag_to hG (st1 t kb sv2 cv2 _ HT hR hHeld) rfl (by kernel_rfl) (by rw [ha] <;> rfl)
  have st3 : ∀ (t : TV) (g0 : World), Hid (t.xs.length = T.cells.length ∧ ∀ L ∈ T.cells, okVs L) → Hid (Rs X X.heap.size g0 ([rI (.slice sg W.gens.length cg) W.gens, rI (.slice sf W.free.length cf) W.free, rV (.slice sr W.res.length cr) W.res, rB kz 40 [.slice sg W.gens.length cg, .slice sf W.free.length cf, .slice sv k cv, .slice sr W.res.length cr], (⟨119, 3, .slice sv k cv, k, ts.flatMap tc⟩ : OR)] ++ ((rTab t T) ++ (rTabs ts (W.tabs.take k))))) → (fun w' => Blk w' w.heap.size #[.slice a1 W.gens.length c1, .slice a2 W.free.length c2, .slice (some ⟨b, o, none⟩) W.tabs.length c3, .slice a4 W.res.length c4] 40 ∧ Blk w' (w.heap.size + 1) #[.slice none 0 0, .slice none 0 0, .slice none 0 0, .slice none 0 0] 40 ∧ w'.cell? ⟨b, o + k * 3, none⟩ = some (.slice t1 T.cols.length d1) ∧ w'.cell? ⟨b, o + k * 3 + 1, none⟩ = some (.slice t2 T.rows.length d2) ∧ w'.cell? ⟨b, o + k * 3 + 2, none⟩ = some (.slice t3 T.cells.length d3)) g0 → Gd 4 #[true, true, true, true, true, true, true, true, false, false, false, false] ((a0.put (some 22) (.slice sv k cv)).put (some 28) (.agg #[t.c, t.r, t.x])) g0 := by
   intro t g0 HT hR hHeld
   rw [hG, ha]
   simp only [zs]; refine wpy 8 fun K hK => ?_
   refine step_bs3 [rI (.slice sg W.gens.length cg) W.gens, rI (.slice sf W.free.length cf) W.free, rV (.slice sr W.res.length cr) W.res, rB kz 40 [.slice sg W.gens.length cg, .slice sf W.free.length cf, .slice sv k cv, .slice sr W.res.length cr], (⟨119, 3, .slice sv k cv, k, ts.flatMap tc⟩ : OR)] ((rTab t T) ++ (rTabs ts (W.tabs.take k))) hR.out rfl (d0 := (some 29)) rfl 37 119 Tryz.underlying37 hiT hzT hsT (.tmp 28) rfl t.c t.r t.x rfl ?_
   intro kb g3 hR'
   have hR : Hid (Rs X X.heap.size g3 ([rI (.slice sg W.gens.length cg) W.gens, rI (.slice sf W.free.length cf) W.free, rV (.slice sr W.res.length cr) W.res, rB kz 40 [.slice sg W.gens.length cg, .slice sf W.free.length cf, .slice sv k cv, .slice sr W.res.length cr], (⟨119, 3, .slice sv k cv, k, ts.flatMap tc⟩ : OR), rB kb 119 [t.c, t.r, t.x]] ++ ((rTab t T) ++ (rTabs ts (W.tabs.take k))))) := hR'
   clear hR'; refine hK.out _ _ ?_ (fun hHeld => ?_)
   ·
    exact ⟨hR.out.blk K0.out b0, hR.out.blk K1.out b1, ((hR.out.keptE (C := 0) L0.out b1).cell (Nat.zero_le _) hp).trans EC.out.1, ((hR.out.keptE (C := 0) L0.out b1).cell (Nat.zero_le _) hp).trans EC.out.2.1, ((hR.out.keptE (C := 0) L0.out b1).cell (Nat.zero_le _) hp).trans EC.out.2.2⟩
   clear hK K; exact dag_to hG (st2 t kb _ HT hR hHeld) rfl (by kernel_rfl) (by rw [ha] <;> rfl)
  have st4 : ∀ g0 : World, Hid (Rs X X.heap.size g0 ([rI (.slice sg W.gens.length cg) W.gens, rI (.slice sf W.free.length cf) W.free, rV (.slice sr W.res.length cr) W.res, rB kz 40 [.slice sg W.gens.length cg, .slice sf W.free.length cf, .slice sv k cv, .slice sr W.res.length cr], (⟨119, 3, .slice sv k cv, k, ts.flatMap tc⟩ : OR)] ++ (rTabs ts (W.tabs.take k)))) → (fun w' => Blk w' w.heap.size #[.slice a1 W.gens.length c1, .slice a2 W.free.length c2, .slice (some ⟨b, o, none⟩) W.tabs.length c3, .slice a4 W.res.length c4] 40 ∧ Blk w' (w.heap.size + 1) #[.slice none 0 0, .slice none 0 0, .slice none 0 0, .slice none 0 0] 40 ∧ w'.cell? ⟨b, o + k * 3, none⟩ = some (.slice t1 T.cols.length d1) ∧ w'.cell? ⟨b, o + k * 3 + 1, none⟩ = some (.slice t2 T.rows.length d2) ∧ w'.cell? ⟨b, o + k * 3 + 2, none⟩ = some (.slice t3 T.cells.length d3)) g0 → Gd 5 #[true, true, true, true, true, true, true, false, false, false, false, false] (a0.put (some 22) (.slice sv k cv)) g0 := by
   intro g0 hR hHeld
   rw [hG, ha]
   simp only [zs]; refine wpy 7 fun K hK => ?_
   go_simp; refine (l4CopyTable_new t1 t2 t3 d1 d2 d3 T B0 _ (F1.out.kept cInt_keeps (hR.out.keptE L0.out b1)) (F2.out.kept cEnt_keeps (hR.out.keptE L0.out b1)) (F3.out.kept cVals_keeps (hR.out.keptE L0.out b1)) hkT).mono ?_
   rintro z g4 ⟨⟨t, rfl, hT⟩, hb⟩
   have hO := hT.own
   have HT : Hid (t.xs.length = T.cells.length ∧ ∀ L ∈ T.cells, okVs L) := ⟨hT.len, hT.ok⟩
   clear hT; have hR : Hid (Rs X X.heap.size g4 ([rI (.slice sg W.gens.length cg) W.gens, rI (.slice sf W.free.length cf) W.free, rV (.slice sr W.res.length cr) W.res, rB kz 40 [.slice sg W.gens.length cg, .slice sf W.free.length cf, .slice sv k cv, .slice sr W.res.length cr], (⟨119, 3, .slice sv k cv, k, ts.flatMap tc⟩ : OR)] ++ ((rTab t T) ++ (rTabs ts (W.tabs.take k))))) := Hid.mk' (hR.out.insM [rI (.slice sg W.gens.length cg) W.gens, rI (.slice sf W.free.length cf) W.free, rV (.slice sr W.res.length cr) W.res, rB kz 40 [.slice sg W.gens.length cg, .slice sf W.free.length cf, .slice sv k cv, .slice sr W.res.length cr], (⟨119, 3, .slice sv k cv, k, ts.flatMap tc⟩ : OR)] (rTab t T) (rTabs ts (W.tabs.take k)) hb hO)
   clear hb hO; refine hK.out _ _ ?_ (fun hHeld => ?_)
   ·
    exact ⟨hR.out.blk K0.out b0, hR.out.blk K1.out b1, ((hR.out.keptE (C := 0) L0.out b1).cell (Nat.zero_le _) hp).trans EC.out.1, ((hR.out.keptE (C := 0) L0.out b1).cell (Nat.zero_le _) hp).trans EC.out.2.1, ((hR.out.keptE (C := 0) L0.out b1).cell (Nat.zero_le _) hp).trans EC.out.2.2⟩
   clear hK K; exact dag_to hG (st3 t _ HT hR hHeld) rfl (by kernel_rfl) (by rw [ha] <;> rfl)
  have st5 : ∀ (t : TV) (kb : Nat) (g0 : World), Hid (t.xs.length = T.cells.length ∧ ∀ L ∈ T.cells, okVs L) → Hid (Rs X X.heap.size g0 ([rI (.slice sg W.gens.length cg) W.gens, rI (.slice sf W.free.length cf) W.free, rV (.slice sr W.res.length cr) W.res, rB kz 40 [.slice sg W.gens.length cg, .slice sf W.free.length cf, .slice sv k cv, .slice sr W.res.length cr], (⟨119, 3, .slice sv k cv, k, ts.flatMap tc⟩ : OR), rB kb 119 [t.c, t.r, t.x]] ++ ((rTab t T) ++ (rTabs ts (W.tabs.take k))))) → (fun w' => Blk w' w.heap.size #[.slice a1 W.gens.length c1, .slice a2 W.free.length c2, .slice (some ⟨b, o, none⟩) W.tabs.length c3, .slice a4 W.res.length c4] 40 ∧ Blk w' (w.heap.size + 1) #[.slice none 0 0, .slice none 0 0, .slice none 0 0, .slice none 0 0] 40 ∧ w'.cell? ⟨b, o + k * 3, none⟩ = some (.slice t1 T.cols.length d1) ∧ w'.cell? ⟨b, o + k * 3 + 1, none⟩ = some (.slice t2 T.rows.length d2) ∧ w'.cell? ⟨b, o + k * 3 + 2, none⟩ = some (.slice t3 T.cells.length d3)) g0 → Gd 4 #[true, false, true, true, true, true, true, true, true, false, false, false] ((a0.put (some 28) (.agg #[t.c, t.r, t.x])).put (some 29) (.slice (some ⟨kb, 0, none⟩) 1 1)) g0 := by
   intro t kb g0 HT hR hHeld
   rw [hG, ha]
   simp only [zs]; refine wpy 1 fun K hK => ?_
   have hbx := hR.out.box [rI (.slice sg W.gens.length cg) W.gens, rI (.slice sf W.free.length cf) W.free, rV (.slice sr W.res.length cr) W.res] ([(⟨119, 3, .slice sv k cv, k, ts.flatMap tc⟩ : OR), rB kb 119 [t.c, t.r, t.x]] ++ ((rTab t T) ++ (rTabs ts (W.tabs.take k))))
   have x0 := hbx.cell 2
   have x1 := hbx.frozen 2
   clear hbx; go_simp; clear x0 x1; refine hK.out _ _ ?_ (fun hHeld => ?_)
   ·
    exact ⟨hR.out.blk K0.out b0, hR.out.blk K1.out b1, ((hR.out.keptE (C := 0) L0.out b1).cell (Nat.zero_le _) hp).trans EC.out.1, ((hR.out.keptE (C := 0) L0.out b1).cell (Nat.zero_le _) hp).trans EC.out.2.1, ((hR.out.keptE (C := 0) L0.out b1).cell (Nat.zero_le _) hp).trans EC.out.2.2⟩
   clear hK K; exact dag_to hG (st2 t kb _ HT hR hHeld) rfl (by kernel_rfl) (by rw [ha] <;> rfl)
  have st6 : ∀ (t : TV) (g0 : World), Hid (t.xs.length = T.cells.length ∧ ∀ L ∈ T.cells, okVs L) → Hid (Rs X X.heap.size g0 ([rI (.slice sg W.gens.length cg) W.gens, rI (.slice sf W.free.length cf) W.free, rV (.slice sr W.res.length cr) W.res, rB kz 40 [.slice sg W.gens.length cg, .slice sf W.free.length cf, .slice sv k cv, .slice sr W.res.length cr], (⟨119, 3, .slice sv k cv, k, ts.flatMap tc⟩ : OR)] ++ ((rTab t T) ++ (rTabs ts (W.tabs.take k))))) → (fun w' => Blk w' w.heap.size #[.slice a1 W.gens.length c1, .slice a2 W.free.length c2, .slice (some ⟨b, o, none⟩) W.tabs.length c3, .slice a4 W.res.length c4] 40 ∧ Blk w' (w.heap.size + 1) #[.slice none 0 0, .slice none 0 0, .slice none 0 0, .slice none 0 0] 40 ∧ w'.cell? ⟨b, o + k * 3, none⟩ = some (.slice t1 T.cols.length d1) ∧ w'.cell? ⟨b, o + k * 3 + 1, none⟩ = some (.slice t2 T.rows.length d2) ∧ w'.cell? ⟨b, o + k * 3 + 2, none⟩ = some (.slice t3 T.cells.length d3)) g0 → Gd 5 #[true, false, true, true, true, true, true, true, false, false, false, false] (a0.put (some 28) (.agg #[t.c, t.r, t.x])) g0 := by
   intro t g0 HT hR hHeld
   rw [hG, ha]
   simp only [zs]; refine wpAnyH_ready (rs := [1, 8]) (by kernel_rfl) (by simp) ?_
   refine AllReadyH.cons rfl (fun K hK => ?_) ?_
   ·
    skip
    have hbx := hR.out.box [rI (.slice sg W.gens.length cg) W.gens, rI (.slice sf W.free.length cf) W.free, rV (.slice sr W.res.length cr) W.res] ([(⟨119, 3, .slice sv k cv, k, ts.flatMap tc⟩ : OR)] ++ ((rTab t T) ++ (rTabs ts (W.tabs.take k))))
    have x0 := hbx.cell 2
    have x1 := hbx.frozen 2
    clear hbx; go_simp; clear x0 x1; refine hK.out _ _ ?_ (fun hHeld => ?_)
    ·
     exact ⟨hR.out.blk K0.out b0, hR.out.blk K1.out b1, ((hR.out.keptE (C := 0) L0.out b1).cell (Nat.zero_le _) hp).trans EC.out.1, ((hR.out.keptE (C := 0) L0.out b1).cell (Nat.zero_le _) hp).trans EC.out.2.1, ((hR.out.keptE (C := 0) L0.out b1).cell (Nat.zero_le _) hp).trans EC.out.2.2⟩
    clear hK K; exact dag_to hG (st3 t _ HT hR hHeld) rfl (by kernel_rfl) (by rw [ha] <;> rfl)
   refine AllReadyH.cons rfl (fun K hK => ?_) AllReadyH.nil
   refine step_bs3 [rI (.slice sg W.gens.length cg) W.gens, rI (.slice sf W.free.length cf) W.free, rV (.slice sr W.res.length cr) W.res, rB kz 40 [.slice sg W.gens.length cg, .slice sf W.free.length cf, .slice sv k cv, .slice sr W.res.length cr], (⟨119, 3, .slice sv k cv, k, ts.flatMap tc⟩ : OR)] ((rTab t T) ++ (rTabs ts (W.tabs.take k))) hR.out rfl (d0 := (some 29)) rfl 37 119 Tryz.underlying37 hiT hzT hsT (.tmp 28) rfl t.c t.r t.x rfl ?_
   intro kb g7 hR'
   have hR : Hid (Rs X X.heap.size g7 ([rI (.slice sg W.gens.length cg) W.gens, rI (.slice sf W.free.length cf) W.free, rV (.slice sr W.res.length cr) W.res, rB kz 40 [.slice sg W.gens.length cg, .slice sf W.free.length cf, .slice sv k cv, .slice sr W.res.length cr], (⟨119, 3, .slice sv k cv, k, ts.flatMap tc⟩ : OR), rB kb 119 [t.c, t.r, t.x]] ++ ((rTab t T) ++ (rTabs ts (W.tabs.take k))))) := hR'
   clear hR'; refine hK.out _ _ ?_ (fun hHeld => ?_)
   ·
    exact ⟨hR.out.blk K0.out b0, hR.out.blk K1.out b1, ((hR.out.keptE (C := 0) L0.out b1).cell (Nat.zero_le _) hp).trans EC.out.1, ((hR.out.keptE (C := 0) L0.out b1).cell (Nat.zero_le _) hp).trans EC.out.2.1, ((hR.out.keptE (C := 0) L0.out b1).cell (Nat.zero_le _) hp).trans EC.out.2.2⟩
   clear hK K; exact dag_to hG (st5 t kb _ HT hR hHeld) rfl (by kernel_rfl) (by rw [ha] <;> rfl)
  rw [hG, ha]
  try simp only [zs]
  refine wpAnyH_ready (rs := [1, 7]) (by kernel_rfl) (by simp) ?_
  refine AllReadyH.cons rfl (fun K hK => ?_) ?_
  ·
   skip
   have hbx := hR.out.box [rI (.slice sg W.gens.length cg) W.gens, rI (.slice sf W.free.length cf) W.free, rV (.slice sr W.res.length cr) W.res] ([(⟨119, 3, .slice sv k cv, k, ts.flatMap tc⟩ : OR)] ++ (rTabs ts (W.tabs.take k)))
   have x0 := hbx.cell 2
   have x1 := hbx.frozen 2
   clear hbx; go_simp; clear x0 x1; refine hK.out _ _ ?_ (fun hHeld => ?_)
   ·
    exact ⟨hR.out.blk K0.out b0, hR.out.blk K1.out b1, ((hR.out.keptE (C := 0) L0.out b1).cell (Nat.zero_le _) hp).trans EC.out.1, ((hR.out.keptE (C := 0) L0.out b1).cell (Nat.zero_le _) hp).trans EC.out.2.1, ((hR.out.keptE (C := 0) L0.out b1).cell (Nat.zero_le _) hp).trans EC.out.2.2⟩
   clear hK K; exact dag_to hG (st4  _  hR hHeld) rfl (by kernel_rfl) (by rw [ha] <;> rfl)
  refine AllReadyH.cons rfl (fun K hK => ?_) AllReadyH.nil
  go_simp; refine (l4CopyTable_new t1 t2 t3 d1 d2 d3 T B0 _ (F1.out.kept cInt_keeps (hR.out.keptE L0.out b1)) (F2.out.kept cEnt_keeps (hR.out.keptE L0.out b1)) (F3.out.kept cVals_keeps (hR.out.keptE L0.out b1)) hkT).mono ?_
  rintro z g9 ⟨⟨t, rfl, hT⟩, hb⟩
  have hO := hT.own
  have HT : Hid (t.xs.length = T.cells.length ∧ ∀ L ∈ T.cells, okVs L) := ⟨hT.len, hT.ok⟩
  clear hT; have hR : Hid (Rs X X.heap.size g9 ([rI (.slice sg W.gens.length cg) W.gens, rI (.slice sf W.free.length cf) W.free, rV (.slice sr W.res.length cr) W.res, rB kz 40 [.slice sg W.gens.length cg, .slice sf W.free.length cf, .slice sv k cv, .slice sr W.res.length cr], (⟨119, 3, .slice sv k cv, k, ts.flatMap tc⟩ : OR)] ++ ((rTab t T) ++ (rTabs ts (W.tabs.take k))))) := Hid.mk' (hR.out.insM [rI (.slice sg W.gens.length cg) W.gens, rI (.slice sf W.free.length cf) W.free, rV (.slice sr W.res.length cr) W.res, rB kz 40 [.slice sg W.gens.length cg, .slice sf W.free.length cf, .slice sv k cv, .slice sr W.res.length cr], (⟨119, 3, .slice sv k cv, k, ts.flatMap tc⟩ : OR)] (rTab t T) (rTabs ts (W.tabs.take k)) hb hO)
  clear hb hO; refine hK.out _ _ ?_ (fun hHeld => ?_)
  ·
   exact ⟨hR.out.blk K0.out b0, hR.out.blk K1.out b1, ((hR.out.keptE (C := 0) L0.out b1).cell (Nat.zero_le _) hp).trans EC.out.1, ((hR.out.keptE (C := 0) L0.out b1).cell (Nat.zero_le _) hp).trans EC.out.2.1, ((hR.out.keptE (C := 0) L0.out b1).cell (Nat.zero_le _) hp).trans EC.out.2.2⟩
  clear hK K; exact dag_to hG (st6 t _ HT hR hHeld) rfl (by kernel_rfl) (by rw [ha] <;> rfl)
 have hk' : k = W.tabs.length := by omega
 subst hk'
 have KZ := hR.out.box [rI (.slice sg W.gens.length cg) W.gens, rI (.slice sf W.free.length cf) W.free, rV (.slice sr W.res.length cr) W.res] ([(⟨119, 3, .slice sv W.tabs.length cv, W.tabs.length, ts.flatMap tc⟩ : OR)] ++ rTabs ts (W.tabs.take W.tabs.length))
 obtain ⟨z0, z1, z2, z3, z4⟩ := KZ.four'
 obtain ⟨y0, y1, y2, y3, y4⟩ := (hR.out.blk K1.out b1).four'
 have lw : Below w.heap.size w wr := bl_trans' L0.out hR.out
 have okc := Hid.mk' (tabs_okc HW.out.t)
 have okr := Hid.mk' (els_okVs HW.out.r)
 have hle : Hid (∀ (j : Nat) u U, ts[j]? = some u → W.tabs[j]? = some U → u.xs.length = U.cells.length) := by have := hle.out; rw [List.take_length] at this; exact this
 go_wp2_with fail; refine bodyPost_ret (v := .agg #[.slice sg W.gens.length cg, .slice sf W.free.length cf, .slice sv W.tabs.length cv, .slice sr W.res.length cr]) (by simp [results, Tryz.results26, go_sem, y0, y1, y2, y3]) rfl ⟨⟨⟨.slice sg W.gens.length cg, .slice sf W.free.length cf, .slice sv W.tabs.length cv, .slice sr W.res.length cr, ts⟩, rfl, ?_, hts.out, hle.out, okc.out, okr.out⟩, ?_⟩
 ·
  have h := (Rs.less [rI (.slice sg W.gens.length cg) W.gens, rI (.slice sf W.free.length cf) W.free, rV (.slice sr W.res.length cr) W.res] ([(⟨119, 3, .slice sv W.tabs.length cv, W.tabs.length, ts.flatMap tc⟩ : OR)] ++ rTabs ts (W.tabs.take W.tabs.length)) hR.out).o
  have h := (((h.putC (p := ⟨w.heap.size + 1, 0, none⟩) b1 (.slice sg W.gens.length cg)).putC (p := ⟨w.heap.size + 1, 1, none⟩) b1 (.slice sf W.free.length cf)).putC (p := ⟨w.heap.size + 1, 2, none⟩) b1 (.slice sv W.tabs.length cv)).putC (p := ⟨w.heap.size + 1, 3, none⟩) b1 (.slice sr W.res.length cr)
  have h := h.mono (B' := w.heap.size) (by omega)
  rw [List.take_length] at h
  unfold rW rT
  dsimp only
  rw [hts.out]
  exact h.perm (((List.Perm.swap _ _ _).cons _).cons _)
 exact (((lw.setCell (by simp <;> omega) _).setCell (by simp <;> omega) _).setCell (by simp <;> omega) _).setCell (by simp <;> omega) _
end Go.Proofs.YtbgeobpdojmdaaaGreat
