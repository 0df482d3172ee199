import Derived.Test.YtkkofminndboaaaGreatDoorSb10
namespace Go.Proofs.YtkkofminndboaaaGreatDoor
open Go.RowKit
set_option linter.unusedVariables false
set_option linter.unusedSimpArgs false
set_option maxRecDepth 100000
theorem wpList_appI {X w : World} {B : Nat} {ops : Array Oper} {rest : List Oper} {o : Oper} {a : Act} {Qx : Exit → Act → World → Prop} (P S : List OR) {r : OR} (hR : Rs X B w (P ++ r :: S)) (hg : o.guard = none) (s x : Operand) (t : TypeId) {i : TypeInfo} {z : Value} (bytes : Nat) (ho : o.op = .call { callee := .builtin .append, args := #[s, x], argTypes := #[t, t] })
  (hu : Tryz.prog.underlying t = some (.slice r.T)) (hi : Tryz.prog.info? r.T = some i) (hz : i.zero = some z) (hsize : i.size = r.k) (hby : i.bytes = bytes) (hzs : z.cells.size = r.k) (hsz : 0 < r.k) (hs : a.eval s = r.v)
  (xs : Option Addr) (m d : Nat) (news : List Value) (hx : a.eval x = .slice xs m d) (hl : news.length = m * r.k) (hnews : m = 0 ∨ ∃ ad, xs = some ad ∧ ∀ j u, news[j]? = some u → w.cell? (ad.add j) = some u) (h1 : ∀ u ∈ news, u.oneCell' = true)
  (h63 : r.n + m ≤ maxLen) (hbytes : (r.n + m) * bytes ≤ 140737488355328) (N : Nat) (hN : r.n + m = N) (f : Value → OR) (hf : ∀ v, f v = ⟨r.T, r.k, v, N, r.cs ++ news⟩)
  (hK : ∀ s' c' w', Rs X B w' (P ++ f (.slice s' N c') :: S) → wpList Tryz.prog ops Qx rest (a.put o.dst (.slice s' N c')) w') :
  wpList Tryz.prog ops Qx (o :: rest) a w := by
 refine wpList_plain hg fun K hK' => ?_
 have := step_app (ops := ops) (a := a) (K := K) (Q := Qx) (E := True) P S hR hg (d0 := o.dst) rfl s x t bytes ho hu hi hz hsize hby hzs hsz hs xs m d news hx hl hnews h1 h63 hbytes N hN f hf (fun s' c' w' h => hK' _ _ (hK s' c' w' h))
 rw [if_pos (by simp [Region.wanted, hg])] at this
 exact this
theorem Tryz.infoI8 : (Tryz.prog.info? 3).map (fun i => (i.zero, i.size, i.bytes)) = some (some (.int .i64 0), 1, 8) := by kernel_rfl
theorem news1 {w : World} {k : Nat} {u : Value} {t : TypeId} (h : Blk w k #[u] t) : ∀ (j : Nat) v, [u][j]? = some v → w.cell? ((⟨k, 0, none⟩ : Addr).add j) = some v := by
 intro j v hj
 match j, hj with
 | 0, hj => rw [Go.WideShapes.add_plain]; exact (h.cell 0).trans hj
def OkL (T : List Tk) (X : World) (B k g cp d : Nat) (P : List OR) (r : PRes) (e : Ending) (w' : World) : Prop :=
 match r with
 | .ok (x, j, M) => ∃ s c v Q, e = .returned (.slice s x.length c) ∧ Q.map (·.1) = M ∧ Rs X B w' (rR k g (T.length + 1) cp j d v Q (rI (.slice s x.length c) x :: P))
 | .error (c, a) => e = .panicked [{ v := .iface 51 (.agg #[.int .i64 c, .int .i64 a]), recovered := false }] ∧ Dead X B w' P
def tailI (T : List Tk) (E : Int) (kk d : Nat) (acc : List Int) (j : Nat) (N : List Nd) : PRes := if tx T j = bComma then PAR T E (.items kk d acc) (j + 1) N else .ok (acc, j, N)
theorem PAR_items {T : List Tk} {E : Int} {kk d i : Nat} {acc : List Int} {N : List Nd} (hi : i ≤ T.length) : PAR T E (.items kk d acc) i N = (PAR T E (.item kk d) i N).then fun x j M => tailI T E kk d (acc ++ [x.headD 0]) j M := by
 rw [PAR_eq (p := .items kk d acc) trivial hi]
 rfl
set_option maxHeartbeats 8000000 in
theorem itemsName_of (T : List Tk) (E : Int) (X : World) (B k g cp i : Nat) (EV : Env T E X B g) (hi : i ≤ T.length)
  (hitem : ∀ j, i ≤ j → j ≤ T.length → Says T E X B k g cp 40 75 #[.pointer (some ⟨k, 0, none⟩)] (.item 1) j)
  (d : Nat) (v : Value) (Q : List NK) (P : List OR) (w : World) (hR : Rs X B w (rR k g (T.length + 1) cp i d v Q P)) (hq : Q.length ≤ 2 * i) (hd : d ≤ 40) :
  Calls Tryz.prog 58 #[.pointer (some ⟨k, 0, none⟩), .func (.func 75) #[.pointer (some ⟨k, 0, none⟩)] #[]] w (OkL T X B k g cp d P (PAR T E (.items 1 d []) i (Q.map (·.1)))) := by
 have HI := hid hitem
 have hal := alloc_old
 have haf := alloc_oldf
 have h0 := hid hR
 clear hitem hR; have hlv := PAR_items (T := T) (E := E) (kk := 1) (d := d) (acc := []) (N := Q.map (·.1)) hi
 obtain ⟨Res, hRes⟩ : ∃ r, Hid (PAR T E (.items 1 d []) i (Q.map (·.1)) = r) := ⟨_, rfl⟩
 rw [hRes.out] at hlv ⊢
 have HLV := hid hlv
 clear hlv; go_enter Tryz.func58, Tryz.ntmps58
 go_wp2_with fail; refine (HI.out i (Nat.le_refl _) hi d v Q P _ h0.out hq hd (fun h => by omega)).mono ?_
 have hgd := PAR_good (T := T) (E := E) (p := .item 1 d) (i := i) (N := Q.map (·.1)) trivial hi
 cases hr : PAR T E (.item 1 d) i (Q.map (·.1)) with
 | error ca =>
  obtain ⟨c, a⟩ := ca
  rintro e w1 ⟨rfl, r1⟩
  have hlv := HLV.out
  rw [hr] at hlv
  have hlv : Res = .error (c, a) := hlv
  clear HLV hRes; subst hlv
  dsimp only
  exact ⟨rfl, rfl, r1⟩
 | ok y =>
  obtain ⟨x, j, M⟩ := y
  have hlt := hgd.okv hr
  have hlv := HLV.out
  rw [hr] at hlv
  rintro e w1 ⟨rfl, v1, Q1, rfl, r1⟩
  have hlv := hid (show Res = tailI T E 1 d ([] ++ [x.headD 0]) j (Q1.map (·.1)) from hlv)
  obtain ⟨a, ha⟩ : ∃ a, x.headD 0 = a := ⟨_, rfl⟩
  rw [ha] at hlv ⊢
  have h1 := hid (rR_kids r1 [a] (by simp))
  simp only [List.length_map] at hlt
  have hlo : i + 1 ≤ j := hlt.1
  have hj1 := hlt.2.1
  have hq1 : Q1.length ≤ 2 * j := by omega
  clear r1 hgd hr ha h0 hlt HLV; go_wp2_with fail; obtain ⟨iI, hiI, hzI, hsI, hbI⟩ := info_parts Tryz.infoI8
  go_loopw [5] (fun kv wr => ∃ (acc : List Int) (q : Nat) (v2 : Value) (Q2 : List NK) (s : Option Addr) (c : Nat), kv = .slice s acc.length c ∧ i < q ∧ q ≤ T.length ∧ acc.length ≤ q ∧ Q2.length ≤ 2 * q ∧ Hid (Res = tailI T E 1 d acc q (Q2.map (·.1))) ∧ Hid (Rs X B wr (rR k g (T.length + 1) cp q d v2 Q2 (rI (.slice s acc.length c) acc :: P)))) (fun _ wr => T.length - idx wr k)
  case atStart => exact ⟨[a], j, v1, Q1, _, _, rfl, by omega, hj1, by simp; omega, hq1, hlv, h1⟩
  obtain ⟨acc, q, v2, Q2, s, c, rfl, hiq, hqT, hac, hq2, HR, h2⟩ := hrel
  clear h1 hlv hj1 hq1; have HIX := hid (idx_rs h2.out)
  by_cases hs : tx T q = bComma
  ·
   have hqlt : q < T.length := tx_lt hs (by decide)
   have hR2 := HR.out
   unfold tailI at hR2
   rw [if_pos hs, PAR_items (T := T) (E := E) hqlt] at hR2
   have HR2 := hid hR2
   have HS := hid hs
   clear hR2 HR hs; go_wp2_with fail; refine (skip_yes T E k g cp q d v2 Q2 _ X B ⟨#[44]⟩ _ h2.out EV.t EV.g hqT EV.l HS.out).mono ?_
   rintro e w3 ⟨rfl, r3⟩
   have h3 := hid r3
   clear h2 r3; have hgd := PAR_good (T := T) (E := E) (p := .item 1 d) (i := q + 1) (N := Q2.map (·.1)) trivial hqlt
   go_wp2_with fail; refine (HI.out (q + 1) (by omega) hqlt d v2 Q2 _ _ h3.out (by omega) hd (fun h => by omega)).mono ?_
   cases hr : PAR T E (.item 1 d) (q + 1) (Q2.map (·.1)) with
   | error ca =>
    obtain ⟨c1, a1⟩ := ca
    rintro e w4 ⟨rfl, r4⟩
    have hlv := HR2.out
    rw [hr] at hlv
    have hlv : Res = .error (c1, a1) := hlv
    clear HR2 hRes; subst hlv
    dsimp +zetaDelta only [Exit.then, Exit.inBlock]
    exact ⟨rfl, rfl, r4.one⟩
   | ok y =>
    obtain ⟨y, j2, M⟩ := y
    have hlt := hgd.okv hr
    have hlv := HR2.out
    rw [hr] at hlv
    rintro e w4 ⟨rfl, v4, Q4, rfl, r4⟩
    have hlv := hid (show Res = tailI T E 1 d (acc ++ [y.headD 0]) j2 (Q4.map (·.1)) from hlv)
    obtain ⟨b, hb⟩ : ∃ b, y.headD 0 = b := ⟨_, rfl⟩
    rw [hb] at hlv ⊢
    have h4 := hid (rR_box r4 [.int .i64 b] 3)
    simp only [List.length_map] at hlt
    have hlo2 : q + 1 + 1 ≤ j2 := hlt.1
    have hj2 := hlt.2.1
    have hq4 : Q4.length ≤ 2 * j2 := by omega
    have hl4 := EV.l
    clear r4 hgd hr hb h3 hlt HR2; have h5 : Hid (Rs X B (w4.alloc (.cells #[.int .i64 b] 3)) (((rB k 55 [.slice (some ⟨g, 0, none⟩) (T.length + 1) cp, .int .i64 j2, .int .i64 d, v4] :: rN v4 Q4 :: rK Q4) ++ [rB w4.heap.size 3 [.int .i64 b]]) ++ rI (.slice s acc.length c) acc :: P)) := by
     show Rs _ _ _ _
     rw [List.append_assoc]
     exact h4.out
    have hcell := (rR_see h4.out).cell 0
    clear h4; go_wp2_with (at_builtin; refine wpList_appI _ P h5.out rfl (.tmp 11) (.tmp 14) 25 8 rfl Tryz.underlying25 hiI hzI hsI hbI rfl Nat.zero_lt_one rfl (some ⟨w4.heap.size, 0, none⟩) 1 1 [.int .i64 b] rfl rfl (Or.inr ⟨_, rfl, news1 (rR_see (by rw [List.append_assoc] at h5; exact h5.out))⟩) (by intro u hu; simp only [List.mem_singleton] at hu; subst hu; rfl) (by show acc.length + 1 ≤ _; unfold maxLen; omega) (by show (acc.length + 1) * 8 ≤ _; omega) (acc.length + 1) rfl (fun v => ⟨3, 1, v, acc.length + 1, acc.map (Value.int .i64) ++ [.int .i64 b]⟩) (fun _ => rfl) ?_)
    intro s' c' w' h'
    have e1 : rI (.slice s' (acc ++ [b]).length c') (acc ++ [b]) = (⟨3, 1, .slice s' (acc.length + 1) c', acc.length + 1, acc.map (Value.int .i64) ++ [.int .i64 b]⟩ : OR) := by
     simp [rI]
    have h7 : Rs X B w' (rR k g (T.length + 1) cp j2 d v4 Q4 (rB w4.heap.size 3 [.int .i64 b] :: rI (.slice s' (acc ++ [b]).length c') (acc ++ [b]) :: P)) := by
     unfold rR
     rw [e1]
     exact h'
    have h8 := hid (rR_less h7)
    have hidx := idx_rs h7
    clear h7 h' h5 hcell e1; go_wp2_with fail; go_roundw
    case rel => exact ⟨acc ++ [b], j2, v4, Q4, s', c', by simp, by omega, hj2, by simp; omega, hq4, hlv, h8⟩
    rw [hidx, HIX.out]
    omega
  have hR2 := HR.out
  unfold tailI at hR2
  rw [if_neg hs] at hR2
  have HS := hid hs
  clear HR hs; subst hR2
  go_wp2_with fail; refine (skip_no T E k g cp q d v2 Q2 _ X B ⟨#[44]⟩ _ h2.out EV.t EV.g hqT EV.l HS.out).mono ?_
  rintro e w3 ⟨rfl, r3⟩
  go_wp2_with fail; go_ret; exact ⟨s, c, v2, Q2, rfl, rfl, r3⟩
set_option maxHeartbeats 8000000 in
theorem itemsExpr_of (T : List Tk) (E : Int) (X : World) (B k g cp i : Nat) (EV : Env T E X B g) (hi : i ≤ T.length)
  (hitem : ∀ j, i ≤ j → j ≤ T.length → Says T E X B k g cp 40 62 #[.pointer (some ⟨k, 0, none⟩)] (.item 0) j)
  (d : Nat) (v : Value) (Q : List NK) (P : List OR) (w : World) (hR : Rs X B w (rR k g (T.length + 1) cp i d v Q P)) (hq : Q.length ≤ 2 * i) (hd : d ≤ 40) :
  Calls Tryz.prog 58 #[.pointer (some ⟨k, 0, none⟩), .func (.func 62) #[.pointer (some ⟨k, 0, none⟩)] #[]] w (OkL T X B k g cp d P (PAR T E (.items 0 d []) i (Q.map (·.1)))) := by
 have HI := hid hitem
 have hal := alloc_old
 have haf := alloc_oldf
 have h0 := hid hR
 clear hitem hR; have hlv := PAR_items (T := T) (E := E) (kk := 0) (d := d) (acc := []) (N := Q.map (·.1)) hi
 obtain ⟨Res, hRes⟩ : ∃ r, Hid (PAR T E (.items 0 d []) i (Q.map (·.1)) = r) := ⟨_, rfl⟩
 rw [hRes.out] at hlv ⊢
 have HLV := hid hlv
 clear hlv; go_enter Tryz.func58, Tryz.ntmps58
 go_wp2_with fail; refine (HI.out i (Nat.le_refl _) hi d v Q P _ h0.out hq hd (fun h => by omega)).mono ?_
 have hgd := PAR_good (T := T) (E := E) (p := .item 0 d) (i := i) (N := Q.map (·.1)) trivial hi
 cases hr : PAR T E (.item 0 d) i (Q.map (·.1)) with
 | error ca =>
  obtain ⟨c, a⟩ := ca
  rintro e w1 ⟨rfl, r1⟩
  have hlv := HLV.out
  rw [hr] at hlv
  have hlv : Res = .error (c, a) := hlv
  clear HLV hRes; subst hlv
  dsimp only
  exact ⟨rfl, rfl, r1⟩
 | ok y =>
  obtain ⟨x, j, M⟩ := y
  have hlt := hgd.okv hr
  have hlv := HLV.out
  rw [hr] at hlv
  rintro e w1 ⟨rfl, v1, Q1, rfl, r1⟩
  have hlv := hid (show Res = tailI T E 0 d ([] ++ [x.headD 0]) j (Q1.map (·.1)) from hlv)
  obtain ⟨a, ha⟩ : ∃ a, x.headD 0 = a := ⟨_, rfl⟩
  rw [ha] at hlv ⊢
  have h1 := hid (rR_kids r1 [a] (by simp))
  simp only [List.length_map] at hlt
  have hlo : i + 1 ≤ j := hlt.1
  have hj1 := hlt.2.1
  have hq1 : Q1.length ≤ 2 * j := by omega
  clear r1 hgd hr ha h0 hlt HLV; go_wp2_with fail; obtain ⟨iI, hiI, hzI, hsI, hbI⟩ := info_parts Tryz.infoI8
  go_loopw [5] (fun kv wr => ∃ (acc : List Int) (q : Nat) (v2 : Value) (Q2 : List NK) (s : Option Addr) (c : Nat), kv = .slice s acc.length c ∧ i < q ∧ q ≤ T.length ∧ acc.length ≤ q ∧ Q2.length ≤ 2 * q ∧ Hid (Res = tailI T E 0 d acc q (Q2.map (·.1))) ∧ Hid (Rs X B wr (rR k g (T.length + 1) cp q d v2 Q2 (rI (.slice s acc.length c) acc :: P)))) (fun _ wr => T.length - idx wr k)
  case atStart => exact ⟨[a], j, v1, Q1, _, _, rfl, by omega, hj1, by simp; omega, hq1, hlv, h1⟩
  obtain ⟨acc, q, v2, Q2, s, c, rfl, hiq, hqT, hac, hq2, HR, h2⟩ := hrel
  clear h1 hlv hj1 hq1; have HIX := hid (idx_rs h2.out)
  by_cases hs : tx T q = bComma
  ·
   have hqlt : q < T.length := tx_lt hs (by decide)
   have hR2 := HR.out
   unfold tailI at hR2
   rw [if_pos hs, PAR_items (T := T) (E := E) hqlt] at hR2
   have HR2 := hid hR2
   have HS := hid hs
   clear hR2 HR hs; go_wp2_with fail; refine (skip_yes T E k g cp q d v2 Q2 _ X B ⟨#[44]⟩ _ h2.out EV.t EV.g hqT EV.l HS.out).mono ?_
   rintro e w3 ⟨rfl, r3⟩
   have h3 := hid r3
   clear h2 r3; have hgd := PAR_good (T := T) (E := E) (p := .item 0 d) (i := q + 1) (N := Q2.map (·.1)) trivial hqlt
   go_wp2_with fail; refine (HI.out (q + 1) (by omega) hqlt d v2 Q2 _ _ h3.out (by omega) hd (fun h => by omega)).mono ?_
   cases hr : PAR T E (.item 0 d) (q + 1) (Q2.map (·.1)) with
   | error ca =>
    obtain ⟨c1, a1⟩ := ca
    rintro e w4 ⟨rfl, r4⟩
    have hlv := HR2.out
    rw [hr] at hlv
    have hlv : Res = .error (c1, a1) := hlv
    clear HR2 hRes; subst hlv
    dsimp +zetaDelta only [Exit.then, Exit.inBlock]
    exact ⟨rfl, rfl, r4.one⟩
   | ok y =>
    obtain ⟨y, j2, M⟩ := y
    have hlt := hgd.okv hr
    have hlv := HR2.out
    rw [hr] at hlv
    rintro e w4 ⟨rfl, v4, Q4, rfl, r4⟩
    have hlv := hid (show Res = tailI T E 0 d (acc ++ [y.headD 0]) j2 (Q4.map (·.1)) from hlv)
    obtain ⟨b, hb⟩ : ∃ b, y.headD 0 = b := ⟨_, rfl⟩
    rw [hb] at hlv ⊢
    have h4 := hid (rR_box r4 [.int .i64 b] 3)
    simp only [List.length_map] at hlt
    have hlo2 : q + 1 + 1 ≤ j2 := hlt.1
    have hj2 := hlt.2.1
    have hq4 : Q4.length ≤ 2 * j2 := by omega
    have hl4 := EV.l
    clear r4 hgd hr hb h3 hlt HR2; have h5 : Hid (Rs X B (w4.alloc (.cells #[.int .i64 b] 3)) (((rB k 55 [.slice (some ⟨g, 0, none⟩) (T.length + 1) cp, .int .i64 j2, .int .i64 d, v4] :: rN v4 Q4 :: rK Q4) ++ [rB w4.heap.size 3 [.int .i64 b]]) ++ rI (.slice s acc.length c) acc :: P)) := by
     show Rs _ _ _ _
     rw [List.append_assoc]
     exact h4.out
    have hcell := (rR_see h4.out).cell 0
    clear h4; go_wp2_with (at_builtin; refine wpList_appI _ P h5.out rfl (.tmp 11) (.tmp 14) 25 8 rfl Tryz.underlying25 hiI hzI hsI hbI rfl Nat.zero_lt_one rfl (some ⟨w4.heap.size, 0, none⟩) 1 1 [.int .i64 b] rfl rfl (Or.inr ⟨_, rfl, news1 (rR_see (by rw [List.append_assoc] at h5; exact h5.out))⟩) (by intro u hu; simp only [List.mem_singleton] at hu; subst hu; rfl) (by show acc.length + 1 ≤ _; unfold maxLen; omega) (by show (acc.length + 1) * 8 ≤ _; omega) (acc.length + 1) rfl (fun v => ⟨3, 1, v, acc.length + 1, acc.map (Value.int .i64) ++ [.int .i64 b]⟩) (fun _ => rfl) ?_)
    intro s' c' w' h'
    have e1 : rI (.slice s' (acc ++ [b]).length c') (acc ++ [b]) = (⟨3, 1, .slice s' (acc.length + 1) c', acc.length + 1, acc.map (Value.int .i64) ++ [.int .i64 b]⟩ : OR) := by
     simp [rI]
    have h7 : Rs X B w' (rR k g (T.length + 1) cp j2 d v4 Q4 (rB w4.heap.size 3 [.int .i64 b] :: rI (.slice s' (acc ++ [b]).length c') (acc ++ [b]) :: P)) := by
     unfold rR
     rw [e1]
     exact h'
    have h8 := hid (rR_less h7)
    have hidx := idx_rs h7
    clear h7 h' h5 hcell e1; go_wp2_with fail; go_roundw
    case rel => exact ⟨acc ++ [b], j2, v4, Q4, s', c', by simp, by omega, hj2, by simp; omega, hq4, hlv, h8⟩
    rw [hidx, HIX.out]
    omega
  have hR2 := HR.out
  unfold tailI at hR2
  rw [if_neg hs] at hR2
  have HS := hid hs
  clear HR hs; subst hR2
  go_wp2_with fail; refine (skip_no T E k g cp q d v2 Q2 _ X B ⟨#[44]⟩ _ h2.out EV.t EV.g hqT EV.l HS.out).mono ?_
  rintro e w3 ⟨rfl, r3⟩
  go_wp2_with fail; go_ret; exact ⟨s, c, v2, Q2, rfl, rfl, r3⟩
set_option maxHeartbeats 8000000 in
theorem itemsCell_of (T : List Tk) (E : Int) (X : World) (B k g cp i : Nat) (EV : Env T E X B g) (hi : i ≤ T.length)
  (hitem : ∀ j, i ≤ j → j ≤ T.length → Says T E X B k g cp 40 66 #[.pointer (some ⟨k, 0, none⟩)] (.item 2) j)
  (d : Nat) (v : Value) (Q : List NK) (P : List OR) (w : World) (hR : Rs X B w (rR k g (T.length + 1) cp i d v Q P)) (hq : Q.length ≤ 2 * i) (hd : d ≤ 40) :
  Calls Tryz.prog 58 #[.pointer (some ⟨k, 0, none⟩), .func (.func 66) #[.pointer (some ⟨k, 0, none⟩)] #[]] w (OkL T X B k g cp d P (PAR T E (.items 2 d []) i (Q.map (·.1)))) := by
 have HI := hid hitem
 have hal := alloc_old
 have haf := alloc_oldf
 have h0 := hid hR
 clear hitem hR; have hlv := PAR_items (T := T) (E := E) (kk := 2) (d := d) (acc := []) (N := Q.map (·.1)) hi
 obtain ⟨Res, hRes⟩ : ∃ r, Hid (PAR T E (.items 2 d []) i (Q.map (·.1)) = r) := ⟨_, rfl⟩
 rw [hRes.out] at hlv ⊢
 have HLV := hid hlv
 clear hlv; go_enter Tryz.func58, Tryz.ntmps58
 go_wp2_with fail; refine (HI.out i (Nat.le_refl _) hi d v Q P _ h0.out hq hd (fun h => by omega)).mono ?_
 have hgd := PAR_good (T := T) (E := E) (p := .item 2 d) (i := i) (N := Q.map (·.1)) trivial hi
 cases hr : PAR T E (.item 2 d) i (Q.map (·.1)) with
 | error ca =>
  obtain ⟨c, a⟩ := ca
  rintro e w1 ⟨rfl, r1⟩
  have hlv := HLV.out
  rw [hr] at hlv
  have hlv : Res = .error (c, a) := hlv
  clear HLV hRes; subst hlv
  dsimp only
  exact ⟨rfl, rfl, r1⟩
 | ok y =>
  obtain ⟨x, j, M⟩ := y
  have hlt := hgd.okv hr
  have hlv := HLV.out
  rw [hr] at hlv
  rintro e w1 ⟨rfl, v1, Q1, rfl, r1⟩
  have hlv := hid (show Res = tailI T E 2 d ([] ++ [x.headD 0]) j (Q1.map (·.1)) from hlv)
  obtain ⟨a, ha⟩ : ∃ a, x.headD 0 = a := ⟨_, rfl⟩
  rw [ha] at hlv ⊢
  have h1 := hid (rR_kids r1 [a] (by simp))
  simp only [List.length_map] at hlt
  have hlo : i + 1 ≤ j := hlt.1
  have hj1 := hlt.2.1
  have hq1 : Q1.length ≤ 2 * j := by omega
  clear r1 hgd hr ha h0 hlt HLV; go_wp2_with fail; obtain ⟨iI, hiI, hzI, hsI, hbI⟩ := info_parts Tryz.infoI8
  go_loopw [5] (fun kv wr => ∃ (acc : List Int) (q : Nat) (v2 : Value) (Q2 : List NK) (s : Option Addr) (c : Nat), kv = .slice s acc.length c ∧ i < q ∧ q ≤ T.length ∧ acc.length ≤ q ∧ Q2.length ≤ 2 * q ∧ Hid (Res = tailI T E 2 d acc q (Q2.map (·.1))) ∧ Hid (Rs X B wr (rR k g (T.length + 1) cp q d v2 Q2 (rI (.slice s acc.length c) acc :: P)))) (fun _ wr => T.length - idx wr k)
  case atStart => exact ⟨[a], j, v1, Q1, _, _, rfl, by omega, hj1, by simp; omega, hq1, hlv, h1⟩
  obtain ⟨acc, q, v2, Q2, s, c, rfl, hiq, hqT, hac, hq2, HR, h2⟩ := hrel
  clear h1 hlv hj1 hq1; have HIX := hid (idx_rs h2.out)
  by_cases hs : tx T q = bComma
  ·
   have hqlt : q < T.length := tx_lt hs (by decide)
   have hR2 := HR.out
   unfold tailI at hR2
   rw [if_pos hs, PAR_items (T := T) (E := E) hqlt] at hR2
   have HR2 := hid hR2
   have HS := hid hs
   clear hR2 HR hs; go_wp2_with fail; refine (skip_yes T E k g cp q d v2 Q2 _ X B ⟨#[44]⟩ _ h2.out EV.t EV.g hqT EV.l HS.out).mono ?_
   rintro e w3 ⟨rfl, r3⟩
   have h3 := hid r3
   clear h2 r3; have hgd := PAR_good (T := T) (E := E) (p := .item 2 d) (i := q + 1) (N := Q2.map (·.1)) trivial hqlt
   go_wp2_with fail; refine (HI.out (q + 1) (by omega) hqlt d v2 Q2 _ _ h3.out (by omega) hd (fun h => by omega)).mono ?_
   cases hr : PAR T E (.item 2 d) (q + 1) (Q2.map (·.1)) with
   | error ca =>
    obtain ⟨c1, a1⟩ := ca
    rintro e w4 ⟨rfl, r4⟩
    have hlv := HR2.out
    rw [hr] at hlv
    have hlv : Res = .error (c1, a1) := hlv
    clear HR2 hRes; subst hlv
    dsimp +zetaDelta only [Exit.then, Exit.inBlock]
    exact ⟨rfl, rfl, r4.one⟩
   | ok y =>
    obtain ⟨y, j2, M⟩ := y
    have hlt := hgd.okv hr
    have hlv := HR2.out
    rw [hr] at hlv
    rintro e w4 ⟨rfl, v4, Q4, rfl, r4⟩
    have hlv := hid (show Res = tailI T E 2 d (acc ++ [y.headD 0]) j2 (Q4.map (·.1)) from hlv)
    obtain ⟨b, hb⟩ : ∃ b, y.headD 0 = b := ⟨_, rfl⟩
    rw [hb] at hlv ⊢
    have h4 := hid (rR_box r4 [.int .i64 b] 3)
    simp only [List.length_map] at hlt
    have hlo2 : q + 1 + 1 ≤ j2 := hlt.1
    have hj2 := hlt.2.1
    have hq4 : Q4.length ≤ 2 * j2 := by omega
    have hl4 := EV.l
    clear r4 hgd hr hb h3 hlt HR2; have h5 : Hid (Rs X B (w4.alloc (.cells #[.int .i64 b] 3)) (((rB k 55 [.slice (some ⟨g, 0, none⟩) (T.length + 1) cp, .int .i64 j2, .int .i64 d, v4] :: rN v4 Q4 :: rK Q4) ++ [rB w4.heap.size 3 [.int .i64 b]]) ++ rI (.slice s acc.length c) acc :: P)) := by
     show Rs _ _ _ _
     rw [List.append_assoc]
     exact h4.out
    have hcell := (rR_see h4.out).cell 0
    clear h4; go_wp2_with (at_builtin; refine wpList_appI _ P h5.out rfl (.tmp 11) (.tmp 14) 25 8 rfl Tryz.underlying25 hiI hzI hsI hbI rfl Nat.zero_lt_one rfl (some ⟨w4.heap.size, 0, none⟩) 1 1 [.int .i64 b] rfl rfl (Or.inr ⟨_, rfl, news1 (rR_see (by rw [List.append_assoc] at h5; exact h5.out))⟩) (by intro u hu; simp only [List.mem_singleton] at hu; subst hu; rfl) (by show acc.length + 1 ≤ _; unfold maxLen; omega) (by show (acc.length + 1) * 8 ≤ _; omega) (acc.length + 1) rfl (fun v => ⟨3, 1, v, acc.length + 1, acc.map (Value.int .i64) ++ [.int .i64 b]⟩) (fun _ => rfl) ?_)
    intro s' c' w' h'
    have e1 : rI (.slice s' (acc ++ [b]).length c') (acc ++ [b]) = (⟨3, 1, .slice s' (acc.length + 1) c', acc.length + 1, acc.map (Value.int .i64) ++ [.int .i64 b]⟩ : OR) := by
     simp [rI]
    have h7 : Rs X B w' (rR k g (T.length + 1) cp j2 d v4 Q4 (rB w4.heap.size 3 [.int .i64 b] :: rI (.slice s' (acc ++ [b]).length c') (acc ++ [b]) :: P)) := by
     unfold rR
     rw [e1]
     exact h'
    have h8 := hid (rR_less h7)
    have hidx := idx_rs h7
    clear h7 h' h5 hcell e1; go_wp2_with fail; go_roundw
    case rel => exact ⟨acc ++ [b], j2, v4, Q4, s', c', by simp, by omega, hj2, by simp; omega, hq4, hlv, h8⟩
    rw [hidx, HIX.out]
    omega
  have hR2 := HR.out
  unfold tailI at hR2
  rw [if_neg hs] at hR2
  have HS := hid hs
  clear HR hs; subst hR2
  go_wp2_with fail; refine (skip_no T E k g cp q d v2 Q2 _ X B ⟨#[44]⟩ _ h2.out EV.t EV.g hqT EV.l HS.out).mono ?_
  rintro e w3 ⟨rfl, r3⟩
  go_wp2_with fail; go_ret; exact ⟨s, c, v2, Q2, rfl, rfl, r3⟩
set_option maxHeartbeats 8000000 in
theorem itemsParam_of (T : List Tk) (E : Int) (X : World) (B k g cp i : Nat) (EV : Env T E X B g) (hi : i ≤ T.length)
  (hitem : ∀ j, i ≤ j → j ≤ T.length → Says T E X B k g cp 40 42 #[.pointer (some ⟨k, 0, none⟩)] (.item 3) j)
  (d : Nat) (v : Value) (Q : List NK) (P : List OR) (w : World) (hR : Rs X B w (rR k g (T.length + 1) cp i d v Q P)) (hq : Q.length ≤ 2 * i) (hd : d ≤ 40) :
  Calls Tryz.prog 58 #[.pointer (some ⟨k, 0, none⟩), .func (.func 42) #[.pointer (some ⟨k, 0, none⟩)] #[]] w (OkL T X B k g cp d P (PAR T E (.items 3 d []) i (Q.map (·.1)))) := by
 have HI := hid hitem
 have hal := alloc_old
 have haf := alloc_oldf
 have h0 := hid hR
 clear hitem hR; have hlv := PAR_items (T := T) (E := E) (kk := 3) (d := d) (acc := []) (N := Q.map (·.1)) hi
 obtain ⟨Res, hRes⟩ : ∃ r, Hid (PAR T E (.items 3 d []) i (Q.map (·.1)) = r) := ⟨_, rfl⟩
 rw [hRes.out] at hlv ⊢
 have HLV := hid hlv
 clear hlv; go_enter Tryz.func58, Tryz.ntmps58
 go_wp2_with fail; refine (HI.out i (Nat.le_refl _) hi d v Q P _ h0.out hq hd (fun h => by omega)).mono ?_
 have hgd := PAR_good (T := T) (E := E) (p := .item 3 d) (i := i) (N := Q.map (·.1)) trivial hi
 cases hr : PAR T E (.item 3 d) i (Q.map (·.1)) with
 | error ca =>
  obtain ⟨c, a⟩ := ca
  rintro e w1 ⟨rfl, r1⟩
  have hlv := HLV.out
  rw [hr] at hlv
  have hlv : Res = .error (c, a) := hlv
  clear HLV hRes; subst hlv
  dsimp only
  exact ⟨rfl, rfl, r1⟩
 | ok y =>
  obtain ⟨x, j, M⟩ := y
  have hlt := hgd.okv hr
  have hlv := HLV.out
  rw [hr] at hlv
  rintro e w1 ⟨rfl, v1, Q1, rfl, r1⟩
  have hlv := hid (show Res = tailI T E 3 d ([] ++ [x.headD 0]) j (Q1.map (·.1)) from hlv)
  obtain ⟨a, ha⟩ : ∃ a, x.headD 0 = a := ⟨_, rfl⟩
  rw [ha] at hlv ⊢
  have h1 := hid (rR_kids r1 [a] (by simp))
  simp only [List.length_map] at hlt
  have hlo : i + 1 ≤ j := hlt.1
  have hj1 := hlt.2.1
  have hq1 : Q1.length ≤ 2 * j := by omega
  clear r1 hgd hr ha h0 hlt HLV; go_wp2_with fail; obtain ⟨iI, hiI, hzI, hsI, hbI⟩ := info_parts Tryz.infoI8
  go_loopw [5] (fun kv wr => ∃ (acc : List Int) (q : Nat) (v2 : Value) (Q2 : List NK) (s : Option Addr) (c : Nat), kv = .slice s acc.length c ∧ i < q ∧ q ≤ T.length ∧ acc.length ≤ q ∧ Q2.length ≤ 2 * q ∧ Hid (Res = tailI T E 3 d acc q (Q2.map (·.1))) ∧ Hid (Rs X B wr (rR k g (T.length + 1) cp q d v2 Q2 (rI (.slice s acc.length c) acc :: P)))) (fun _ wr => T.length - idx wr k)
  case atStart => exact ⟨[a], j, v1, Q1, _, _, rfl, by omega, hj1, by simp; omega, hq1, hlv, h1⟩
  obtain ⟨acc, q, v2, Q2, s, c, rfl, hiq, hqT, hac, hq2, HR, h2⟩ := hrel
  clear h1 hlv hj1 hq1; have HIX := hid (idx_rs h2.out)
  by_cases hs : tx T q = bComma
  ·
   have hqlt : q < T.length := tx_lt hs (by decide)
   have hR2 := HR.out
   unfold tailI at hR2
   rw [if_pos hs, PAR_items (T := T) (E := E) hqlt] at hR2
   have HR2 := hid hR2
   have HS := hid hs
   clear hR2 HR hs; go_wp2_with fail; refine (skip_yes T E k g cp q d v2 Q2 _ X B ⟨#[44]⟩ _ h2.out EV.t EV.g hqT EV.l HS.out).mono ?_
   rintro e w3 ⟨rfl, r3⟩
   have h3 := hid r3
   clear h2 r3; have hgd := PAR_good (T := T) (E := E) (p := .item 3 d) (i := q + 1) (N := Q2.map (·.1)) trivial hqlt
   go_wp2_with fail; refine (HI.out (q + 1) (by omega) hqlt d v2 Q2 _ _ h3.out (by omega) hd (fun h => by omega)).mono ?_
   cases hr : PAR T E (.item 3 d) (q + 1) (Q2.map (·.1)) with
   | error ca =>
    obtain ⟨c1, a1⟩ := ca
    rintro e w4 ⟨rfl, r4⟩
    have hlv := HR2.out
    rw [hr] at hlv
    have hlv : Res = .error (c1, a1) := hlv
    clear HR2 hRes; subst hlv
    dsimp +zetaDelta only [Exit.then, Exit.inBlock]
    exact ⟨rfl, rfl, r4.one⟩
   | ok y =>
    obtain ⟨y, j2, M⟩ := y
    have hlt := hgd.okv hr
    have hlv := HR2.out
    rw [hr] at hlv
    rintro e w4 ⟨rfl, v4, Q4, rfl, r4⟩
    have hlv := hid (show Res = tailI T E 3 d (acc ++ [y.headD 0]) j2 (Q4.map (·.1)) from hlv)
    obtain ⟨b, hb⟩ : ∃ b, y.headD 0 = b := ⟨_, rfl⟩
    rw [hb] at hlv ⊢
    have h4 := hid (rR_box r4 [.int .i64 b] 3)
    simp only [List.length_map] at hlt
    have hlo2 : q + 1 + 1 ≤ j2 := hlt.1
    have hj2 := hlt.2.1
    have hq4 : Q4.length ≤ 2 * j2 := by omega
    have hl4 := EV.l
    clear r4 hgd hr hb h3 hlt HR2; have h5 : Hid (Rs X B (w4.alloc (.cells #[.int .i64 b] 3)) (((rB k 55 [.slice (some ⟨g, 0, none⟩) (T.length + 1) cp, .int .i64 j2, .int .i64 d, v4] :: rN v4 Q4 :: rK Q4) ++ [rB w4.heap.size 3 [.int .i64 b]]) ++ rI (.slice s acc.length c) acc :: P)) := by
     show Rs _ _ _ _
     rw [List.append_assoc]
     exact h4.out
    have hcell := (rR_see h4.out).cell 0
    clear h4; go_wp2_with (at_builtin; refine wpList_appI _ P h5.out rfl (.tmp 11) (.tmp 14) 25 8 rfl Tryz.underlying25 hiI hzI hsI hbI rfl Nat.zero_lt_one rfl (some ⟨w4.heap.size, 0, none⟩) 1 1 [.int .i64 b] rfl rfl (Or.inr ⟨_, rfl, news1 (rR_see (by rw [List.append_assoc] at h5; exact h5.out))⟩) (by intro u hu; simp only [List.mem_singleton] at hu; subst hu; rfl) (by show acc.length + 1 ≤ _; unfold maxLen; omega) (by show (acc.length + 1) * 8 ≤ _; omega) (acc.length + 1) rfl (fun v => ⟨3, 1, v, acc.length + 1, acc.map (Value.int .i64) ++ [.int .i64 b]⟩) (fun _ => rfl) ?_)
    intro s' c' w' h'
    have e1 : rI (.slice s' (acc ++ [b]).length c') (acc ++ [b]) = (⟨3, 1, .slice s' (acc.length + 1) c', acc.length + 1, acc.map (Value.int .i64) ++ [.int .i64 b]⟩ : OR) := by
     simp [rI]
    have h7 : Rs X B w' (rR k g (T.length + 1) cp j2 d v4 Q4 (rB w4.heap.size 3 [.int .i64 b] :: rI (.slice s' (acc ++ [b]).length c') (acc ++ [b]) :: P)) := by
     unfold rR
     rw [e1]
     exact h'
    have h8 := hid (rR_less h7)
    have hidx := idx_rs h7
    clear h7 h' h5 hcell e1; go_wp2_with fail; go_roundw
    case rel => exact ⟨acc ++ [b], j2, v4, Q4, s', c', by simp, by omega, hj2, by simp; omega, hq4, hlv, h8⟩
    rw [hidx, HIX.out]
    omega
  have hR2 := HR.out
  unfold tailI at hR2
  rw [if_neg hs] at hR2
  have HS := hid hs
  clear HR hs; subst hR2
  go_wp2_with fail; refine (skip_no T E k g cp q d v2 Q2 _ X B ⟨#[44]⟩ _ h2.out EV.t EV.g hqT EV.l HS.out).mono ?_
  rintro e w3 ⟨rfl, r3⟩
  go_wp2_with fail; go_ret; exact ⟨s, c, v2, Q2, rfl, rfl, r3⟩
end Go.Proofs.YtkkofminndboaaaGreatDoor
