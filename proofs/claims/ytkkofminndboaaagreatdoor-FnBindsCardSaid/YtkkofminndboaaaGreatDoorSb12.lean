import Derived.Test.YtkkofminndboaaaGreatDoorSb11
namespace Go.Proofs.YtkkofminndboaaaGreatDoor
set_option linter.unusedVariables false
set_option linter.unusedSimpArgs false
section
open Go.RowKit
set_option maxRecDepth 100000
theorem PAR_listed {T : List Tk} {E : Int} {kk d i : Nat} {N : List Nd} (hi : i ≤ T.length) : PAR T E (.listed kk d) i N = pWant T E bLp i fun j => if tx T j = bRp then .ok ([], j + 1, N) else (PAR T E (.items kk d []) j N).then fun x j N => pWant T E bRp j fun j => .ok (x, j, N) := by
 rw [PAR_eq (p := .listed kk d) trivial hi]
 rfl
theorem want_yes {T : List Tk} {E : Int} {s : ByteArray} {i : Nat} {k : Nat → PRes} (h : tx T i = s) : pWant T E s i k = k (i + 1) := by
 unfold pWant; rw [if_pos h]
theorem want_no {T : List Tk} {E : Int} {s : ByteArray} {i : Nat} {k : Nat → PRes} (h : ¬ tx T i = s) : pWant T E s i k = .error (2, ta T E i) := by
 unfold pWant; rw [if_neg h]
set_option maxHeartbeats 8000000 in
theorem listedExpr_of (T : List Tk) (E : Int) (X : World) (B k g cp i : Nat) (EV : Env T E X B g) (hi : i ≤ T.length)
  (hitem : ∀ j, i < j → j ≤ T.length → Says T E X B k g cp 40 62 #[.pointer (some ⟨k, 0, none⟩)] (.item 0) j)
  (d : Nat) (v : Value) (Q : List NK) (P : List OR) (w : World) (hR : Rs X B w (rR k g (T.length + 1) cp i d v Q P)) (hq : Q.length ≤ 2 * i) (hd : d ≤ 40) :
  Calls Tryz.prog 41 #[.pointer (some ⟨k, 0, none⟩), .func (.func 62) #[.pointer (some ⟨k, 0, none⟩)] #[]] w (OkL T X B k g cp d P (PAR T E (.listed 0 d) i (Q.map (·.1)))) := by
 have HI := hid hitem
 have hal := alloc_old
 have haf := alloc_oldf
 have h0 := hid hR
 clear hitem hR; rw [PAR_listed hi]
 by_cases h1 : tx T i = bLp
 ·
  rw [want_yes h1]
  have hlt : i < T.length := tx_lt h1 (by decide)
  have H1 := hid h1
  clear h1; by_cases h2 : tx T (i + 1) = bRp
  ·
   rw [if_pos h2]
   have H2 := hid h2
   clear h2; go_enter Tryz.func41, Tryz.ntmps41
   go_wp2_with fail; refine (want_ok T E k g cp i d v Q P X B ⟨#[40]⟩ _ h0.out EV.t EV.g hi EV.l H1.out).mono ?_
   rintro e w1 ⟨rfl, r1⟩
   have h1 := hid r1
   clear r1 h0; go_wp2_with fail; refine (skip_yes T E k g cp (i + 1) d v Q P X B ⟨#[41]⟩ _ h1.out EV.t EV.g hlt EV.l H2.out).mono ?_
   rintro e w2 ⟨rfl, r2⟩
   go_wp2_with fail; go_ret; exact ⟨none, 0, v, Q, rfl, rfl, rR_none r2⟩
  rw [if_neg h2]
  have H2 := hid h2
  have hgd := PAR_good (T := T) (E := E) (p := .items 0 d []) (i := i + 1) (N := Q.map (·.1)) trivial hlt
  obtain ⟨Res, hRes⟩ : ∃ r, Hid (PAR T E (.items 0 d []) (i + 1) (Q.map (·.1)) = r) := ⟨_, rfl⟩
  rw [hRes.out] at hgd ⊢
  have HG := hid hgd
  clear h2 hgd; have HIT := hid (itemsExpr_of T E X B k g cp (i + 1) EV hlt (fun j h1 h2 => HI.out j (by omega) h2) d v Q P)
  clear HI; cases Res with
  | error ca =>
   obtain ⟨c, a⟩ := ca
   go_enter Tryz.func41, Tryz.ntmps41
   go_wp2_with fail; refine (want_ok T E k g cp i d v Q P X B ⟨#[40]⟩ _ h0.out EV.t EV.g hi EV.l H1.out).mono ?_
   rintro e w1 ⟨rfl, r1⟩
   have h1 := hid r1
   clear r1 h0; go_wp2_with fail; refine (skip_no T E k g cp (i + 1) d v Q P X B ⟨#[41]⟩ _ h1.out EV.t EV.g hlt EV.l H2.out).mono ?_
   rintro e w2 ⟨rfl, r2⟩
   have h2 := hid r2
   clear r2 h1; go_wp2_with fail; refine (HIT.out _ h2.out (by omega) hd).mono ?_
   rw [hRes.out]
   rintro e w3 ⟨rfl, r3⟩
   dsimp only
   exact ⟨rfl, rfl, r3⟩
  | ok y =>
   obtain ⟨y, j, M⟩ := y
   have hlo := HG.out.okv rfl
   rw [then_ok]
   by_cases h3 : tx T j = bRp
   ·
    rw [want_yes h3]
    have H3 := hid h3
    clear h3 HG; go_enter Tryz.func41, Tryz.ntmps41
    go_wp2_with fail; refine (want_ok T E k g cp i d v Q P X B ⟨#[40]⟩ _ h0.out EV.t EV.g hi EV.l H1.out).mono ?_
    rintro e w1 ⟨rfl, r1⟩
    have h1 := hid r1
    clear r1 h0; go_wp2_with fail; refine (skip_no T E k g cp (i + 1) d v Q P X B ⟨#[41]⟩ _ h1.out EV.t EV.g hlt EV.l H2.out).mono ?_
    rintro e w2 ⟨rfl, r2⟩
    have h2 := hid r2
    clear r2 h1; go_wp2_with fail; refine (HIT.out _ h2.out (by omega) hd).mono ?_
    rw [hRes.out]
    rintro e w3 ⟨s, c, v3, Q3, rfl, hM, r3⟩
    have h3 := hid r3
    have HM := hid hM
    clear r3 h2 hM; go_wp2_with fail; refine (want_ok T E k g cp j d v3 Q3 _ X B ⟨#[41]⟩ _ h3.out EV.t EV.g hlo.2.1 EV.l H3.out).mono ?_
    rintro e w4 ⟨rfl, r4⟩
    go_wp2_with fail; go_ret; exact ⟨s, c, v3, Q3, rfl, HM.out, r4⟩
   rw [want_no h3]
   have H3 := hid h3
   clear h3 HG; go_enter Tryz.func41, Tryz.ntmps41
   go_wp2_with fail; refine (want_ok T E k g cp i d v Q P X B ⟨#[40]⟩ _ h0.out EV.t EV.g hi EV.l H1.out).mono ?_
   rintro e w1 ⟨rfl, r1⟩
   have h1 := hid r1
   clear r1 h0; go_wp2_with fail; refine (skip_no T E k g cp (i + 1) d v Q P X B ⟨#[41]⟩ _ h1.out EV.t EV.g hlt EV.l H2.out).mono ?_
   rintro e w2 ⟨rfl, r2⟩
   have h2 := hid r2
   clear r2 h1; go_wp2_with fail; refine (HIT.out _ h2.out (by omega) hd).mono ?_
   rw [hRes.out]
   rintro e w3 ⟨s, c, v3, Q3, rfl, hM, r3⟩
   have h3 := hid r3
   clear r3 h2 hM; go_wp2_with fail; refine (want_bad T E k g cp j d v3 Q3 _ X B ⟨#[41]⟩ _ h3.out EV.t EV.g hlo.2.1 EV.l H3.out).mono ?_
   rintro e w4 ⟨rfl, r4⟩
   dsimp only
   exact ⟨rfl, rfl, r4.one⟩
 rw [want_no h1]
 have H1 := hid h1
 clear h1; go_enter Tryz.func41, Tryz.ntmps41
 go_wp2_with fail; refine (want_bad T E k g cp i d v Q P X B ⟨#[40]⟩ _ h0.out EV.t EV.g hi EV.l H1.out).mono ?_
 rintro e w1 ⟨rfl, r1⟩
 dsimp only
 exact ⟨rfl, rfl, r1⟩
set_option maxHeartbeats 8000000 in
theorem listedCell_of (T : List Tk) (E : Int) (X : World) (B k g cp i : Nat) (EV : Env T E X B g) (hi : i ≤ T.length)
  (hitem : ∀ j, i < j → j ≤ T.length → Says T E X B k g cp 40 66 #[.pointer (some ⟨k, 0, none⟩)] (.item 2) j)
  (d : Nat) (v : Value) (Q : List NK) (P : List OR) (w : World) (hR : Rs X B w (rR k g (T.length + 1) cp i d v Q P)) (hq : Q.length ≤ 2 * i) (hd : d ≤ 40) :
  Calls Tryz.prog 41 #[.pointer (some ⟨k, 0, none⟩), .func (.func 66) #[.pointer (some ⟨k, 0, none⟩)] #[]] w (OkL T X B k g cp d P (PAR T E (.listed 2 d) i (Q.map (·.1)))) := by
 have HI := hid hitem
 have hal := alloc_old
 have haf := alloc_oldf
 have h0 := hid hR
 clear hitem hR; rw [PAR_listed hi]
 by_cases h1 : tx T i = bLp
 ·
  rw [want_yes h1]
  have hlt : i < T.length := tx_lt h1 (by decide)
  have H1 := hid h1
  clear h1; by_cases h2 : tx T (i + 1) = bRp
  ·
   rw [if_pos h2]
   have H2 := hid h2
   clear h2; go_enter Tryz.func41, Tryz.ntmps41
   go_wp2_with fail; refine (want_ok T E k g cp i d v Q P X B ⟨#[40]⟩ _ h0.out EV.t EV.g hi EV.l H1.out).mono ?_
   rintro e w1 ⟨rfl, r1⟩
   have h1 := hid r1
   clear r1 h0; go_wp2_with fail; refine (skip_yes T E k g cp (i + 1) d v Q P X B ⟨#[41]⟩ _ h1.out EV.t EV.g hlt EV.l H2.out).mono ?_
   rintro e w2 ⟨rfl, r2⟩
   go_wp2_with fail; go_ret; exact ⟨none, 0, v, Q, rfl, rfl, rR_none r2⟩
  rw [if_neg h2]
  have H2 := hid h2
  have hgd := PAR_good (T := T) (E := E) (p := .items 2 d []) (i := i + 1) (N := Q.map (·.1)) trivial hlt
  obtain ⟨Res, hRes⟩ : ∃ r, Hid (PAR T E (.items 2 d []) (i + 1) (Q.map (·.1)) = r) := ⟨_, rfl⟩
  rw [hRes.out] at hgd ⊢
  have HG := hid hgd
  clear h2 hgd; have HIT := hid (itemsCell_of T E X B k g cp (i + 1) EV hlt (fun j h1 h2 => HI.out j (by omega) h2) d v Q P)
  clear HI; cases Res with
  | error ca =>
   obtain ⟨c, a⟩ := ca
   go_enter Tryz.func41, Tryz.ntmps41
   go_wp2_with fail; refine (want_ok T E k g cp i d v Q P X B ⟨#[40]⟩ _ h0.out EV.t EV.g hi EV.l H1.out).mono ?_
   rintro e w1 ⟨rfl, r1⟩
   have h1 := hid r1
   clear r1 h0; go_wp2_with fail; refine (skip_no T E k g cp (i + 1) d v Q P X B ⟨#[41]⟩ _ h1.out EV.t EV.g hlt EV.l H2.out).mono ?_
   rintro e w2 ⟨rfl, r2⟩
   have h2 := hid r2
   clear r2 h1; go_wp2_with fail; refine (HIT.out _ h2.out (by omega) hd).mono ?_
   rw [hRes.out]
   rintro e w3 ⟨rfl, r3⟩
   dsimp only
   exact ⟨rfl, rfl, r3⟩
  | ok y =>
   obtain ⟨y, j, M⟩ := y
   have hlo := HG.out.okv rfl
   rw [then_ok]
   by_cases h3 : tx T j = bRp
   ·
    rw [want_yes h3]
    have H3 := hid h3
    clear h3 HG; go_enter Tryz.func41, Tryz.ntmps41
    go_wp2_with fail; refine (want_ok T E k g cp i d v Q P X B ⟨#[40]⟩ _ h0.out EV.t EV.g hi EV.l H1.out).mono ?_
    rintro e w1 ⟨rfl, r1⟩
    have h1 := hid r1
    clear r1 h0; go_wp2_with fail; refine (skip_no T E k g cp (i + 1) d v Q P X B ⟨#[41]⟩ _ h1.out EV.t EV.g hlt EV.l H2.out).mono ?_
    rintro e w2 ⟨rfl, r2⟩
    have h2 := hid r2
    clear r2 h1; go_wp2_with fail; refine (HIT.out _ h2.out (by omega) hd).mono ?_
    rw [hRes.out]
    rintro e w3 ⟨s, c, v3, Q3, rfl, hM, r3⟩
    have h3 := hid r3
    have HM := hid hM
    clear r3 h2 hM; go_wp2_with fail; refine (want_ok T E k g cp j d v3 Q3 _ X B ⟨#[41]⟩ _ h3.out EV.t EV.g hlo.2.1 EV.l H3.out).mono ?_
    rintro e w4 ⟨rfl, r4⟩
    go_wp2_with fail; go_ret; exact ⟨s, c, v3, Q3, rfl, HM.out, r4⟩
   rw [want_no h3]
   have H3 := hid h3
   clear h3 HG; go_enter Tryz.func41, Tryz.ntmps41
   go_wp2_with fail; refine (want_ok T E k g cp i d v Q P X B ⟨#[40]⟩ _ h0.out EV.t EV.g hi EV.l H1.out).mono ?_
   rintro e w1 ⟨rfl, r1⟩
   have h1 := hid r1
   clear r1 h0; go_wp2_with fail; refine (skip_no T E k g cp (i + 1) d v Q P X B ⟨#[41]⟩ _ h1.out EV.t EV.g hlt EV.l H2.out).mono ?_
   rintro e w2 ⟨rfl, r2⟩
   have h2 := hid r2
   clear r2 h1; go_wp2_with fail; refine (HIT.out _ h2.out (by omega) hd).mono ?_
   rw [hRes.out]
   rintro e w3 ⟨s, c, v3, Q3, rfl, hM, r3⟩
   have h3 := hid r3
   clear r3 h2 hM; go_wp2_with fail; refine (want_bad T E k g cp j d v3 Q3 _ X B ⟨#[41]⟩ _ h3.out EV.t EV.g hlo.2.1 EV.l H3.out).mono ?_
   rintro e w4 ⟨rfl, r4⟩
   dsimp only
   exact ⟨rfl, rfl, r4.one⟩
 rw [want_no h1]
 have H1 := hid h1
 clear h1; go_enter Tryz.func41, Tryz.ntmps41
 go_wp2_with fail; refine (want_bad T E k g cp i d v Q P X B ⟨#[40]⟩ _ h0.out EV.t EV.g hi EV.l H1.out).mono ?_
 rintro e w1 ⟨rfl, r1⟩
 dsimp only
 exact ⟨rfl, rfl, r1⟩
set_option maxHeartbeats 8000000 in
theorem listedParam_of (T : List Tk) (E : Int) (X : World) (B k g cp i : Nat) (EV : Env T E X B g) (hi : i ≤ T.length)
  (hitem : ∀ j, i < j → j ≤ T.length → Says T E X B k g cp 40 42 #[.pointer (some ⟨k, 0, none⟩)] (.item 3) j)
  (d : Nat) (v : Value) (Q : List NK) (P : List OR) (w : World) (hR : Rs X B w (rR k g (T.length + 1) cp i d v Q P)) (hq : Q.length ≤ 2 * i) (hd : d ≤ 40) :
  Calls Tryz.prog 41 #[.pointer (some ⟨k, 0, none⟩), .func (.func 42) #[.pointer (some ⟨k, 0, none⟩)] #[]] w (OkL T X B k g cp d P (PAR T E (.listed 3 d) i (Q.map (·.1)))) := by
 have HI := hid hitem
 have hal := alloc_old
 have haf := alloc_oldf
 have h0 := hid hR
 clear hitem hR; rw [PAR_listed hi]
 by_cases h1 : tx T i = bLp
 ·
  rw [want_yes h1]
  have hlt : i < T.length := tx_lt h1 (by decide)
  have H1 := hid h1
  clear h1; by_cases h2 : tx T (i + 1) = bRp
  ·
   rw [if_pos h2]
   have H2 := hid h2
   clear h2; go_enter Tryz.func41, Tryz.ntmps41
   go_wp2_with fail; refine (want_ok T E k g cp i d v Q P X B ⟨#[40]⟩ _ h0.out EV.t EV.g hi EV.l H1.out).mono ?_
   rintro e w1 ⟨rfl, r1⟩
   have h1 := hid r1
   clear r1 h0; go_wp2_with fail; refine (skip_yes T E k g cp (i + 1) d v Q P X B ⟨#[41]⟩ _ h1.out EV.t EV.g hlt EV.l H2.out).mono ?_
   rintro e w2 ⟨rfl, r2⟩
   go_wp2_with fail; go_ret; exact ⟨none, 0, v, Q, rfl, rfl, rR_none r2⟩
  rw [if_neg h2]
  have H2 := hid h2
  have hgd := PAR_good (T := T) (E := E) (p := .items 3 d []) (i := i + 1) (N := Q.map (·.1)) trivial hlt
  obtain ⟨Res, hRes⟩ : ∃ r, Hid (PAR T E (.items 3 d []) (i + 1) (Q.map (·.1)) = r) := ⟨_, rfl⟩
  rw [hRes.out] at hgd ⊢
  have HG := hid hgd
  clear h2 hgd; have HIT := hid (itemsParam_of T E X B k g cp (i + 1) EV hlt (fun j h1 h2 => HI.out j (by omega) h2) d v Q P)
  clear HI; cases Res with
  | error ca =>
   obtain ⟨c, a⟩ := ca
   go_enter Tryz.func41, Tryz.ntmps41
   go_wp2_with fail; refine (want_ok T E k g cp i d v Q P X B ⟨#[40]⟩ _ h0.out EV.t EV.g hi EV.l H1.out).mono ?_
   rintro e w1 ⟨rfl, r1⟩
   have h1 := hid r1
   clear r1 h0; go_wp2_with fail; refine (skip_no T E k g cp (i + 1) d v Q P X B ⟨#[41]⟩ _ h1.out EV.t EV.g hlt EV.l H2.out).mono ?_
   rintro e w2 ⟨rfl, r2⟩
   have h2 := hid r2
   clear r2 h1; go_wp2_with fail; refine (HIT.out _ h2.out (by omega) hd).mono ?_
   rw [hRes.out]
   rintro e w3 ⟨rfl, r3⟩
   dsimp only
   exact ⟨rfl, rfl, r3⟩
  | ok y =>
   obtain ⟨y, j, M⟩ := y
   have hlo := HG.out.okv rfl
   rw [then_ok]
   by_cases h3 : tx T j = bRp
   ·
    rw [want_yes h3]
    have H3 := hid h3
    clear h3 HG; go_enter Tryz.func41, Tryz.ntmps41
    go_wp2_with fail; refine (want_ok T E k g cp i d v Q P X B ⟨#[40]⟩ _ h0.out EV.t EV.g hi EV.l H1.out).mono ?_
    rintro e w1 ⟨rfl, r1⟩
    have h1 := hid r1
    clear r1 h0; go_wp2_with fail; refine (skip_no T E k g cp (i + 1) d v Q P X B ⟨#[41]⟩ _ h1.out EV.t EV.g hlt EV.l H2.out).mono ?_
    rintro e w2 ⟨rfl, r2⟩
    have h2 := hid r2
    clear r2 h1; go_wp2_with fail; refine (HIT.out _ h2.out (by omega) hd).mono ?_
    rw [hRes.out]
    rintro e w3 ⟨s, c, v3, Q3, rfl, hM, r3⟩
    have h3 := hid r3
    have HM := hid hM
    clear r3 h2 hM; go_wp2_with fail; refine (want_ok T E k g cp j d v3 Q3 _ X B ⟨#[41]⟩ _ h3.out EV.t EV.g hlo.2.1 EV.l H3.out).mono ?_
    rintro e w4 ⟨rfl, r4⟩
    go_wp2_with fail; go_ret; exact ⟨s, c, v3, Q3, rfl, HM.out, r4⟩
   rw [want_no h3]
   have H3 := hid h3
   clear h3 HG; go_enter Tryz.func41, Tryz.ntmps41
   go_wp2_with fail; refine (want_ok T E k g cp i d v Q P X B ⟨#[40]⟩ _ h0.out EV.t EV.g hi EV.l H1.out).mono ?_
   rintro e w1 ⟨rfl, r1⟩
   have h1 := hid r1
   clear r1 h0; go_wp2_with fail; refine (skip_no T E k g cp (i + 1) d v Q P X B ⟨#[41]⟩ _ h1.out EV.t EV.g hlt EV.l H2.out).mono ?_
   rintro e w2 ⟨rfl, r2⟩
   have h2 := hid r2
   clear r2 h1; go_wp2_with fail; refine (HIT.out _ h2.out (by omega) hd).mono ?_
   rw [hRes.out]
   rintro e w3 ⟨s, c, v3, Q3, rfl, hM, r3⟩
   have h3 := hid r3
   clear r3 h2 hM; go_wp2_with fail; refine (want_bad T E k g cp j d v3 Q3 _ X B ⟨#[41]⟩ _ h3.out EV.t EV.g hlo.2.1 EV.l H3.out).mono ?_
   rintro e w4 ⟨rfl, r4⟩
   dsimp only
   exact ⟨rfl, rfl, r4.one⟩
 rw [want_no h1]
 have H1 := hid h1
 clear h1; go_enter Tryz.func41, Tryz.ntmps41
 go_wp2_with fail; refine (want_bad T E k g cp i d v Q P X B ⟨#[40]⟩ _ h0.out EV.t EV.g hi EV.l H1.out).mono ?_
 rintro e w1 ⟨rfl, r1⟩
 dsimp only
 exact ⟨rfl, rfl, r1⟩
end
section
open Go.RowKit
set_option maxRecDepth 100000
set_option maxHeartbeats 8000000 in
theorem call_of (T : List Tk) (E : Int) (X : World) (B k g cp i : Nat) (EV : Env T E X B g) (hi : i ≤ T.length)
  (hitem : ∀ j, i < j → j ≤ T.length → Says T E X B k g cp 40 62 #[.pointer (some ⟨k, 0, none⟩)] (.item 0) j)
  (s : ByteArray) (d : Nat) (v : Value) (Q : List NK) (P : List OR) (w : World) (hR : Rs X B w (rR k g (T.length + 1) cp i d v Q P)) (hq : Q.length ≤ 2 * i) (hd : d ≤ 40) :
  Calls Tryz.prog 67 #[.pointer (some ⟨k, 0, none⟩), .string s] w (Ok1 T X B k g cp d P ((PAR T E (.listed 0 d) i (Q.map (·.1))).then fun x j M => pNode (nd 7 s 0 x) j M)) := by
 have HL := hid (listedExpr_of T E X B k g cp i EV hi hitem d v Q P)
 have hal := alloc_old
 have haf := alloc_oldf
 have h0 := hid hR
 have hmf : ∀ (fn : Fn) (first cap : Array Value) (w : World), (Instr.makeFunc fn first cap).run Tryz.prog w = .ok (.func fn first cap) w := fun _ _ _ _ => rfl
 have hgd := PAR_good (T := T) (E := E) (p := .listed 0 d) (i := i) (N := Q.map (·.1)) trivial hi
 clear hitem hR; obtain ⟨Res, hRes⟩ : ∃ r, Hid (PAR T E (.listed 0 d) i (Q.map (·.1)) = r) := ⟨_, rfl⟩
 rw [hRes.out] at hgd ⊢
 have HG := hid hgd
 clear hgd; cases Res with
 | error ca =>
  obtain ⟨c, a⟩ := ca
  go_enter Tryz.func67, Tryz.ntmps67
  go_wp2_with fail; refine (HL.out _ h0.out hq hd).mono ?_
  rw [hRes.out]
  rintro e w1 ⟨rfl, r1⟩
  dsimp only
  exact ⟨rfl, rfl, r1⟩
 | ok y =>
  obtain ⟨y, j, M⟩ := y
  have hlo := HG.out.okv rfl
  rw [then_ok]
  go_enter Tryz.func67, Tryz.ntmps67
  go_wp2_with fail; refine (HL.out _ h0.out hq hd).mono ?_
  rw [hRes.out]
  rintro e w1 ⟨s1, c1, v1, Q1, rfl, rfl, r1⟩
  have h1 := hid r1
  simp only [List.length_map] at hlo
  have hl := EV.l
  clear r1 h0 HG; go_wp2_with fail; refine (add_any T E k g cp j d v1 Q1 P X B 7 0 s y s1 c1 _ h1.out (by omega)).mono ?_
  rintro e w2 ⟨rfl, v2, r2⟩
  have h2 := hid r2
  clear r2 h1; go_wp2_with fail; go_ret; exact ⟨by simp, v2, _, by simp, h2.out⟩
end
section
open Go.RowKit
set_option maxRecDepth 100000
theorem nameNode_says (T : List Tk) (E : Int) (X : World) (B k g cp i : Nat) (EV : Env T E X B g) (hi : i ≤ T.length) : Says T E X B k g cp 40 75 #[.pointer (some ⟨k, 0, none⟩)] (.item 1) i :=
 fun d v Q P w hR hq _ _ => nameNode_any T E k g cp i d v Q P X B w EV hR hi hq
theorem PAR_param {T : List Tk} {E : Int} {d i : Nat} {N : List Nd} (hi : i ≤ T.length) : PAR T E (.item 3 d) i N = pName T E i fun s j => pKind T E j fun q j => pNode (nd 32 s q []) j N := by
 rw [PAR_eq (p := .item 3 d) trivial hi]
 rfl
theorem name_yes {T : List Tk} {E : Int} {i : Nat} {k : ByteArray → Nat → PRes} (h : kd T i = 1) : pName T E i k = k (tx T i) (i + 1) := by
 unfold pName; rw [if_pos h]
theorem name_no {T : List Tk} {E : Int} {i : Nat} {k : ByteArray → Nat → PRes} (h : ¬ kd T i = 1) : pName T E i k = .error (2, ta T E i) := by
 unfold pName; rw [if_neg h]
theorem kind_yes {T : List Tk} {E : Int} {i : Nat} {k : Int → Nat → PRes} (h : ¬ kindOf (tx T i) = 0) : pKind T E i k = k (kindOf (tx T i)) (i + 1) := by
 unfold pKind; rw [if_neg h]
theorem kind_no {T : List Tk} {E : Int} {i : Nat} {k : Int → Nat → PRes} (h : kindOf (tx T i) = 0) : pKind T E i k = .error (2, ta T E i) := by
 unfold pKind; rw [if_pos h]
set_option maxHeartbeats 8000000 in
theorem param_says (T : List Tk) (E : Int) (X : World) (B k g cp i : Nat) (EV : Env T E X B g) (hi : i ≤ T.length) : Says T E X B k g cp 40 42 #[.pointer (some ⟨k, 0, none⟩)] (.item 3) i := by
 intro d v Q P w hR hq hd _
 have hal := alloc_old
 have haf := alloc_oldf
 have h0 := hid hR
 clear hR; rw [PAR_param hi]
 by_cases h1 : kd T i = 1
 ·
  rw [name_yes h1]
  have hlt := kd_lt h1 (by decide)
  have H1 := hid h1
  clear h1; by_cases h2 : kindOf (tx T (i + 1)) = 0
  ·
   rw [kind_no h2]
   have H2 := hid h2
   clear h2; go_enter Tryz.func42, Tryz.ntmps42
   go_wp2_with fail; refine (name_ok T E k g cp i d v Q P X B _ h0.out EV.t EV.g hi EV.l H1.out).mono ?_
   rintro e w1 ⟨rfl, r1⟩
   have h1 := hid r1
   clear r1 h0; go_wp2_with fail; refine (kind_bad T E k g cp (i + 1) d v Q P X B _ EV h1.out hlt (by omega) H2.out).mono ?_
   rintro e w2 ⟨rfl, r2⟩
   dsimp only
   exact ⟨rfl, rfl, r2⟩
  rw [kind_yes h2]
  have H2 := hid h2
  have hlt2 : i + 1 < T.length := Classical.byContradiction fun g => h2 (by rw [tx_none g, kindOf_nil])
  have hl := EV.l
  clear h2; obtain ⟨q, hq'⟩ : ∃ q, Hid (kindOf (tx T (i + 1)) = q) := ⟨_, rfl⟩
  rw [hq'.out]
  go_enter Tryz.func42, Tryz.ntmps42
  go_wp2_with fail; refine (name_ok T E k g cp i d v Q P X B _ h0.out EV.t EV.g hi EV.l H1.out).mono ?_
  rintro e w1 ⟨rfl, r1⟩
  have h1 := hid r1
  clear r1 h0; go_wp2_with fail; refine (kind_ok T E k g cp (i + 1) d v Q P X B _ EV h1.out hlt (by omega) H2.out).mono ?_
  rintro e w2 ⟨rfl, r2⟩
  rw [hq'.out]
  have h2 := hid (rR_none r2)
  clear r2 h1; go_wp2_with fail; refine (add_any T E k g cp (i + 1 + 1) d v Q P X B 32 q (tx T i) [] none 0 _ h2.out (by omega)).mono ?_
  rintro e w3 ⟨rfl, v3, r3⟩
  have h3 := hid r3
  clear r3 h2; go_wp2_with fail; go_ret; exact ⟨by simp, v3, _, by simp, h3.out⟩
 rw [name_no h1]
 have H1 := hid h1
 clear h1; go_enter Tryz.func42, Tryz.ntmps42
 go_wp2_with fail; refine (name_bad T E k g cp i d v Q P X B _ h0.out EV.t EV.g hi EV.l H1.out).mono ?_
 rintro e w1 ⟨rfl, r1⟩
 dsimp only
 exact ⟨rfl, rfl, r1⟩
end
section
open Go.RowKit
set_option maxRecDepth 100000
def pBehind (T : List Tk) (E : Int) (d i : Nat) (N : List Nd) : PRes := pWant T E bEq i fun j => (PAR T E (.expr d) j N).then fun x j M => .ok ([x.headD 0], j, M)
set_option maxHeartbeats 8000000 in
theorem behindName_of (T : List Tk) (E : Int) (X : World) (B k g cp i : Nat) (EV : Env T E X B g) (hi : i ≤ T.length)
  (hexpr : i < T.length → Says T E X B k g cp 40 62 #[.pointer (some ⟨k, 0, none⟩)] .expr (i + 1))
  (d : Nat) (v : Value) (Q : List NK) (P : List OR) (w : World) (hR : Rs X B w (rR k g (T.length + 1) cp i d v Q P)) (hq : Q.length ≤ 2 * i) (hd : d ≤ 40) :
  Calls Tryz.prog 73 #[.pointer (some ⟨k, 0, none⟩)] w (OkL T X B k g cp d P (pBehind T E d i (Q.map (·.1)))) := by
 have HX := hid hexpr
 have hal := alloc_old
 have haf := alloc_oldf
 have h0 := hid hR
 clear hexpr hR; unfold pBehind
 by_cases h1 : tx T i = bEq
 ·
  rw [want_yes h1]
  have hlt : i < T.length := tx_lt h1 (by decide)
  have H1 := hid h1
  clear h1; obtain ⟨Res, hRes⟩ : ∃ r, Hid (PAR T E (.expr d) (i + 1) (Q.map (·.1)) = r) := ⟨_, rfl⟩
  rw [hRes.out]
  have HW := hid (HX.out hlt d v Q P)
  clear HX; cases Res with
  | error ca =>
   obtain ⟨c, a⟩ := ca
   go_enter Tryz.func73, Tryz.ntmps73
   go_wp2_with fail; refine (want_ok T E k g cp i d v Q P X B ⟨#[61]⟩ _ h0.out EV.t EV.g hi EV.l H1.out).mono ?_
   rintro e w1 ⟨rfl, r1⟩
   have h1 := hid r1
   clear r1 h0; go_wp2_with fail; refine (HW.out _ h1.out (by omega) hd (fun h => by omega)).mono ?_
   rw [hRes.out]
   rintro e w2 ⟨rfl, r2⟩
   dsimp only
   exact ⟨rfl, rfl, r2⟩
  | ok y =>
   obtain ⟨y, j, M⟩ := y
   rw [then_ok]
   obtain ⟨c, hc⟩ : ∃ c, Hid (y.headD 0 = c) := ⟨_, rfl⟩
   rw [hc.out]
   go_enter Tryz.func73, Tryz.ntmps73
   go_wp2_with fail; refine (want_ok T E k g cp i d v Q P X B ⟨#[61]⟩ _ h0.out EV.t EV.g hi EV.l H1.out).mono ?_
   rintro e w1 ⟨rfl, r1⟩
   have h1 := hid r1
   clear r1 h0; go_wp2_with fail; refine (HW.out _ h1.out (by omega) hd (fun h => by omega)).mono ?_
   rw [hRes.out]
   rintro e w2 ⟨rfl, v2, Q2, hM, r2⟩
   rw [hc.out]
   have h2 := hid (rR_kids r2 [c] (by simp))
   have HM := hid hM
   clear r2 h1 hM; go_wp2_with fail; go_ret; exact ⟨_, _, v2, Q2, rfl, HM.out, h2.out⟩
 rw [want_no h1]
 have H1 := hid h1
 clear h1; go_enter Tryz.func73, Tryz.ntmps73
 go_wp2_with fail; refine (want_bad T E k g cp i d v Q P X B ⟨#[61]⟩ _ h0.out EV.t EV.g hi EV.l H1.out).mono ?_
 rintro e w1 ⟨rfl, r1⟩
 dsimp only
 exact ⟨rfl, rfl, r1⟩
end
section
open Go.RowKit
set_option maxRecDepth 100000
theorem behind_then {T : List Tk} {E : Int} {d i : Nat} {N : List Nd} (k : List Int → Nat → List Nd → PRes) : (pBehind T E d i N).then k = pWant T E bEq i fun j => (PAR T E (.expr d) j N).then fun x j M => k [x.headD 0] j M := by
 unfold pBehind
 by_cases h : tx T i = bEq
 ·
  rw [want_yes h, want_yes h, then_assoc]
  rfl
 rw [want_no h, want_no h]
 rfl
theorem PAR_cell {T : List Tk} {E : Int} {d i : Nat} {N : List Nd} (hi : i ≤ T.length) : PAR T E (.item 2 d) i N = pName T E i fun s j => (pBehind T E d j N).then fun x j M => pNode (nd 28 s 0 x) j M := by
 rw [PAR_eq (p := .item 2 d) trivial hi]
 simp only [behind_then]
 rfl
theorem behind_good {T : List Tk} {E : Int} {d i : Nat} {N : List Nd} (hi : i ≤ T.length) {x : List Int} {j : Nat} {M : List Nd} (h : pBehind T E d i N = .ok (x, j, M)) : i + 1 ≤ j ∧ j ≤ T.length ∧ M.length + 2 * i ≤ N.length + 2 * j := by
 unfold pBehind at h
 by_cases h1 : tx T i = bEq
 ·
  rw [want_yes h1] at h
  have hlt : i < T.length := tx_lt h1 (by decide)
  have hgd := PAR_good (T := T) (E := E) (p := .expr d) (i := i + 1) (N := N) trivial hlt
  cases hr : PAR T E (.expr d) (i + 1) N with
  | error e => rw [hr] at h; cases h
  | ok y =>
   obtain ⟨y, j2, M2⟩ := y
   have := hgd.okv hr
   rw [hr, then_ok] at h
   simp only [Except.ok.injEq, Prod.mk.injEq] at h
   obtain ⟨_, rfl, rfl⟩ := h
   simp only [Pf.lo] at this
   omega
 rw [want_no h1] at h; cases h
set_option maxHeartbeats 8000000 in
theorem cell_of (T : List Tk) (E : Int) (X : World) (B k g cp i : Nat) (EV : Env T E X B g) (hi : i ≤ T.length)
  (hexpr : ∀ j, i < j → j ≤ T.length → Says T E X B k g cp 40 62 #[.pointer (some ⟨k, 0, none⟩)] .expr j) : Says T E X B k g cp 40 66 #[.pointer (some ⟨k, 0, none⟩)] (.item 2) i := by
 intro d v Q P w hR hq hd _
 have HX := hid hexpr
 have hal := alloc_old
 have haf := alloc_oldf
 have h0 := hid hR
 clear hR hexpr; rw [PAR_cell hi]
 by_cases h1 : kd T i = 1
 ·
  rw [name_yes h1]
  have hlt := kd_lt h1 (by decide)
  have H1 := hid h1
  clear h1; have HB := hid (behindName_of T E X B k g cp (i + 1) EV hlt (fun h => HX.out (i + 1 + 1) (by omega) h) d v Q P)
  clear HX; obtain ⟨Res, hRes⟩ : ∃ r, Hid (pBehind T E d (i + 1) (Q.map (·.1)) = r) := ⟨_, rfl⟩
  rw [hRes.out]
  cases Res with
  | error ca =>
   obtain ⟨c, a⟩ := ca
   go_enter Tryz.func66, Tryz.ntmps66
   go_wp2_with fail; refine (name_ok T E k g cp i d v Q P X B _ h0.out EV.t EV.g hi EV.l H1.out).mono ?_
   rintro e w1 ⟨rfl, r1⟩
   have h1 := hid r1
   clear r1 h0; go_wp2_with fail; refine (HB.out _ h1.out (by omega) hd).mono ?_
   rw [hRes.out]
   rintro e w2 ⟨rfl, r2⟩
   dsimp only
   exact ⟨rfl, rfl, r2⟩
  | ok y =>
   obtain ⟨y, j, M⟩ := y
   have hlo := behind_good hlt hRes.out
   rw [then_ok]
   go_enter Tryz.func66, Tryz.ntmps66
   go_wp2_with fail; refine (name_ok T E k g cp i d v Q P X B _ h0.out EV.t EV.g hi EV.l H1.out).mono ?_
   rintro e w1 ⟨rfl, r1⟩
   have h1 := hid r1
   clear r1 h0; go_wp2_with fail; refine (HB.out _ h1.out (by omega) hd).mono ?_
   rw [hRes.out]
   rintro e w2 ⟨s2, c2, v2, Q2, rfl, rfl, r2⟩
   have h2 := hid r2
   simp only [List.length_map] at hlo
   have hl := EV.l
   clear r2 h1 HB hRes; go_wp2_with fail; refine (add_any T E k g cp j d v2 Q2 P X B 28 0 (tx T i) y s2 c2 _ h2.out (by omega)).mono ?_
   rintro e w3 ⟨rfl, v3, r3⟩
   have h3 := hid r3
   clear r3 h2; go_wp2_with fail; go_ret; exact ⟨by simp, v3, _, by simp, h3.out⟩
 rw [name_no h1]
 have H1 := hid h1
 clear h1; go_enter Tryz.func66, Tryz.ntmps66
 go_wp2_with fail; refine (name_bad T E k g cp i d v Q P X B _ h0.out EV.t EV.g hi EV.l H1.out).mono ?_
 rintro e w1 ⟨rfl, r1⟩
 dsimp only
 exact ⟨rfl, rfl, r1⟩
end
end Go.Proofs.YtkkofminndboaaaGreatDoor
