import Derived.Shelf.Strconv.Itoa3
import Derived.Lib.AppendIntMem
import Derived.Test.YtjckoldjodjehaaGreatDoorSe11
namespace Go.Proofs
open Go.Shelf
shelf_lay LaysM.n171 Nm 171 at Tryz as Tryz.laysItoa
end Go.Proofs
namespace Go.Proofs.YtjckoldjodjehaaGreatDoor
set_option linter.unusedVariables false
set_option linter.unusedSimpArgs false
section
open Go.RowKit
set_option maxRecDepth 100000
theorem els_take {w : World} {B : Nat} {s : Option Addr} {l : List Int} (h : Els 1 cInt w B s l) (k : Nat) : Els 1 cInt w B s (l.take k) := by
 rcases h with rfl | ⟨b, o, e, h1, h2, h3, h4⟩
 ·
  exact Or.inl (by simp)
 refine Or.inr ⟨b, o, e, h1, h2, fun j a ha => h3 j a ?_, h4⟩
 rw [List.getElem?_take] at ha
 split at ha
 ·
  exact ha
 cases ha
set_option maxHeartbeats 64000000 in
theorem stP_16_3 {w0 w : World} {p : Nat} {nv v : Value} {T : Tre} {L : List ByteArray} {i : Nat} {n : Nd} (hN : NdP w0 p nv T i) (hv : VN T i n) (hk : n.kind = 16) (hm0 : n.kids.length = 3) {s9 : Option Addr} {c9 B9 : Nat} (hK : Els 1 cInt w0 B9 s9 n.kids) (hcap : n.kids.length ≤ c9) (hm2 : n.kids.length ≤ 1048576) (hT : Tb w0) (h : Pr w0 w p nv v L) (hroom : L.length + (tkA T (i : Int)).length ≤ 500000) :
  Calls Tryz.prog 42 #[.pointer (some ⟨p, 0, none⟩), .agg #[.int .i64 n.kind, .string n.text, .int .i64 n.num, .slice s9 n.kids.length c9]] w fun e w' => SaysQ w0 w p nv v L (tkA T (i : Int)) e w' := by
 have HN := hid hN
 have HV := hid hv
 have HK := hid hK
 have HT := hid hT
 have HE : Hid (tkA T (i : Int) = tkN (tkA T) n) := tkA_eq hv
 obtain ⟨kd, hkd⟩ : ∃ k, Hid (n.kind = k) := ⟨_, hid rfl⟩
 obtain ⟨ml, hml⟩ : ∃ m, Hid (n.kids.length = m) := ⟨_, hid rfl⟩
 have hlen := hv.len
 have hnum := hv.num
 rw [hml.out] at hcap hm2
 rw [hkd.out] at hk hlen
 rw [hkd.out, hml.out]
 have S0 := hid (Pn.start h #[.int .i64 kd, .string n.text, .int .i64 n.num, .slice s9 ml c9])
 clear hN hv hK hT h; obtain rfl : kd = 16 := hk
 obtain rfl : ml = 3 := by rw [← hml.out, hm0]
 obtain ⟨a, an, hxa, hka, hai, hva, hca⟩ := HV.out.kidAt (j := 0) (c := 1) (by rw [hkd.out]; unfold shp; simp; split <;> rfl)
 have kI0 : 0 < 3 := by rw [← hml.out]; exact (List.getElem?_eq_some_iff.1 hxa).1
 have kJ0 : (0 : Int) < (3 : Int) := by omega
 have HVA := hid hva
 have hra := cls_in hca
 have HKT : Hid (∀ x ∈ n.kids.take 2, ∃ (k : Nat) (m : Nd), x = k ∧ k < i ∧ VN T k m ∧ (1 ≤ m.kind ∧ m.kind ≤ 34)) := fun x hx => HV.out.kid_in x (List.mem_of_mem_take hx)
 have ht2 : (n.kids.take 2).length = 2 := by rw [List.length_take, hm0]; rfl
 have hc2 : 2 ≤ c9 := by omega
 have hc2I : (2 : Int) ≤ (c9 : Int) := by omega
 have HKU : Hid (∀ x ∈ n.kids.tail.tail, ∃ (k : Nat) (m : Nd), x = k ∧ k < i ∧ VN T k m ∧ (1 ≤ m.kind ∧ m.kind ≤ 34)) := fun x hx => HV.out.kid_in x (List.mem_of_mem_tail (List.mem_of_mem_tail hx))
 have ht1 : n.kids.tail.tail.length = 1 := by rw [List.length_tail, List.length_tail, hm0]
 have hc3 : 3 ≤ c9 := by omega
 have hc3I : (3 : Int) ≤ (c9 : Int) := by omega
 have hc92 : ¬ c9 = 2 := by omega
 obtain ⟨fb, fo, rfl, _, hfb, pp0⟩ := eInt_cells HK.out hxa
 have PP0 : Hid (w0.cell? ⟨fb, fo, none⟩ = some (.int .i64 (a : Int))) := pp0
 clear pp0 hxa hva hca; have HC : Hid (tkA T (i : Int) = [bIf] ++ (((n.kids.take 2).map (tkA T)).flatten) ++ [bElse] ++ ((n.kids.tail.tail.map (tkA T)).flatten)) := by show _ = _; rw [HE.out]; unfold tkN; rw [hkd.out, kids_3 hm0]; simp
 clear hka; have hr := hroom
 rw [HC.out] at hr
 simp only [List.length_append, List.length_cons, List.length_nil] at hr
 clear hroom; obtain ⟨z0, z1, z2, z3, z4⟩ := Blk.four' S0.out.bx
 go_enter Tryz.func42, Tryz.ntmps42
 go_wp2_with fail; refine (put_any (M := [bIf]) (S0.out.alloc _).pr (RT.n1 (by simp)) (by simp only [List.length_append, List.length_cons, List.length_nil]; omega)).mono ?_
 rintro e w1 ⟨rfl, v1, h1, f1⟩
 have S1 := hid ((S0.out.alloc _).step h1 f1)
 clear h1 f1 z0 z1 z2 z3 z4; obtain ⟨z0, z1, z2, z3, z4⟩ := Blk.four' S1.out.bx
 go_wp2_with fail; refine (row_any HN.out ht2 (by omega) (els_take HK.out 2) HKT.out S1.out.pr (by simp only [List.length_append, List.length_cons, List.length_nil]; omega)).mono ?_
 rintro e w2 ⟨rfl, v2, h2, f2⟩
 have S2 := hid (S1.out.step h2 f2)
 clear h2 f2 z0 z1 z2 z3 z4; obtain ⟨z0, z1, z2, z3, z4⟩ := Blk.four' S2.out.bx
 go_wp2_with fail; refine (put_any (M := [bElse]) (S2.out.alloc _).pr (RT.n1 (by simp)) (by simp only [List.length_append, List.length_cons, List.length_nil]; omega)).mono ?_
 rintro e w3 ⟨rfl, v3, h3, f3⟩
 have S3 := hid ((S2.out.alloc _).step h3 f3)
 clear h3 f3 z0 z1 z2 z3 z4; obtain ⟨z0, z1, z2, z3, z4⟩ := Blk.four' S3.out.bx
 go_wp2_with fail; refine (row_any HN.out ht1 (by omega) (els_tail (els_tail HK.out)) HKU.out S3.out.pr (by simp only [List.length_append, List.length_cons, List.length_nil]; omega)).mono ?_
 rintro e w4 ⟨rfl, v4, h4, f4⟩
 have S4 := hid (S3.out.step h4 f4)
 clear h4 f4 z0 z1 z2 z3 z4; obtain ⟨z0, z1, z2, z3, z4⟩ := Blk.four' S4.out.bx
 go_wp2_with fail; refine bodyPost_ret (v := .tuple #[]) (by simp [results, Tryz.results42]) rfl ?_
 exact ⟨rfl, _, by rw [HC.out]; simpa [List.append_assoc] using S4.out.pr, S4.out.fr⟩
set_option maxHeartbeats 64000000 in
theorem stP_16_2 {w0 w : World} {p : Nat} {nv v : Value} {T : Tre} {L : List ByteArray} {i : Nat} {n : Nd} (hN : NdP w0 p nv T i) (hv : VN T i n) (hk : n.kind = 16) (hm0 : n.kids.length = 2) {s9 : Option Addr} {c9 B9 : Nat} (hK : Els 1 cInt w0 B9 s9 n.kids) (hcap : n.kids.length ≤ c9) (hm2 : n.kids.length ≤ 1048576) (hT : Tb w0) (h : Pr w0 w p nv v L) (hroom : L.length + (tkA T (i : Int)).length ≤ 500000) :
  Calls Tryz.prog 42 #[.pointer (some ⟨p, 0, none⟩), .agg #[.int .i64 n.kind, .string n.text, .int .i64 n.num, .slice s9 n.kids.length c9]] w fun e w' => SaysQ w0 w p nv v L (tkA T (i : Int)) e w' := by
 have HN := hid hN
 have HV := hid hv
 have HK := hid hK
 have HT := hid hT
 have HE : Hid (tkA T (i : Int) = tkN (tkA T) n) := tkA_eq hv
 obtain ⟨kd, hkd⟩ : ∃ k, Hid (n.kind = k) := ⟨_, hid rfl⟩
 obtain ⟨ml, hml⟩ : ∃ m, Hid (n.kids.length = m) := ⟨_, hid rfl⟩
 have hlen := hv.len
 have hnum := hv.num
 rw [hml.out] at hcap hm2
 rw [hkd.out] at hk hlen
 rw [hkd.out, hml.out]
 have S0 := hid (Pn.start h #[.int .i64 kd, .string n.text, .int .i64 n.num, .slice s9 ml c9])
 clear hN hv hK hT h; obtain rfl : kd = 16 := hk
 obtain rfl : ml = 2 := by rw [← hml.out, hm0]
 obtain ⟨a, an, hxa, hka, hai, hva, hca⟩ := HV.out.kidAt (j := 0) (c := 1) (by rw [hkd.out]; unfold shp; simp; split <;> rfl)
 have kI0 : 0 < 2 := by rw [← hml.out]; exact (List.getElem?_eq_some_iff.1 hxa).1
 have kJ0 : (0 : Int) < (2 : Int) := by omega
 have HVA := hid hva
 have hra := cls_in hca
 have HKT : Hid (∀ x ∈ n.kids.take 2, ∃ (k : Nat) (m : Nd), x = k ∧ k < i ∧ VN T k m ∧ (1 ≤ m.kind ∧ m.kind ≤ 34)) := fun x hx => HV.out.kid_in x (List.mem_of_mem_take hx)
 have ht2 : (n.kids.take 2).length = 2 := by rw [List.length_take, hm0]; rfl
 have hc2 : 2 ≤ c9 := by omega
 have hc2I : (2 : Int) ≤ (c9 : Int) := by omega
 obtain ⟨fb, fo, rfl, _, hfb, pp0⟩ := eInt_cells HK.out hxa
 have PP0 : Hid (w0.cell? ⟨fb, fo, none⟩ = some (.int .i64 (a : Int))) := pp0
 clear pp0 hxa hva hca; have HC : Hid (tkA T (i : Int) = [bIf] ++ (((n.kids.take 2).map (tkA T)).flatten)) := by show _ = _; rw [HE.out]; unfold tkN; rw [hkd.out, kids_2 hm0]; simp
 clear hka; have hr := hroom
 rw [HC.out] at hr
 simp only [List.length_append, List.length_cons, List.length_nil] at hr
 clear hroom; obtain ⟨z0, z1, z2, z3, z4⟩ := Blk.four' S0.out.bx
 go_enter Tryz.func42, Tryz.ntmps42
 go_wp2_with fail; refine (put_any (M := [bIf]) (S0.out.alloc _).pr (RT.n1 (by simp)) (by simp only [List.length_append, List.length_cons, List.length_nil]; omega)).mono ?_
 rintro e w1 ⟨rfl, v1, h1, f1⟩
 have S1 := hid ((S0.out.alloc _).step h1 f1)
 clear h1 f1 z0 z1 z2 z3 z4; obtain ⟨z0, z1, z2, z3, z4⟩ := Blk.four' S1.out.bx
 go_wp2_with fail; refine (row_any HN.out ht2 (by omega) (els_take HK.out 2) HKT.out S1.out.pr (by simp only [List.length_append, List.length_cons, List.length_nil]; omega)).mono ?_
 rintro e w2 ⟨rfl, v2, h2, f2⟩
 have S2 := hid (S1.out.step h2 f2)
 clear h2 f2 z0 z1 z2 z3 z4; obtain ⟨z0, z1, z2, z3, z4⟩ := Blk.four' S2.out.bx
 go_wp2_with fail; refine bodyPost_ret (v := .tuple #[]) (by simp [results, Tryz.results42]) rfl ?_
 exact ⟨rfl, _, by rw [HC.out]; simpa [List.append_assoc] using S2.out.pr, S2.out.fr⟩
set_option maxHeartbeats 64000000 in
theorem paP_30_0 {w0 w : World} {p : Nat} {nv v : Value} {T : Tre} {L : List ByteArray} {i : Nat} {n : Nd} (hN : NdP w0 p nv T i) (hv : VN T i n) (hk : n.kind = 30) (hm0 : n.kids.length = 0) {s9 : Option Addr} {c9 B9 : Nat} (hK : Els 1 cInt w0 B9 s9 n.kids) (hcap : n.kids.length ≤ c9) (hm2 : n.kids.length ≤ 1048576) (hT : Tb w0) (h : Pr w0 w p nv v L) (hroom : L.length + (tkA T (i : Int)).length ≤ 500000) :
  Calls Tryz.prog 43 #[.pointer (some ⟨p, 0, none⟩), .agg #[.int .i64 n.kind, .string n.text, .int .i64 n.num, .slice s9 n.kids.length c9]] w fun e w' => SaysQ w0 w p nv v L (tkA T (i : Int)) e w' := by
 have HN := hid hN
 have HV := hid hv
 have HK := hid hK
 have HT := hid hT
 have HE : Hid (tkA T (i : Int) = tkN (tkA T) n) := tkA_eq hv
 obtain ⟨kd, hkd⟩ : ∃ k, Hid (n.kind = k) := ⟨_, hid rfl⟩
 obtain ⟨ml, hml⟩ : ∃ m, Hid (n.kids.length = m) := ⟨_, hid rfl⟩
 have hlen := hv.len
 have hnum := hv.num
 rw [hml.out] at hcap hm2
 rw [hkd.out] at hk hlen
 rw [hkd.out, hml.out]
 have S0 := hid (Pn.start h #[.int .i64 kd, .string n.text, .int .i64 n.num, .slice s9 ml c9])
 clear hN hv hK hT h; obtain rfl : kd = 30 := hk
 obtain rfl : ml = 0 := by rw [← hml.out, hm0]
 have HC : Hid (tkA T (i : Int) = []) := by show _ = _; rw [HE.out]; unfold tkN; rw [hkd.out]; simp [hm0]
 obtain ⟨z0, z1, z2, z3, z4⟩ := Blk.four' S0.out.bx
 go_enter Tryz.func43, Tryz.ntmps43
 go_wp2_with fail; refine bodyPost_ret (v := .tuple #[]) (by simp [results, Tryz.results43]) rfl ?_
 exact ⟨rfl, _, by rw [HC.out, List.append_nil]; exact S0.out.pr, S0.out.fr⟩
set_option maxHeartbeats 64000000 in
theorem paP_30_1 {w0 w : World} {p : Nat} {nv v : Value} {T : Tre} {L : List ByteArray} {i : Nat} {n : Nd} (hN : NdP w0 p nv T i) (hv : VN T i n) (hk : n.kind = 30) (hm0 : ¬ n.kids.length = 0) {s9 : Option Addr} {c9 B9 : Nat} (hK : Els 1 cInt w0 B9 s9 n.kids) (hcap : n.kids.length ≤ c9) (hm2 : n.kids.length ≤ 1048576) (hT : Tb w0) (h : Pr w0 w p nv v L) (hroom : L.length + (tkA T (i : Int)).length ≤ 500000) :
  Calls Tryz.prog 43 #[.pointer (some ⟨p, 0, none⟩), .agg #[.int .i64 n.kind, .string n.text, .int .i64 n.num, .slice s9 n.kids.length c9]] w fun e w' => SaysQ w0 w p nv v L (tkA T (i : Int)) e w' := by
 have HN := hid hN
 have HV := hid hv
 have HK := hid hK
 have HT := hid hT
 have HE : Hid (tkA T (i : Int) = tkN (tkA T) n) := tkA_eq hv
 obtain ⟨kd, hkd⟩ : ∃ k, Hid (n.kind = k) := ⟨_, hid rfl⟩
 obtain ⟨ml, hml⟩ : ∃ m, Hid (n.kids.length = m) := ⟨_, hid rfl⟩
 have hlen := hv.len
 have hnum := hv.num
 rw [hml.out] at hcap hm2
 rw [hkd.out] at hk hlen
 rw [hkd.out, hml.out]
 have S0 := hid (Pn.start h #[.int .i64 kd, .string n.text, .int .i64 n.num, .slice s9 ml c9])
 clear hN hv hK hT h; obtain rfl : kd = 30 := hk
 have HC : Hid (tkA T (i : Int) = [bWithout] ++ cm (n.kids.map (tkA T))) := by show _ = _; rw [HE.out]; unfold tkN; rw [hkd.out]; simp [hm0]
 rw [hml.out] at hm0
 have g0 : decide ((ml : Int) > 0) = true := by simp; omega
 have HKS : Hid (∀ x ∈ n.kids, ∃ (k : Nat) (m : Nd), x = k ∧ k < i ∧ VN T k m ∧ (1 ≤ m.kind ∧ m.kind ≤ 34)) := HV.out.kid_in
 have hsc := sum_cm (tkA T) n.kids
 have hr := hroom
 rw [HC.out] at hr
 simp only [List.length_append, List.length_cons, List.length_nil] at hr
 clear hroom; obtain ⟨z0, z1, z2, z3, z4⟩ := Blk.four' S0.out.bx
 go_enter Tryz.func43, Tryz.ntmps43
 go_wp2_with fail; refine (put_any (M := [bWithout]) (S0.out.alloc _).pr (RT.n1 (by simp)) (by simp only [List.length_append, List.length_cons, List.length_nil]; omega)).mono ?_
 rintro e w1 ⟨rfl, v1, h1, f1⟩
 have S1 := hid ((S0.out.alloc _).step h1 f1)
 clear h1 f1 z0 z1 z2 z3 z4; obtain ⟨z0, z1, z2, z3, z4⟩ := Blk.four' S1.out.bx
 go_wp2_with fail; refine (items_any HN.out hml.out (by omega) HK.out HKS.out S1.out.pr (by simp only [List.length_append, List.length_cons, List.length_nil]; omega)).mono ?_
 rintro e w2 ⟨rfl, v2, h2, f2⟩
 have S2 := hid (S1.out.step h2 f2)
 clear h2 f2 z0 z1 z2 z3 z4; obtain ⟨z0, z1, z2, z3, z4⟩ := Blk.four' S2.out.bx
 go_wp2_with fail; refine bodyPost_ret (v := .tuple #[]) (by simp [results, Tryz.results43]) rfl ?_
 exact ⟨rfl, _, by rw [HC.out]; simpa [List.append_assoc] using S2.out.pr, S2.out.fr⟩
end
section
open Go.RowKit
set_option maxRecDepth 100000
set_option maxHeartbeats 64000000 in
theorem paP_33 {w0 w : World} {p : Nat} {nv v : Value} {T : Tre} {L : List ByteArray} {i : Nat} {n : Nd} (hN : NdP w0 p nv T i) (hv : VN T i n) (hk : n.kind = 33) {s9 : Option Addr} {c9 B9 : Nat} (hK : Els 1 cInt w0 B9 s9 n.kids) (hcap : n.kids.length ≤ c9) (hm2 : n.kids.length ≤ 1048576) (hT : Tb w0) (h : Pr w0 w p nv v L) (hroom : L.length + (tkA T (i : Int)).length ≤ 500000) :
  Calls Tryz.prog 43 #[.pointer (some ⟨p, 0, none⟩), .agg #[.int .i64 n.kind, .string n.text, .int .i64 n.num, .slice s9 n.kids.length c9]] w fun e w' => SaysQ w0 w p nv v L (tkA T (i : Int)) e w' := by
 have HN := hid hN
 have HV := hid hv
 have HK := hid hK
 have HT := hid hT
 have HE : Hid (tkA T (i : Int) = tkN (tkA T) n) := tkA_eq hv
 obtain ⟨kd, hkd⟩ : ∃ k, Hid (n.kind = k) := ⟨_, hid rfl⟩
 obtain ⟨ml, hml⟩ : ∃ m, Hid (n.kids.length = m) := ⟨_, hid rfl⟩
 have hlen := hv.len
 have hnum := hv.num
 rw [hml.out] at hcap hm2
 rw [hkd.out] at hk hlen
 rw [hkd.out, hml.out]
 have S0 := hid (Pn.start h #[.int .i64 kd, .string n.text, .int .i64 n.num, .slice s9 ml c9])
 clear hN hv hK hT h; obtain rfl : kd = 33 := hk
 have h1 : 1 ≤ n.kids.length := by simp [shp] at hlen; omega
 obtain ⟨P, hP⟩ : ∃ P, Hid (ml = P + 1) := ⟨ml - 1, by show _ = _; rw [← hml.out]; omega⟩
 obtain ⟨a, an, hxa, hka, hai, hva, hca⟩ := HV.out.kidAt (j := P) (c := 3) (by rw [hkd.out, hml.out, hP.out, show shp 33 (P + 1) = List.replicate P 7 ++ [3] by simp [shp], List.getElem?_append_right (by simp)]; simp)
 have hra := cls_in hca
 have HVA := hid hva
 obtain ⟨fb, fo, rfl, _, hfb, ppp⟩ := eInt_cells HK.out hxa
 have PP777 : Hid (w0.cell? ⟨fb, fo + P, none⟩ = some (.int .i64 (a : Int))) := ppp
 clear ppp hxa hva hca; have hop : 1 ≤ n.num ∧ n.num ≤ 4 := has_op32 HV.out (Or.inr hkd.out)
 obtain ⟨q, hq⟩ : ∃ q : Nat, n.num = q := ⟨n.num.toNat, by omega⟩
 have qI : (q : Int) < 5 := by omega
 have qN : q < 5 := by omega
 have HC : Hid (tkA T (i : Int) = [bFn, n.text] ++ ([bLp] ++ (cm (n.kids.dropLast.map (tkA T))) ++ [bRp]) ++ [kiT (q : Int)] ++ tkA T (a : Int)) := by show _ = _; rw [HE.out]; unfold tkN; rw [hkd.out, hml.out, show ml - 1 = P by rw [hP.out]; omega, hka, hq]; simp
 clear hka; have hdl : n.kids.dropLast.length = P := by rw [List.length_dropLast, hml.out, hP.out]; omega
 have HL : Hid (Els 1 cInt w0 B9 (some ⟨fb, fo, none⟩) n.kids.dropLast) := els_init HK.out
 have HKT : Hid (∀ x ∈ n.kids.dropLast, ∃ (k : Nat) (m : Nd), x = k ∧ k < i ∧ VN T k m ∧ (1 ≤ m.kind ∧ m.kind ≤ 34)) := fun x hx => HV.out.kid_in x (List.dropLast_subset _ hx)
 have hPm := hP.out
 have hcpI : (P : Int) ≤ (c9 : Int) := by omega
 have hcpN : P ≤ c9 := by omega
 have hP0 : (0 : Int) ≤ (P : Int) := by omega
 have hPI : (P : Int) < (ml : Int) := by omega
 have hPN : P < ml := by omega
 have hPz : P ≤ 1048576 := by omega
 have tw9 : IntKind.i64.wrap ((ml : Int) - 1) = (P : Int) := by rw [IntKind.wrap_i64]; omega
 clear hPm; rw [hq] at S0 ⊢
 have hr := hroom
 rw [HC.out] at hr
 simp only [List.length_append, List.length_cons, List.length_nil] at hr
 clear hroom; obtain ⟨z0, z1, z2, z3, z4⟩ := Blk.four' S0.out.bx
 go_enter Tryz.func43, Tryz.ntmps43
 have p777 := (S0.out.pr.bl.cell (p := ⟨fb, fo + P, none⟩) hfb).trans PP777.out
 go_wp2_with fail; refine (put_any (M := [bFn, n.text]) (S0.out.alloc _).pr (RT.n2 (by simp)) (by simp only [List.length_append, List.length_cons, List.length_nil]; omega)).mono ?_
 rintro e w1 ⟨rfl, v1, h1, f1⟩
 have S1 := hid ((S0.out.alloc _).step h1 f1)
 clear h1 f1 z0 z1 z2 z3 z4 p777; obtain ⟨z0, z1, z2, z3, z4⟩ := Blk.four' S1.out.bx
 have p777 := (S1.out.pr.bl.cell (p := ⟨fb, fo + P, none⟩) hfb).trans PP777.out
 go_wp2_with fail; refine (listed_any HN.out hdl (by omega) HL.out HKT.out S1.out.pr (by simp only [List.length_append, List.length_cons, List.length_nil]; omega)).mono ?_
 rintro e w2 ⟨rfl, v2, h2, f2⟩
 have S2 := hid (S1.out.step h2 f2)
 clear h2 f2 z0 z1 z2 z3 z4 p777; obtain ⟨z0, z1, z2, z3, z4⟩ := Blk.four' S2.out.bx
 have p777 := (S2.out.pr.bl.cell (p := ⟨fb, fo + P, none⟩) hfb).trans PP777.out
 have o0 := (S2.out.pr.bl.cell (p := ⟨1, q, none⟩) (HT.out.k q (by omega) (by omega)).2).trans (HT.out.k q (by omega) (by omega)).1
 go_wp2_with fail; refine (put_any (M := [kiT (q : Int)]) (S2.out.alloc _).pr (RT.n1 (by simp)) (by simp only [List.length_append, List.length_cons, List.length_nil]; omega)).mono ?_
 rintro e w3 ⟨rfl, v3, h3, f3⟩
 have S3 := hid ((S2.out.alloc _).step h3 f3)
 clear h3 f3 z0 z1 z2 z3 z4 p777; obtain ⟨z0, z1, z2, z3, z4⟩ := Blk.four' S3.out.bx
 have p777 := (S3.out.pr.bl.cell (p := ⟨fb, fo + P, none⟩) hfb).trans PP777.out
 clear o0; go_wp2_with fail; refine (HN.out a an _ _ _ hai HVA.out hra S3.out.pr (by simp only [List.length_append, List.length_cons, List.length_nil]; omega)).mono ?_
 rintro e w4 ⟨rfl, v4, h4, f4⟩
 have S4 := hid (S3.out.step h4 f4)
 clear h4 f4 z0 z1 z2 z3 z4 p777; obtain ⟨z0, z1, z2, z3, z4⟩ := Blk.four' S4.out.bx
 have p777 := (S4.out.pr.bl.cell (p := ⟨fb, fo + P, none⟩) hfb).trans PP777.out
 go_wp2_with fail; refine bodyPost_ret (v := .tuple #[]) (by simp [results, Tryz.results43]) rfl ?_
 exact ⟨rfl, _, by rw [HC.out]; simpa [List.append_assoc] using S4.out.pr, S4.out.fr⟩
set_option maxHeartbeats 64000000 in
theorem paP_32 {w0 w : World} {p : Nat} {nv v : Value} {T : Tre} {L : List ByteArray} {i : Nat} {n : Nd} (hN : NdP w0 p nv T i) (hv : VN T i n) (hk : n.kind = 32) {s9 : Option Addr} {c9 B9 : Nat} (hK : Els 1 cInt w0 B9 s9 n.kids) (hcap : n.kids.length ≤ c9) (hm2 : n.kids.length ≤ 1048576) (hT : Tb w0) (h : Pr w0 w p nv v L) (hroom : L.length + (tkA T (i : Int)).length ≤ 500000) :
  Calls Tryz.prog 43 #[.pointer (some ⟨p, 0, none⟩), .agg #[.int .i64 n.kind, .string n.text, .int .i64 n.num, .slice s9 n.kids.length c9]] w fun e w' => SaysQ w0 w p nv v L (tkA T (i : Int)) e w' := by
 have HN := hid hN
 have HV := hid hv
 have HK := hid hK
 have HT := hid hT
 have HE : Hid (tkA T (i : Int) = tkN (tkA T) n) := tkA_eq hv
 obtain ⟨kd, hkd⟩ : ∃ k, Hid (n.kind = k) := ⟨_, hid rfl⟩
 obtain ⟨ml, hml⟩ : ∃ m, Hid (n.kids.length = m) := ⟨_, hid rfl⟩
 have hlen := hv.len
 have hnum := hv.num
 rw [hml.out] at hcap hm2
 rw [hkd.out] at hk hlen
 rw [hkd.out, hml.out]
 have S0 := hid (Pn.start h #[.int .i64 kd, .string n.text, .int .i64 n.num, .slice s9 ml c9])
 clear hN hv hK hT h; obtain rfl : kd = 32 := hk
 have hop : 1 ≤ n.num ∧ n.num ≤ 4 := has_op32 HV.out (Or.inl hkd.out)
 obtain ⟨q, hq⟩ : ∃ q : Nat, n.num = q := ⟨n.num.toNat, by omega⟩
 have qI : (q : Int) < 5 := by omega
 have qN : q < 5 := by omega
 have HC : Hid (tkA T (i : Int) = [n.text, kiT (q : Int)]) := by show _ = _; rw [HE.out]; unfold tkN; rw [hkd.out, hq]; rfl
 rw [hq] at S0 ⊢
 have hr := hroom
 rw [HC.out] at hr
 simp only [List.length_append, List.length_cons, List.length_nil] at hr
 clear hroom; obtain ⟨z0, z1, z2, z3, z4⟩ := Blk.four' S0.out.bx
 go_enter Tryz.func43, Tryz.ntmps43
 go_wp2_with fail; have BC : ∀ Y vY LY, Pn w0 w Y p nv v vY LY w.heap.size #[.int .i64 32, .string n.text, .int .i64 (q : Int), .slice s9 ml c9] → Y.cell? ⟨w.heap.size, 1, none⟩ = some (.string n.text) ∧ Y.cell? ⟨w.heap.size, 2, none⟩ = some (.int .i64 (q : Int)) ∧ Y.cell? ⟨1, q, none⟩ = some (.string (kiT (q : Int))) := fun Y vY LY hY => ⟨(hY.bx.cell 1).trans rfl, (hY.bx.cell 2).trans rfl, (hY.pr.bl.cell (p := ⟨1, q, none⟩) (HT.out.k q (by omega) (by omega)).2).trans (HT.out.k q (by omega) (by omega)).1⟩
 have PN := S0.out.later (bl_drew (Below.refl _ _))
 go_region_held3 (fun Y => Y.cell? ⟨w.heap.size, 1, none⟩ = some (.string n.text) ∧ Y.cell? ⟨w.heap.size, 2, none⟩ = some (.int .i64 (q : Int)) ∧ Y.cell? ⟨1, q, none⟩ = some (.string (kiT (q : Int)))) (first | exact BC _ _ _ PN | exact BC _ _ _ (PN.alloc _))
  (first
   | (go_at_call 58; refine (put_any (M := [n.text, kiT (q : Int)]) (PN.alloc _).pr (RT.n2 (by simp)) (by simp only [List.length_append, List.length_cons, List.length_nil]; omega)).mono ?_; rintro e w1 ⟨rfl, v1, h1, f1⟩; have PN := (PN.alloc _).step h1 f1))
 have S1 := hid PN
 clear PN h1 f1 BC; go_wp2_with fail; refine bodyPost_ret (v := .tuple #[]) (by simp [results, Tryz.results43]) rfl ?_
 exact ⟨rfl, _, by rw [HC.out]; exact S1.out.pr, S1.out.fr⟩
end
section
open Go.RowKit
theorem itoa_any (n : Int) (w : World) (h0 : -9223372036854775808 ≤ n) (h1 : n ≤ 9223372036854775807) (htab : Lib.TabIs Tryz.prog w "internal/strconv.uint64pow10" .u64 Lib.pow10Tab) :
  Calls Tryz.prog 59 #[.int .i64 n] w fun e w' => e = .returned (.string ⟨(Lib.itoa n).toArray⟩) ∧ ∃ k os, w' = Sort.grow (w.drewN k) os :=
 Any.strconv_Itoa Tryz.laysItoa n h0 h1 w htab
end
section
open Go.RowKit
set_option maxRecDepth 100000
def Pw (w : World) : Prop := Lib.TabIs Tryz.prog w "internal/strconv.uint64pow10" .u64 Lib.pow10Tab
theorem Pw.later {w w' : World} (h : Pw w) (hb : Below w.heap.size w w') : Pw w' := Lib.tabBelow_of_tabIs h w' hb
theorem itoa_bel (n : Int) (w : World) (h0 : -9223372036854775808 ≤ n) (h1 : n ≤ 9223372036854775807) (htab : Pw w) :
  Calls Tryz.prog 59 #[.int .i64 n] w fun e w' => e = .returned (.string ⟨(Lib.itoa n).toArray⟩) ∧ Below w.heap.size w w' := by
 refine (itoa_any n w h0 h1 htab).mono ?_
 rintro e w' ⟨rfl, k, os, rfl⟩
 exact ⟨rfl, Lib.below_grow _ _ (Nat.le_refl _) k os⟩
def yn (b : Bool) : Int := if b then 1 else 0
def ynT (b : Bool) : ByteArray := if b then bYes else bNo
theorem boolV_any (b : Bool) (w : World) :
  Calls Tryz.prog 61 #[.bool b] w fun e w' => e = .returned (.agg #[.int .i64 4, .int .i64 (yn b), .float .f64 0, .float .f64 0]) ∧ Below w.heap.size w w' := by
 cases b
 all_goals
  go_enter Tryz.func61, Tryz.ntmps61
  go_wp2
 ·
  refine bodyPost_ret (v := .agg #[.int .i64 4, .int .i64 0, .float .f64 0, .float .f64 0]) (by simp [results, Tryz.results61, go_sem]) rfl ⟨rfl, bl_alloc (Below.refl _ _) _⟩
 refine bodyPost_ret (v := .agg #[.int .i64 4, .int .i64 1, .float .f64 0, .float .f64 0]) (by simp [results, Tryz.results61, go_sem]) rfl ⟨rfl, bl_alloc (Below.refl _ _) _⟩
theorem valTextB_any (b : Bool) (w : World) :
  Calls Tryz.prog 60 #[.agg #[.int .i64 4, .int .i64 (yn b), .float .f64 0, .float .f64 0]] w fun e w' => e = .returned (.string (ynT b)) ∧ Below w.heap.size w w' := by
 have hok : okB 4 (yn b) 0 0 = true := by cases b <;> kernel_rfl
 cases b
 all_goals
  go_enter Tryz.func60, Tryz.ntmps60
  go_wp2_with fail; refine (implOk_any 4 _ 0 0 _).mono ?_
  rintro e w1 ⟨rfl, rfl⟩
  rw [hok]
  go_wp2_with fail
 ·
  refine bodyPost_ret (v := .string ⟨#[110, 111]⟩) (by simp [results, Tryz.results60, go_sem]) rfl ⟨by first | rfl | kernel_rfl, bl_alloc (bl_alloc (Below.refl _ _) _) _⟩
 refine bodyPost_ret (v := .string ⟨#[121, 101, 115]⟩) (by simp [results, Tryz.results60, go_sem]) rfl ⟨by first | rfl | kernel_rfl, bl_alloc (bl_alloc (Below.refl _ _) _) _⟩
end
section
open Go.RowKit
set_option maxRecDepth 100000
set_option maxHeartbeats 64000000 in
theorem exP_1 {w0 w : World} {p : Nat} {nv v : Value} {T : Tre} {L : List ByteArray} {i : Nat} {n : Nd} (hN : NdP w0 p nv T i) (hv : VN T i n) (hk : n.kind = 1) (hW : Pw w0) {s9 : Option Addr} {c9 B9 : Nat} (hK : Els 1 cInt w0 B9 s9 n.kids) (hcap : n.kids.length ≤ c9) (hm2 : n.kids.length ≤ 1048576) (hT : Tb w0) (h : Pr w0 w p nv v L) (hroom : L.length + (tkA T (i : Int)).length ≤ 500000) :
  Calls Tryz.prog 41 #[.pointer (some ⟨p, 0, none⟩), .agg #[.int .i64 n.kind, .string n.text, .int .i64 n.num, .slice s9 n.kids.length c9]] w fun e w' => SaysQ w0 w p nv v L (tkA T (i : Int)) e w' := by
 have HN := hid hN
 have HV := hid hv
 have HK := hid hK
 have HT := hid hT
 have HE : Hid (tkA T (i : Int) = tkN (tkA T) n) := tkA_eq hv
 obtain ⟨kd, hkd⟩ : ∃ k, Hid (n.kind = k) := ⟨_, hid rfl⟩
 obtain ⟨ml, hml⟩ : ∃ m, Hid (n.kids.length = m) := ⟨_, hid rfl⟩
 have hlen := hv.len
 have hnum := hv.num
 rw [hml.out] at hcap hm2
 rw [hkd.out] at hk hlen
 rw [hkd.out, hml.out]
 have S0 := hid (Pn.start h #[.int .i64 kd, .string n.text, .int .i64 n.num, .slice s9 ml c9])
 clear hN hv hK hT h; obtain rfl : kd = 1 := hk
 have HC : Hid (tkA T (i : Int) = [⟨(Lib.itoa n.num).toArray⟩]) := by show _ = _; rw [HE.out]; unfold tkN; rw [hkd.out]; rfl
 have HW := hid hW
 clear hW; have hr := hroom
 rw [HC.out] at hr
 simp only [List.length_append, List.length_cons, List.length_nil] at hr
 clear hroom; obtain ⟨z0, z1, z2, z3, z4⟩ := Blk.four' S0.out.bx
 go_enter Tryz.func41, Tryz.ntmps41
 go_wp2_with fail; refine (itoa_bel n.num _ (by omega) (by omega) (HW.out.later S0.out.pr.bl)).mono ?_
 rintro e w1 ⟨rfl, hb1⟩
 have S1 := hid (S0.out.later hb1)
 clear hb1 z0 z1 z2 z3 z4; obtain ⟨z0, z1, z2, z3, z4⟩ := Blk.four' S1.out.bx
 obtain ⟨tx, htx⟩ : ∃ t : ByteArray, Hid (⟨(Lib.itoa n.num).toArray⟩ = t) := ⟨_, hid rfl⟩
 rw [htx.out] at HC ⊢
 go_wp2_with fail; refine (put_any (M := [tx]) (S1.out.alloc _).pr (RT.n1 (by simp)) (by simp only [List.length_append, List.length_cons, List.length_nil]; omega)).mono ?_
 rintro e w2 ⟨rfl, v2, h2, f2⟩
 have S2 := hid ((S1.out.alloc _).step h2 f2)
 clear h2 f2 z0 z1 z2 z3 z4; obtain ⟨z0, z1, z2, z3, z4⟩ := Blk.four' S2.out.bx
 go_wp2_with fail; refine bodyPost_ret (v := .tuple #[]) (by simp [results, Tryz.results41]) rfl ?_
 exact ⟨rfl, _, by rw [HC.out]; simpa [List.append_assoc] using S2.out.pr, S2.out.fr⟩
set_option maxHeartbeats 64000000 in
theorem exP_3_1 {w0 w : World} {p : Nat} {nv v : Value} {T : Tre} {L : List ByteArray} {i : Nat} {n : Nd} (hN : NdP w0 p nv T i) (hv : VN T i n) (hk : n.kind = 3) (hm0 : n.num = 1) {s9 : Option Addr} {c9 B9 : Nat} (hK : Els 1 cInt w0 B9 s9 n.kids) (hcap : n.kids.length ≤ c9) (hm2 : n.kids.length ≤ 1048576) (hT : Tb w0) (h : Pr w0 w p nv v L) (hroom : L.length + (tkA T (i : Int)).length ≤ 500000) :
  Calls Tryz.prog 41 #[.pointer (some ⟨p, 0, none⟩), .agg #[.int .i64 n.kind, .string n.text, .int .i64 n.num, .slice s9 n.kids.length c9]] w fun e w' => SaysQ w0 w p nv v L (tkA T (i : Int)) e w' := by
 have HN := hid hN
 have HV := hid hv
 have HK := hid hK
 have HT := hid hT
 have HE : Hid (tkA T (i : Int) = tkN (tkA T) n) := tkA_eq hv
 obtain ⟨kd, hkd⟩ : ∃ k, Hid (n.kind = k) := ⟨_, hid rfl⟩
 obtain ⟨ml, hml⟩ : ∃ m, Hid (n.kids.length = m) := ⟨_, hid rfl⟩
 have hlen := hv.len
 have hnum := hv.num
 rw [hml.out] at hcap hm2
 rw [hkd.out] at hk hlen
 rw [hkd.out, hml.out]
 have S0 := hid (Pn.start h #[.int .i64 kd, .string n.text, .int .i64 n.num, .slice s9 ml c9])
 clear hN hv hK hT h; obtain rfl : kd = 3 := hk
 have HC : Hid (tkA T (i : Int) = [ynT true]) := by show _ = _; rw [HE.out]; unfold tkN; rw [hkd.out, hm0]; rfl
 rw [hm0] at S0 ⊢
 clear hm0 hnum; have hr := hroom
 rw [HC.out] at hr
 simp only [List.length_append, List.length_cons, List.length_nil] at hr
 clear hroom; obtain ⟨z0, z1, z2, z3, z4⟩ := Blk.four' S0.out.bx
 go_enter Tryz.func41, Tryz.ntmps41
 go_wp2_with fail; refine (boolV_any true _).mono ?_
 rintro e w1 ⟨rfl, hb1⟩
 have S1 := hid (S0.out.later hb1)
 clear hb1 z0 z1 z2 z3 z4; go_wp2_with fail; refine (valTextB_any true _).mono ?_
 rintro e w2 ⟨rfl, hb2⟩
 have S2 := hid (S1.out.later hb2)
 clear hb2; obtain ⟨z0, z1, z2, z3, z4⟩ := Blk.four' S2.out.bx
 obtain ⟨tx, htx⟩ : ∃ t : ByteArray, Hid (ynT true = t) := ⟨_, hid rfl⟩
 rw [htx.out] at HC ⊢
 go_wp2_with fail; refine (put_any (M := [tx]) (S2.out.alloc _).pr (RT.n1 (by simp)) (by simp only [List.length_append, List.length_cons, List.length_nil]; omega)).mono ?_
 rintro e w3 ⟨rfl, v3, h3, f3⟩
 have S3 := hid ((S2.out.alloc _).step h3 f3)
 clear h3 f3 z0 z1 z2 z3 z4; obtain ⟨z0, z1, z2, z3, z4⟩ := Blk.four' S3.out.bx
 go_wp2_with fail; refine bodyPost_ret (v := .tuple #[]) (by simp [results, Tryz.results41]) rfl ?_
 exact ⟨rfl, _, by rw [HC.out]; simpa [List.append_assoc] using S3.out.pr, S3.out.fr⟩
set_option maxHeartbeats 64000000 in
theorem exP_3_0 {w0 w : World} {p : Nat} {nv v : Value} {T : Tre} {L : List ByteArray} {i : Nat} {n : Nd} (hN : NdP w0 p nv T i) (hv : VN T i n) (hk : n.kind = 3) (hm0 : n.num = 0) {s9 : Option Addr} {c9 B9 : Nat} (hK : Els 1 cInt w0 B9 s9 n.kids) (hcap : n.kids.length ≤ c9) (hm2 : n.kids.length ≤ 1048576) (hT : Tb w0) (h : Pr w0 w p nv v L) (hroom : L.length + (tkA T (i : Int)).length ≤ 500000) :
  Calls Tryz.prog 41 #[.pointer (some ⟨p, 0, none⟩), .agg #[.int .i64 n.kind, .string n.text, .int .i64 n.num, .slice s9 n.kids.length c9]] w fun e w' => SaysQ w0 w p nv v L (tkA T (i : Int)) e w' := by
 have HN := hid hN
 have HV := hid hv
 have HK := hid hK
 have HT := hid hT
 have HE : Hid (tkA T (i : Int) = tkN (tkA T) n) := tkA_eq hv
 obtain ⟨kd, hkd⟩ : ∃ k, Hid (n.kind = k) := ⟨_, hid rfl⟩
 obtain ⟨ml, hml⟩ : ∃ m, Hid (n.kids.length = m) := ⟨_, hid rfl⟩
 have hlen := hv.len
 have hnum := hv.num
 rw [hml.out] at hcap hm2
 rw [hkd.out] at hk hlen
 rw [hkd.out, hml.out]
 have S0 := hid (Pn.start h #[.int .i64 kd, .string n.text, .int .i64 n.num, .slice s9 ml c9])
 clear hN hv hK hT h; obtain rfl : kd = 3 := hk
 have HC : Hid (tkA T (i : Int) = [ynT false]) := by show _ = _; rw [HE.out]; unfold tkN; rw [hkd.out, hm0]; rfl
 rw [hm0] at S0 ⊢
 clear hm0 hnum; have hr := hroom
 rw [HC.out] at hr
 simp only [List.length_append, List.length_cons, List.length_nil] at hr
 clear hroom; obtain ⟨z0, z1, z2, z3, z4⟩ := Blk.four' S0.out.bx
 go_enter Tryz.func41, Tryz.ntmps41
 go_wp2_with fail; refine (boolV_any false _).mono ?_
 rintro e w1 ⟨rfl, hb1⟩
 have S1 := hid (S0.out.later hb1)
 clear hb1 z0 z1 z2 z3 z4; go_wp2_with fail; refine (valTextB_any false _).mono ?_
 rintro e w2 ⟨rfl, hb2⟩
 have S2 := hid (S1.out.later hb2)
 clear hb2; obtain ⟨z0, z1, z2, z3, z4⟩ := Blk.four' S2.out.bx
 obtain ⟨tx, htx⟩ : ∃ t : ByteArray, Hid (ynT false = t) := ⟨_, hid rfl⟩
 rw [htx.out] at HC ⊢
 go_wp2_with fail; refine (put_any (M := [tx]) (S2.out.alloc _).pr (RT.n1 (by simp)) (by simp only [List.length_append, List.length_cons, List.length_nil]; omega)).mono ?_
 rintro e w3 ⟨rfl, v3, h3, f3⟩
 have S3 := hid ((S2.out.alloc _).step h3 f3)
 clear h3 f3 z0 z1 z2 z3 z4; obtain ⟨z0, z1, z2, z3, z4⟩ := Blk.four' S3.out.bx
 go_wp2_with fail; refine bodyPost_ret (v := .tuple #[]) (by simp [results, Tryz.results41]) rfl ?_
 exact ⟨rfl, _, by rw [HC.out]; simpa [List.append_assoc] using S3.out.pr, S3.out.fr⟩
end
section
open Go.RowKit
set_option maxRecDepth 100000
theorem hasN_3 {T : Tre} {i : Nat} {n : Nd} (h : VN T i n) (hk : n.kind = 3) : n.num = 0 ∨ n.num = 1 := by
 have := h.has
 rw [hk, has_plain (by omega) (by rfl)] at this
 simp [numB] at this
 omega
set_option maxHeartbeats 64000000 in
theorem prE_any {w0 w : World} {p : Nat} {nv v : Value} {T : Tre} {L : List ByteArray} {i : Nat} {n : Nd} (hN : NdP w0 p nv T i) (hv : VN T i n) (hk : 1 ≤ n.kind ∧ n.kind ≤ 11) (hW : Pw w0) {s9 : Option Addr} {c9 B9 : Nat} (hK : Els 1 cInt w0 B9 s9 n.kids) (hcap : n.kids.length ≤ c9) (hm2 : n.kids.length ≤ 1048576) (hT : Tb w0) (h : Pr w0 w p nv v L) (hroom : L.length + (tkA T (i : Int)).length ≤ 500000) :
  Calls Tryz.prog 41 #[.pointer (some ⟨p, 0, none⟩), .agg #[.int .i64 n.kind, .string n.text, .int .i64 n.num, .slice s9 n.kids.length c9]] w fun e w' => SaysQ w0 w p nv v L (tkA T (i : Int)) e w' := by
 have hs : n.kind = 1 ∨ n.kind = 2 ∨ n.kind = 3 ∨ n.kind = 4 ∨ n.kind = 5 ∨ n.kind = 6 ∨ n.kind = 7 ∨ n.kind = 8 ∨ n.kind = 9 ∨ n.kind = 10 ∨ n.kind = 11 := by omega
 rcases hs with h1 | h1 | h1 | h1 | h1 | h1 | h1 | h1 | h1 | h1 | h1
 ·
  exact exP_1 hN hv h1 hW hK hcap hm2 hT h hroom
 ·
  exact exP_2 hN hv h1 hK hcap hm2 hT h hroom
 ·
  have h3 := hasN_3 hv h1
  by_cases h2 : n.num = 1
  ·
   exact exP_3_1 hN hv h1 h2 hK hcap hm2 hT h hroom
  exact exP_3_0 hN hv h1 (by omega) hK hcap hm2 hT h hroom
 ·
  exact exP_4 hN hv h1 hK hcap hm2 hT h hroom
 ·
  exact exP_5 hN hv h1 hK hcap hm2 hT h hroom
 ·
  exact exP_6 hN hv h1 hK hcap hm2 hT h hroom
 ·
  exact exP_7 hN hv h1 hK hcap hm2 hT h hroom
 ·
  exact exP_8 hN hv h1 hK hcap hm2 hT h hroom
 ·
  exact exP_9 hN hv h1 hK hcap hm2 hT h hroom
 ·
  exact exP_10 hN hv h1 hK hcap hm2 hT h hroom
 exact exP_11 hN hv h1 hK hcap hm2 hT h hroom
set_option maxHeartbeats 64000000 in
theorem prS_any {w0 w : World} {p : Nat} {nv v : Value} {T : Tre} {L : List ByteArray} {i : Nat} {n : Nd} (hN : NdP w0 p nv T i) (hv : VN T i n) (hk : 12 ≤ n.kind ∧ n.kind ≤ 26) {s9 : Option Addr} {c9 B9 : Nat} (hK : Els 1 cInt w0 B9 s9 n.kids) (hcap : n.kids.length ≤ c9) (hm2 : n.kids.length ≤ 1048576) (hT : Tb w0) (h : Pr w0 w p nv v L) (hroom : L.length + (tkA T (i : Int)).length ≤ 500000) :
  Calls Tryz.prog 42 #[.pointer (some ⟨p, 0, none⟩), .agg #[.int .i64 n.kind, .string n.text, .int .i64 n.num, .slice s9 n.kids.length c9]] w fun e w' => SaysQ w0 w p nv v L (tkA T (i : Int)) e w' := by
 have hs : n.kind = 12 ∨ n.kind = 13 ∨ n.kind = 14 ∨ n.kind = 15 ∨ n.kind = 16 ∨ n.kind = 17 ∨ n.kind = 18 ∨ n.kind = 19 ∨ n.kind = 20 ∨ n.kind = 21 ∨ n.kind = 22 ∨ n.kind = 23 ∨ n.kind = 24 ∨ n.kind = 25 ∨ n.kind = 26 := by omega
 rcases hs with h1 | h1 | h1 | h1 | h1 | h1 | h1 | h1 | h1 | h1 | h1 | h1 | h1 | h1 | h1
 ·
  exact stP_12 hN hv h1 hK hcap hm2 hT h hroom
 ·
  exact stP_13 hN hv h1 hK hcap hm2 hT h hroom
 ·
  exact stP_14 hN hv h1 hK hcap hm2 hT h hroom
 ·
  exact stP_15 hN hv h1 hK hcap hm2 hT h hroom
 ·
  have hl := hv.len
  rw [h1] at hl
  by_cases h2 : n.kids.length = 3
  ·
   exact stP_16_3 hN hv h1 h2 hK hcap hm2 hT h hroom
  exact stP_16_2 hN hv h1 (by simp [shp, h2] at hl; omega) hK hcap hm2 hT h hroom
 ·
  exact stP_17 hN hv h1 hK hcap hm2 hT h hroom
 ·
  exact stP_18 hN hv h1 hK hcap hm2 hT h hroom
 ·
  exact stP_19 hN hv h1 hK hcap hm2 hT h hroom
 ·
  exact stP_20 hN hv h1 hK hcap hm2 hT h hroom
 ·
  exact stP_21 hN hv h1 hK hcap hm2 hT h hroom
 ·
  exact stP_22 hN hv h1 hK hcap hm2 hT h hroom
 ·
  exact stP_23 hN hv h1 hK hcap hm2 hT h hroom
 ·
  exact stP_24 hN hv h1 hK hcap hm2 hT h hroom
 ·
  exact stP_25 hN hv h1 hK hcap hm2 hT h hroom
 exact stP_26 hN hv h1 hK hcap hm2 hT h hroom
set_option maxHeartbeats 64000000 in
theorem prP_any {w0 w : World} {p : Nat} {nv v : Value} {T : Tre} {L : List ByteArray} {i : Nat} {n : Nd} (hN : NdP w0 p nv T i) (hv : VN T i n) (hk : 27 ≤ n.kind ∧ n.kind ≤ 34) {s9 : Option Addr} {c9 B9 : Nat} (hK : Els 1 cInt w0 B9 s9 n.kids) (hcap : n.kids.length ≤ c9) (hm2 : n.kids.length ≤ 1048576) (hT : Tb w0) (h : Pr w0 w p nv v L) (hroom : L.length + (tkA T (i : Int)).length ≤ 500000) :
  Calls Tryz.prog 43 #[.pointer (some ⟨p, 0, none⟩), .agg #[.int .i64 n.kind, .string n.text, .int .i64 n.num, .slice s9 n.kids.length c9]] w fun e w' => SaysQ w0 w p nv v L (tkA T (i : Int)) e w' := by
 have hs : n.kind = 27 ∨ n.kind = 28 ∨ n.kind = 29 ∨ n.kind = 30 ∨ n.kind = 31 ∨ n.kind = 32 ∨ n.kind = 33 ∨ n.kind = 34 := by omega
 rcases hs with h1 | h1 | h1 | h1 | h1 | h1 | h1 | h1
 ·
  exact paP_27 hN hv h1 hK hcap hm2 hT h hroom
 ·
  exact paP_28 hN hv h1 hK hcap hm2 hT h hroom
 ·
  exact paP_29 hN hv h1 hK hcap hm2 hT h hroom
 ·
  by_cases h2 : n.kids.length = 0
  ·
   exact paP_30_0 hN hv h1 h2 hK hcap hm2 hT h hroom
  exact paP_30_1 hN hv h1 h2 hK hcap hm2 hT h hroom
 ·
  exact paP_31 hN hv h1 hK hcap hm2 hT h hroom
 ·
  exact paP_32 hN hv h1 hK hcap hm2 hT h hroom
 ·
  exact paP_33 hN hv h1 hK hcap hm2 hT h hroom
 exact paP_34 hN hv h1 hK hcap hm2 hT h hroom
end
section
open Go.RowKit
set_option maxRecDepth 100000
structure Nt (w0 : World) (B0 : Nat) (n1 : Option Addr) (T : Tre) : Prop where
 els : Els 4 cNodeC w0 B0 n1 T.nodes
 k : kTre T
 tb : Tb w0
 pw : Pw w0
section
variable {w0 : World} {p B0 nc : Nat} {n1 : Option Addr} {T : Tre}
theorem rl_e {k : Int} (h : 1 ≤ k ∧ k ≤ 11) : rl k = 101 := by
 unfold rl
 rw [if_neg (by omega), if_neg (by omega), if_neg (by omega), if_neg (by omega), if_neg (by omega), if_neg (by omega), if_neg (by omega), if_pos h]
theorem rl_s {k : Int} (h : 12 ≤ k ∧ k ≤ 26) : rl k = 115 := by
 unfold rl
 rw [if_neg (by omega), if_neg (by omega), if_neg (by omega), if_neg (by omega), if_neg (by omega), if_neg (by omega), if_neg (by omega), if_neg (by omega), if_pos h]
theorem rl_p {k : Int} (h : 27 ≤ k ∧ k ≤ 34) : (((rl k).toNat : Int) == 101) = false ∧ (((rl k).toNat : Int) == 115) = false := by
 have hs : k = 27 ∨ k = 28 ∨ k = 29 ∨ k = 30 ∨ k = 31 ∨ k = 32 ∨ k = 33 ∨ k = 34 := by omega
 rcases hs with rfl | rfl | rfl | rfl | rfl | rfl | rfl | rfl <;> exact ⟨by rfl, by rfl⟩
set_option maxHeartbeats 64000000 in
theorem node_e {i : Nat} {n : Nd} (hG : Nt w0 B0 n1 T) (hN : NdP w0 p (.slice n1 T.nodes.length nc) T i) (hv : VN T i n) (hk : 1 ≤ n.kind ∧ n.kind ≤ 11) {w : World} {v : Value} {L : List ByteArray} (h : Pr w0 w p (.slice n1 T.nodes.length nc) v L) (hroom : L.length + (tkA T (i : Int)).length ≤ 500000) :
  Calls Tryz.prog 17 #[.pointer (some ⟨p, 0, none⟩), .int .i64 (i : Int)] w fun e w' => SaysQ w0 w p (.slice n1 T.nodes.length nc) v L (tkA T (i : Int)) e w' := by
 obtain ⟨nb, no, rfl, _, hnb, s9, c9, y0, y1, y2, y3, hE, hcap⟩ := eNodeC_cells hG.els hv.at_
 have HN := hid hN
 have HV := hid hv
 have HE := hid hE
 have HK := hid hk
 have G := hid hG
 have HC := hid hcap
 have hi : i < T.nodes.length := (List.getElem?_eq_some_iff.1 hv.at_).1
 have hi0 : (i : Int) < (T.nodes.length : Int) := by omega
 have hi1 : (0 : Int) ≤ (i : Int) := by omega
 have hkk := hG.k.1.2 n (List.mem_of_getElem? hv.at_)
 have HM : Hid (n.kids.length ≤ 1048576) := hkk.2
 have hkl := hG.k.1.1
 have P := hid h
 have x0 := (h.bl.cell (p := ⟨nb, no + i * 4, none⟩) hnb).trans y0
 have x1 := (h.bl.cell (p := ⟨nb, no + i * 4 + 1, none⟩) hnb).trans y1
 have x2 := (h.bl.cell (p := ⟨nb, no + i * 4 + 2, none⟩) hnb).trans y2
 have x3 := (h.bl.cell (p := ⟨nb, no + i * 4 + 3, none⟩) hnb).trans y3
 have z0 : w.cell? ⟨p, 0, none⟩ = some (.slice (some ⟨nb, no, none⟩) T.nodes.length nc) := (h.bx.cell 0).trans rfl
 have z1 : w.cell? ⟨p, 1, none⟩ = some v := (h.bx.cell 1).trans rfl
 clear h hN hv hE hk hG hcap y0 y1 y2 y3 hkk; go_enter Tryz.func17, Tryz.ntmps17
 go_wp2_with fail; refine (roleOf_any n.kind _).mono ?_
 rintro e w' ⟨rfl, hw'⟩
 have hw2 := hw'.symm; clear hw'; subst hw2
 have g1 : (((rl n.kind).toNat : Int) == 101) = true := by rw [rl_e HK.out]; rfl
 go_wp2_with fail; refine (prE_any HN.out HV.out HK.out G.out.pw HE.out HC.out HM.out G.out.tb (P.out.later (bl_alloc (Below.refl _ _) _)) hroom).mono ?_
 rintro e w1 ⟨rfl, v1, h1, f1⟩
 have H1 := hid h1
 have F1 : Hid (Fr w w1 p v v1) := (Fr.of (bl_alloc (Below.refl _ _) _)).trans f1
 clear h1 f1 z0 z1 x0 x1 x2 x3; go_wp2_with fail; refine bodyPost_ret (v := .tuple #[]) (by simp [results, Tryz.results17]) rfl ?_
 exact ⟨rfl, v1, H1.out, F1.out⟩
set_option maxHeartbeats 64000000 in
theorem node_s {i : Nat} {n : Nd} (hG : Nt w0 B0 n1 T) (hN : NdP w0 p (.slice n1 T.nodes.length nc) T i) (hv : VN T i n) (hk : 12 ≤ n.kind ∧ n.kind ≤ 26) {w : World} {v : Value} {L : List ByteArray} (h : Pr w0 w p (.slice n1 T.nodes.length nc) v L) (hroom : L.length + (tkA T (i : Int)).length ≤ 500000) :
  Calls Tryz.prog 17 #[.pointer (some ⟨p, 0, none⟩), .int .i64 (i : Int)] w fun e w' => SaysQ w0 w p (.slice n1 T.nodes.length nc) v L (tkA T (i : Int)) e w' := by
 obtain ⟨nb, no, rfl, _, hnb, s9, c9, y0, y1, y2, y3, hE, hcap⟩ := eNodeC_cells hG.els hv.at_
 have HN := hid hN
 have HV := hid hv
 have HE := hid hE
 have HK := hid hk
 have G := hid hG
 have HC := hid hcap
 have hi : i < T.nodes.length := (List.getElem?_eq_some_iff.1 hv.at_).1
 have hi0 : (i : Int) < (T.nodes.length : Int) := by omega
 have hi1 : (0 : Int) ≤ (i : Int) := by omega
 have hkk := hG.k.1.2 n (List.mem_of_getElem? hv.at_)
 have HM : Hid (n.kids.length ≤ 1048576) := hkk.2
 have hkl := hG.k.1.1
 have P := hid h
 have x0 := (h.bl.cell (p := ⟨nb, no + i * 4, none⟩) hnb).trans y0
 have x1 := (h.bl.cell (p := ⟨nb, no + i * 4 + 1, none⟩) hnb).trans y1
 have x2 := (h.bl.cell (p := ⟨nb, no + i * 4 + 2, none⟩) hnb).trans y2
 have x3 := (h.bl.cell (p := ⟨nb, no + i * 4 + 3, none⟩) hnb).trans y3
 have z0 : w.cell? ⟨p, 0, none⟩ = some (.slice (some ⟨nb, no, none⟩) T.nodes.length nc) := (h.bx.cell 0).trans rfl
 have z1 : w.cell? ⟨p, 1, none⟩ = some v := (h.bx.cell 1).trans rfl
 clear h hN hv hE hk hG hcap y0 y1 y2 y3 hkk; go_enter Tryz.func17, Tryz.ntmps17
 go_wp2_with fail; refine (roleOf_any n.kind _).mono ?_
 rintro e w' ⟨rfl, hw'⟩
 have hw2 := hw'.symm; clear hw'; subst hw2
 have g1 : (((rl n.kind).toNat : Int) == 101) = false := by rw [rl_s HK.out]; rfl
 have g2 : (((rl n.kind).toNat : Int) == 115) = true := by rw [rl_s HK.out]; rfl
 go_wp2_with fail; refine (prS_any HN.out HV.out HK.out HE.out HC.out HM.out G.out.tb (P.out.later (bl_alloc (Below.refl _ _) _)) hroom).mono ?_
 rintro e w1 ⟨rfl, v1, h1, f1⟩
 have H1 := hid h1
 have F1 : Hid (Fr w w1 p v v1) := (Fr.of (bl_alloc (Below.refl _ _) _)).trans f1
 clear h1 f1 z0 z1 x0 x1 x2 x3; go_wp2_with fail; refine bodyPost_ret (v := .tuple #[]) (by simp [results, Tryz.results17]) rfl ?_
 exact ⟨rfl, v1, H1.out, F1.out⟩
set_option maxHeartbeats 64000000 in
theorem node_p {i : Nat} {n : Nd} (hG : Nt w0 B0 n1 T) (hN : NdP w0 p (.slice n1 T.nodes.length nc) T i) (hv : VN T i n) (hk : 27 ≤ n.kind ∧ n.kind ≤ 34) {w : World} {v : Value} {L : List ByteArray} (h : Pr w0 w p (.slice n1 T.nodes.length nc) v L) (hroom : L.length + (tkA T (i : Int)).length ≤ 500000) :
  Calls Tryz.prog 17 #[.pointer (some ⟨p, 0, none⟩), .int .i64 (i : Int)] w fun e w' => SaysQ w0 w p (.slice n1 T.nodes.length nc) v L (tkA T (i : Int)) e w' := by
 obtain ⟨nb, no, rfl, _, hnb, s9, c9, y0, y1, y2, y3, hE, hcap⟩ := eNodeC_cells hG.els hv.at_
 have HN := hid hN
 have HV := hid hv
 have HE := hid hE
 have HK := hid hk
 have G := hid hG
 have HC := hid hcap
 have hi : i < T.nodes.length := (List.getElem?_eq_some_iff.1 hv.at_).1
 have hi0 : (i : Int) < (T.nodes.length : Int) := by omega
 have hi1 : (0 : Int) ≤ (i : Int) := by omega
 have hkk := hG.k.1.2 n (List.mem_of_getElem? hv.at_)
 have HM : Hid (n.kids.length ≤ 1048576) := hkk.2
 have hkl := hG.k.1.1
 have P := hid h
 have x0 := (h.bl.cell (p := ⟨nb, no + i * 4, none⟩) hnb).trans y0
 have x1 := (h.bl.cell (p := ⟨nb, no + i * 4 + 1, none⟩) hnb).trans y1
 have x2 := (h.bl.cell (p := ⟨nb, no + i * 4 + 2, none⟩) hnb).trans y2
 have x3 := (h.bl.cell (p := ⟨nb, no + i * 4 + 3, none⟩) hnb).trans y3
 have z0 : w.cell? ⟨p, 0, none⟩ = some (.slice (some ⟨nb, no, none⟩) T.nodes.length nc) := (h.bx.cell 0).trans rfl
 have z1 : w.cell? ⟨p, 1, none⟩ = some v := (h.bx.cell 1).trans rfl
 clear h hN hv hE hk hG hcap y0 y1 y2 y3 hkk; go_enter Tryz.func17, Tryz.ntmps17
 go_wp2_with fail; refine (roleOf_any n.kind _).mono ?_
 rintro e w' ⟨rfl, hw'⟩
 have hw2 := hw'.symm; clear hw'; subst hw2
 have g1 : (((rl n.kind).toNat : Int) == 101) = false := (rl_p HK.out).1
 have g2 : (((rl n.kind).toNat : Int) == 115) = false := (rl_p HK.out).2
 go_wp2_with fail; refine (prP_any HN.out HV.out HK.out HE.out HC.out HM.out G.out.tb (P.out.later (bl_alloc (Below.refl _ _) _)) hroom).mono ?_
 rintro e w1 ⟨rfl, v1, h1, f1⟩
 have H1 := hid h1
 have F1 : Hid (Fr w w1 p v v1) := (Fr.of (bl_alloc (Below.refl _ _) _)).trans f1
 clear h1 f1 z0 z1 x0 x1 x2 x3; go_wp2_with fail; refine bodyPost_ret (v := .tuple #[]) (by simp [results, Tryz.results17]) rfl ?_
 exact ⟨rfl, v1, H1.out, F1.out⟩
theorem node_all (hG : Nt w0 B0 n1 T) : ∀ f : Nat, NdP w0 p (.slice n1 T.nodes.length nc) T f := by
 intro f
 induction f with
 | zero => intro i n w v L hi; omega
 | succ f ih =>
  intro i n w v L hi hv hk h hroom
  by_cases hlt : i < f
  ·
   exact ih i n w v L hlt hv hk h hroom
  have e : i = f := by omega
  subst e
  by_cases h1 : n.kind ≤ 11
  ·
   exact node_e hG ih hv ⟨hk.1, h1⟩ h hroom
  by_cases h2 : n.kind ≤ 26
  ·
   exact node_s hG ih hv ⟨by omega, h2⟩ h hroom
  exact node_p hG ih hv ⟨by omega, hk.2⟩ h hroom
end
end
section
open Go.RowKit
set_option maxRecDepth 100000
abbrev IsBu (B b : Nat) (bs : List Value) (w : World) : Prop := Lib.IsBuilderF 46 5 B b bs w
theorem buAt_later {B b : Nat} {p : Value} {bs : List Value} {w w' : World} (h : Lib.BuilderAtF 46 5 B b p bs w) (hb : Below w.heap.size w w') : Lib.BuilderAtF 46 5 B b p bs w' := by
 have hlt := h.lt
 obtain ⟨h1, v, h2, h3, h4⟩ := h
 exact ⟨h1, v, (hb.block b hlt).trans h2, h3.kept (grown_of_below hb) (by cases v.ownBlock <;> simp), h4⟩
theorem bu_later {B b : Nat} {bs : List Value} {w w' : World} (h : IsBu B b bs w) (hb : Below w.heap.size w w') : IsBu B b bs w' := by
 rcases h with h | h
 ·
  exact Or.inl (buAt_later h hb)
 exact Or.inr (buAt_later h hb)
theorem bu_new (w : World) : IsBu w.heap.size w.heap.size [] (w.alloc (.cells #[.pointer none, .slice none 0 0] 46)) :=
 Or.inl ⟨Nat.le_refl _, .slice none 0 0, heap_alloc_new w _, World.ownsRowF_nil _ _ _ _, by simp [Value.ownBlock]⟩
theorem join0_is {sep : ByteArray} (w : World) : Calls Tryz.prog 19 #[.slice none 0 0, .string sep] w fun e w' => e = .returned (.string ⟨#[]⟩) ∧ Below w.heap.size w w' := by
 go_enter Tryz.func19, Tryz.ntmps19
 go_wp2_with fail; go_ret; exact ⟨rfl, Below.refl _ _⟩
theorem joinAny_is {B : Nat} {v : Value} {L : List ByteArray} (w : World) (hO : OS w B v L) (hN : L.length ≤ 500000) (hZ : ∀ t ∈ L, t.size ≤ 1048576) :
  Calls Tryz.prog 19 #[v, .string bSp] w fun e w' => e = .returned (.string (jnB L)) ∧ Below w.heap.size w w' := by
 by_cases h : L.length = 0
 ·
  rcases hO.form with ⟨rfl, rfl⟩ | ⟨g, cap, rfl, _, hlt, hcap⟩
  ·
   exact join0_is w
  have h0 : L = [] := List.eq_nil_of_length_eq_zero h
  subst h0
  go_enter Tryz.func19, Tryz.ntmps19
  go_wp2_with fail; go_ret; exact ⟨rfl, Below.refl _ _⟩
 exact join_is w hO (by omega) hN hZ
def prS (T : Tre) (ks : List Int) : ByteArray := ks.foldl (fun a x => a ++ jnB (tkA T x) ++ bNl) ⟨#[]⟩
theorem pr_take {T : Tre} {ks : List Int} {k : Nat} {x : Int} (hx : ks[k]? = some x) : prS T (ks.take (k + 1)) = prS T (ks.take k) ++ jnB (tkA T x) ++ bNl := by
 rw [List.take_add_one, hx]
 simp [prS, List.foldl_append]
theorem top_vn {T : Tre} (h : treP T) {k : Nat} {x : Int} (hx : T.tops[k]? = some x) : ∃ (m : Nat) (n : Nd), x = m ∧ VN T m n ∧ (1 ≤ n.kind ∧ n.kind ≤ 34) ∧ m < T.nodes.length := by
 obtain ⟨m, nd, rfl, hm, hc⟩ := h.2.2 k x hx
 obtain ⟨k', b, e, hok, hfk, _, hlt⟩ := h.2.1.mem _ (List.mem_of_getElem? hx)
 have e' : m = k' := by omega
 subst e'
 exact ⟨m, nd, rfl, ⟨hm, hok, b, by rw [kidsOf_some hm] at hfk; exact hfk⟩, cls_in hc, hlt⟩
theorem top_len {T : Tre} (h : treP T) {m : Nat} {n : Nd} (hv : VN T m n) : (tkA T (m : Int)).length ≤ 32000 := by
 have h1 := hv.tl
 have h2 := (List.getElem?_eq_some_iff.1 hv.at_).1
 have h3 := h.1
 omega
theorem top_size {T : Tre} (h : treP T) (hk : kTre T) (hm : ∀ n ∈ T.nodes, okI n.num) {m : Nat} {n : Nd} (hv : VN T m n) : (jnB (tkA T (m : Int))).size ≤ 33554464000 := by
 have h1 := jn_size (tkA T (m : Int)) (smL_tkA hk hm _)
 have h2 := top_len h hv
 omega
theorem pr_size {T : Tre} (h : treP T) (hk : kTre T) (hm : ∀ n ∈ T.nodes, okI n.num) : ∀ k, k ≤ T.tops.length → (prS T (T.tops.take k)).size ≤ 33554464001 * k := by
 intro k
 induction k with
 | zero => intro _; exact Nat.le_refl 0
 | succ k ih =>
  intro hk1
  obtain ⟨x, hx⟩ : ∃ x, T.tops[k]? = some x := ⟨_, List.getElem?_eq_getElem (by omega)⟩
  obtain ⟨m, n, rfl, hv, _, _⟩ := top_vn h hx
  have h1 := ih (by omega)
  have h2 := top_size h hk hm hv
  have h3 : bNl.size = 1 := rfl
  rw [pr_take hx, ByteArray.size_append, ByteArray.size_append]
  omega
theorem tops_len {T : Tre} (h : treP T) : T.tops.length ≤ 4000 := by
 have := h.2.1.len
 have := h.1
 omega
end
end Go.Proofs.YtjckoldjodjehaaGreatDoor
