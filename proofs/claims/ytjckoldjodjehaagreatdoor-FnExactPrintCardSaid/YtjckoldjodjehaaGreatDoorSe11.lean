import Derived.Test.YtjckoldjodjehaaGreatDoorSe10
namespace Go.Proofs.YtjckoldjodjehaaGreatDoor
set_option linter.unusedVariables false
set_option linter.unusedSimpArgs false
section
open Go.RowKit
set_option maxRecDepth 100000
set_option maxHeartbeats 64000000 in
theorem hdP_12 {w0 w : World} {p : Nat} {nv v : Value} {T : Tre} {L : List ByteArray} {i : Nat} {n : Nd} (hN : NdP w0 p nv T i) (hv : VN T i n) (hk : n.kind = 12) {s9 : Option Addr} {c9 B9 : Nat} (hK : Els 1 cInt w0 B9 s9 n.kids) (hcap : n.kids.length ≤ c9) (hm2 : n.kids.length ≤ 1048576) (hT : Tb w0) (h : Pr w0 w p nv v L) (hroom : L.length + [bLet, n.text, bEq].length ≤ 500000) :
  Calls Tryz.prog 66 #[.pointer (some ⟨p, 0, none⟩), .agg #[.int .i64 n.kind, .string n.text, .int .i64 n.num, .slice s9 n.kids.length c9]] w fun e w' => SaysQ w0 w p nv v L [bLet, n.text, bEq] e w' := by
 have HN := hid hN
 have HV := hid hv
 have HK := hid hK
 have HT := hid hT
 have HE : Hid (tkA T (i : Int) = tkN (tkA T) n) := tkA_eq hv
 obtain ⟨kd, hkd⟩ : ∃ k, Hid (n.kind = k) := ⟨_, hid rfl⟩
 obtain ⟨ml, hml⟩ : ∃ m, Hid (n.kids.length = m) := ⟨_, hid rfl⟩
 have hlen := hv.len
 have hnum := hv.num
 rw [hml.out] at hcap hm2
 rw [hkd.out] at hk hlen
 rw [hkd.out, hml.out]
 have S0 := hid (Pn.start h #[.int .i64 kd, .string n.text, .int .i64 n.num, .slice s9 ml c9])
 clear hN hv hK hT h; obtain rfl : kd = 12 := hk
 simp only [List.length_cons, List.length_nil] at hroom
 obtain ⟨z0, z1, z2, z3, z4⟩ := Blk.four' S0.out.bx
 go_enter Tryz.func66, Tryz.ntmps66
 go_wp2_with fail; refine (put_any (M := [bLet, n.text, bEq]) (S0.out.alloc _).pr (RT.n3 (by simp)) (by simp only [List.length_append, List.length_cons, List.length_nil]; omega)).mono ?_
 rintro e w1 ⟨rfl, v1, h1, f1⟩
 have S1 := hid ((S0.out.alloc _).step h1 f1)
 clear h1 f1 z0 z1 z2 z3 z4; obtain ⟨z0, z1, z2, z3, z4⟩ := Blk.four' S1.out.bx
 go_wp2_with fail; refine bodyPost_ret (v := .tuple #[]) (by simp [results, Tryz.results66]) rfl ?_
 exact ⟨rfl, _, S1.out.pr, S1.out.fr⟩
set_option maxHeartbeats 64000000 in
theorem hdP_13 {w0 w : World} {p : Nat} {nv v : Value} {T : Tre} {L : List ByteArray} {i : Nat} {n : Nd} (hN : NdP w0 p nv T i) (hv : VN T i n) (hk : n.kind = 13) {s9 : Option Addr} {c9 B9 : Nat} (hK : Els 1 cInt w0 B9 s9 n.kids) (hcap : n.kids.length ≤ c9) (hm2 : n.kids.length ≤ 1048576) (hT : Tb w0) (h : Pr w0 w p nv v L) (hroom : L.length + [n.text, bEq].length ≤ 500000) :
  Calls Tryz.prog 66 #[.pointer (some ⟨p, 0, none⟩), .agg #[.int .i64 n.kind, .string n.text, .int .i64 n.num, .slice s9 n.kids.length c9]] w fun e w' => SaysQ w0 w p nv v L [n.text, bEq] e w' := by
 have HN := hid hN
 have HV := hid hv
 have HK := hid hK
 have HT := hid hT
 have HE : Hid (tkA T (i : Int) = tkN (tkA T) n) := tkA_eq hv
 obtain ⟨kd, hkd⟩ : ∃ k, Hid (n.kind = k) := ⟨_, hid rfl⟩
 obtain ⟨ml, hml⟩ : ∃ m, Hid (n.kids.length = m) := ⟨_, hid rfl⟩
 have hlen := hv.len
 have hnum := hv.num
 rw [hml.out] at hcap hm2
 rw [hkd.out] at hk hlen
 rw [hkd.out, hml.out]
 have S0 := hid (Pn.start h #[.int .i64 kd, .string n.text, .int .i64 n.num, .slice s9 ml c9])
 clear hN hv hK hT h; obtain rfl : kd = 13 := hk
 simp only [List.length_cons, List.length_nil] at hroom
 obtain ⟨z0, z1, z2, z3, z4⟩ := Blk.four' S0.out.bx
 go_enter Tryz.func66, Tryz.ntmps66
 go_wp2_with fail; refine (put_any (M := [n.text, bEq]) (S0.out.alloc _).pr (RT.n2 (by simp)) (by simp only [List.length_append, List.length_cons, List.length_nil]; omega)).mono ?_
 rintro e w1 ⟨rfl, v1, h1, f1⟩
 have S1 := hid ((S0.out.alloc _).step h1 f1)
 clear h1 f1 z0 z1 z2 z3 z4; obtain ⟨z0, z1, z2, z3, z4⟩ := Blk.four' S1.out.bx
 go_wp2_with fail; refine bodyPost_ret (v := .tuple #[]) (by simp [results, Tryz.results66]) rfl ?_
 exact ⟨rfl, _, S1.out.pr, S1.out.fr⟩
set_option maxHeartbeats 64000000 in
theorem hdP_14 {w0 w : World} {p : Nat} {nv v : Value} {T : Tre} {L : List ByteArray} {i : Nat} {n : Nd} (hN : NdP w0 p nv T i) (hv : VN T i n) (hk : n.kind = 14) {s9 : Option Addr} {c9 B9 : Nat} (hK : Els 1 cInt w0 B9 s9 n.kids) (hcap : n.kids.length ≤ c9) (hm2 : n.kids.length ≤ 1048576) (hT : Tb w0) (h : Pr w0 w p nv v L) (hroom : L.length + [bDot, n.text, bEq].length ≤ 500000) :
  Calls Tryz.prog 66 #[.pointer (some ⟨p, 0, none⟩), .agg #[.int .i64 n.kind, .string n.text, .int .i64 n.num, .slice s9 n.kids.length c9]] w fun e w' => SaysQ w0 w p nv v L [bDot, n.text, bEq] e w' := by
 have HN := hid hN
 have HV := hid hv
 have HK := hid hK
 have HT := hid hT
 have HE : Hid (tkA T (i : Int) = tkN (tkA T) n) := tkA_eq hv
 obtain ⟨kd, hkd⟩ : ∃ k, Hid (n.kind = k) := ⟨_, hid rfl⟩
 obtain ⟨ml, hml⟩ : ∃ m, Hid (n.kids.length = m) := ⟨_, hid rfl⟩
 have hlen := hv.len
 have hnum := hv.num
 rw [hml.out] at hcap hm2
 rw [hkd.out] at hk hlen
 rw [hkd.out, hml.out]
 have S0 := hid (Pn.start h #[.int .i64 kd, .string n.text, .int .i64 n.num, .slice s9 ml c9])
 clear hN hv hK hT h; obtain rfl : kd = 14 := hk
 simp only [List.length_cons, List.length_nil] at hroom
 obtain ⟨z0, z1, z2, z3, z4⟩ := Blk.four' S0.out.bx
 go_enter Tryz.func66, Tryz.ntmps66
 go_wp2_with fail; refine (put_any (M := [bDot, n.text, bEq]) (S0.out.alloc _).pr (RT.n3 (by simp)) (by simp only [List.length_append, List.length_cons, List.length_nil]; omega)).mono ?_
 rintro e w1 ⟨rfl, v1, h1, f1⟩
 have S1 := hid ((S0.out.alloc _).step h1 f1)
 clear h1 f1 z0 z1 z2 z3 z4; obtain ⟨z0, z1, z2, z3, z4⟩ := Blk.four' S1.out.bx
 go_wp2_with fail; refine bodyPost_ret (v := .tuple #[]) (by simp [results, Tryz.results66]) rfl ?_
 exact ⟨rfl, _, S1.out.pr, S1.out.fr⟩
set_option maxHeartbeats 64000000 in
theorem hdP_15 {w0 w : World} {p : Nat} {nv v : Value} {T : Tre} {L : List ByteArray} {i : Nat} {n : Nd} (hN : NdP w0 p nv T i) (hv : VN T i n) (hk : n.kind = 15) {s9 : Option Addr} {c9 B9 : Nat} (hK : Els 1 cInt w0 B9 s9 n.kids) (hcap : n.kids.length ≤ c9) (hm2 : n.kids.length ≤ 1048576) (hT : Tb w0) (h : Pr w0 w p nv v L) (hroom : L.length + [bDol, n.text, bEq].length ≤ 500000) :
  Calls Tryz.prog 66 #[.pointer (some ⟨p, 0, none⟩), .agg #[.int .i64 n.kind, .string n.text, .int .i64 n.num, .slice s9 n.kids.length c9]] w fun e w' => SaysQ w0 w p nv v L [bDol, n.text, bEq] e w' := by
 have HN := hid hN
 have HV := hid hv
 have HK := hid hK
 have HT := hid hT
 have HE : Hid (tkA T (i : Int) = tkN (tkA T) n) := tkA_eq hv
 obtain ⟨kd, hkd⟩ : ∃ k, Hid (n.kind = k) := ⟨_, hid rfl⟩
 obtain ⟨ml, hml⟩ : ∃ m, Hid (n.kids.length = m) := ⟨_, hid rfl⟩
 have hlen := hv.len
 have hnum := hv.num
 rw [hml.out] at hcap hm2
 rw [hkd.out] at hk hlen
 rw [hkd.out, hml.out]
 have S0 := hid (Pn.start h #[.int .i64 kd, .string n.text, .int .i64 n.num, .slice s9 ml c9])
 clear hN hv hK hT h; obtain rfl : kd = 15 := hk
 simp only [List.length_cons, List.length_nil] at hroom
 obtain ⟨z0, z1, z2, z3, z4⟩ := Blk.four' S0.out.bx
 go_enter Tryz.func66, Tryz.ntmps66
 go_wp2_with fail; refine (put_any (M := [bDol, n.text, bEq]) (S0.out.alloc _).pr (RT.n3 (by simp)) (by simp only [List.length_append, List.length_cons, List.length_nil]; omega)).mono ?_
 rintro e w1 ⟨rfl, v1, h1, f1⟩
 have S1 := hid ((S0.out.alloc _).step h1 f1)
 clear h1 f1 z0 z1 z2 z3 z4; obtain ⟨z0, z1, z2, z3, z4⟩ := Blk.four' S1.out.bx
 go_wp2_with fail; refine bodyPost_ret (v := .tuple #[]) (by simp [results, Tryz.results66]) rfl ?_
 exact ⟨rfl, _, S1.out.pr, S1.out.fr⟩
set_option maxHeartbeats 64000000 in
theorem hdP_19 {w0 w : World} {p : Nat} {nv v : Value} {T : Tre} {L : List ByteArray} {i : Nat} {n : Nd} (hN : NdP w0 p nv T i) (hv : VN T i n) (hk : n.kind = 19) {s9 : Option Addr} {c9 B9 : Nat} (hK : Els 1 cInt w0 B9 s9 n.kids) (hcap : n.kids.length ≤ c9) (hm2 : n.kids.length ≤ 1048576) (hT : Tb w0) (h : Pr w0 w p nv v L) (hroom : L.length + [bEmit, n.text].length ≤ 500000) :
  Calls Tryz.prog 66 #[.pointer (some ⟨p, 0, none⟩), .agg #[.int .i64 n.kind, .string n.text, .int .i64 n.num, .slice s9 n.kids.length c9]] w fun e w' => SaysQ w0 w p nv v L [bEmit, n.text] e w' := by
 have HN := hid hN
 have HV := hid hv
 have HK := hid hK
 have HT := hid hT
 have HE : Hid (tkA T (i : Int) = tkN (tkA T) n) := tkA_eq hv
 obtain ⟨kd, hkd⟩ : ∃ k, Hid (n.kind = k) := ⟨_, hid rfl⟩
 obtain ⟨ml, hml⟩ : ∃ m, Hid (n.kids.length = m) := ⟨_, hid rfl⟩
 have hlen := hv.len
 have hnum := hv.num
 rw [hml.out] at hcap hm2
 rw [hkd.out] at hk hlen
 rw [hkd.out, hml.out]
 have S0 := hid (Pn.start h #[.int .i64 kd, .string n.text, .int .i64 n.num, .slice s9 ml c9])
 clear hN hv hK hT h; obtain rfl : kd = 19 := hk
 simp only [List.length_cons, List.length_nil] at hroom
 obtain ⟨z0, z1, z2, z3, z4⟩ := Blk.four' S0.out.bx
 go_enter Tryz.func66, Tryz.ntmps66
 go_wp2_with fail; refine (put_any (M := [bEmit, n.text]) (S0.out.alloc _).pr (RT.n2 (by simp)) (by simp only [List.length_append, List.length_cons, List.length_nil]; omega)).mono ?_
 rintro e w1 ⟨rfl, v1, h1, f1⟩
 have S1 := hid ((S0.out.alloc _).step h1 f1)
 clear h1 f1 z0 z1 z2 z3 z4; obtain ⟨z0, z1, z2, z3, z4⟩ := Blk.four' S1.out.bx
 go_wp2_with fail; refine bodyPost_ret (v := .tuple #[]) (by simp [results, Tryz.results66]) rfl ?_
 exact ⟨rfl, _, S1.out.pr, S1.out.fr⟩
set_option maxHeartbeats 64000000 in
theorem hdP_22 {w0 w : World} {p : Nat} {nv v : Value} {T : Tre} {L : List ByteArray} {i : Nat} {n : Nd} (hN : NdP w0 p nv T i) (hv : VN T i n) (hk : n.kind = 22) {s9 : Option Addr} {c9 B9 : Nat} (hK : Els 1 cInt w0 B9 s9 n.kids) (hcap : n.kids.length ≤ c9) (hm2 : n.kids.length ≤ 1048576) (hT : Tb w0) (h : Pr w0 w p nv v L) (hroom : L.length + [bKill].length ≤ 500000) :
  Calls Tryz.prog 66 #[.pointer (some ⟨p, 0, none⟩), .agg #[.int .i64 n.kind, .string n.text, .int .i64 n.num, .slice s9 n.kids.length c9]] w fun e w' => SaysQ w0 w p nv v L [bKill] e w' := by
 have HN := hid hN
 have HV := hid hv
 have HK := hid hK
 have HT := hid hT
 have HE : Hid (tkA T (i : Int) = tkN (tkA T) n) := tkA_eq hv
 obtain ⟨kd, hkd⟩ : ∃ k, Hid (n.kind = k) := ⟨_, hid rfl⟩
 obtain ⟨ml, hml⟩ : ∃ m, Hid (n.kids.length = m) := ⟨_, hid rfl⟩
 have hlen := hv.len
 have hnum := hv.num
 rw [hml.out] at hcap hm2
 rw [hkd.out] at hk hlen
 rw [hkd.out, hml.out]
 have S0 := hid (Pn.start h #[.int .i64 kd, .string n.text, .int .i64 n.num, .slice s9 ml c9])
 clear hN hv hK hT h; obtain rfl : kd = 22 := hk
 simp only [List.length_cons, List.length_nil] at hroom
 obtain ⟨z0, z1, z2, z3, z4⟩ := Blk.four' S0.out.bx
 go_enter Tryz.func66, Tryz.ntmps66
 go_wp2_with fail; refine (put_any (M := [bKill]) (S0.out.alloc _).pr (RT.n1 (by simp)) (by simp only [List.length_append, List.length_cons, List.length_nil]; omega)).mono ?_
 rintro e w1 ⟨rfl, v1, h1, f1⟩
 have S1 := hid ((S0.out.alloc _).step h1 f1)
 clear h1 f1 z0 z1 z2 z3 z4; obtain ⟨z0, z1, z2, z3, z4⟩ := Blk.four' S1.out.bx
 go_wp2_with fail; refine bodyPost_ret (v := .tuple #[]) (by simp [results, Tryz.results66]) rfl ?_
 exact ⟨rfl, _, S1.out.pr, S1.out.fr⟩
set_option maxHeartbeats 64000000 in
theorem hdP_23 {w0 w : World} {p : Nat} {nv v : Value} {T : Tre} {L : List ByteArray} {i : Nat} {n : Nd} (hN : NdP w0 p nv T i) (hv : VN T i n) (hk : n.kind = 23) {s9 : Option Addr} {c9 B9 : Nat} (hK : Els 1 cInt w0 B9 s9 n.kids) (hcap : n.kids.length ≤ c9) (hm2 : n.kids.length ≤ 1048576) (hT : Tb w0) (h : Pr w0 w p nv v L) (hroom : L.length + [bPut, n.text, bEq].length ≤ 500000) :
  Calls Tryz.prog 66 #[.pointer (some ⟨p, 0, none⟩), .agg #[.int .i64 n.kind, .string n.text, .int .i64 n.num, .slice s9 n.kids.length c9]] w fun e w' => SaysQ w0 w p nv v L [bPut, n.text, bEq] e w' := by
 have HN := hid hN
 have HV := hid hv
 have HK := hid hK
 have HT := hid hT
 have HE : Hid (tkA T (i : Int) = tkN (tkA T) n) := tkA_eq hv
 obtain ⟨kd, hkd⟩ : ∃ k, Hid (n.kind = k) := ⟨_, hid rfl⟩
 obtain ⟨ml, hml⟩ : ∃ m, Hid (n.kids.length = m) := ⟨_, hid rfl⟩
 have hlen := hv.len
 have hnum := hv.num
 rw [hml.out] at hcap hm2
 rw [hkd.out] at hk hlen
 rw [hkd.out, hml.out]
 have S0 := hid (Pn.start h #[.int .i64 kd, .string n.text, .int .i64 n.num, .slice s9 ml c9])
 clear hN hv hK hT h; obtain rfl : kd = 23 := hk
 simp only [List.length_cons, List.length_nil] at hroom
 obtain ⟨z0, z1, z2, z3, z4⟩ := Blk.four' S0.out.bx
 go_enter Tryz.func66, Tryz.ntmps66
 go_wp2_with fail; refine (put_any (M := [bPut, n.text, bEq]) (S0.out.alloc _).pr (RT.n3 (by simp)) (by simp only [List.length_append, List.length_cons, List.length_nil]; omega)).mono ?_
 rintro e w1 ⟨rfl, v1, h1, f1⟩
 have S1 := hid ((S0.out.alloc _).step h1 f1)
 clear h1 f1 z0 z1 z2 z3 z4; obtain ⟨z0, z1, z2, z3, z4⟩ := Blk.four' S1.out.bx
 go_wp2_with fail; refine bodyPost_ret (v := .tuple #[]) (by simp [results, Tryz.results66]) rfl ?_
 exact ⟨rfl, _, S1.out.pr, S1.out.fr⟩
set_option maxHeartbeats 64000000 in
theorem hdP_24 {w0 w : World} {p : Nat} {nv v : Value} {T : Tre} {L : List ByteArray} {i : Nat} {n : Nd} (hN : NdP w0 p nv T i) (hv : VN T i n) (hk : n.kind = 24) {s9 : Option Addr} {c9 B9 : Nat} (hK : Els 1 cInt w0 B9 s9 n.kids) (hcap : n.kids.length ≤ c9) (hm2 : n.kids.length ≤ 1048576) (hT : Tb w0) (h : Pr w0 w p nv v L) (hroom : L.length + [bDrop, n.text].length ≤ 500000) :
  Calls Tryz.prog 66 #[.pointer (some ⟨p, 0, none⟩), .agg #[.int .i64 n.kind, .string n.text, .int .i64 n.num, .slice s9 n.kids.length c9]] w fun e w' => SaysQ w0 w p nv v L [bDrop, n.text] e w' := by
 have HN := hid hN
 have HV := hid hv
 have HK := hid hK
 have HT := hid hT
 have HE : Hid (tkA T (i : Int) = tkN (tkA T) n) := tkA_eq hv
 obtain ⟨kd, hkd⟩ : ∃ k, Hid (n.kind = k) := ⟨_, hid rfl⟩
 obtain ⟨ml, hml⟩ : ∃ m, Hid (n.kids.length = m) := ⟨_, hid rfl⟩
 have hlen := hv.len
 have hnum := hv.num
 rw [hml.out] at hcap hm2
 rw [hkd.out] at hk hlen
 rw [hkd.out, hml.out]
 have S0 := hid (Pn.start h #[.int .i64 kd, .string n.text, .int .i64 n.num, .slice s9 ml c9])
 clear hN hv hK hT h; obtain rfl : kd = 24 := hk
 simp only [List.length_cons, List.length_nil] at hroom
 obtain ⟨z0, z1, z2, z3, z4⟩ := Blk.four' S0.out.bx
 go_enter Tryz.func66, Tryz.ntmps66
 go_wp2_with fail; refine (put_any (M := [bDrop, n.text]) (S0.out.alloc _).pr (RT.n2 (by simp)) (by simp only [List.length_append, List.length_cons, List.length_nil]; omega)).mono ?_
 rintro e w1 ⟨rfl, v1, h1, f1⟩
 have S1 := hid ((S0.out.alloc _).step h1 f1)
 clear h1 f1 z0 z1 z2 z3 z4; obtain ⟨z0, z1, z2, z3, z4⟩ := Blk.four' S1.out.bx
 go_wp2_with fail; refine bodyPost_ret (v := .tuple #[]) (by simp [results, Tryz.results66]) rfl ?_
 exact ⟨rfl, _, S1.out.pr, S1.out.fr⟩
set_option maxHeartbeats 64000000 in
theorem hdP_25 {w0 w : World} {p : Nat} {nv v : Value} {T : Tre} {L : List ByteArray} {i : Nat} {n : Nd} (hN : NdP w0 p nv T i) (hv : VN T i n) (hk : n.kind = 25) {s9 : Option Addr} {c9 B9 : Nat} (hK : Els 1 cInt w0 B9 s9 n.kids) (hcap : n.kids.length ≤ c9) (hm2 : n.kids.length ≤ 1048576) (hT : Tb w0) (h : Pr w0 w p nv v L) (hroom : L.length + [bDo].length ≤ 500000) :
  Calls Tryz.prog 66 #[.pointer (some ⟨p, 0, none⟩), .agg #[.int .i64 n.kind, .string n.text, .int .i64 n.num, .slice s9 n.kids.length c9]] w fun e w' => SaysQ w0 w p nv v L [bDo] e w' := by
 have HN := hid hN
 have HV := hid hv
 have HK := hid hK
 have HT := hid hT
 have HE : Hid (tkA T (i : Int) = tkN (tkA T) n) := tkA_eq hv
 obtain ⟨kd, hkd⟩ : ∃ k, Hid (n.kind = k) := ⟨_, hid rfl⟩
 obtain ⟨ml, hml⟩ : ∃ m, Hid (n.kids.length = m) := ⟨_, hid rfl⟩
 have hlen := hv.len
 have hnum := hv.num
 rw [hml.out] at hcap hm2
 rw [hkd.out] at hk hlen
 rw [hkd.out, hml.out]
 have S0 := hid (Pn.start h #[.int .i64 kd, .string n.text, .int .i64 n.num, .slice s9 ml c9])
 clear hN hv hK hT h; obtain rfl : kd = 25 := hk
 simp only [List.length_cons, List.length_nil] at hroom
 obtain ⟨z0, z1, z2, z3, z4⟩ := Blk.four' S0.out.bx
 go_enter Tryz.func66, Tryz.ntmps66
 go_wp2_with fail; refine (put_any (M := [bDo]) (S0.out.alloc _).pr (RT.n1 (by simp)) (by simp only [List.length_append, List.length_cons, List.length_nil]; omega)).mono ?_
 rintro e w1 ⟨rfl, v1, h1, f1⟩
 have S1 := hid ((S0.out.alloc _).step h1 f1)
 clear h1 f1 z0 z1 z2 z3 z4; obtain ⟨z0, z1, z2, z3, z4⟩ := Blk.four' S1.out.bx
 go_wp2_with fail; refine bodyPost_ret (v := .tuple #[]) (by simp [results, Tryz.results66]) rfl ?_
 exact ⟨rfl, _, S1.out.pr, S1.out.fr⟩
set_option maxHeartbeats 64000000 in
theorem hdP_26 {w0 w : World} {p : Nat} {nv v : Value} {T : Tre} {L : List ByteArray} {i : Nat} {n : Nd} (hN : NdP w0 p nv T i) (hv : VN T i n) (hk : n.kind = 26) {s9 : Option Addr} {c9 B9 : Nat} (hK : Els 1 cInt w0 B9 s9 n.kids) (hcap : n.kids.length ≤ c9) (hm2 : n.kids.length ≤ 1048576) (hT : Tb w0) (h : Pr w0 w p nv v L) (hroom : L.length + [bReturn].length ≤ 500000) :
  Calls Tryz.prog 66 #[.pointer (some ⟨p, 0, none⟩), .agg #[.int .i64 n.kind, .string n.text, .int .i64 n.num, .slice s9 n.kids.length c9]] w fun e w' => SaysQ w0 w p nv v L [bReturn] e w' := by
 have HN := hid hN
 have HV := hid hv
 have HK := hid hK
 have HT := hid hT
 have HE : Hid (tkA T (i : Int) = tkN (tkA T) n) := tkA_eq hv
 obtain ⟨kd, hkd⟩ : ∃ k, Hid (n.kind = k) := ⟨_, hid rfl⟩
 obtain ⟨ml, hml⟩ : ∃ m, Hid (n.kids.length = m) := ⟨_, hid rfl⟩
 have hlen := hv.len
 have hnum := hv.num
 rw [hml.out] at hcap hm2
 rw [hkd.out] at hk hlen
 rw [hkd.out, hml.out]
 have S0 := hid (Pn.start h #[.int .i64 kd, .string n.text, .int .i64 n.num, .slice s9 ml c9])
 clear hN hv hK hT h; obtain rfl : kd = 26 := hk
 simp only [List.length_cons, List.length_nil] at hroom
 obtain ⟨z0, z1, z2, z3, z4⟩ := Blk.four' S0.out.bx
 go_enter Tryz.func66, Tryz.ntmps66
 go_wp2_with fail; refine (put_any (M := [bReturn]) (S0.out.alloc _).pr (RT.n1 (by simp)) (by simp only [List.length_append, List.length_cons, List.length_nil]; omega)).mono ?_
 rintro e w1 ⟨rfl, v1, h1, f1⟩
 have S1 := hid ((S0.out.alloc _).step h1 f1)
 clear h1 f1 z0 z1 z2 z3 z4; obtain ⟨z0, z1, z2, z3, z4⟩ := Blk.four' S1.out.bx
 go_wp2_with fail; refine bodyPost_ret (v := .tuple #[]) (by simp [results, Tryz.results66]) rfl ?_
 exact ⟨rfl, _, S1.out.pr, S1.out.fr⟩
end
section
open Go.RowKit
set_option maxRecDepth 100000
set_option maxHeartbeats 64000000 in
theorem stP_12 {w0 w : World} {p : Nat} {nv v : Value} {T : Tre} {L : List ByteArray} {i : Nat} {n : Nd} (hN : NdP w0 p nv T i) (hv : VN T i n) (hk : n.kind = 12) {s9 : Option Addr} {c9 B9 : Nat} (hK : Els 1 cInt w0 B9 s9 n.kids) (hcap : n.kids.length ≤ c9) (hm2 : n.kids.length ≤ 1048576) (hT : Tb w0) (h : Pr w0 w p nv v L) (hroom : L.length + (tkA T (i : Int)).length ≤ 500000) :
  Calls Tryz.prog 42 #[.pointer (some ⟨p, 0, none⟩), .agg #[.int .i64 n.kind, .string n.text, .int .i64 n.num, .slice s9 n.kids.length c9]] w fun e w' => SaysQ w0 w p nv v L (tkA T (i : Int)) e w' := by
 have HN := hid hN
 have HV := hid hv
 have HK := hid hK
 have HT := hid hT
 have HE : Hid (tkA T (i : Int) = tkN (tkA T) n) := tkA_eq hv
 obtain ⟨kd, hkd⟩ : ∃ k, Hid (n.kind = k) := ⟨_, hid rfl⟩
 obtain ⟨ml, hml⟩ : ∃ m, Hid (n.kids.length = m) := ⟨_, hid rfl⟩
 have hlen := hv.len
 have hnum := hv.num
 rw [hml.out] at hcap hm2
 rw [hkd.out] at hk hlen
 rw [hkd.out, hml.out]
 have S0 := hid (Pn.start h #[.int .i64 kd, .string n.text, .int .i64 n.num, .slice s9 ml c9])
 clear hN hv hK hT h; obtain rfl : kd = 12 := hk
 have hl1 : n.kids.length = 1 := by simp [shp] at hlen; omega
 have HKS : Hid (∀ x ∈ n.kids, ∃ (k : Nat) (m : Nd), x = k ∧ k < i ∧ VN T k m ∧ (1 ≤ m.kind ∧ m.kind ≤ 34)) := HV.out.kid_in
 have HC : Hid (tkA T (i : Int) = [bLet, n.text, bEq] ++ ((n.kids.map (tkA T)).flatten) ++ [bSemi]) := by show _ = _; rw [HE.out]; unfold tkN; rw [hkd.out]; rw [kids_1 hl1]; simp
 have hr := hroom
 rw [HC.out] at hr
 simp only [List.length_append, List.length_cons, List.length_nil] at hr
 clear hroom; obtain ⟨z0, z1, z2, z3, z4⟩ := Blk.four' S0.out.bx
 go_enter Tryz.func42, Tryz.ntmps42
 go_wp2_with fail; have hh := hdP_12 HN.out HV.out hkd.out HK.out (by rw [hml.out]; exact hcap) (by rw [hml.out]; exact hm2) HT.out S0.out.pr (by simp only [List.length_cons, List.length_nil]; omega)
 rw [hkd.out, hml.out] at hh
 refine hh.mono ?_
 rintro e w1 ⟨rfl, v1, h1, f1⟩
 have S1 := hid (S0.out.step h1 f1)
 clear h1 f1 z0 z1 z2 z3 z4; obtain ⟨z0, z1, z2, z3, z4⟩ := Blk.four' S1.out.bx
 clear hh; go_wp2_with fail; refine (row_any HN.out hml.out (by omega) HK.out HKS.out S1.out.pr (by simp only [List.length_append, List.length_cons, List.length_nil]; omega)).mono ?_
 rintro e w2 ⟨rfl, v2, h2, f2⟩
 have S2 := hid (S1.out.step h2 f2)
 clear h2 f2 z0 z1 z2 z3 z4; obtain ⟨z0, z1, z2, z3, z4⟩ := Blk.four' S2.out.bx
 go_wp2_with fail; refine (put_any (M := [bSemi]) (S2.out.alloc _).pr (RT.n1 (by simp)) (by simp only [List.length_append, List.length_cons, List.length_nil]; omega)).mono ?_
 rintro e w3 ⟨rfl, v3, h3, f3⟩
 have S3 := hid ((S2.out.alloc _).step h3 f3)
 clear h3 f3 z0 z1 z2 z3 z4; obtain ⟨z0, z1, z2, z3, z4⟩ := Blk.four' S3.out.bx
 go_wp2_with fail; refine bodyPost_ret (v := .tuple #[]) (by simp [results, Tryz.results42]) rfl ?_
 exact ⟨rfl, _, by rw [HC.out]; simpa [List.append_assoc] using S3.out.pr, S3.out.fr⟩
set_option maxHeartbeats 64000000 in
theorem stP_13 {w0 w : World} {p : Nat} {nv v : Value} {T : Tre} {L : List ByteArray} {i : Nat} {n : Nd} (hN : NdP w0 p nv T i) (hv : VN T i n) (hk : n.kind = 13) {s9 : Option Addr} {c9 B9 : Nat} (hK : Els 1 cInt w0 B9 s9 n.kids) (hcap : n.kids.length ≤ c9) (hm2 : n.kids.length ≤ 1048576) (hT : Tb w0) (h : Pr w0 w p nv v L) (hroom : L.length + (tkA T (i : Int)).length ≤ 500000) :
  Calls Tryz.prog 42 #[.pointer (some ⟨p, 0, none⟩), .agg #[.int .i64 n.kind, .string n.text, .int .i64 n.num, .slice s9 n.kids.length c9]] w fun e w' => SaysQ w0 w p nv v L (tkA T (i : Int)) e w' := by
 have HN := hid hN
 have HV := hid hv
 have HK := hid hK
 have HT := hid hT
 have HE : Hid (tkA T (i : Int) = tkN (tkA T) n) := tkA_eq hv
 obtain ⟨kd, hkd⟩ : ∃ k, Hid (n.kind = k) := ⟨_, hid rfl⟩
 obtain ⟨ml, hml⟩ : ∃ m, Hid (n.kids.length = m) := ⟨_, hid rfl⟩
 have hlen := hv.len
 have hnum := hv.num
 rw [hml.out] at hcap hm2
 rw [hkd.out] at hk hlen
 rw [hkd.out, hml.out]
 have S0 := hid (Pn.start h #[.int .i64 kd, .string n.text, .int .i64 n.num, .slice s9 ml c9])
 clear hN hv hK hT h; obtain rfl : kd = 13 := hk
 have hl1 : n.kids.length = 1 := by simp [shp] at hlen; omega
 have HKS : Hid (∀ x ∈ n.kids, ∃ (k : Nat) (m : Nd), x = k ∧ k < i ∧ VN T k m ∧ (1 ≤ m.kind ∧ m.kind ≤ 34)) := HV.out.kid_in
 have HC : Hid (tkA T (i : Int) = [n.text, bEq] ++ ((n.kids.map (tkA T)).flatten) ++ [bSemi]) := by show _ = _; rw [HE.out]; unfold tkN; rw [hkd.out]; rw [kids_1 hl1]; simp
 have hr := hroom
 rw [HC.out] at hr
 simp only [List.length_append, List.length_cons, List.length_nil] at hr
 clear hroom; obtain ⟨z0, z1, z2, z3, z4⟩ := Blk.four' S0.out.bx
 go_enter Tryz.func42, Tryz.ntmps42
 go_wp2_with fail; have hh := hdP_13 HN.out HV.out hkd.out HK.out (by rw [hml.out]; exact hcap) (by rw [hml.out]; exact hm2) HT.out S0.out.pr (by simp only [List.length_cons, List.length_nil]; omega)
 rw [hkd.out, hml.out] at hh
 refine hh.mono ?_
 rintro e w1 ⟨rfl, v1, h1, f1⟩
 have S1 := hid (S0.out.step h1 f1)
 clear h1 f1 z0 z1 z2 z3 z4; obtain ⟨z0, z1, z2, z3, z4⟩ := Blk.four' S1.out.bx
 clear hh; go_wp2_with fail; refine (row_any HN.out hml.out (by omega) HK.out HKS.out S1.out.pr (by simp only [List.length_append, List.length_cons, List.length_nil]; omega)).mono ?_
 rintro e w2 ⟨rfl, v2, h2, f2⟩
 have S2 := hid (S1.out.step h2 f2)
 clear h2 f2 z0 z1 z2 z3 z4; obtain ⟨z0, z1, z2, z3, z4⟩ := Blk.four' S2.out.bx
 go_wp2_with fail; refine (put_any (M := [bSemi]) (S2.out.alloc _).pr (RT.n1 (by simp)) (by simp only [List.length_append, List.length_cons, List.length_nil]; omega)).mono ?_
 rintro e w3 ⟨rfl, v3, h3, f3⟩
 have S3 := hid ((S2.out.alloc _).step h3 f3)
 clear h3 f3 z0 z1 z2 z3 z4; obtain ⟨z0, z1, z2, z3, z4⟩ := Blk.four' S3.out.bx
 go_wp2_with fail; refine bodyPost_ret (v := .tuple #[]) (by simp [results, Tryz.results42]) rfl ?_
 exact ⟨rfl, _, by rw [HC.out]; simpa [List.append_assoc] using S3.out.pr, S3.out.fr⟩
set_option maxHeartbeats 64000000 in
theorem stP_14 {w0 w : World} {p : Nat} {nv v : Value} {T : Tre} {L : List ByteArray} {i : Nat} {n : Nd} (hN : NdP w0 p nv T i) (hv : VN T i n) (hk : n.kind = 14) {s9 : Option Addr} {c9 B9 : Nat} (hK : Els 1 cInt w0 B9 s9 n.kids) (hcap : n.kids.length ≤ c9) (hm2 : n.kids.length ≤ 1048576) (hT : Tb w0) (h : Pr w0 w p nv v L) (hroom : L.length + (tkA T (i : Int)).length ≤ 500000) :
  Calls Tryz.prog 42 #[.pointer (some ⟨p, 0, none⟩), .agg #[.int .i64 n.kind, .string n.text, .int .i64 n.num, .slice s9 n.kids.length c9]] w fun e w' => SaysQ w0 w p nv v L (tkA T (i : Int)) e w' := by
 have HN := hid hN
 have HV := hid hv
 have HK := hid hK
 have HT := hid hT
 have HE : Hid (tkA T (i : Int) = tkN (tkA T) n) := tkA_eq hv
 obtain ⟨kd, hkd⟩ : ∃ k, Hid (n.kind = k) := ⟨_, hid rfl⟩
 obtain ⟨ml, hml⟩ : ∃ m, Hid (n.kids.length = m) := ⟨_, hid rfl⟩
 have hlen := hv.len
 have hnum := hv.num
 rw [hml.out] at hcap hm2
 rw [hkd.out] at hk hlen
 rw [hkd.out, hml.out]
 have S0 := hid (Pn.start h #[.int .i64 kd, .string n.text, .int .i64 n.num, .slice s9 ml c9])
 clear hN hv hK hT h; obtain rfl : kd = 14 := hk
 have hl1 : n.kids.length = 1 := by simp [shp] at hlen; omega
 have HKS : Hid (∀ x ∈ n.kids, ∃ (k : Nat) (m : Nd), x = k ∧ k < i ∧ VN T k m ∧ (1 ≤ m.kind ∧ m.kind ≤ 34)) := HV.out.kid_in
 have HC : Hid (tkA T (i : Int) = [bDot, n.text, bEq] ++ ((n.kids.map (tkA T)).flatten) ++ [bSemi]) := by show _ = _; rw [HE.out]; unfold tkN; rw [hkd.out]; rw [kids_1 hl1]; simp
 have hr := hroom
 rw [HC.out] at hr
 simp only [List.length_append, List.length_cons, List.length_nil] at hr
 clear hroom; obtain ⟨z0, z1, z2, z3, z4⟩ := Blk.four' S0.out.bx
 go_enter Tryz.func42, Tryz.ntmps42
 go_wp2_with fail; have hh := hdP_14 HN.out HV.out hkd.out HK.out (by rw [hml.out]; exact hcap) (by rw [hml.out]; exact hm2) HT.out S0.out.pr (by simp only [List.length_cons, List.length_nil]; omega)
 rw [hkd.out, hml.out] at hh
 refine hh.mono ?_
 rintro e w1 ⟨rfl, v1, h1, f1⟩
 have S1 := hid (S0.out.step h1 f1)
 clear h1 f1 z0 z1 z2 z3 z4; obtain ⟨z0, z1, z2, z3, z4⟩ := Blk.four' S1.out.bx
 clear hh; go_wp2_with fail; refine (row_any HN.out hml.out (by omega) HK.out HKS.out S1.out.pr (by simp only [List.length_append, List.length_cons, List.length_nil]; omega)).mono ?_
 rintro e w2 ⟨rfl, v2, h2, f2⟩
 have S2 := hid (S1.out.step h2 f2)
 clear h2 f2 z0 z1 z2 z3 z4; obtain ⟨z0, z1, z2, z3, z4⟩ := Blk.four' S2.out.bx
 go_wp2_with fail; refine (put_any (M := [bSemi]) (S2.out.alloc _).pr (RT.n1 (by simp)) (by simp only [List.length_append, List.length_cons, List.length_nil]; omega)).mono ?_
 rintro e w3 ⟨rfl, v3, h3, f3⟩
 have S3 := hid ((S2.out.alloc _).step h3 f3)
 clear h3 f3 z0 z1 z2 z3 z4; obtain ⟨z0, z1, z2, z3, z4⟩ := Blk.four' S3.out.bx
 go_wp2_with fail; refine bodyPost_ret (v := .tuple #[]) (by simp [results, Tryz.results42]) rfl ?_
 exact ⟨rfl, _, by rw [HC.out]; simpa [List.append_assoc] using S3.out.pr, S3.out.fr⟩
set_option maxHeartbeats 64000000 in
theorem stP_15 {w0 w : World} {p : Nat} {nv v : Value} {T : Tre} {L : List ByteArray} {i : Nat} {n : Nd} (hN : NdP w0 p nv T i) (hv : VN T i n) (hk : n.kind = 15) {s9 : Option Addr} {c9 B9 : Nat} (hK : Els 1 cInt w0 B9 s9 n.kids) (hcap : n.kids.length ≤ c9) (hm2 : n.kids.length ≤ 1048576) (hT : Tb w0) (h : Pr w0 w p nv v L) (hroom : L.length + (tkA T (i : Int)).length ≤ 500000) :
  Calls Tryz.prog 42 #[.pointer (some ⟨p, 0, none⟩), .agg #[.int .i64 n.kind, .string n.text, .int .i64 n.num, .slice s9 n.kids.length c9]] w fun e w' => SaysQ w0 w p nv v L (tkA T (i : Int)) e w' := by
 have HN := hid hN
 have HV := hid hv
 have HK := hid hK
 have HT := hid hT
 have HE : Hid (tkA T (i : Int) = tkN (tkA T) n) := tkA_eq hv
 obtain ⟨kd, hkd⟩ : ∃ k, Hid (n.kind = k) := ⟨_, hid rfl⟩
 obtain ⟨ml, hml⟩ : ∃ m, Hid (n.kids.length = m) := ⟨_, hid rfl⟩
 have hlen := hv.len
 have hnum := hv.num
 rw [hml.out] at hcap hm2
 rw [hkd.out] at hk hlen
 rw [hkd.out, hml.out]
 have S0 := hid (Pn.start h #[.int .i64 kd, .string n.text, .int .i64 n.num, .slice s9 ml c9])
 clear hN hv hK hT h; obtain rfl : kd = 15 := hk
 have hl1 : n.kids.length = 1 := by simp [shp] at hlen; omega
 have HKS : Hid (∀ x ∈ n.kids, ∃ (k : Nat) (m : Nd), x = k ∧ k < i ∧ VN T k m ∧ (1 ≤ m.kind ∧ m.kind ≤ 34)) := HV.out.kid_in
 have HC : Hid (tkA T (i : Int) = [bDol, n.text, bEq] ++ ((n.kids.map (tkA T)).flatten) ++ [bSemi]) := by show _ = _; rw [HE.out]; unfold tkN; rw [hkd.out]; rw [kids_1 hl1]; simp
 have hr := hroom
 rw [HC.out] at hr
 simp only [List.length_append, List.length_cons, List.length_nil] at hr
 clear hroom; obtain ⟨z0, z1, z2, z3, z4⟩ := Blk.four' S0.out.bx
 go_enter Tryz.func42, Tryz.ntmps42
 go_wp2_with fail; have hh := hdP_15 HN.out HV.out hkd.out HK.out (by rw [hml.out]; exact hcap) (by rw [hml.out]; exact hm2) HT.out S0.out.pr (by simp only [List.length_cons, List.length_nil]; omega)
 rw [hkd.out, hml.out] at hh
 refine hh.mono ?_
 rintro e w1 ⟨rfl, v1, h1, f1⟩
 have S1 := hid (S0.out.step h1 f1)
 clear h1 f1 z0 z1 z2 z3 z4; obtain ⟨z0, z1, z2, z3, z4⟩ := Blk.four' S1.out.bx
 clear hh; go_wp2_with fail; refine (row_any HN.out hml.out (by omega) HK.out HKS.out S1.out.pr (by simp only [List.length_append, List.length_cons, List.length_nil]; omega)).mono ?_
 rintro e w2 ⟨rfl, v2, h2, f2⟩
 have S2 := hid (S1.out.step h2 f2)
 clear h2 f2 z0 z1 z2 z3 z4; obtain ⟨z0, z1, z2, z3, z4⟩ := Blk.four' S2.out.bx
 go_wp2_with fail; refine (put_any (M := [bSemi]) (S2.out.alloc _).pr (RT.n1 (by simp)) (by simp only [List.length_append, List.length_cons, List.length_nil]; omega)).mono ?_
 rintro e w3 ⟨rfl, v3, h3, f3⟩
 have S3 := hid ((S2.out.alloc _).step h3 f3)
 clear h3 f3 z0 z1 z2 z3 z4; obtain ⟨z0, z1, z2, z3, z4⟩ := Blk.four' S3.out.bx
 go_wp2_with fail; refine bodyPost_ret (v := .tuple #[]) (by simp [results, Tryz.results42]) rfl ?_
 exact ⟨rfl, _, by rw [HC.out]; simpa [List.append_assoc] using S3.out.pr, S3.out.fr⟩
set_option maxHeartbeats 64000000 in
theorem stP_19 {w0 w : World} {p : Nat} {nv v : Value} {T : Tre} {L : List ByteArray} {i : Nat} {n : Nd} (hN : NdP w0 p nv T i) (hv : VN T i n) (hk : n.kind = 19) {s9 : Option Addr} {c9 B9 : Nat} (hK : Els 1 cInt w0 B9 s9 n.kids) (hcap : n.kids.length ≤ c9) (hm2 : n.kids.length ≤ 1048576) (hT : Tb w0) (h : Pr w0 w p nv v L) (hroom : L.length + (tkA T (i : Int)).length ≤ 500000) :
  Calls Tryz.prog 42 #[.pointer (some ⟨p, 0, none⟩), .agg #[.int .i64 n.kind, .string n.text, .int .i64 n.num, .slice s9 n.kids.length c9]] w fun e w' => SaysQ w0 w p nv v L (tkA T (i : Int)) e w' := by
 have HN := hid hN
 have HV := hid hv
 have HK := hid hK
 have HT := hid hT
 have HE : Hid (tkA T (i : Int) = tkN (tkA T) n) := tkA_eq hv
 obtain ⟨kd, hkd⟩ : ∃ k, Hid (n.kind = k) := ⟨_, hid rfl⟩
 obtain ⟨ml, hml⟩ : ∃ m, Hid (n.kids.length = m) := ⟨_, hid rfl⟩
 have hlen := hv.len
 have hnum := hv.num
 rw [hml.out] at hcap hm2
 rw [hkd.out] at hk hlen
 rw [hkd.out, hml.out]
 have S0 := hid (Pn.start h #[.int .i64 kd, .string n.text, .int .i64 n.num, .slice s9 ml c9])
 clear hN hv hK hT h; obtain rfl : kd = 19 := hk
 have hl1 : n.kids.length = 1 := by simp [shp] at hlen; omega
 have HKS : Hid (∀ x ∈ n.kids, ∃ (k : Nat) (m : Nd), x = k ∧ k < i ∧ VN T k m ∧ (1 ≤ m.kind ∧ m.kind ≤ 34)) := HV.out.kid_in
 have HC : Hid (tkA T (i : Int) = [bEmit, n.text] ++ ((n.kids.map (tkA T)).flatten) ++ [bSemi]) := by show _ = _; rw [HE.out]; unfold tkN; rw [hkd.out]; rw [kids_1 hl1]; simp
 have hr := hroom
 rw [HC.out] at hr
 simp only [List.length_append, List.length_cons, List.length_nil] at hr
 clear hroom; obtain ⟨z0, z1, z2, z3, z4⟩ := Blk.four' S0.out.bx
 go_enter Tryz.func42, Tryz.ntmps42
 go_wp2_with fail; have hh := hdP_19 HN.out HV.out hkd.out HK.out (by rw [hml.out]; exact hcap) (by rw [hml.out]; exact hm2) HT.out S0.out.pr (by simp only [List.length_cons, List.length_nil]; omega)
 rw [hkd.out, hml.out] at hh
 refine hh.mono ?_
 rintro e w1 ⟨rfl, v1, h1, f1⟩
 have S1 := hid (S0.out.step h1 f1)
 clear h1 f1 z0 z1 z2 z3 z4; obtain ⟨z0, z1, z2, z3, z4⟩ := Blk.four' S1.out.bx
 clear hh; go_wp2_with fail; refine (row_any HN.out hml.out (by omega) HK.out HKS.out S1.out.pr (by simp only [List.length_append, List.length_cons, List.length_nil]; omega)).mono ?_
 rintro e w2 ⟨rfl, v2, h2, f2⟩
 have S2 := hid (S1.out.step h2 f2)
 clear h2 f2 z0 z1 z2 z3 z4; obtain ⟨z0, z1, z2, z3, z4⟩ := Blk.four' S2.out.bx
 go_wp2_with fail; refine (put_any (M := [bSemi]) (S2.out.alloc _).pr (RT.n1 (by simp)) (by simp only [List.length_append, List.length_cons, List.length_nil]; omega)).mono ?_
 rintro e w3 ⟨rfl, v3, h3, f3⟩
 have S3 := hid ((S2.out.alloc _).step h3 f3)
 clear h3 f3 z0 z1 z2 z3 z4; obtain ⟨z0, z1, z2, z3, z4⟩ := Blk.four' S3.out.bx
 go_wp2_with fail; refine bodyPost_ret (v := .tuple #[]) (by simp [results, Tryz.results42]) rfl ?_
 exact ⟨rfl, _, by rw [HC.out]; simpa [List.append_assoc] using S3.out.pr, S3.out.fr⟩
set_option maxHeartbeats 64000000 in
theorem stP_22 {w0 w : World} {p : Nat} {nv v : Value} {T : Tre} {L : List ByteArray} {i : Nat} {n : Nd} (hN : NdP w0 p nv T i) (hv : VN T i n) (hk : n.kind = 22) {s9 : Option Addr} {c9 B9 : Nat} (hK : Els 1 cInt w0 B9 s9 n.kids) (hcap : n.kids.length ≤ c9) (hm2 : n.kids.length ≤ 1048576) (hT : Tb w0) (h : Pr w0 w p nv v L) (hroom : L.length + (tkA T (i : Int)).length ≤ 500000) :
  Calls Tryz.prog 42 #[.pointer (some ⟨p, 0, none⟩), .agg #[.int .i64 n.kind, .string n.text, .int .i64 n.num, .slice s9 n.kids.length c9]] w fun e w' => SaysQ w0 w p nv v L (tkA T (i : Int)) e w' := by
 have HN := hid hN
 have HV := hid hv
 have HK := hid hK
 have HT := hid hT
 have HE : Hid (tkA T (i : Int) = tkN (tkA T) n) := tkA_eq hv
 obtain ⟨kd, hkd⟩ : ∃ k, Hid (n.kind = k) := ⟨_, hid rfl⟩
 obtain ⟨ml, hml⟩ : ∃ m, Hid (n.kids.length = m) := ⟨_, hid rfl⟩
 have hlen := hv.len
 have hnum := hv.num
 rw [hml.out] at hcap hm2
 rw [hkd.out] at hk hlen
 rw [hkd.out, hml.out]
 have S0 := hid (Pn.start h #[.int .i64 kd, .string n.text, .int .i64 n.num, .slice s9 ml c9])
 clear hN hv hK hT h; obtain rfl : kd = 22 := hk
 have hk0 : n.kids = [] := List.eq_nil_of_length_eq_zero (by simp [shp] at hlen; omega)
 have HKS : Hid (∀ x ∈ n.kids, ∃ (k : Nat) (m : Nd), x = k ∧ k < i ∧ VN T k m ∧ (1 ≤ m.kind ∧ m.kind ≤ 34)) := HV.out.kid_in
 have HC : Hid (tkA T (i : Int) = [bKill] ++ ((n.kids.map (tkA T)).flatten) ++ [bSemi]) := by show _ = _; rw [HE.out]; unfold tkN; rw [hkd.out]; rw [hk0]; simp
 have hr := hroom
 rw [HC.out] at hr
 simp only [List.length_append, List.length_cons, List.length_nil] at hr
 clear hroom; obtain ⟨z0, z1, z2, z3, z4⟩ := Blk.four' S0.out.bx
 go_enter Tryz.func42, Tryz.ntmps42
 go_wp2_with fail; have hh := hdP_22 HN.out HV.out hkd.out HK.out (by rw [hml.out]; exact hcap) (by rw [hml.out]; exact hm2) HT.out S0.out.pr (by simp only [List.length_cons, List.length_nil]; omega)
 rw [hkd.out, hml.out] at hh
 refine hh.mono ?_
 rintro e w1 ⟨rfl, v1, h1, f1⟩
 have S1 := hid (S0.out.step h1 f1)
 clear h1 f1 z0 z1 z2 z3 z4; obtain ⟨z0, z1, z2, z3, z4⟩ := Blk.four' S1.out.bx
 clear hh; go_wp2_with fail; refine (row_any HN.out hml.out (by omega) HK.out HKS.out S1.out.pr (by simp only [List.length_append, List.length_cons, List.length_nil]; omega)).mono ?_
 rintro e w2 ⟨rfl, v2, h2, f2⟩
 have S2 := hid (S1.out.step h2 f2)
 clear h2 f2 z0 z1 z2 z3 z4; obtain ⟨z0, z1, z2, z3, z4⟩ := Blk.four' S2.out.bx
 go_wp2_with fail; refine (put_any (M := [bSemi]) (S2.out.alloc _).pr (RT.n1 (by simp)) (by simp only [List.length_append, List.length_cons, List.length_nil]; omega)).mono ?_
 rintro e w3 ⟨rfl, v3, h3, f3⟩
 have S3 := hid ((S2.out.alloc _).step h3 f3)
 clear h3 f3 z0 z1 z2 z3 z4; obtain ⟨z0, z1, z2, z3, z4⟩ := Blk.four' S3.out.bx
 go_wp2_with fail; refine bodyPost_ret (v := .tuple #[]) (by simp [results, Tryz.results42]) rfl ?_
 exact ⟨rfl, _, by rw [HC.out]; simpa [List.append_assoc] using S3.out.pr, S3.out.fr⟩
set_option maxHeartbeats 64000000 in
theorem stP_23 {w0 w : World} {p : Nat} {nv v : Value} {T : Tre} {L : List ByteArray} {i : Nat} {n : Nd} (hN : NdP w0 p nv T i) (hv : VN T i n) (hk : n.kind = 23) {s9 : Option Addr} {c9 B9 : Nat} (hK : Els 1 cInt w0 B9 s9 n.kids) (hcap : n.kids.length ≤ c9) (hm2 : n.kids.length ≤ 1048576) (hT : Tb w0) (h : Pr w0 w p nv v L) (hroom : L.length + (tkA T (i : Int)).length ≤ 500000) :
  Calls Tryz.prog 42 #[.pointer (some ⟨p, 0, none⟩), .agg #[.int .i64 n.kind, .string n.text, .int .i64 n.num, .slice s9 n.kids.length c9]] w fun e w' => SaysQ w0 w p nv v L (tkA T (i : Int)) e w' := by
 have HN := hid hN
 have HV := hid hv
 have HK := hid hK
 have HT := hid hT
 have HE : Hid (tkA T (i : Int) = tkN (tkA T) n) := tkA_eq hv
 obtain ⟨kd, hkd⟩ : ∃ k, Hid (n.kind = k) := ⟨_, hid rfl⟩
 obtain ⟨ml, hml⟩ : ∃ m, Hid (n.kids.length = m) := ⟨_, hid rfl⟩
 have hlen := hv.len
 have hnum := hv.num
 rw [hml.out] at hcap hm2
 rw [hkd.out] at hk hlen
 rw [hkd.out, hml.out]
 have S0 := hid (Pn.start h #[.int .i64 kd, .string n.text, .int .i64 n.num, .slice s9 ml c9])
 clear hN hv hK hT h; obtain rfl : kd = 23 := hk
 have hl1 : n.kids.length = 1 := by simp [shp] at hlen; omega
 have HKS : Hid (∀ x ∈ n.kids, ∃ (k : Nat) (m : Nd), x = k ∧ k < i ∧ VN T k m ∧ (1 ≤ m.kind ∧ m.kind ≤ 34)) := HV.out.kid_in
 have HC : Hid (tkA T (i : Int) = [bPut, n.text, bEq] ++ ((n.kids.map (tkA T)).flatten) ++ [bSemi]) := by show _ = _; rw [HE.out]; unfold tkN; rw [hkd.out]; rw [kids_1 hl1]; simp
 have hr := hroom
 rw [HC.out] at hr
 simp only [List.length_append, List.length_cons, List.length_nil] at hr
 clear hroom; obtain ⟨z0, z1, z2, z3, z4⟩ := Blk.four' S0.out.bx
 go_enter Tryz.func42, Tryz.ntmps42
 go_wp2_with fail; have hh := hdP_23 HN.out HV.out hkd.out HK.out (by rw [hml.out]; exact hcap) (by rw [hml.out]; exact hm2) HT.out S0.out.pr (by simp only [List.length_cons, List.length_nil]; omega)
 rw [hkd.out, hml.out] at hh
 refine hh.mono ?_
 rintro e w1 ⟨rfl, v1, h1, f1⟩
 have S1 := hid (S0.out.step h1 f1)
 clear h1 f1 z0 z1 z2 z3 z4; obtain ⟨z0, z1, z2, z3, z4⟩ := Blk.four' S1.out.bx
 clear hh; go_wp2_with fail; refine (row_any HN.out hml.out (by omega) HK.out HKS.out S1.out.pr (by simp only [List.length_append, List.length_cons, List.length_nil]; omega)).mono ?_
 rintro e w2 ⟨rfl, v2, h2, f2⟩
 have S2 := hid (S1.out.step h2 f2)
 clear h2 f2 z0 z1 z2 z3 z4; obtain ⟨z0, z1, z2, z3, z4⟩ := Blk.four' S2.out.bx
 go_wp2_with fail; refine (put_any (M := [bSemi]) (S2.out.alloc _).pr (RT.n1 (by simp)) (by simp only [List.length_append, List.length_cons, List.length_nil]; omega)).mono ?_
 rintro e w3 ⟨rfl, v3, h3, f3⟩
 have S3 := hid ((S2.out.alloc _).step h3 f3)
 clear h3 f3 z0 z1 z2 z3 z4; obtain ⟨z0, z1, z2, z3, z4⟩ := Blk.four' S3.out.bx
 go_wp2_with fail; refine bodyPost_ret (v := .tuple #[]) (by simp [results, Tryz.results42]) rfl ?_
 exact ⟨rfl, _, by rw [HC.out]; simpa [List.append_assoc] using S3.out.pr, S3.out.fr⟩
set_option maxHeartbeats 64000000 in
theorem stP_24 {w0 w : World} {p : Nat} {nv v : Value} {T : Tre} {L : List ByteArray} {i : Nat} {n : Nd} (hN : NdP w0 p nv T i) (hv : VN T i n) (hk : n.kind = 24) {s9 : Option Addr} {c9 B9 : Nat} (hK : Els 1 cInt w0 B9 s9 n.kids) (hcap : n.kids.length ≤ c9) (hm2 : n.kids.length ≤ 1048576) (hT : Tb w0) (h : Pr w0 w p nv v L) (hroom : L.length + (tkA T (i : Int)).length ≤ 500000) :
  Calls Tryz.prog 42 #[.pointer (some ⟨p, 0, none⟩), .agg #[.int .i64 n.kind, .string n.text, .int .i64 n.num, .slice s9 n.kids.length c9]] w fun e w' => SaysQ w0 w p nv v L (tkA T (i : Int)) e w' := by
 have HN := hid hN
 have HV := hid hv
 have HK := hid hK
 have HT := hid hT
 have HE : Hid (tkA T (i : Int) = tkN (tkA T) n) := tkA_eq hv
 obtain ⟨kd, hkd⟩ : ∃ k, Hid (n.kind = k) := ⟨_, hid rfl⟩
 obtain ⟨ml, hml⟩ : ∃ m, Hid (n.kids.length = m) := ⟨_, hid rfl⟩
 have hlen := hv.len
 have hnum := hv.num
 rw [hml.out] at hcap hm2
 rw [hkd.out] at hk hlen
 rw [hkd.out, hml.out]
 have S0 := hid (Pn.start h #[.int .i64 kd, .string n.text, .int .i64 n.num, .slice s9 ml c9])
 clear hN hv hK hT h; obtain rfl : kd = 24 := hk
 have hk0 : n.kids = [] := List.eq_nil_of_length_eq_zero (by simp [shp] at hlen; omega)
 have HKS : Hid (∀ x ∈ n.kids, ∃ (k : Nat) (m : Nd), x = k ∧ k < i ∧ VN T k m ∧ (1 ≤ m.kind ∧ m.kind ≤ 34)) := HV.out.kid_in
 have HC : Hid (tkA T (i : Int) = [bDrop, n.text] ++ ((n.kids.map (tkA T)).flatten) ++ [bSemi]) := by show _ = _; rw [HE.out]; unfold tkN; rw [hkd.out]; rw [hk0]; simp
 have hr := hroom
 rw [HC.out] at hr
 simp only [List.length_append, List.length_cons, List.length_nil] at hr
 clear hroom; obtain ⟨z0, z1, z2, z3, z4⟩ := Blk.four' S0.out.bx
 go_enter Tryz.func42, Tryz.ntmps42
 go_wp2_with fail; have hh := hdP_24 HN.out HV.out hkd.out HK.out (by rw [hml.out]; exact hcap) (by rw [hml.out]; exact hm2) HT.out S0.out.pr (by simp only [List.length_cons, List.length_nil]; omega)
 rw [hkd.out, hml.out] at hh
 refine hh.mono ?_
 rintro e w1 ⟨rfl, v1, h1, f1⟩
 have S1 := hid (S0.out.step h1 f1)
 clear h1 f1 z0 z1 z2 z3 z4; obtain ⟨z0, z1, z2, z3, z4⟩ := Blk.four' S1.out.bx
 clear hh; go_wp2_with fail; refine (row_any HN.out hml.out (by omega) HK.out HKS.out S1.out.pr (by simp only [List.length_append, List.length_cons, List.length_nil]; omega)).mono ?_
 rintro e w2 ⟨rfl, v2, h2, f2⟩
 have S2 := hid (S1.out.step h2 f2)
 clear h2 f2 z0 z1 z2 z3 z4; obtain ⟨z0, z1, z2, z3, z4⟩ := Blk.four' S2.out.bx
 go_wp2_with fail; refine (put_any (M := [bSemi]) (S2.out.alloc _).pr (RT.n1 (by simp)) (by simp only [List.length_append, List.length_cons, List.length_nil]; omega)).mono ?_
 rintro e w3 ⟨rfl, v3, h3, f3⟩
 have S3 := hid ((S2.out.alloc _).step h3 f3)
 clear h3 f3 z0 z1 z2 z3 z4; obtain ⟨z0, z1, z2, z3, z4⟩ := Blk.four' S3.out.bx
 go_wp2_with fail; refine bodyPost_ret (v := .tuple #[]) (by simp [results, Tryz.results42]) rfl ?_
 exact ⟨rfl, _, by rw [HC.out]; simpa [List.append_assoc] using S3.out.pr, S3.out.fr⟩
set_option maxHeartbeats 64000000 in
theorem stP_25 {w0 w : World} {p : Nat} {nv v : Value} {T : Tre} {L : List ByteArray} {i : Nat} {n : Nd} (hN : NdP w0 p nv T i) (hv : VN T i n) (hk : n.kind = 25) {s9 : Option Addr} {c9 B9 : Nat} (hK : Els 1 cInt w0 B9 s9 n.kids) (hcap : n.kids.length ≤ c9) (hm2 : n.kids.length ≤ 1048576) (hT : Tb w0) (h : Pr w0 w p nv v L) (hroom : L.length + (tkA T (i : Int)).length ≤ 500000) :
  Calls Tryz.prog 42 #[.pointer (some ⟨p, 0, none⟩), .agg #[.int .i64 n.kind, .string n.text, .int .i64 n.num, .slice s9 n.kids.length c9]] w fun e w' => SaysQ w0 w p nv v L (tkA T (i : Int)) e w' := by
 have HN := hid hN
 have HV := hid hv
 have HK := hid hK
 have HT := hid hT
 have HE : Hid (tkA T (i : Int) = tkN (tkA T) n) := tkA_eq hv
 obtain ⟨kd, hkd⟩ : ∃ k, Hid (n.kind = k) := ⟨_, hid rfl⟩
 obtain ⟨ml, hml⟩ : ∃ m, Hid (n.kids.length = m) := ⟨_, hid rfl⟩
 have hlen := hv.len
 have hnum := hv.num
 rw [hml.out] at hcap hm2
 rw [hkd.out] at hk hlen
 rw [hkd.out, hml.out]
 have S0 := hid (Pn.start h #[.int .i64 kd, .string n.text, .int .i64 n.num, .slice s9 ml c9])
 clear hN hv hK hT h; obtain rfl : kd = 25 := hk
 have hl1 : n.kids.length = 1 := by simp [shp] at hlen; omega
 have HKS : Hid (∀ x ∈ n.kids, ∃ (k : Nat) (m : Nd), x = k ∧ k < i ∧ VN T k m ∧ (1 ≤ m.kind ∧ m.kind ≤ 34)) := HV.out.kid_in
 have HC : Hid (tkA T (i : Int) = [bDo] ++ ((n.kids.map (tkA T)).flatten) ++ [bSemi]) := by show _ = _; rw [HE.out]; unfold tkN; rw [hkd.out]; rw [kids_1 hl1]; simp
 have hr := hroom
 rw [HC.out] at hr
 simp only [List.length_append, List.length_cons, List.length_nil] at hr
 clear hroom; obtain ⟨z0, z1, z2, z3, z4⟩ := Blk.four' S0.out.bx
 go_enter Tryz.func42, Tryz.ntmps42
 go_wp2_with fail; have hh := hdP_25 HN.out HV.out hkd.out HK.out (by rw [hml.out]; exact hcap) (by rw [hml.out]; exact hm2) HT.out S0.out.pr (by simp only [List.length_cons, List.length_nil]; omega)
 rw [hkd.out, hml.out] at hh
 refine hh.mono ?_
 rintro e w1 ⟨rfl, v1, h1, f1⟩
 have S1 := hid (S0.out.step h1 f1)
 clear h1 f1 z0 z1 z2 z3 z4; obtain ⟨z0, z1, z2, z3, z4⟩ := Blk.four' S1.out.bx
 clear hh; go_wp2_with fail; refine (row_any HN.out hml.out (by omega) HK.out HKS.out S1.out.pr (by simp only [List.length_append, List.length_cons, List.length_nil]; omega)).mono ?_
 rintro e w2 ⟨rfl, v2, h2, f2⟩
 have S2 := hid (S1.out.step h2 f2)
 clear h2 f2 z0 z1 z2 z3 z4; obtain ⟨z0, z1, z2, z3, z4⟩ := Blk.four' S2.out.bx
 go_wp2_with fail; refine (put_any (M := [bSemi]) (S2.out.alloc _).pr (RT.n1 (by simp)) (by simp only [List.length_append, List.length_cons, List.length_nil]; omega)).mono ?_
 rintro e w3 ⟨rfl, v3, h3, f3⟩
 have S3 := hid ((S2.out.alloc _).step h3 f3)
 clear h3 f3 z0 z1 z2 z3 z4; obtain ⟨z0, z1, z2, z3, z4⟩ := Blk.four' S3.out.bx
 go_wp2_with fail; refine bodyPost_ret (v := .tuple #[]) (by simp [results, Tryz.results42]) rfl ?_
 exact ⟨rfl, _, by rw [HC.out]; simpa [List.append_assoc] using S3.out.pr, S3.out.fr⟩
set_option maxHeartbeats 64000000 in
theorem stP_26 {w0 w : World} {p : Nat} {nv v : Value} {T : Tre} {L : List ByteArray} {i : Nat} {n : Nd} (hN : NdP w0 p nv T i) (hv : VN T i n) (hk : n.kind = 26) {s9 : Option Addr} {c9 B9 : Nat} (hK : Els 1 cInt w0 B9 s9 n.kids) (hcap : n.kids.length ≤ c9) (hm2 : n.kids.length ≤ 1048576) (hT : Tb w0) (h : Pr w0 w p nv v L) (hroom : L.length + (tkA T (i : Int)).length ≤ 500000) :
  Calls Tryz.prog 42 #[.pointer (some ⟨p, 0, none⟩), .agg #[.int .i64 n.kind, .string n.text, .int .i64 n.num, .slice s9 n.kids.length c9]] w fun e w' => SaysQ w0 w p nv v L (tkA T (i : Int)) e w' := by
 have HN := hid hN
 have HV := hid hv
 have HK := hid hK
 have HT := hid hT
 have HE : Hid (tkA T (i : Int) = tkN (tkA T) n) := tkA_eq hv
 obtain ⟨kd, hkd⟩ : ∃ k, Hid (n.kind = k) := ⟨_, hid rfl⟩
 obtain ⟨ml, hml⟩ : ∃ m, Hid (n.kids.length = m) := ⟨_, hid rfl⟩
 have hlen := hv.len
 have hnum := hv.num
 rw [hml.out] at hcap hm2
 rw [hkd.out] at hk hlen
 rw [hkd.out, hml.out]
 have S0 := hid (Pn.start h #[.int .i64 kd, .string n.text, .int .i64 n.num, .slice s9 ml c9])
 clear hN hv hK hT h; obtain rfl : kd = 26 := hk
 have hl1 : n.kids.length = 1 := by simp [shp] at hlen; omega
 have HKS : Hid (∀ x ∈ n.kids, ∃ (k : Nat) (m : Nd), x = k ∧ k < i ∧ VN T k m ∧ (1 ≤ m.kind ∧ m.kind ≤ 34)) := HV.out.kid_in
 have HC : Hid (tkA T (i : Int) = [bReturn] ++ ((n.kids.map (tkA T)).flatten) ++ [bSemi]) := by show _ = _; rw [HE.out]; unfold tkN; rw [hkd.out]; rw [kids_1 hl1]; simp
 have hr := hroom
 rw [HC.out] at hr
 simp only [List.length_append, List.length_cons, List.length_nil] at hr
 clear hroom; obtain ⟨z0, z1, z2, z3, z4⟩ := Blk.four' S0.out.bx
 go_enter Tryz.func42, Tryz.ntmps42
 go_wp2_with fail; have hh := hdP_26 HN.out HV.out hkd.out HK.out (by rw [hml.out]; exact hcap) (by rw [hml.out]; exact hm2) HT.out S0.out.pr (by simp only [List.length_cons, List.length_nil]; omega)
 rw [hkd.out, hml.out] at hh
 refine hh.mono ?_
 rintro e w1 ⟨rfl, v1, h1, f1⟩
 have S1 := hid (S0.out.step h1 f1)
 clear h1 f1 z0 z1 z2 z3 z4; obtain ⟨z0, z1, z2, z3, z4⟩ := Blk.four' S1.out.bx
 clear hh; go_wp2_with fail; refine (row_any HN.out hml.out (by omega) HK.out HKS.out S1.out.pr (by simp only [List.length_append, List.length_cons, List.length_nil]; omega)).mono ?_
 rintro e w2 ⟨rfl, v2, h2, f2⟩
 have S2 := hid (S1.out.step h2 f2)
 clear h2 f2 z0 z1 z2 z3 z4; obtain ⟨z0, z1, z2, z3, z4⟩ := Blk.four' S2.out.bx
 go_wp2_with fail; refine (put_any (M := [bSemi]) (S2.out.alloc _).pr (RT.n1 (by simp)) (by simp only [List.length_append, List.length_cons, List.length_nil]; omega)).mono ?_
 rintro e w3 ⟨rfl, v3, h3, f3⟩
 have S3 := hid ((S2.out.alloc _).step h3 f3)
 clear h3 f3 z0 z1 z2 z3 z4; obtain ⟨z0, z1, z2, z3, z4⟩ := Blk.four' S3.out.bx
 go_wp2_with fail; refine bodyPost_ret (v := .tuple #[]) (by simp [results, Tryz.results42]) rfl ?_
 exact ⟨rfl, _, by rw [HC.out]; simpa [List.append_assoc] using S3.out.pr, S3.out.fr⟩
end
section
open Go.RowKit
set_option maxRecDepth 100000
set_option maxHeartbeats 64000000 in
theorem stP_17 {w0 w : World} {p : Nat} {nv v : Value} {T : Tre} {L : List ByteArray} {i : Nat} {n : Nd} (hN : NdP w0 p nv T i) (hv : VN T i n) (hk : n.kind = 17) {s9 : Option Addr} {c9 B9 : Nat} (hK : Els 1 cInt w0 B9 s9 n.kids) (hcap : n.kids.length ≤ c9) (hm2 : n.kids.length ≤ 1048576) (hT : Tb w0) (h : Pr w0 w p nv v L) (hroom : L.length + (tkA T (i : Int)).length ≤ 500000) :
  Calls Tryz.prog 42 #[.pointer (some ⟨p, 0, none⟩), .agg #[.int .i64 n.kind, .string n.text, .int .i64 n.num, .slice s9 n.kids.length c9]] w fun e w' => SaysQ w0 w p nv v L (tkA T (i : Int)) e w' := by
 have HN := hid hN
 have HV := hid hv
 have HK := hid hK
 have HT := hid hT
 have HE : Hid (tkA T (i : Int) = tkN (tkA T) n) := tkA_eq hv
 obtain ⟨kd, hkd⟩ : ∃ k, Hid (n.kind = k) := ⟨_, hid rfl⟩
 obtain ⟨ml, hml⟩ : ∃ m, Hid (n.kids.length = m) := ⟨_, hid rfl⟩
 have hlen := hv.len
 have hnum := hv.num
 rw [hml.out] at hcap hm2
 rw [hkd.out] at hk hlen
 rw [hkd.out, hml.out]
 have S0 := hid (Pn.start h #[.int .i64 kd, .string n.text, .int .i64 n.num, .slice s9 ml c9])
 clear hN hv hK hT h; obtain rfl : kd = 17 := hk
 have hl2 : n.kids.length = 2 := by simp [shp] at hlen; omega
 have HKS : Hid (∀ x ∈ n.kids, ∃ (k : Nat) (m : Nd), x = k ∧ k < i ∧ VN T k m ∧ (1 ≤ m.kind ∧ m.kind ≤ 34)) := HV.out.kid_in
 have HC : Hid (tkA T (i : Int) = [bLoop] ++ ((n.kids.map (tkA T)).flatten)) := by show _ = _; rw [HE.out]; unfold tkN; rw [hkd.out]; rw [kids_2 hl2]; simp
 have hr := hroom
 rw [HC.out] at hr
 simp only [List.length_append, List.length_cons, List.length_nil] at hr
 clear hroom; obtain ⟨z0, z1, z2, z3, z4⟩ := Blk.four' S0.out.bx
 go_enter Tryz.func42, Tryz.ntmps42
 go_wp2_with fail; refine (put_any (M := [bLoop]) (S0.out.alloc _).pr (RT.n1 (by simp)) (by simp only [List.length_append, List.length_cons, List.length_nil]; omega)).mono ?_
 rintro e w1 ⟨rfl, v1, h1, f1⟩
 have S1 := hid ((S0.out.alloc _).step h1 f1)
 clear h1 f1 z0 z1 z2 z3 z4; obtain ⟨z0, z1, z2, z3, z4⟩ := Blk.four' S1.out.bx
 go_wp2_with fail; refine (row_any HN.out hml.out (by omega) HK.out HKS.out S1.out.pr (by simp only [List.length_append, List.length_cons, List.length_nil]; omega)).mono ?_
 rintro e w2 ⟨rfl, v2, h2, f2⟩
 have S2 := hid (S1.out.step h2 f2)
 clear h2 f2 z0 z1 z2 z3 z4; obtain ⟨z0, z1, z2, z3, z4⟩ := Blk.four' S2.out.bx
 go_wp2_with fail; refine bodyPost_ret (v := .tuple #[]) (by simp [results, Tryz.results42]) rfl ?_
 exact ⟨rfl, _, by rw [HC.out]; simpa [List.append_assoc] using S2.out.pr, S2.out.fr⟩
set_option maxHeartbeats 64000000 in
theorem stP_18 {w0 w : World} {p : Nat} {nv v : Value} {T : Tre} {L : List ByteArray} {i : Nat} {n : Nd} (hN : NdP w0 p nv T i) (hv : VN T i n) (hk : n.kind = 18) {s9 : Option Addr} {c9 B9 : Nat} (hK : Els 1 cInt w0 B9 s9 n.kids) (hcap : n.kids.length ≤ c9) (hm2 : n.kids.length ≤ 1048576) (hT : Tb w0) (h : Pr w0 w p nv v L) (hroom : L.length + (tkA T (i : Int)).length ≤ 500000) :
  Calls Tryz.prog 42 #[.pointer (some ⟨p, 0, none⟩), .agg #[.int .i64 n.kind, .string n.text, .int .i64 n.num, .slice s9 n.kids.length c9]] w fun e w' => SaysQ w0 w p nv v L (tkA T (i : Int)) e w' := by
 have HN := hid hN
 have HV := hid hv
 have HK := hid hK
 have HT := hid hT
 have HE : Hid (tkA T (i : Int) = tkN (tkA T) n) := tkA_eq hv
 obtain ⟨kd, hkd⟩ : ∃ k, Hid (n.kind = k) := ⟨_, hid rfl⟩
 obtain ⟨ml, hml⟩ : ∃ m, Hid (n.kids.length = m) := ⟨_, hid rfl⟩
 have hlen := hv.len
 have hnum := hv.num
 rw [hml.out] at hcap hm2
 rw [hkd.out] at hk hlen
 rw [hkd.out, hml.out]
 have S0 := hid (Pn.start h #[.int .i64 kd, .string n.text, .int .i64 n.num, .slice s9 ml c9])
 clear hN hv hK hT h; obtain rfl : kd = 18 := hk
 have hl3 : n.kids.length = 3 := by simp [shp] at hlen; omega
 have HKS : Hid (∀ x ∈ n.kids, ∃ (k : Nat) (m : Nd), x = k ∧ k < i ∧ VN T k m ∧ (1 ≤ m.kind ∧ m.kind ≤ 34)) := HV.out.kid_in
 have HC : Hid (tkA T (i : Int) = [bEach] ++ ((n.kids.map (tkA T)).flatten)) := by show _ = _; rw [HE.out]; unfold tkN; rw [hkd.out]; rw [kids_3 hl3]; simp
 have hr := hroom
 rw [HC.out] at hr
 simp only [List.length_append, List.length_cons, List.length_nil] at hr
 clear hroom; obtain ⟨z0, z1, z2, z3, z4⟩ := Blk.four' S0.out.bx
 go_enter Tryz.func42, Tryz.ntmps42
 go_wp2_with fail; refine (put_any (M := [bEach]) (S0.out.alloc _).pr (RT.n1 (by simp)) (by simp only [List.length_append, List.length_cons, List.length_nil]; omega)).mono ?_
 rintro e w1 ⟨rfl, v1, h1, f1⟩
 have S1 := hid ((S0.out.alloc _).step h1 f1)
 clear h1 f1 z0 z1 z2 z3 z4; obtain ⟨z0, z1, z2, z3, z4⟩ := Blk.four' S1.out.bx
 go_wp2_with fail; refine (row_any HN.out hml.out (by omega) HK.out HKS.out S1.out.pr (by simp only [List.length_append, List.length_cons, List.length_nil]; omega)).mono ?_
 rintro e w2 ⟨rfl, v2, h2, f2⟩
 have S2 := hid (S1.out.step h2 f2)
 clear h2 f2 z0 z1 z2 z3 z4; obtain ⟨z0, z1, z2, z3, z4⟩ := Blk.four' S2.out.bx
 go_wp2_with fail; refine bodyPost_ret (v := .tuple #[]) (by simp [results, Tryz.results42]) rfl ?_
 exact ⟨rfl, _, by rw [HC.out]; simpa [List.append_assoc] using S2.out.pr, S2.out.fr⟩
set_option maxHeartbeats 64000000 in
theorem stP_20 {w0 w : World} {p : Nat} {nv v : Value} {T : Tre} {L : List ByteArray} {i : Nat} {n : Nd} (hN : NdP w0 p nv T i) (hv : VN T i n) (hk : n.kind = 20) {s9 : Option Addr} {c9 B9 : Nat} (hK : Els 1 cInt w0 B9 s9 n.kids) (hcap : n.kids.length ≤ c9) (hm2 : n.kids.length ≤ 1048576) (hT : Tb w0) (h : Pr w0 w p nv v L) (hroom : L.length + (tkA T (i : Int)).length ≤ 500000) :
  Calls Tryz.prog 42 #[.pointer (some ⟨p, 0, none⟩), .agg #[.int .i64 n.kind, .string n.text, .int .i64 n.num, .slice s9 n.kids.length c9]] w fun e w' => SaysQ w0 w p nv v L (tkA T (i : Int)) e w' := by
 have HN := hid hN
 have HV := hid hv
 have HK := hid hK
 have HT := hid hT
 have HE : Hid (tkA T (i : Int) = tkN (tkA T) n) := tkA_eq hv
 obtain ⟨kd, hkd⟩ : ∃ k, Hid (n.kind = k) := ⟨_, hid rfl⟩
 obtain ⟨ml, hml⟩ : ∃ m, Hid (n.kids.length = m) := ⟨_, hid rfl⟩
 have hlen := hv.len
 have hnum := hv.num
 rw [hml.out] at hcap hm2
 rw [hkd.out] at hk hlen
 rw [hkd.out, hml.out]
 have S0 := hid (Pn.start h #[.int .i64 kd, .string n.text, .int .i64 n.num, .slice s9 ml c9])
 clear hN hv hK hT h; obtain rfl : kd = 20 := hk
 have hl2 : n.kids.length = 2 := by simp [shp] at hlen; omega
 have HKS : Hid (∀ x ∈ n.kids, ∃ (k : Nat) (m : Nd), x = k ∧ k < i ∧ VN T k m ∧ (1 ≤ m.kind ∧ m.kind ≤ 34)) := HV.out.kid_in
 have HC : Hid (tkA T (i : Int) = [bHear, n.text, bAs] ++ ((n.kids.map (tkA T)).flatten)) := by show _ = _; rw [HE.out]; unfold tkN; rw [hkd.out]; rw [kids_2 hl2]; simp
 have hr := hroom
 rw [HC.out] at hr
 simp only [List.length_append, List.length_cons, List.length_nil] at hr
 clear hroom; obtain ⟨z0, z1, z2, z3, z4⟩ := Blk.four' S0.out.bx
 go_enter Tryz.func42, Tryz.ntmps42
 go_wp2_with fail; refine (put_any (M := [bHear, n.text, bAs]) (S0.out.alloc _).pr (RT.n3 (by simp)) (by simp only [List.length_append, List.length_cons, List.length_nil]; omega)).mono ?_
 rintro e w1 ⟨rfl, v1, h1, f1⟩
 have S1 := hid ((S0.out.alloc _).step h1 f1)
 clear h1 f1 z0 z1 z2 z3 z4; obtain ⟨z0, z1, z2, z3, z4⟩ := Blk.four' S1.out.bx
 go_wp2_with fail; refine (row_any HN.out hml.out (by omega) HK.out HKS.out S1.out.pr (by simp only [List.length_append, List.length_cons, List.length_nil]; omega)).mono ?_
 rintro e w2 ⟨rfl, v2, h2, f2⟩
 have S2 := hid (S1.out.step h2 f2)
 clear h2 f2 z0 z1 z2 z3 z4; obtain ⟨z0, z1, z2, z3, z4⟩ := Blk.four' S2.out.bx
 go_wp2_with fail; refine bodyPost_ret (v := .tuple #[]) (by simp [results, Tryz.results42]) rfl ?_
 exact ⟨rfl, _, by rw [HC.out]; simpa [List.append_assoc] using S2.out.pr, S2.out.fr⟩
set_option maxHeartbeats 64000000 in
theorem stP_21 {w0 w : World} {p : Nat} {nv v : Value} {T : Tre} {L : List ByteArray} {i : Nat} {n : Nd} (hN : NdP w0 p nv T i) (hv : VN T i n) (hk : n.kind = 21) {s9 : Option Addr} {c9 B9 : Nat} (hK : Els 1 cInt w0 B9 s9 n.kids) (hcap : n.kids.length ≤ c9) (hm2 : n.kids.length ≤ 1048576) (hT : Tb w0) (h : Pr w0 w p nv v L) (hroom : L.length + (tkA T (i : Int)).length ≤ 500000) :
  Calls Tryz.prog 42 #[.pointer (some ⟨p, 0, none⟩), .agg #[.int .i64 n.kind, .string n.text, .int .i64 n.num, .slice s9 n.kids.length c9]] w fun e w' => SaysQ w0 w p nv v L (tkA T (i : Int)) e w' := by
 have HN := hid hN
 have HV := hid hv
 have HK := hid hK
 have HT := hid hT
 have HE : Hid (tkA T (i : Int) = tkN (tkA T) n) := tkA_eq hv
 obtain ⟨kd, hkd⟩ : ∃ k, Hid (n.kind = k) := ⟨_, hid rfl⟩
 obtain ⟨ml, hml⟩ : ∃ m, Hid (n.kids.length = m) := ⟨_, hid rfl⟩
 have hlen := hv.len
 have hnum := hv.num
 rw [hml.out] at hcap hm2
 rw [hkd.out] at hk hlen
 rw [hkd.out, hml.out]
 have S0 := hid (Pn.start h #[.int .i64 kd, .string n.text, .int .i64 n.num, .slice s9 ml c9])
 clear hN hv hK hT h; obtain rfl : kd = 21 := hk
 have HKS : Hid (∀ x ∈ n.kids, ∃ (k : Nat) (m : Nd), x = k ∧ k < i ∧ VN T k m ∧ (1 ≤ m.kind ∧ m.kind ≤ 34)) := HV.out.kid_in
 have hsc := sum_cm (tkA T) n.kids
 have HC : Hid (tkA T (i : Int) = [bSpawn] ++ ([bLp] ++ cm (n.kids.map (tkA T)) ++ [bRp]) ++ [bSemi]) := by show _ = _; rw [HE.out]; unfold tkN; rw [hkd.out]; simp
 have hr := hroom
 rw [HC.out] at hr
 simp only [List.length_append, List.length_cons, List.length_nil] at hr
 clear hroom; obtain ⟨z0, z1, z2, z3, z4⟩ := Blk.four' S0.out.bx
 go_enter Tryz.func42, Tryz.ntmps42
 go_wp2_with fail; refine (put_any (M := [bSpawn]) (S0.out.alloc _).pr (RT.n1 (by simp)) (by simp only [List.length_append, List.length_cons, List.length_nil]; omega)).mono ?_
 rintro e w1 ⟨rfl, v1, h1, f1⟩
 have S1 := hid ((S0.out.alloc _).step h1 f1)
 clear h1 f1 z0 z1 z2 z3 z4; obtain ⟨z0, z1, z2, z3, z4⟩ := Blk.four' S1.out.bx
 go_wp2_with fail; refine (listed_any HN.out hml.out (by omega) HK.out HKS.out S1.out.pr (by simp only [List.length_append, List.length_cons, List.length_nil]; omega)).mono ?_
 rintro e w2 ⟨rfl, v2, h2, f2⟩
 have S2 := hid (S1.out.step h2 f2)
 clear h2 f2 z0 z1 z2 z3 z4; obtain ⟨z0, z1, z2, z3, z4⟩ := Blk.four' S2.out.bx
 go_wp2_with fail; refine (put_any (M := [bSemi]) (S2.out.alloc _).pr (RT.n1 (by simp)) (by simp only [List.length_append, List.length_cons, List.length_nil]; omega)).mono ?_
 rintro e w3 ⟨rfl, v3, h3, f3⟩
 have S3 := hid ((S2.out.alloc _).step h3 f3)
 clear h3 f3 z0 z1 z2 z3 z4; obtain ⟨z0, z1, z2, z3, z4⟩ := Blk.four' S3.out.bx
 go_wp2_with fail; refine bodyPost_ret (v := .tuple #[]) (by simp [results, Tryz.results42]) rfl ?_
 exact ⟨rfl, _, by rw [HC.out]; simpa [List.append_assoc] using S3.out.pr, S3.out.fr⟩
set_option maxHeartbeats 64000000 in
theorem paP_34 {w0 w : World} {p : Nat} {nv v : Value} {T : Tre} {L : List ByteArray} {i : Nat} {n : Nd} (hN : NdP w0 p nv T i) (hv : VN T i n) (hk : n.kind = 34) {s9 : Option Addr} {c9 B9 : Nat} (hK : Els 1 cInt w0 B9 s9 n.kids) (hcap : n.kids.length ≤ c9) (hm2 : n.kids.length ≤ 1048576) (hT : Tb w0) (h : Pr w0 w p nv v L) (hroom : L.length + (tkA T (i : Int)).length ≤ 500000) :
  Calls Tryz.prog 43 #[.pointer (some ⟨p, 0, none⟩), .agg #[.int .i64 n.kind, .string n.text, .int .i64 n.num, .slice s9 n.kids.length c9]] w fun e w' => SaysQ w0 w p nv v L (tkA T (i : Int)) e w' := by
 have HN := hid hN
 have HV := hid hv
 have HK := hid hK
 have HT := hid hT
 have HE : Hid (tkA T (i : Int) = tkN (tkA T) n) := tkA_eq hv
 obtain ⟨kd, hkd⟩ : ∃ k, Hid (n.kind = k) := ⟨_, hid rfl⟩
 obtain ⟨ml, hml⟩ : ∃ m, Hid (n.kids.length = m) := ⟨_, hid rfl⟩
 have hlen := hv.len
 have hnum := hv.num
 rw [hml.out] at hcap hm2
 rw [hkd.out] at hk hlen
 rw [hkd.out, hml.out]
 have S0 := hid (Pn.start h #[.int .i64 kd, .string n.text, .int .i64 n.num, .slice s9 ml c9])
 clear hN hv hK hT h; obtain rfl : kd = 34 := hk
 have hl1 : n.kids.length = 1 := by simp [shp] at hlen; omega
 have HKS : Hid (∀ x ∈ n.kids, ∃ (k : Nat) (m : Nd), x = k ∧ k < i ∧ VN T k m ∧ (1 ≤ m.kind ∧ m.kind ≤ 34)) := HV.out.kid_in
 have HC : Hid (tkA T (i : Int) = [bSystem, n.text] ++ ((n.kids.map (tkA T)).flatten)) := by show _ = _; rw [HE.out]; unfold tkN; rw [hkd.out]; rw [kids_1 hl1]; simp
 have hr := hroom
 rw [HC.out] at hr
 simp only [List.length_append, List.length_cons, List.length_nil] at hr
 clear hroom; obtain ⟨z0, z1, z2, z3, z4⟩ := Blk.four' S0.out.bx
 go_enter Tryz.func43, Tryz.ntmps43
 go_wp2_with fail; refine (put_any (M := [bSystem, n.text]) (S0.out.alloc _).pr (RT.n2 (by simp)) (by simp only [List.length_append, List.length_cons, List.length_nil]; omega)).mono ?_
 rintro e w1 ⟨rfl, v1, h1, f1⟩
 have S1 := hid ((S0.out.alloc _).step h1 f1)
 clear h1 f1 z0 z1 z2 z3 z4; obtain ⟨z0, z1, z2, z3, z4⟩ := Blk.four' S1.out.bx
 go_wp2_with fail; refine (row_any HN.out hml.out (by omega) HK.out HKS.out S1.out.pr (by simp only [List.length_append, List.length_cons, List.length_nil]; omega)).mono ?_
 rintro e w2 ⟨rfl, v2, h2, f2⟩
 have S2 := hid (S1.out.step h2 f2)
 clear h2 f2 z0 z1 z2 z3 z4; obtain ⟨z0, z1, z2, z3, z4⟩ := Blk.four' S2.out.bx
 go_wp2_with fail; refine bodyPost_ret (v := .tuple #[]) (by simp [results, Tryz.results43]) rfl ?_
 exact ⟨rfl, _, by rw [HC.out]; simpa [List.append_assoc] using S2.out.pr, S2.out.fr⟩
set_option maxHeartbeats 64000000 in
theorem paP_28 {w0 w : World} {p : Nat} {nv v : Value} {T : Tre} {L : List ByteArray} {i : Nat} {n : Nd} (hN : NdP w0 p nv T i) (hv : VN T i n) (hk : n.kind = 28) {s9 : Option Addr} {c9 B9 : Nat} (hK : Els 1 cInt w0 B9 s9 n.kids) (hcap : n.kids.length ≤ c9) (hm2 : n.kids.length ≤ 1048576) (hT : Tb w0) (h : Pr w0 w p nv v L) (hroom : L.length + (tkA T (i : Int)).length ≤ 500000) :
  Calls Tryz.prog 43 #[.pointer (some ⟨p, 0, none⟩), .agg #[.int .i64 n.kind, .string n.text, .int .i64 n.num, .slice s9 n.kids.length c9]] w fun e w' => SaysQ w0 w p nv v L (tkA T (i : Int)) e w' := by
 have HN := hid hN
 have HV := hid hv
 have HK := hid hK
 have HT := hid hT
 have HE : Hid (tkA T (i : Int) = tkN (tkA T) n) := tkA_eq hv
 obtain ⟨kd, hkd⟩ : ∃ k, Hid (n.kind = k) := ⟨_, hid rfl⟩
 obtain ⟨ml, hml⟩ : ∃ m, Hid (n.kids.length = m) := ⟨_, hid rfl⟩
 have hlen := hv.len
 have hnum := hv.num
 rw [hml.out] at hcap hm2
 rw [hkd.out] at hk hlen
 rw [hkd.out, hml.out]
 have S0 := hid (Pn.start h #[.int .i64 kd, .string n.text, .int .i64 n.num, .slice s9 ml c9])
 clear hN hv hK hT h; obtain rfl : kd = 28 := hk
 have hl1 : n.kids.length = 1 := by simp [shp] at hlen; omega
 have HKS : Hid (∀ x ∈ n.kids, ∃ (k : Nat) (m : Nd), x = k ∧ k < i ∧ VN T k m ∧ (1 ≤ m.kind ∧ m.kind ≤ 34)) := HV.out.kid_in
 have HC : Hid (tkA T (i : Int) = [n.text, bEq] ++ ((n.kids.map (tkA T)).flatten)) := by show _ = _; rw [HE.out]; unfold tkN; rw [hkd.out]; rw [kids_1 hl1]; simp
 have hr := hroom
 rw [HC.out] at hr
 simp only [List.length_append, List.length_cons, List.length_nil] at hr
 clear hroom; obtain ⟨z0, z1, z2, z3, z4⟩ := Blk.four' S0.out.bx
 go_enter Tryz.func43, Tryz.ntmps43
 go_wp2_with fail; refine (put_any (M := [n.text, bEq]) (S0.out.alloc _).pr (RT.n2 (by simp)) (by simp only [List.length_append, List.length_cons, List.length_nil]; omega)).mono ?_
 rintro e w1 ⟨rfl, v1, h1, f1⟩
 have S1 := hid ((S0.out.alloc _).step h1 f1)
 clear h1 f1 z0 z1 z2 z3 z4; obtain ⟨z0, z1, z2, z3, z4⟩ := Blk.four' S1.out.bx
 go_wp2_with fail; refine (row_any HN.out hml.out (by omega) HK.out HKS.out S1.out.pr (by simp only [List.length_append, List.length_cons, List.length_nil]; omega)).mono ?_
 rintro e w2 ⟨rfl, v2, h2, f2⟩
 have S2 := hid (S1.out.step h2 f2)
 clear h2 f2 z0 z1 z2 z3 z4; obtain ⟨z0, z1, z2, z3, z4⟩ := Blk.four' S2.out.bx
 go_wp2_with fail; refine bodyPost_ret (v := .tuple #[]) (by simp [results, Tryz.results43]) rfl ?_
 exact ⟨rfl, _, by rw [HC.out]; simpa [List.append_assoc] using S2.out.pr, S2.out.fr⟩
set_option maxHeartbeats 64000000 in
theorem paP_27 {w0 w : World} {p : Nat} {nv v : Value} {T : Tre} {L : List ByteArray} {i : Nat} {n : Nd} (hN : NdP w0 p nv T i) (hv : VN T i n) (hk : n.kind = 27) {s9 : Option Addr} {c9 B9 : Nat} (hK : Els 1 cInt w0 B9 s9 n.kids) (hcap : n.kids.length ≤ c9) (hm2 : n.kids.length ≤ 1048576) (hT : Tb w0) (h : Pr w0 w p nv v L) (hroom : L.length + (tkA T (i : Int)).length ≤ 500000) :
  Calls Tryz.prog 43 #[.pointer (some ⟨p, 0, none⟩), .agg #[.int .i64 n.kind, .string n.text, .int .i64 n.num, .slice s9 n.kids.length c9]] w fun e w' => SaysQ w0 w p nv v L (tkA T (i : Int)) e w' := by
 have HN := hid hN
 have HV := hid hv
 have HK := hid hK
 have HT := hid hT
 have HE : Hid (tkA T (i : Int) = tkN (tkA T) n) := tkA_eq hv
 obtain ⟨kd, hkd⟩ : ∃ k, Hid (n.kind = k) := ⟨_, hid rfl⟩
 obtain ⟨ml, hml⟩ : ∃ m, Hid (n.kids.length = m) := ⟨_, hid rfl⟩
 have hlen := hv.len
 have hnum := hv.num
 rw [hml.out] at hcap hm2
 rw [hkd.out] at hk hlen
 rw [hkd.out, hml.out]
 have S0 := hid (Pn.start h #[.int .i64 kd, .string n.text, .int .i64 n.num, .slice s9 ml c9])
 clear hN hv hK hT h; obtain rfl : kd = 27 := hk
 have HKS : Hid (∀ x ∈ n.kids, ∃ (k : Nat) (m : Nd), x = k ∧ k < i ∧ VN T k m ∧ (1 ≤ m.kind ∧ m.kind ≤ 34)) := HV.out.kid_in
 have HC : Hid (tkA T (i : Int) = [bLb] ++ ((n.kids.map (tkA T)).flatten) ++ [bRb]) := by show _ = _; rw [HE.out]; unfold tkN; rw [hkd.out]; simp
 have hr := hroom
 rw [HC.out] at hr
 simp only [List.length_append, List.length_cons, List.length_nil] at hr
 clear hroom; obtain ⟨z0, z1, z2, z3, z4⟩ := Blk.four' S0.out.bx
 go_enter Tryz.func43, Tryz.ntmps43
 go_wp2_with fail; refine (put_any (M := [bLb]) (S0.out.alloc _).pr (RT.n1 (by simp)) (by simp only [List.length_append, List.length_cons, List.length_nil]; omega)).mono ?_
 rintro e w1 ⟨rfl, v1, h1, f1⟩
 have S1 := hid ((S0.out.alloc _).step h1 f1)
 clear h1 f1 z0 z1 z2 z3 z4; obtain ⟨z0, z1, z2, z3, z4⟩ := Blk.four' S1.out.bx
 go_wp2_with fail; refine (row_any HN.out hml.out (by omega) HK.out HKS.out S1.out.pr (by simp only [List.length_append, List.length_cons, List.length_nil]; omega)).mono ?_
 rintro e w2 ⟨rfl, v2, h2, f2⟩
 have S2 := hid (S1.out.step h2 f2)
 clear h2 f2 z0 z1 z2 z3 z4; obtain ⟨z0, z1, z2, z3, z4⟩ := Blk.four' S2.out.bx
 go_wp2_with fail; refine (put_any (M := [bRb]) (S2.out.alloc _).pr (RT.n1 (by simp)) (by simp only [List.length_append, List.length_cons, List.length_nil]; omega)).mono ?_
 rintro e w3 ⟨rfl, v3, h3, f3⟩
 have S3 := hid ((S2.out.alloc _).step h3 f3)
 clear h3 f3 z0 z1 z2 z3 z4; obtain ⟨z0, z1, z2, z3, z4⟩ := Blk.four' S3.out.bx
 go_wp2_with fail; refine bodyPost_ret (v := .tuple #[]) (by simp [results, Tryz.results43]) rfl ?_
 exact ⟨rfl, _, by rw [HC.out]; simpa [List.append_assoc] using S3.out.pr, S3.out.fr⟩
set_option maxHeartbeats 64000000 in
theorem paP_29 {w0 w : World} {p : Nat} {nv v : Value} {T : Tre} {L : List ByteArray} {i : Nat} {n : Nd} (hN : NdP w0 p nv T i) (hv : VN T i n) (hk : n.kind = 29) {s9 : Option Addr} {c9 B9 : Nat} (hK : Els 1 cInt w0 B9 s9 n.kids) (hcap : n.kids.length ≤ c9) (hm2 : n.kids.length ≤ 1048576) (hT : Tb w0) (h : Pr w0 w p nv v L) (hroom : L.length + (tkA T (i : Int)).length ≤ 500000) :
  Calls Tryz.prog 43 #[.pointer (some ⟨p, 0, none⟩), .agg #[.int .i64 n.kind, .string n.text, .int .i64 n.num, .slice s9 n.kids.length c9]] w fun e w' => SaysQ w0 w p nv v L (tkA T (i : Int)) e w' := by
 have HN := hid hN
 have HV := hid hv
 have HK := hid hK
 have HT := hid hT
 have HE : Hid (tkA T (i : Int) = tkN (tkA T) n) := tkA_eq hv
 obtain ⟨kd, hkd⟩ : ∃ k, Hid (n.kind = k) := ⟨_, hid rfl⟩
 obtain ⟨ml, hml⟩ : ∃ m, Hid (n.kids.length = m) := ⟨_, hid rfl⟩
 have hlen := hv.len
 have hnum := hv.num
 rw [hml.out] at hcap hm2
 rw [hkd.out] at hk hlen
 rw [hkd.out, hml.out]
 have S0 := hid (Pn.start h #[.int .i64 kd, .string n.text, .int .i64 n.num, .slice s9 ml c9])
 clear hN hv hK hT h; obtain rfl : kd = 29 := hk
 have HKS : Hid (∀ x ∈ n.kids, ∃ (k : Nat) (m : Nd), x = k ∧ k < i ∧ VN T k m ∧ (1 ≤ m.kind ∧ m.kind ≤ 34)) := HV.out.kid_in
 have hsc := sum_cm (tkA T) n.kids
 have HC : Hid (tkA T (i : Int) = [bWith] ++ cm (n.kids.map (tkA T))) := by show _ = _; rw [HE.out]; unfold tkN; rw [hkd.out]; rfl
 have hr := hroom
 rw [HC.out] at hr
 simp only [List.length_append, List.length_cons, List.length_nil] at hr
 clear hroom; obtain ⟨z0, z1, z2, z3, z4⟩ := Blk.four' S0.out.bx
 go_enter Tryz.func43, Tryz.ntmps43
 go_wp2_with fail; refine (put_any (M := [bWith]) (S0.out.alloc _).pr (RT.n1 (by simp)) (by simp only [List.length_append, List.length_cons, List.length_nil]; omega)).mono ?_
 rintro e w1 ⟨rfl, v1, h1, f1⟩
 have S1 := hid ((S0.out.alloc _).step h1 f1)
 clear h1 f1 z0 z1 z2 z3 z4; obtain ⟨z0, z1, z2, z3, z4⟩ := Blk.four' S1.out.bx
 go_wp2_with fail; refine (items_any HN.out hml.out (by omega) HK.out HKS.out S1.out.pr (by simp only [List.length_append, List.length_cons, List.length_nil]; omega)).mono ?_
 rintro e w2 ⟨rfl, v2, h2, f2⟩
 have S2 := hid (S1.out.step h2 f2)
 clear h2 f2 z0 z1 z2 z3 z4; obtain ⟨z0, z1, z2, z3, z4⟩ := Blk.four' S2.out.bx
 go_wp2_with fail; refine bodyPost_ret (v := .tuple #[]) (by simp [results, Tryz.results43]) rfl ?_
 exact ⟨rfl, _, by rw [HC.out]; simpa [List.append_assoc] using S2.out.pr, S2.out.fr⟩
set_option maxHeartbeats 64000000 in
theorem paP_31 {w0 w : World} {p : Nat} {nv v : Value} {T : Tre} {L : List ByteArray} {i : Nat} {n : Nd} (hN : NdP w0 p nv T i) (hv : VN T i n) (hk : n.kind = 31) {s9 : Option Addr} {c9 B9 : Nat} (hK : Els 1 cInt w0 B9 s9 n.kids) (hcap : n.kids.length ≤ c9) (hm2 : n.kids.length ≤ 1048576) (hT : Tb w0) (h : Pr w0 w p nv v L) (hroom : L.length + (tkA T (i : Int)).length ≤ 500000) :
  Calls Tryz.prog 43 #[.pointer (some ⟨p, 0, none⟩), .agg #[.int .i64 n.kind, .string n.text, .int .i64 n.num, .slice s9 n.kids.length c9]] w fun e w' => SaysQ w0 w p nv v L (tkA T (i : Int)) e w' := by
 have HN := hid hN
 have HV := hid hv
 have HK := hid hK
 have HT := hid hT
 have HE : Hid (tkA T (i : Int) = tkN (tkA T) n) := tkA_eq hv
 obtain ⟨kd, hkd⟩ : ∃ k, Hid (n.kind = k) := ⟨_, hid rfl⟩
 obtain ⟨ml, hml⟩ : ∃ m, Hid (n.kids.length = m) := ⟨_, hid rfl⟩
 have hlen := hv.len
 have hnum := hv.num
 rw [hml.out] at hcap hm2
 rw [hkd.out] at hk hlen
 rw [hkd.out, hml.out]
 have S0 := hid (Pn.start h #[.int .i64 kd, .string n.text, .int .i64 n.num, .slice s9 ml c9])
 clear hN hv hK hT h; obtain rfl : kd = 31 := hk
 have HC : Hid (tkA T (i : Int) = [n.text]) := by show _ = _; rw [HE.out]; unfold tkN; rw [hkd.out]; rfl
 have hr := hroom
 rw [HC.out] at hr
 simp only [List.length_append, List.length_cons, List.length_nil] at hr
 clear hroom; obtain ⟨z0, z1, z2, z3, z4⟩ := Blk.four' S0.out.bx
 go_enter Tryz.func43, Tryz.ntmps43
 go_wp2_with fail; refine (put_any (M := [n.text]) (S0.out.alloc _).pr (RT.n1 (by simp)) (by simp only [List.length_append, List.length_cons, List.length_nil]; omega)).mono ?_
 rintro e w1 ⟨rfl, v1, h1, f1⟩
 have S1 := hid ((S0.out.alloc _).step h1 f1)
 clear h1 f1 z0 z1 z2 z3 z4; obtain ⟨z0, z1, z2, z3, z4⟩ := Blk.four' S1.out.bx
 go_wp2_with fail; refine bodyPost_ret (v := .tuple #[]) (by simp [results, Tryz.results43]) rfl ?_
 exact ⟨rfl, _, by rw [HC.out]; simpa [List.append_assoc] using S1.out.pr, S1.out.fr⟩
end
section
open Go.RowKit
set_option maxRecDepth 100000
set_option maxHeartbeats 64000000 in
theorem tuP_any {w0 w : World} {p : Nat} {nv v : Value} {T : Tre} {L : List ByteArray} {i : Nat} {n : Nd} (hN : NdP w0 p nv T i) (hv : VN T i n) (hk : n.kind = 9) {s9 : Option Addr} {c9 B9 : Nat} (hK : Els 1 cInt w0 B9 s9 n.kids) (hcap : n.kids.length ≤ c9) (hm2 : n.kids.length ≤ 1048576) (hT : Tb w0) (h : Pr w0 w p nv v L) (hroom : L.length + (tkA T (i : Int)).length ≤ 500000) :
  Calls Tryz.prog 63 #[.pointer (some ⟨p, 0, none⟩), .agg #[.int .i64 n.kind, .string n.text, .int .i64 n.num, .slice s9 n.kids.length c9]] w fun e w' => SaysQ w0 w p nv v L (tkA T (i : Int)) e w' := by
 have hop := has_op9 hv hk
 by_cases h1 : n.num = 1
 ·
  exact tuP_1 hN hv hk h1 hK hcap hm2 hT h hroom
 by_cases h2 : n.num = 2
 ·
  exact tuP_2 hN hv hk h2 hK hcap hm2 hT h hroom
 exact tuP_3 hN hv hk (by omega) hK hcap hm2 hT h hroom
set_option maxHeartbeats 64000000 in
theorem exP_9 {w0 w : World} {p : Nat} {nv v : Value} {T : Tre} {L : List ByteArray} {i : Nat} {n : Nd} (hN : NdP w0 p nv T i) (hv : VN T i n) (hk : n.kind = 9) {s9 : Option Addr} {c9 B9 : Nat} (hK : Els 1 cInt w0 B9 s9 n.kids) (hcap : n.kids.length ≤ c9) (hm2 : n.kids.length ≤ 1048576) (hT : Tb w0) (h : Pr w0 w p nv v L) (hroom : L.length + (tkA T (i : Int)).length ≤ 500000) :
  Calls Tryz.prog 41 #[.pointer (some ⟨p, 0, none⟩), .agg #[.int .i64 n.kind, .string n.text, .int .i64 n.num, .slice s9 n.kids.length c9]] w fun e w' => SaysQ w0 w p nv v L (tkA T (i : Int)) e w' := by
 have HN := hid hN
 have HV := hid hv
 have HK := hid hK
 have HT := hid hT
 have HE : Hid (tkA T (i : Int) = tkN (tkA T) n) := tkA_eq hv
 obtain ⟨kd, hkd⟩ : ∃ k, Hid (n.kind = k) := ⟨_, hid rfl⟩
 obtain ⟨ml, hml⟩ : ∃ m, Hid (n.kids.length = m) := ⟨_, hid rfl⟩
 have hlen := hv.len
 have hnum := hv.num
 rw [hml.out] at hcap hm2
 rw [hkd.out] at hk hlen
 rw [hkd.out, hml.out]
 have S0 := hid (Pn.start h #[.int .i64 kd, .string n.text, .int .i64 n.num, .slice s9 ml c9])
 clear hN hv hK hT h; obtain rfl : kd = 9 := hk
 obtain ⟨z0, z1, z2, z3, z4⟩ := Blk.four' S0.out.bx
 go_enter Tryz.func41, Tryz.ntmps41
 go_wp2_with fail; have hh := tuP_any HN.out HV.out hkd.out HK.out (by rw [hml.out]; exact hcap) (by rw [hml.out]; exact hm2) HT.out S0.out.pr hroom
 rw [hkd.out, hml.out] at hh
 refine hh.mono ?_
 rintro e w1 ⟨rfl, v1, h1, f1⟩
 have S1 := hid (S0.out.step h1 f1)
 clear h1 f1 hh z0 z1 z2 z3 z4; go_wp2_with fail; refine bodyPost_ret (v := .tuple #[]) (by simp [results, Tryz.results41]) rfl ?_
 exact ⟨rfl, _, S1.out.pr, S1.out.fr⟩
end
end Go.Proofs.YtjckoldjodjehaaGreatDoor
