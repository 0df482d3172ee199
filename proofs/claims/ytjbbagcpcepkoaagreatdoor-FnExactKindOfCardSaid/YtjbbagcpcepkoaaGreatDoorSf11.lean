import Derived.Test.YtjbbagcpcepkoaaGreatDoorSf10
namespace Go.Proofs.YtjbbagcpcepkoaaGreatDoor
set_option maxRecDepth 100000
set_option maxHeartbeats 64000000
set_option linter.unusedVariables false
set_option linter.unusedSimpArgs false
section
open Go.RowKit
theorem ok4' {i:Int} {x y:Nat} (h:okB 4 i x y=true):i=0\/i=1:=by
 simp[okB] at h;exact h.1.1
theorem je1 (op i:Int) (x y:Nat) (w:World) (lx:x<18446744073709551616) (ly:y<18446744073709551616) (hx:okB 1 i x y=true) :
  Calls Tryz.prog 137 #[.int .i64 op,.agg #[.int .i64 1,.int .i64 i,.float .f64 x,.float .f64 y]] w λe w'=>j1m (j1w op i) w e w':=by
 have hn:=j71
 by_cases h1:op=1
 ·
  subst h1
  go_enter Tryz.func137,Tryz.ntmps137
  go_wp2_with (go_at_call 151;refine(j0b _ _ _ _ _ lx ly).mono ?_;rintro e w' ⟨rfl,rfl⟩)
  refine bq (.tuple #[.agg #[.int .i64 1,.int .i64 (wrap64 (-i)),.float .f64 0,.float .f64 0],.int .i64 0]) (j28 rfl rfl ?_)
  exact blq
 by_cases h2:op=2
 ·
  subst h2
  go_enter Tryz.func137,Tryz.ntmps137
  go_wp2_with (go_at_call 151;refine(j0b _ _ _ _ _ lx ly).mono ?_;rintro e w' ⟨rfl,rfl⟩)
  refine bq (.tuple #[.agg #[.int .i64 0,.int .i64 0,.float .f64 0,.float .f64 0],.int .i64 1]) (j0k rfl rfl ?_)
  exact blq
 by_cases h3:op=3
 ·
  subst h3
  go_enter Tryz.func137,Tryz.ntmps137
  go_wp2_with (go_at_call 151;refine(j0b _ _ _ _ _ lx ly).mono ?_;rintro e w' ⟨rfl,rfl⟩)
  refine bq (.tuple #[.agg #[.int .i64 0,.int .i64 0,.float .f64 0,.float .f64 0],.int .i64 1]) (j0k rfl rfl ?_)
  exact blq
 by_cases h4:op=4
 ·
  subst h4
  go_enter Tryz.func137,Tryz.ntmps137
  go_wp2_with (go_at_call 151;refine(j0b _ _ _ _ _ lx ly).mono ?_;rintro e w' ⟨rfl,rfl⟩)
  refine bq (.tuple #[.agg #[.int .i64 0,.int .i64 0,.float .f64 0,.float .f64 0],.int .i64 1]) (j0k rfl rfl ?_)
  exact blq
 by_cases h5:op=5
 ·
  subst h5
  go_enter Tryz.func137,Tryz.ntmps137
  go_wp2_with (go_at_call 151;refine(j0b _ _ _ _ _ lx ly).mono ?_;rintro e w' ⟨rfl,rfl⟩)
  refine bq (.tuple #[.agg #[.int .i64 2,.int .i64 0,.float .f64 (floatOfInt .f64 i),.float .f64 0],.int .i64 0]) (j1u rfl (j2y (jbn i)) rfl ?_)
  exact blq
 by_cases h6:op=6
 ·
  subst h6
  go_enter Tryz.func137,Tryz.ntmps137
  go_wp2_with (go_at_call 151;refine(j0b _ _ _ _ _ lx ly).mono ?_;rintro e w' ⟨rfl,rfl⟩)
  refine bq (.tuple #[.agg #[.int .i64 0,.int .i64 0,.float .f64 0,.float .f64 0],.int .i64 1]) (j0k rfl rfl ?_)
  exact blq
 have g1:(op ==1)=false:=beq_eq_false_iff_ne.2 h1
 have g2:(op ==2)=false:=beq_eq_false_iff_ne.2 h2
 have g3:(op ==3)=false:=beq_eq_false_iff_ne.2 h3
 have g4:(op ==4)=false:=beq_eq_false_iff_ne.2 h4
 have g5:(op ==5)=false:=beq_eq_false_iff_ne.2 h5
 have g6:(op ==6)=false:=beq_eq_false_iff_ne.2 h6
 have E:Hid (j1w op i=(zV,1)):=by simp[Hid,j1w,h1,h2,h3,h4,h5,h6]
 go_enter Tryz.func137,Tryz.ntmps137
 go_wp2_with (go_at_call 151;refine(j0b _ _ _ _ _ lx ly).mono ?_;rintro e w' ⟨rfl,rfl⟩)
 refine bq (.tuple #[.agg #[.int .i64 0,.int .i64 0,.float .f64 0,.float .f64 0],.int .i64 1]) (j0k E.out rfl ?_)
 exact blq
theorem jef (op i:Int) (x y:Nat) (w:World) (lx:x<18446744073709551616) (ly:y<18446744073709551616) (hx:okB 2 i x y=true) :
  Calls Tryz.prog 137 #[.int .i64 op,.agg #[.int .i64 2,.int .i64 i,.float .f64 x,.float .f64 y]] w λe w'=>j1m (j1k op x) w e w':=by
 have hn:=j71
 by_cases h1:op=1
 ·
  subst h1
  go_enter Tryz.func137,Tryz.ntmps137
  go_wp2_with (go_at_call 151;refine(j0b _ _ _ _ _ lx ly).mono ?_;rintro e w' ⟨rfl,rfl⟩)
  refine bq (.tuple #[.agg #[.int .i64 2,.int .i64 0,.float .f64 (negF x),.float .f64 0],.int .i64 0]) (j1u rfl (j2y (j5p lx)) rfl ?_)
  exact blq
 by_cases h2:op=2
 ·
  subst h2
  go_enter Tryz.func137,Tryz.ntmps137
  go_wp2_with (go_at_call 151;refine(j0b _ _ _ _ _ lx ly).mono ?_;rintro e w' ⟨rfl,rfl⟩)
  refine bq (.tuple #[.agg #[.int .i64 0,.int .i64 0,.float .f64 0,.float .f64 0],.int .i64 1]) (j0k rfl rfl ?_)
  exact blq
 by_cases h3:op=3
 ·
  subst h3
  go_enter Tryz.func137,Tryz.ntmps137
  go_wp2_with (go_at_call 151;refine(j0b _ _ _ _ _ lx ly).mono ?_;rintro e w' ⟨rfl,rfl⟩)
  refine bq (.tuple #[.agg #[.int .i64 0,.int .i64 0,.float .f64 0,.float .f64 0],.int .i64 1]) (j0k rfl rfl ?_)
  exact blq
 by_cases h4:op=4
 ·
  subst h4
  go_enter Tryz.func137,Tryz.ntmps137
  go_wp2_with (go_at_call 151;refine(j0b _ _ _ _ _ lx ly).mono ?_;rintro e w' ⟨rfl,rfl⟩)
  refine bq (.tuple #[.agg #[.int .i64 0,.int .i64 0,.float .f64 0,.float .f64 0],.int .i64 1]) (j0k rfl rfl ?_)
  exact blq
 by_cases h5:op=5
 ·
  subst h5
  go_enter Tryz.func137,Tryz.ntmps137
  go_wp2_with (go_at_call 151;refine(j0b _ _ _ _ _ lx ly).mono ?_;rintro e w' ⟨rfl,rfl⟩)
  refine bq (.tuple #[.agg #[.int .i64 0,.int .i64 0,.float .f64 0,.float .f64 0],.int .i64 1]) (j0k rfl rfl ?_)
  exact blq
 by_cases h6:op=6
 ·
  subst h6
  go_enter Tryz.func137,Tryz.ntmps137
  go_wp2_with (go_at_call 151;refine(j0b _ _ _ _ _ lx ly).mono ?_;rintro e w' ⟨rfl,rfl⟩)
  refine bq (.tuple #[.agg #[.int .i64 0,.int .i64 0,.float .f64 0,.float .f64 0],.int .i64 1]) (j0k rfl rfl ?_)
  exact blq
 have g1:(op ==1)=false:=beq_eq_false_iff_ne.2 h1
 have g2:(op ==2)=false:=beq_eq_false_iff_ne.2 h2
 have g3:(op ==3)=false:=beq_eq_false_iff_ne.2 h3
 have g4:(op ==4)=false:=beq_eq_false_iff_ne.2 h4
 have g5:(op ==5)=false:=beq_eq_false_iff_ne.2 h5
 have g6:(op ==6)=false:=beq_eq_false_iff_ne.2 h6
 have E:Hid (j1k op x=(zV,1)):=by simp[Hid,j1k,h1,h2,h3,h4,h5,h6]
 go_enter Tryz.func137,Tryz.ntmps137
 go_wp2_with (go_at_call 151;refine(j0b _ _ _ _ _ lx ly).mono ?_;rintro e w' ⟨rfl,rfl⟩)
 refine bq (.tuple #[.agg #[.int .i64 0,.int .i64 0,.float .f64 0,.float .f64 0],.int .i64 1]) (j0k E.out rfl ?_)
 exact blq
theorem jer (op i:Int) (x y:Nat) (w:World) (lx:x<18446744073709551616) (ly:y<18446744073709551616) (hx:okB 3 i x y=true) :
  Calls Tryz.prog 137 #[.int .i64 op,.agg #[.int .i64 3,.int .i64 i,.float .f64 x,.float .f64 y]] w λe w'=>j1m (j1l op x y) w e w':=by
 have hn:=j71
 by_cases h1:op=1
 ·
  subst h1
  go_enter Tryz.func137,Tryz.ntmps137
  go_wp2_with (go_at_call 151;refine(j0b _ _ _ _ _ lx ly).mono ?_;rintro e w' ⟨rfl,rfl⟩)
  refine bq (.tuple #[.agg #[.int .i64 3,.int .i64 0,.float .f64 (negF x),.float .f64 (negF y)],.int .i64 0]) (j3j rfl (j2y (j5p lx)) (j2y (j5p ly)) rfl ?_)
  exact blq
 by_cases h2:op=2
 ·
  subst h2
  go_enter Tryz.func137,Tryz.ntmps137
  go_wp2_with (go_at_call 151;refine(j0b _ _ _ _ _ lx ly).mono ?_;rintro e w' ⟨rfl,rfl⟩)
  refine bq (.tuple #[.agg #[.int .i64 0,.int .i64 0,.float .f64 0,.float .f64 0],.int .i64 1]) (j0k rfl rfl ?_)
  exact blq
 by_cases h3:op=3
 ·
  subst h3
  go_enter Tryz.func137,Tryz.ntmps137
  go_wp2_with (go_at_call 151;refine(j0b _ _ _ _ _ lx ly).mono ?_;rintro e w' ⟨rfl,rfl⟩)
  refine bq (.tuple #[.agg #[.int .i64 2,.int .i64 0,.float .f64 x,.float .f64 0],.int .i64 0]) (j1u rfl (j2y lx) rfl ?_)
  exact blq
 by_cases h4:op=4
 ·
  subst h4
  go_enter Tryz.func137,Tryz.ntmps137
  go_wp2_with (go_at_call 151;refine(j0b _ _ _ _ _ lx ly).mono ?_;rintro e w' ⟨rfl,rfl⟩)
  refine bq (.tuple #[.agg #[.int .i64 2,.int .i64 0,.float .f64 y,.float .f64 0],.int .i64 0]) (j1u rfl (j2y ly) rfl ?_)
  exact blq
 by_cases h5:op=5
 ·
  subst h5
  go_enter Tryz.func137,Tryz.ntmps137
  go_wp2_with (go_at_call 151;refine(j0b _ _ _ _ _ lx ly).mono ?_;rintro e w' ⟨rfl,rfl⟩)
  refine bq (.tuple #[.agg #[.int .i64 0,.int .i64 0,.float .f64 0,.float .f64 0],.int .i64 1]) (j0k rfl rfl ?_)
  exact blq
 by_cases h6:op=6
 ·
  subst h6
  have hm:=λt x y w=>j0n (P:=Tryz.prog) .mul rfl t x y w
  have ha:=λt x y w=>j0n (P:=Tryz.prog) .add rfl t x y w
  go_enter Tryz.func137,Tryz.ntmps137
  go_wp2_with (go_at_call 151;refine(j0b _ _ _ _ _ lx ly).mono ?_;rintro e w' ⟨rfl,rfl⟩)
  refine bodyPost_ret (v:=.tuple #[.agg #[.int .i64 2,.int .i64 0,.float .f64 (fres .add (fres .mul x x _) (fres .mul y y _) _),.float .f64 0],.int .i64 0]) (by simp[results,Tryz.results137,go_sem];rfl) rfl (j1u rfl (Is.op2 (j11 _ _ _ _) (j11 _ _ _ _) (j11 _ _ _ _)) rfl ?_)
  exact blq
 have g1:(op ==1)=false:=beq_eq_false_iff_ne.2 h1
 have g2:(op ==2)=false:=beq_eq_false_iff_ne.2 h2
 have g3:(op ==3)=false:=beq_eq_false_iff_ne.2 h3
 have g4:(op ==4)=false:=beq_eq_false_iff_ne.2 h4
 have g5:(op ==5)=false:=beq_eq_false_iff_ne.2 h5
 have g6:(op ==6)=false:=beq_eq_false_iff_ne.2 h6
 have E:Hid (j1l op x y=(zV,1)):=by simp[Hid,j1l,h1,h2,h3,h4,h5,h6]
 go_enter Tryz.func137,Tryz.ntmps137
 go_wp2_with (go_at_call 151;refine(j0b _ _ _ _ _ lx ly).mono ?_;rintro e w' ⟨rfl,rfl⟩)
 refine bq (.tuple #[.agg #[.int .i64 0,.int .i64 0,.float .f64 0,.float .f64 0],.int .i64 1]) (j0k E.out rfl ?_)
 exact blq
theorem jdr (op i:Int) (x y:Nat) (w:World) (lx:x<18446744073709551616) (ly:y<18446744073709551616) (hx:okB 4 i x y=true) :
  Calls Tryz.prog 137 #[.int .i64 op,.agg #[.int .i64 4,.int .i64 i,.float .f64 x,.float .f64 y]] w λe w'=>j1m (j1n op (i ==1)) w e w':=by
 have hn:=j71
 by_cases h1:op=1
 ·
  subst h1
  go_enter Tryz.func137,Tryz.ntmps137
  go_wp2_with (go_at_call 151;refine(j0b _ _ _ _ _ lx ly).mono ?_;rintro e w' ⟨rfl,rfl⟩)
  refine bq (.tuple #[.agg #[.int .i64 0,.int .i64 0,.float .f64 0,.float .f64 0],.int .i64 1]) (j0k rfl rfl ?_)
  exact blq
 by_cases h2:op=2
 ·
  subst h2
  rcases ok4' hx with rfl|rfl
  all_goals
   go_enter Tryz.func137,Tryz.ntmps137
   go_wp2_with (first|(go_at_call 151;refine(j0b _ _ _ _ _ lx ly).mono ?_;rintro e w' ⟨rfl,rfl⟩)|(go_at_call 155;refine(j26 _ _).mono ?_;rintro e w' ⟨rfl,rfl⟩))
   first
    | (refine bodyPost_ret (v:=.tuple #[.agg #[.int .i64 4,.int .i64 (bN false),.float .f64 0,.float .f64 0],.int .i64 0]) (by simp[results,Tryz.results137,go_sem];done) rfl (j12 (b:=false) rfl rfl ?_);(with_reducible repeat first|exact Below.refl _ _|refine j00 ?_ _|refine j06 ?_ _|refine j02 ?_|refine j0g ?_ (by first|exact Nat.le_refl _|(dsimp only;omega)|(simp<;>omega)) _|refine j01 ?_ (by with_reducible assumption));done)
    | (refine bodyPost_ret (v:=.tuple #[.agg #[.int .i64 4,.int .i64 (bN true),.float .f64 0,.float .f64 0],.int .i64 0]) (by simp[results,Tryz.results137,go_sem];done) rfl (j12 (b:=true) rfl rfl ?_);(with_reducible repeat first|exact Below.refl _ _|refine j00 ?_ _|refine j06 ?_ _|refine j02 ?_|refine j0g ?_ (by first|exact Nat.le_refl _|(dsimp only;omega)|(simp<;>omega)) _|refine j01 ?_ (by with_reducible assumption));done)
 by_cases h3:op=3
 ·
  subst h3
  go_enter Tryz.func137,Tryz.ntmps137
  go_wp2_with (go_at_call 151;refine(j0b _ _ _ _ _ lx ly).mono ?_;rintro e w' ⟨rfl,rfl⟩)
  refine bq (.tuple #[.agg #[.int .i64 0,.int .i64 0,.float .f64 0,.float .f64 0],.int .i64 1]) (j0k rfl rfl ?_)
  exact blq
 by_cases h4:op=4
 ·
  subst h4
  go_enter Tryz.func137,Tryz.ntmps137
  go_wp2_with (go_at_call 151;refine(j0b _ _ _ _ _ lx ly).mono ?_;rintro e w' ⟨rfl,rfl⟩)
  refine bq (.tuple #[.agg #[.int .i64 0,.int .i64 0,.float .f64 0,.float .f64 0],.int .i64 1]) (j0k rfl rfl ?_)
  exact blq
 by_cases h5:op=5
 ·
  subst h5
  go_enter Tryz.func137,Tryz.ntmps137
  go_wp2_with (go_at_call 151;refine(j0b _ _ _ _ _ lx ly).mono ?_;rintro e w' ⟨rfl,rfl⟩)
  refine bq (.tuple #[.agg #[.int .i64 0,.int .i64 0,.float .f64 0,.float .f64 0],.int .i64 1]) (j0k rfl rfl ?_)
  exact blq
 by_cases h6:op=6
 ·
  subst h6
  go_enter Tryz.func137,Tryz.ntmps137
  go_wp2_with (go_at_call 151;refine(j0b _ _ _ _ _ lx ly).mono ?_;rintro e w' ⟨rfl,rfl⟩)
  refine bq (.tuple #[.agg #[.int .i64 0,.int .i64 0,.float .f64 0,.float .f64 0],.int .i64 1]) (j0k rfl rfl ?_)
  exact blq
 have g1:(op ==1)=false:=beq_eq_false_iff_ne.2 h1
 have g2:(op ==2)=false:=beq_eq_false_iff_ne.2 h2
 have g3:(op ==3)=false:=beq_eq_false_iff_ne.2 h3
 have g4:(op ==4)=false:=beq_eq_false_iff_ne.2 h4
 have g5:(op ==5)=false:=beq_eq_false_iff_ne.2 h5
 have g6:(op ==6)=false:=beq_eq_false_iff_ne.2 h6
 have E:Hid (j1n op (i ==1)=(zV,1)):=by simp[Hid,j1n,h1,h2,h3,h4,h5,h6]
 go_enter Tryz.func137,Tryz.ntmps137
 go_wp2_with (go_at_call 151;refine(j0b _ _ _ _ _ lx ly).mono ?_;rintro e w' ⟨rfl,rfl⟩)
 refine bq (.tuple #[.agg #[.int .i64 0,.int .i64 0,.float .f64 0,.float .f64 0],.int .i64 1]) (j0k E.out rfl ?_)
 exact blq
theorem j4g (op k i:Int) (x y:Nat) (w:World) (lx:x<18446744073709551616) (ly:y<18446744073709551616) :
  Calls Tryz.prog 137 #[.int .i64 op,.agg #[.int .i64 k,.int .i64 i,.float .f64 x,.float .f64 y]] w λe w'=>j1m (j14 op k i x y) w e w':=by
 cases hx:okB k i x y
 ·
  have E:Hid (j14 op k i x y=(zV,1)):=by simp[Hid,j14,hx]
  go_enter Tryz.func137,Tryz.ntmps137
  go_wp2_with (go_at_call 151;refine(j0b _ _ _ _ _ lx ly).mono ?_;rintro e w' ⟨rfl,rfl⟩)
  refine bq (.tuple #[.agg #[.int .i64 0,.int .i64 0,.float .f64 0,.float .f64 0],.int .i64 1]) (j0k E.out rfl ?_)
  exact blq
 by_cases h1:k=1
 ·
  subst h1
  have E:j14 op 1 i x y=j1w op i:=by simp[j14,hx]
  rw[E]
  exact je1 op i x y w lx ly hx
 by_cases h2:k=2
 ·
  subst h2
  have E:j14 op 2 i x y=j1k op x:=by simp[j14,hx]
  rw[E]
  exact jef op i x y w lx ly hx
 by_cases h3:k=3
 ·
  subst h3
  have E:j14 op 3 i x y=j1l op x y:=by simp[j14,hx]
  rw[E]
  exact jer op i x y w lx ly hx
 have h4:k=4:=by
  by_cases h:k=4
  ·
   exact h
  simp[okB,h1,h2,h3,h] at hx
 subst h4
 have E:j14 op 4 i x y=j1n op (i ==1):=by simp[j14,hx]
 rw[E]
 exact jdr op i x y w lx ly hx
end
section
open Go.RowKit
def j31 (k i:Int) (x y:Nat) (l j:Int) (u v:Nat):Bool:=okB k i x y&&okB l j u v&&k ==2&&l ==2
def pk (c:Bool):Int:=if c then 3 else 0
def px (c:Bool) (x:Nat):Nat:=if c then x else 0
theorem jbv {c:Bool} {x u:Nat} (h:true=c):Ending.returned (.tuple #[.agg #[.int .i64 3,.int .i64 0,.float .f64 x,.float .f64 u],.bool true])=.returned (.tuple #[.agg #[.int .i64 (pk c),.int .i64 0,.float .f64 (px c x),.float .f64 (px c u)],.bool c]):=by
 subst h;rfl
theorem j9w {c:Bool} {x u:Nat} (h:false=c):Ending.returned (.tuple #[.agg #[.int .i64 0,.int .i64 0,.float .f64 0,.float .f64 0],.bool false])=.returned (.tuple #[.agg #[.int .i64 (pk c),.int .i64 0,.float .f64 (px c x),.float .f64 (px c u)],.bool c]):=by
 subst h;rfl
theorem j5z (k i:Int) (x y:Nat) (l j:Int) (u v:Nat) (w:World) :
  Calls Tryz.prog 170 #[.agg #[.int .i64 k,.int .i64 i,.float .f64 x,.float .f64 y],.agg #[.int .i64 l,.int .i64 j,.float .f64 u,.float .f64 v]] w λe w'=>e=.returned (.tuple #[.agg #[.int .i64 (pk (j31 k i x y l j u v)),.int .i64 0,.float .f64 (px (j31 k i x y l j u v) x),.float .f64 (px (j31 k i x y l j u v) u)],.bool (j31 k i x y l j u v)])/\Below w.heap.size w w':=by
 cases hx:okB k i x y<;>cases hu:okB l j u v<;>cases hk:((k ==2):Bool)<;>cases hl:((l ==2):Bool)
 all_goals
  have gk:(k != 2)=!(k ==2):=rfl
  have gl:(l != 2)=!(l ==2):=rfl
  rw[hk] at gk
  rw[hl] at gl
  simp only[Bool.not_true,Bool.not_false] at gk gl
 case true.true.true.true =>
  have E:Hid (true=j31 k i x y l j u v):=by simp[Hid,j31,hx,hu,hk,hl]
  go_enter Tryz.func170,Tryz.ntmps170
  go_wp2_with (first|(go_at_call 180;refine(j1h _ _ _ _ _).mono ?_;rintro e w' ⟨rfl,rfl⟩)|(go_at_call 190;refine(j36 _ _ _).mono ?_;rintro e w' ⟨rfl,rfl⟩))
  refine bq (.tuple #[.agg #[.int .i64 3,.int .i64 0,.float .f64 x,.float .f64 u],.bool true]) ⟨jbv E.out,?_⟩
  exact blq
 all_goals
  have E:Hid (false=j31 k i x y l j u v):=by simp[Hid,j31,hx,hu,hk,hl]
  go_enter Tryz.func170,Tryz.ntmps170
  go_wp2_with (go_at_call 180;refine(j1h _ _ _ _ _).mono ?_;rintro e w' ⟨rfl,rfl⟩)
  refine bq (.tuple #[.agg #[.int .i64 0,.int .i64 0,.float .f64 0,.float .f64 0],.bool false]) ⟨j9w E.out,?_⟩
  exact blq
theorem j3i (k i:Int) (x y:Nat) (l j:Int) (u v:Nat) (w:World) (lx:x<18446744073709551616) (ly:y<18446744073709551616) (lu:u<18446744073709551616) (lv:v<18446744073709551616) :
  Calls Tryz.prog 139 #[.agg #[.int .i64 k,.int .i64 i,.float .f64 x,.float .f64 y],.agg #[.int .i64 l,.int .i64 j,.float .f64 u,.float .f64 v]] w λe w'=>e=.returned (.tuple #[.agg #[.int .i64 (pk (j31 k i x y l j u v)),.int .i64 0,.float .f64 (px (j31 k i x y l j u v) x),.float .f64 (px (j31 k i x y l j u v) u)],.bool (j31 k i x y l j u v)])/\Below w.heap.size w w':=by
 cases hx:okB k i x y<;>cases hu:okB l j u v<;>cases hk:((k ==2):Bool)<;>cases hl:((l ==2):Bool)
 all_goals
  have gk:(k != 2)=!(k ==2):=rfl
  have gl:(l != 2)=!(l ==2):=rfl
  rw[hk] at gk
  rw[hl] at gl
  simp only[Bool.not_true,Bool.not_false] at gk gl
 case true.true.true.true =>
  have E:Hid (true=j31 k i x y l j u v):=by simp[Hid,j31,hx,hu,hk,hl]
  go_enter Tryz.func139,Tryz.ntmps139
  go_wp2_with (first|(go_at_call 151;refine(j0b _ _ _ _ _ (by assumption) (by assumption)).mono ?_;rintro e w' ⟨rfl,rfl⟩))
  refine bq (.tuple #[.agg #[.int .i64 3,.int .i64 0,.float .f64 x,.float .f64 u],.bool true]) ⟨jbv E.out,?_⟩
  exact blq
 all_goals
  have E:Hid (false=j31 k i x y l j u v):=by simp[Hid,j31,hx,hu,hk,hl]
  go_enter Tryz.func139,Tryz.ntmps139
  go_wp2_with (go_at_call 151;refine(j0b _ _ _ _ _ (by assumption) (by assumption)).mono ?_;rintro e w' ⟨rfl,rfl⟩)
  refine bq (.tuple #[.agg #[.int .i64 0,.int .i64 0,.float .f64 0,.float .f64 0],.bool false]) ⟨j9w E.out,?_⟩
  exact blq
end
section
open Go.RowKit
def smp (k:Int):Int:=if k=2\/k=3 then 0 else 1
theorem jee (k:Int):okB k (smp k) 0 0=decide (1<=k/\k<=4):=by
 by_cases h:1<=k/\k<=4
 ·
  have:k=1\/k=2\/k=3\/k=4:=by omega
  rcases this with rfl|rfl|rfl|rfl<;>decide
 have h1:¬k=1:=by omega
 have h2:¬k=2:=by omega
 have h3:¬k=3:=by omega
 have h4:¬k=4:=by omega
 simp[okB,h1,h2,h3,h4,h]
theorem jcs (op k l:Int):((j1v op k (smp k) 0 0 l (smp l) 0 0).2=0/\(j1v op k (smp k) 0 0 l (smp l) 0 0).1.1=opK op k l/\¬opK op k l=0)\/(¬(j1v op k (smp k) 0 0 l (smp l) 0 0).2=0/\opK op k l=0):=by
 unfold j1v opK
 rw[jee,jee]
 by_cases hkl:k=l
 ·
  subst hkl
  by_cases h:1<=k/\k<=4
  ·
   have hk:k=1\/k=2\/k=3\/k=4:=by omega
   rcases hk with rfl|rfl|rfl|rfl
   ·
    simp[j2i,smp,iV,bV,zV]
    repeat' (first|(split<;>try omega)|omega|simp_all)
   ·
    simp[j2p,rV,bV,zV]
    repeat' (first|(split<;>try omega)|omega|simp_all)
   ·
    simp[j2a,pV,bV,zV]
    repeat' (first|(split<;>try omega)|omega|simp_all)
   simp[j2x,bV,zV]
   repeat' (first|(split<;>try omega)|omega|simp_all)
  have h1:¬k=1:=by omega
  have h2:¬k=2:=by omega
  have h3:¬k=3:=by omega
  have h4:¬k=4:=by omega
  simp[h,h1,h2,h3,h4]
 simp[hkl]
def zk (k:Int):Int:=if 1<=k/\k<=4 then k else 0
theorem j5o {a b:Int} (h:a=b):Ending.returned (.agg #[.int .i64 a,.int .i64 0,.float .f64 0,.float .f64 0])=.returned (.agg #[.int .i64 b,.int .i64 0,.float .f64 0,.float .f64 0]):=by rw[h]
theorem j2c (k:Int) (w:World) :
  Calls Tryz.prog 138 #[.int .i64 k] w λe w'=>e=.returned (.agg #[.int .i64 (zk k),.int .i64 0,.float .f64 0,.float .f64 0])/\Below w.heap.size w w':=by
 by_cases h1:1<=k
 ·
  by_cases h2:k<=4
  ·
   have E:Hid (k=zk k):=by simp[Hid,zk];omega
   go_enter Tryz.func138,Tryz.ntmps138
   go_wp2
   refine bq (.agg #[.int .i64 k,.int .i64 0,.float .f64 0,.float .f64 0]) ⟨j5o E.out,?_⟩
   exact blq
  have E:Hid (0=zk k):=by simp[Hid,zk];omega
  go_enter Tryz.func138,Tryz.ntmps138
  go_wp2
  refine bq (.agg #[.int .i64 0,.int .i64 0,.float .f64 0,.float .f64 0]) ⟨j5o E.out,?_⟩
  exact blq
 have E:Hid (0=zk k):=by simp[Hid,zk];omega
 go_enter Tryz.func138,Tryz.ntmps138
 go_wp2
 refine bq (.agg #[.int .i64 0,.int .i64 0,.float .f64 0,.float .f64 0]) ⟨j5o E.out,?_⟩
 exact blq
theorem jdu (k:Int):okB (zk k) 0 0 0=decide (1<=k/\k<=4):=by
 by_cases h:1<=k/\k<=4
 ·
  have:k=1\/k=2\/k=3\/k=4:=by omega
  rcases this with rfl|rfl|rfl|rfl<;>decide
 simp[okB,zk,h]
theorem j4b (op k:Int):((j14 op (zk k) 0 0 0).2=0/\(j14 op (zk k) 0 0 0).1.1=j3n op k/\¬j3n op k=0)\/(¬(j14 op (zk k) 0 0 0).2=0/\j3n op k=0):=by
 unfold j14 j3n
 rw[jdu]
 by_cases h:1<=k/\k<=4
 ·
  have hk:k=1\/k=2\/k=3\/k=4:=by omega
  rcases hk with rfl|rfl|rfl|rfl
  ·
   simp[zk,j1w,iV,rV,zV]
   repeat' (first|(split<;>try omega)|omega|simp_all)
  ·
   simp[zk,j1k,rV,zV]
   repeat' (first|(split<;>try omega)|omega|simp_all)
  ·
   simp[zk,j1l,pV,rV,zV]
   repeat' (first|(split<;>try omega)|omega|simp_all)
  simp[zk,j1n,bV,zV]
  repeat' (first|(split<;>try omega)|omega|simp_all)
 have h1:¬k=1:=by omega
 have h2:¬k=2:=by omega
 have h3:¬k=3:=by omega
 have h4:¬k=4:=by omega
 simp[h,h1,h2,h3,h4]
theorem j4m (k l:Int):j31 (zk k) 0 0 0 (zk l) 0 0 0=decide (k=2/\l=2):=by
 unfold j31
 rw[jdu,jdu]
 by_cases h:k=2/\l=2
 ·
  obtain⟨rfl,rfl⟩:=h;decide
 rw[Bool.eq_iff_iff]
 simp only[Bool.and_eq_true,decide_eq_true_eq,beq_iff_eq,zk]
 constructor
 ·
  rintro⟨⟨⟨h1,h2⟩,h3⟩,h4⟩
  rw[if_pos h1] at h3
  rw[if_pos h2] at h4
  exact⟨h3,h4⟩
 intro q;exact absurd q h
end
section
open Go.RowKit Go.Maps Go.WideMaps
abbrev j09 (km ko:Nat):Value:=.func (.func 84) #[] #[.pointer (some ⟨km,0,none⟩),.pointer (some ⟨ko,0,none⟩)]
abbrev addF (km:Nat):Value:=.func (.func 83) #[] #[.pointer (some ⟨km,0,none⟩)]
abbrev noF:Value:=.func (.func 66) #[] #[]
def orN (f g:Nm):Nm:=λs=>match f s with|some v=>some v|none=>g s
inductive Sc (w:World):Value->Nm->List Nat->Prop
 | nil:Sc w noF (λ_=>none) []
 | cons (km mb n ko:Nat) (v:Value) (f g:Nm) (bs:List Nat):Blk w km #[.map (some mb)] 91->QM w mb n f->Blk w ko #[v] 134->Sc w v g bs->Sc w (j09 km ko) (orN f g) (km :: mb :: ko :: bs)
theorem Sc.same {w w':World} {v:Value} {g:Nm} {bs:List Nat} (h:Sc w v g bs):(∀b∈bs,w'.heap[b]?=w.heap[b]?)->Sc w' v g bs:=by
 induction h with
 | nil=>intro _;exact Sc.nil
 | cons km mb n ko v f g bs h1 h2 h3 _ ih =>
  intro hs
  refine Sc.cons km mb n ko v f g bs ?_ (h2.same (hs mb (by simp))) ?_ (ih λb hb=>hs b (by simp[hb]))
  ·
   unfold Blk;rw[hs km (by simp)];exact h1
  unfold Blk;rw[hs ko (by simp)];exact h3
theorem Sc.lt {w:World} {v:Value} {g:Nm} {bs:List Nat} (h:Sc w v g bs):∀b∈bs,b<w.heap.size:=by
 induction h with
 | nil=>intro b hb;simp at hb
 | cons km mb n ko v f g bs h1 h2 h3 _ ih =>
  intro b hb
  simp only[List.mem_cons] at hb
  rcases hb with rfl|rfl|rfl|hb
  ·
   exact h1.lt
  ·
   exact h2.lt
  ·
   exact h3.lt
  exact ih b hb
theorem Sc.later {w w':World} {v:Value} {g:Nm} {bs:List Nat} (h:Sc w v g bs) (hb:Below w.heap.size w w'):Sc w' v g bs:=h.same λb hm=>hb.block b (h.lt b hm)
theorem jak (s:ByteArray) (w:World):Calls Tryz.prog 66 #[.string s] w λe w'=>e=.returned (.tuple #[.int .i64 0,.bool false])/\w'=w:=by
 go_enter Tryz.func66,Tryz.ntmps66
 go_wp2_with fail;exact bq (.tuple #[.int .i64 0,.bool false]) ⟨rfl,rfl⟩
theorem jdq {w:World} {v:Value} {g:Nm} {bs:List Nat} (h:Sc w v g bs) (s:ByteArray) (hs:s.size<=maxLen):∀km ko,v=j09 km ko->
  Calls Tryz.prog 84 #[.string s,.pointer (some ⟨km,0,none⟩),.pointer (some ⟨ko,0,none⟩)] w λe w'=>e=.returned (.tuple #[.int .i64 ((g s).getD 0),.bool (g s).isSome])/\w'=w:=by
 induction h with
 | nil=>intro km ko e;cases e
 | cons km mb n ko v f g bs h1 h2 h3 hsc ih =>
  intro km' ko' e
  cases e
  have x0:w.cell? ⟨km,0,none⟩=some (.map (some mb)):=(h1.cell 0).trans rfl
  have x1:w.cell? ⟨ko,0,none⟩=some v:=(h3.cell 0).trans rfl
  have hl:=h2.look s hs
  cases hf:f s with
  | some j =>
   rw[hf] at hl
   have hr:Hid (orN f g s=some j):=by show _=_;unfold orN;rw[hf]
   clear h1 h2 h3 ih hsc hf;go_enter Tryz.func84,Tryz.ntmps84
   go_wp2_with fail;refine bq (.tuple #[.int .i64 j,.bool true]) ?_
   rw[hr.out]
   exact⟨rfl,rfl⟩
  | none =>
   rw[hf] at hl
   have hr:Hid (orN f g s=g s):=by show _=_;unfold orN;rw[hf]
   clear h1 h2 h3 hf;cases hsc with
   | nil =>
    clear ih;go_enter Tryz.func84,Tryz.ntmps84
    go_wp2_with fail;refine(jak s w).mono ?_
    rintro e w2 ⟨rfl,hq⟩
    rw[hq]
    go_wp2_with fail;refine bq (.tuple #[.int .i64 0,.bool false]) ?_
    rw[hr.out]
    exact⟨rfl,rfl⟩
   | cons km2 mb2 n2 ko2 v2 f2 g2 bs2 _ _ _ _ =>
    have hc:=ih km2 ko2 rfl
    clear ih;go_enter Tryz.func84,Tryz.ntmps84
    go_wp2_with fail;refine hc.mono ?_
    rintro e w2 ⟨rfl,hq⟩
    rw[hq]
    go_wp2_with fail;refine bq (.tuple #[.int .i64 ((orN f2 g2 s).getD 0),.bool (orN f2 g2 s).isSome]) ?_
    rw[hr.out]
    exact⟨rfl,rfl⟩
theorem jkg {w:World} {km mb n:Nat} {f:Nm} (h1:Blk w km #[.map (some mb)] 91) (h2:QM w mb n f) (hn:n<maxLen) (s:ByteArray) (hs:s.size<=maxLen) (i:Int) :
  Calls Tryz.prog 83 #[.string s,.int .i64 i,.pointer (some ⟨km,0,none⟩)] w λe w'=>e=.returned (.tuple #[])/\QM w' mb (n+1) (j39 f s i)/\w.mapTurned w' mb:=by
 have x0:w.cell? ⟨km,0,none⟩=some (.map (some mb)):=(h1.cell 0).trans rfl
 obtain⟨w',hrun,h3,h4⟩:=h2.put hn s hs i
 have H3:Hid (QM w' mb (n+1) (j39 f s i)):=h3
 have H4:Hid (w.mapTurned w' mb):=h4
 clear h1 h2 h3 h4;go_enter Tryz.func83,Tryz.ntmps83
 go_wp2_with fail;refine bodyPost_end (v:=.tuple #[]) (by simp[results,Tryz.results83]) rfl ?_
 exact⟨rfl,H3.out,H4.out⟩
theorem j6i (w:World):(Instr.makeMap 91 none).run Tryz.prog w=.ok (.map (some w.heap.size)) (w.alloc (.map #[] 0)):=by kernel_rfl
theorem QM.made (w:World):QM (w.alloc (.map #[] 0)) w.heap.size 0 (λ_=>none):=⟨_,World.ownsMap_made w Tryz.prog 9 j2r,IM.empty⟩
end
section
open Go.RowKit
section
variable {G:Gd} {w w':World} {top:Int} {env:Env} {md:Md} {last:Int} {K:KM} {sn sk sw:Option Addr} {cn ck cw:Nat}
theorem jir (hG:G.Ok) {tp f:Nat} (hE:ExpS G top tp env md last f) (htp:top=(tp:Int)) (hle:tp<=G.T.tops.length) (hw:md.wth.length<=1048576) (henv:env.length<=1048576) {i:Nat} {n:Nd} (hv:VN G.T i n) (hi:i<f+1) (hk:n.kind=8) (h:Lv G w top env md last K sn cn sk ck sw cw) :
  Calls Tryz.prog 120 #[.pointer (some ⟨G.p,0,none⟩),.int .i64 (i:Int)] w λe w'=>j0z G w top env md last sn cn sk ck sw cw (ckB (Dg G) G.T (G.T.tops.take tp) md env f K (i:Int)) e w':=by
 have hl2:Hid (n.kids.length=2):=by have:=hv.len;rw[hk] at this;simpa[Hid,shp] using this.symm
 have hcl:Hid (∀j,j<n.kids.length->(shp n.kind n.kids.length)[j]?=some 1):=λj hj=>by
  have h2:=hl2.out
  rw[hk]
  have:j=0\/j=1:=by omega
  rcases this with rfl|rfl<;>simp[shp]
 have HB:Hid (ckB (Dg G) G.T (G.T.tops.take tp) md env f K (i:Int)=if n.kind=5/\md.each=false then .error (5,(i:Int)) else match ckL (ckE (Dg G) G.T (G.T.tops.take tp) md env f) n.kids K with | .error e=> .error e | .ok (ks,K1)=>match rowE (Dg G) G.T (G.T.tops.take tp) md env n ks with | .error c=> .error (c,(i:Int)) | .ok k=> .ok (k,K1)):=by
  show _=_
  unfold ckB
  rw[j0j hv.at_,if_neg (by omega)]
  all_goals rfl
 obtain⟨nb,no,s9,c9,en1,hnb,e0,e1,e2,e3,ekids⟩:=hG.node hv.at_
 have hiN:i<G.T.nodes.length:=(List.getElem?_eq_some_iff.1 hv.at_).1
 have hnl:G.T.nodes.length<=1048576:=hG.k.1.1
 have hkl:n.kids.length<=1048576:=(hG.k.1.2 n (List.mem_of_getElem? hv.at_)).2
 have x3:w.cell? ⟨G.p,3,none⟩=some (.slice (some ⟨nb,no,none⟩) G.T.nodes.length G.d1):=by rw[<-en1];exact(h.bx.cell 3).trans rfl
 have q0:=(h.bl.cell (p:=⟨nb,no+i*4,none⟩) hnb).trans e0
 have q1:=(h.bl.cell (p:=⟨nb,no+i*4+1,none⟩) hnb).trans e1
 have q2:=(h.bl.cell (p:=⟨nb,no+i*4+2,none⟩) hnb).trans e2
 have q3:=(h.bl.cell (p:=⟨nb,no+i*4+3,none⟩) hnb).trans e3
 have iI:(i:Int)<(G.T.nodes.length:Int):=by omega
 have bz:Hid (Below w.heap.size w (w.alloc (.cells #[.int .i64 n.kind,.string n.text,.int .i64 n.num,.slice s9 n.kids.length c9] 73))):=j00 (Below.refl _ _) _
 have kk5:=Blk.new w #[.int .i64 n.kind,.string n.text,.int .i64 n.num,.slice s9 n.kids.length c9] 73
 have H1:Hid (Lv G (w.alloc (.cells #[.int .i64 n.kind,.string n.text,.int .i64 n.num,.slice s9 n.kids.length c9] 73)) top env md last K sn cn sk ck sw cw):=h.later bz.out
 have hp0:G.p<w.heap.size:=h.bx.lt
 have hk0:G.kb<w.heap.size:=h.kl
 have OL:Hid (Old3 G w.heap.size env md sn sk sw):=h.old
 have HV:Hid (VN G.T i n):=hv
 have HK:Hid (Els 1 cInt G.w0 G.B0 s9 n.kids):=ekids
 have HEx:Hid (ExpS G top tp env md last f):=hE
 have y8:(w.alloc (.cells #[.int .i64 n.kind,.string n.text,.int .i64 n.num,.slice s9 n.kids.length c9] 73)).cell? ⟨G.p,8,none⟩=some (.bool md.each):=(H1.out.bx.cell 8).trans rfl
 have hw0s:G.w0.heap.size<=w.heap.size:=h.bl.size
 clear h e0 e1 e2 e3 ekids hE;have t11:(n.kind ==11)=false:=by simp;omega
 obtain⟨z0,z1,z2,z3,z4⟩:=Blk.four' kk5
 by_cases hc5:n.kind=5/\md.each=false
 ·
  have hEr:Hid (ckB (Dg G) G.T (G.T.tops.take tp) md env f K (i:Int)=.error (5,(i:Int))):=by rw[HB.out,if_pos hc5];rfl
  have t5:(n.kind ==5)=true:=by simp[hc5.1]
  rw[hc5.2] at y8
  clear hc5 hv hk;go_enter Tryz.func120,Tryz.ntmps120
  go_wp2_with fail;refine(j0f hG H1.out 5 (i:Int) (by omega)).mono ?_
  rintro e w3 ⟨rfl,hd,ht⟩
  go_wp2_with fail;go_ret;exact j0z.bad hEr.out hd ((Tw.of bz.out).trans ht)
 have HB2:Hid (ckB (Dg G) G.T (G.T.tops.take tp) md env f K (i:Int)=match ckL (ckE (Dg G) G.T (G.T.tops.take tp) md env f) n.kids K with | .error e=> .error e | .ok (ks,K1)=>match rowE (Dg G) G.T (G.T.tops.take tp) md env n ks with | .error c=> .error (c,(i:Int)) | .ok k=> .ok (k,K1)):=by rw[HB.out,if_neg hc5];rfl
 have bz2:Hid (Below w.heap.size w ((w.alloc (.cells #[.int .i64 n.kind,.string n.text,.int .i64 n.num,.slice s9 n.kids.length c9] 73)).alloc (.cells #[] 3))):=j00 bz.out _
 have H2:Hid (Lv G ((w.alloc (.cells #[.int .i64 n.kind,.string n.text,.int .i64 n.num,.slice s9 n.kids.length c9] 73)).alloc (.cells #[] 3)) top env md last K sn cn sk ck sw cw):=H1.out.later (j00 (Below.refl _ _) _)
 have K52:Hid (Blk ((w.alloc (.cells #[.int .i64 n.kind,.string n.text,.int .i64 n.num,.slice s9 n.kids.length c9] 73)).alloc (.cells #[] 3)) w.heap.size #[.int .i64 n.kind,.string n.text,.int .i64 n.num,.slice s9 n.kids.length c9] 73):=kk5.alloc _
 have O2:Hid (OI ((w.alloc (.cells #[.int .i64 n.kind,.string n.text,.int .i64 n.num,.slice s9 n.kids.length c9] 73)).alloc (.cells #[] 3)) (w.heap.size+1) (.slice (some ⟨w.heap.size+1,0,none⟩) 0 0) []):=by
  have:=OI.empty (Blk.new (w.alloc (.cells #[.int .i64 n.kind,.string n.text,.int .i64 n.num,.slice s9 n.kids.length c9] 73)) #[] 3)
  have e:(w.alloc (.cells #[.int .i64 n.kind,.string n.text,.int .i64 n.num,.slice s9 n.kids.length c9] 73)).heap.size=w.heap.size+1:=by simp
  rw[e] at this
  exact this
 have T2:Hid (Tw G.p G.kb w ((w.alloc (.cells #[.int .i64 n.kind,.string n.text,.int .i64 n.num,.slice s9 n.kids.length c9] 73)).alloc (.cells #[] 3))):=Tw.of bz2.out
 have h5e:((n.kind ==5)&&!md.each)=false:=by
  cases h5:(n.kind ==5)
  ·
   rfl
  cases h6:md.each
  ·
   exact absurd ⟨by simpa using h5,h6⟩ hc5
  rfl
 have HK8:Hid (n.kind=8):=hk
 have h5:(n.kind ==5)=false:=by simp[hk]
 clear hv hk;go_enter Tryz.func120,Tryz.ntmps120
 all_goals
  go_wp2_with fail;clear z0 z1 z2 z3 z4 x3 y8 q0 q1 q2 q3 kk5 bz bz2 H1 h5 h5e hc5 t11;go_loopw [6,7] (λlv jv wr=>∃(j:Nat) (so:Option Addr) (co:Nat) (ks:List Int) (Kj:KM),j<=n.kids.length/\jv=.int .i64 j/\lv=.slice so ks.length co/\Hid (ks.length=j)/\Hid (ckL (ckE (Dg G) G.T (G.T.tops.take tp) md env f) n.kids K=match ckL (ckE (Dg G) G.T (G.T.tops.take tp) md env f) (n.kids.drop j) Kj with | .error e=> .error e | .ok (r,K1)=> .ok (ks++r,K1))/\Hid (OI wr (w.heap.size+1) (.slice so ks.length co) ks)/\Hid (Lv G wr top env md last Kj sn cn sk ck sw cw)/\Hid (Blk wr w.heap.size #[.int .i64 n.kind,.string n.text,.int .i64 n.num,.slice s9 n.kids.length c9] 73)/\Hid (Tw G.p G.kb w wr)) (λ_ jv _=>n.kids.length-(intOf jv).toNat)
  case atStart =>
   refine⟨0,_,_,[],K,Nat.zero_le _,rfl,rfl,rfl,?_,O2,H2,K52,T2⟩
   show _=_
   rw[List.drop_zero]
   cases ckL (ckE (Dg G) G.T (G.T.tops.take tp) md env f) n.kids K with
   | error e=>rfl
   | ok q=>obtain⟨a,b⟩:=q;rfl
  clear O2 H2 K52 T2;obtain⟨j,so,co,ks,Kj,hj,rfl,rfl,hks,hL,O4,H4,K54,T4⟩:=hrel
  obtain⟨z0,z1,z2,z3',z4⟩:=Blk.four' K54.out
  have hsz:w.heap.size<wr.heap.size:=K54.out.lt
  by_cases hlt:j<n.kids.length
  ·
   obtain⟨xi,hxi⟩:∃x,n.kids[j]?=some x:=⟨n.kids[j],by simp[hlt]⟩
   obtain⟨x,xn,rfl,hxlt,hvx⟩:=HV.out.kid (List.mem_of_getElem? hxi)
   obtain⟨fb,fo,hs9,_,hfb,p00⟩:=j05 HK.out hxi
   have hxe:isE xn.kind:=by
    have:=HV.out.cls hxi (c:=1) (hcl.out j hlt)
    rw[j0j hvx.at_] at this
    exact j1q this
   have z3:=z3'
   rw[hs9] at z3
   clear z3' hs9;have v0:=(H4.out.bl.cell (p:=⟨fb,fo+j,none⟩) hfb).trans p00
   have hd:Hid (n.kids.drop j=(x:Int) :: n.kids.drop (j+1)):=by
    show _=_
    rw[List.drop_eq_getElem_cons hlt]
    congr 1
    exact(List.getElem?_eq_some_iff.1 hxi).2
   have HVx:Hid (VN G.T x xn):=hvx
   have jI:(j:Int)<(n.kids.length:Int):=by omega
   have t2:decide ((j:Int)<(n.kids.length:Int))=true:=by simp;omega
   have hksl:ks.length<=1048576:=by have:=hks.out;omega
   clear hxi p00 hvx;go_wp2_with fail;refine(HEx.out x xn Kj _ sn cn sk ck sw cw (by omega) HVx.out hxe H4.out).mono ?_
   rintro e w5 hS5
   have T5:Hid (Tw G.p G.kb wr w5):=hS5.2
   have O5:Hid (OI w5 (w.heap.size+1) (.slice so ks.length co) ks):=O4.out.tw T5.out (by omega) (by omega)
   have K55:Hid (Blk w5 w.heap.size #[.int .i64 n.kind,.string n.text,.int .i64 n.num,.slice s9 n.kids.length c9] 73):=K54.out.tw T5.out (by omega) (by omega)
   have T6:Hid (Tw G.p G.kb w w5):=T4.out.trans T5.out
   have s5:w.heap.size+1<=w5.heap.size:=by have:=T5.out.size;omega
   cases hr:ckE (Dg G) G.T (G.T.tops.take tp) md env f Kj (x:Int) with
   | error q =>
    obtain⟨c,nq⟩:=q
    rw[hr] at hS5
    obtain⟨⟨rfl,hdd⟩,_⟩:=hS5
    have hEr:Hid (ckB (Dg G) G.T (G.T.tops.take tp) md env f K (i:Int)=.error (c,nq)):=by rw[HB2.out,hL.out,hd.out];simp[Hid,ckL,hr]
    have O6:Hid (OI (w5.alloc (.cells #[.int .i64 0] 3)) (w.heap.size+1) (.slice so ks.length co) ks):=O5.out.later (j00 (Below.refl _ _) _)
    have E6:Hid (Els 1 cInt (w5.alloc (.cells #[.int .i64 0] 3)) w5.heap.size (some ⟨w5.heap.size,0,none⟩) [0]):=Els.one (Blk.new w5 #[.int .i64 0] 3)
    have HD:Hid (Dd G (w5.alloc (.cells #[.int .i64 0] 3)) c nq):=hdd.later (j00 (Below.refl _ _) _)
    have T7:Hid (Tw G.p G.kb w (w5.alloc (.cells #[.int .i64 0] 3))):=T6.out.trans (Tw.of (j00 (Below.refl _ _) _))
    have s6:w.heap.size+1<=(w5.alloc (.cells #[.int .i64 0] 3)).heap.size:=by simp;omega
    have tc:(c != 0)=true:=by simp[hdd.ne]
    clear hdd;go_wp2_with (at_builtin;refine j0c rfl _ _ rfl (w.heap.size+1) so co ks rfl O6.out w5.heap.size _ 1 [0] rfl E6.out (ks++[0]) rfl (by simp;omega) s6 ?_)
    intro s' c' w7 hO7 hg7 hn7
    have hown:∀g,(Value.slice so ks.length co).ownBlock=some g->w.heap.size+1<=g:=λg hg=>(O6.out.lt g hg).1
    have HD7:Hid (Dd G w7 c nq):=HD.out.grown hg7 hown (by omega) (by omega)
    have T8:Hid (Tw G.p G.kb w w7):=T7.out.grown hg7 (λg hg=>by have:=hown g hg;omega)
    have y13:=HD7.out.c13
    go_wp2_with fail;go_ret;exact j0z.bad hEr.out HD7.out T8.out
   | ok q =>
    obtain⟨k,K1⟩:=q
    rw[hr] at hS5
    obtain⟨⟨rfl,hl⟩,_⟩:=hS5
    have hL2:Hid (ckL (ckE (Dg G) G.T (G.T.tops.take tp) md env f) n.kids K=match ckL (ckE (Dg G) G.T (G.T.tops.take tp) md env f) (n.kids.drop (j+1)) K1 with | .error e=> .error e | .ok (r,K1)=> .ok ((ks++[k])++r,K1)):=by
     show _=_
     rw[hL.out,hd.out]
     simp only[ckL,hr]
     cases ckL (ckE (Dg G) G.T (G.T.tops.take tp) md env f) (n.kids.drop (j+1)) K1 with
     | error e=>rfl
     | ok q=>obtain⟨a,b⟩:=q;simp
    have hks2:Hid ((ks++[k]).length=j+1):=by show _=_;simp[hks.out]
    obtain⟨R2,eR2⟩:∃R2,Hid (ks++[k]=R2):=⟨_,rfl⟩
    rw[eR2.out] at hL2 hks2
    have O6:Hid (OI (w5.alloc (.cells #[.int .i64 k] 3)) (w.heap.size+1) (.slice so ks.length co) ks):=O5.out.later (j00 (Below.refl _ _) _)
    have E6:Hid (Els 1 cInt (w5.alloc (.cells #[.int .i64 k] 3)) w5.heap.size (some ⟨w5.heap.size,0,none⟩) [k]):=Els.one (Blk.new w5 #[.int .i64 k] 3)
    have H6:Hid (Lv G (w5.alloc (.cells #[.int .i64 k] 3)) top env md last K1 sn cn sk ck sw cw):=hl.later (j00 (Below.refl _ _) _)
    have K56:Hid (Blk (w5.alloc (.cells #[.int .i64 k] 3)) w.heap.size #[.int .i64 n.kind,.string n.text,.int .i64 n.num,.slice s9 n.kids.length c9] 73):=K55.out.alloc _
    have T7:Hid (Tw G.p G.kb w (w5.alloc (.cells #[.int .i64 k] 3))):=T6.out.trans (Tw.of (j00 (Below.refl _ _) _))
    have s6:w.heap.size+1<=(w5.alloc (.cells #[.int .i64 k] 3)).heap.size:=by simp;omega
    clear hl;go_wp2_with (at_builtin;refine j0c rfl _ _ rfl (w.heap.size+1) so co ks rfl O6.out w5.heap.size _ 1 [k] rfl E6.out R2 eR2.out (by simp;omega) s6 ?_)
    intro s' c' w7 hO7 hg7 hn7
    have hown:∀g,(Value.slice so ks.length co).ownBlock=some g->w.heap.size+1<=g:=λg hg=>(O6.out.lt g hg).1
    have H7:Hid (Lv G w7 top env md last K1 sn cn sk ck sw cw):=H6.out.grown OL.out hg7 (λg hg=>by have:=hown g hg;omega) hp0 hk0 hw0s
    have T8:Hid (Tw G.p G.kb w w7):=T7.out.grown hg7 (λg hg=>by have:=hown g hg;omega)
    have K57:Hid (Blk w7 w.heap.size #[.int .i64 n.kind,.string n.text,.int .i64 n.num,.slice s9 n.kids.length c9] 73):=by
     show Blk _ _ _ _
     unfold Blk
     rw[hg7.block w.heap.size K56.out.lt (λe=>by have:=hown _ e.symm;omega)]
     exact K56.out
    have HO7:Hid (OI w7 (w.heap.size+1) (.slice s' R2.length c') R2):=hO7
    have y13:w7.cell? ⟨G.p,13,none⟩=some (.int .i64 0):=(H7.out.bx.cell 13).trans rfl
    clear hO7 hg7 hn7 hown O6 E6 H6 K56 T7;go_wp2_with fail;go_roundw
    case rel=>exact⟨j+1,s',c',R2,K1,by omega,by go_num,rfl,hks2,hL2,HO7,H7,K57,T8⟩
    case measure=>simp[intOf];omega
  have hjj:j=n.kids.length:=by omega
  subst hjj
  have t2:decide ((n.kids.length:Int)<(n.kids.length:Int))=false:=by simp
  have hfin:Hid (ckB (Dg G) G.T (G.T.tops.take tp) md env f K (i:Int)=match rowE (Dg G) G.T (G.T.tops.take tp) md env n ks with | .error c=> .error (c,(i:Int)) | .ok k=> .ok (k,Kj)):=by
   show _=_
   rw[HB2.out,hL.out,List.drop_length]
   simp only[ckL,List.append_nil]
  have hp1:¬G.p=w.heap.size/\G.p<w.heap.size+1:=⟨by omega,by omega⟩
  have hk1:¬G.kb=w.heap.size/\G.kb<w.heap.size+1:=⟨by omega,by omega⟩
  clear hL HB2 HB hj hlt;have hk7:=HK8.out
  have tk1:(n.kind ==1)=false:=by simp[hk7]
  have tk2:(n.kind ==2)=false:=by simp[hk7]
  have tk3:(n.kind ==3)=false:=by simp[hk7]
  have tk4:(n.kind ==4)=false:=by simp[hk7]
  have tk5:(n.kind ==5)=false:=by simp[hk7]
  have tk6:(n.kind ==6)=false:=by simp[hk7]
  have tk7:(n.kind ==7)=false:=by simp[hk7]
  have tk8:(n.kind ==8)=true:=by simp[hk7]
  have hks2:ks.length=2:=by rw[hks.out];exact hl2.out
  obtain⟨a,b,rfl⟩:∃a b,ks=[a,b]:=by
   match ks,hks2 with
   | [a,b],_=>exact⟨a,b,rfl⟩
  have hro:Hid (rowE (Dg G) G.T (G.T.tops.take tp) md env n [a,b]=kdOr (opK n.num a b)):=by simp[Hid,rowE,hk7]
  obtain⟨lb,lo,hso,_,hlb,l0⟩:=j05 O4.out.els (j:=0) (a:=a) rfl
  obtain⟨lb2,lo2,hso2,_,_,l1⟩:=j05 O4.out.els (j:=1) (a:=b) rfl
  rw[hso] at hso2
  cases hso2
  subst hso
  rw[Nat.add_zero] at l0
  clear hks2 hks hk7;have ho:=jcs n.num a b
  by_cases ha2:a=2
  ·
   have ta2:(a ==2)=true:=by simpa using ha2
   have hsa:smp a=0:=by simp[smp,ha2]
   clear ha2;by_cases hb2:b=2
   ·
    have tb2:(b ==2)=true:=by simpa using hb2
    have hsb:smp b=0:=by simp[smp,hb2]
    clear hb2;rw[show smp a=0 from hsa,show smp b=0 from hsb] at ho
    obtain⟨O,hO⟩:∃O,Hid (j1v n.num a 0 0 0 b 0 0 0=O):=⟨_,rfl⟩
    rw[hO.out] at ho
    clear hsa hsb;go_wp2_with fail;refine(j2g n.num a 0 0 0 b 0 0 0 _ (by decide) (by decide) (by decide) (by decide) (by omega)).mono ?_
    rintro e w5 ⟨ek,ei,ex,ey,rfl,hV,hb5⟩
    rw[hO.out] at hV ⊢
    have b5:Below wr.heap.size wr w5:=j01 blq hb5
    have H5:Hid (Lv G w5 top env md last Kj sn cn sk ck sw cw):=H4.out.later b5
    have T5:Hid (Tw G.p G.kb w w5):=T4.out.trans (Tw.of b5)
    have hek:ek=O.1.1:=hV.1
    obtain⟨oc,hoc⟩:∃c,O.2=c:=⟨_,rfl⟩
    rw[hoc] at ho ⊢
    rw[<-hek] at ho
    clear hV hb5 b5 hO hek hoc l0 l1;have H6:Hid (Lv G (w5.alloc (.cells #[.int .i64 ek,.int .i64 ei,.float .f64 ex,.float .f64 ey] 200)) top env md last Kj sn cn sk ck sw cw):=H5.out.later (j00 (Below.refl _ _) _)
    have T6:Hid (Tw G.p G.kb w (w5.alloc (.cells #[.int .i64 ek,.int .i64 ei,.float .f64 ex,.float .f64 ey] 200))):=T5.out.trans (Tw.of (j00 (Below.refl _ _) _))
    have kv:=Blk.new w5 #[.int .i64 ek,.int .i64 ei,.float .f64 ex,.float .f64 ey] 200
    obtain⟨v0,v1,v2,v3,v4⟩:=Blk.four' kv
    rcases ho with ⟨rfl,he1,he2⟩|⟨he1,he2⟩
    ·
     have hEr:Hid (ckB (Dg G) G.T (G.T.tops.take tp) md env f K (i:Int)=.ok (ek,Kj)):=by rw[hfin.out,hro.out];show _=_;unfold kdOr;rw[if_neg he2,<-he1]
     clear he1 he2;go_wp2_with fail;go_ret;exact j0z.good hEr.out H6.out T6.out
    have toc:(oc != 0)=true:=by simp[he1]
    have hEr:Hid (ckB (Dg G) G.T (G.T.tops.take tp) md env f K (i:Int)=.error (4,(i:Int))):=by rw[hfin.out,hro.out,he2];rfl
    clear he1 he2;go_wp2_with fail;refine(j0f hG H6.out 4 (i:Int) (by omega)).mono ?_
    rintro e w6 ⟨rfl,hd,ht⟩
    go_wp2_with fail;go_ret;exact j0z.bad hEr.out hd (T6.out.trans ht)
   have tb2:(b ==2)=false:=by simpa using hb2
   by_cases hb3:b=3
   ·
    have tb3:(b ==3)=true:=by simpa using hb3
    have hsb:smp b=0:=by simp[smp,hb3]
    clear hb2 hb3;rw[show smp a=0 from hsa,show smp b=0 from hsb] at ho
    obtain⟨O,hO⟩:∃O,Hid (j1v n.num a 0 0 0 b 0 0 0=O):=⟨_,rfl⟩
    rw[hO.out] at ho
    clear hsa hsb;go_wp2_with fail;refine(j2g n.num a 0 0 0 b 0 0 0 _ (by decide) (by decide) (by decide) (by decide) (by omega)).mono ?_
    rintro e w5 ⟨ek,ei,ex,ey,rfl,hV,hb5⟩
    rw[hO.out] at hV ⊢
    have b5:Below wr.heap.size wr w5:=j01 blq hb5
    have H5:Hid (Lv G w5 top env md last Kj sn cn sk ck sw cw):=H4.out.later b5
    have T5:Hid (Tw G.p G.kb w w5):=T4.out.trans (Tw.of b5)
    have hek:ek=O.1.1:=hV.1
    obtain⟨oc,hoc⟩:∃c,O.2=c:=⟨_,rfl⟩
    rw[hoc] at ho ⊢
    rw[<-hek] at ho
    clear hV hb5 b5 hO hek hoc l0 l1;have H6:Hid (Lv G (w5.alloc (.cells #[.int .i64 ek,.int .i64 ei,.float .f64 ex,.float .f64 ey] 200)) top env md last Kj sn cn sk ck sw cw):=H5.out.later (j00 (Below.refl _ _) _)
    have T6:Hid (Tw G.p G.kb w (w5.alloc (.cells #[.int .i64 ek,.int .i64 ei,.float .f64 ex,.float .f64 ey] 200))):=T5.out.trans (Tw.of (j00 (Below.refl _ _) _))
    have kv:=Blk.new w5 #[.int .i64 ek,.int .i64 ei,.float .f64 ex,.float .f64 ey] 200
    obtain⟨v0,v1,v2,v3,v4⟩:=Blk.four' kv
    rcases ho with ⟨rfl,he1,he2⟩|⟨he1,he2⟩
    ·
     have hEr:Hid (ckB (Dg G) G.T (G.T.tops.take tp) md env f K (i:Int)=.ok (ek,Kj)):=by rw[hfin.out,hro.out];show _=_;unfold kdOr;rw[if_neg he2,<-he1]
     clear he1 he2;go_wp2_with fail;go_ret;exact j0z.good hEr.out H6.out T6.out
    have toc:(oc != 0)=true:=by simp[he1]
    have hEr:Hid (ckB (Dg G) G.T (G.T.tops.take tp) md env f K (i:Int)=.error (4,(i:Int))):=by rw[hfin.out,hro.out,he2];rfl
    clear he1 he2;go_wp2_with fail;refine(j0f hG H6.out 4 (i:Int) (by omega)).mono ?_
    rintro e w6 ⟨rfl,hd,ht⟩
    go_wp2_with fail;go_ret;exact j0z.bad hEr.out hd (T6.out.trans ht)
   have tb3:(b ==3)=false:=by simpa using hb3
   have hsb:smp b=1:=by simp[smp,hb2,hb3]
   clear hb2 hb3;rw[show smp a=0 from hsa,show smp b=1 from hsb] at ho
   obtain⟨O,hO⟩:∃O,Hid (j1v n.num a 0 0 0 b 1 0 0=O):=⟨_,rfl⟩
   rw[hO.out] at ho
   clear hsa hsb;go_wp2_with fail;refine(j2g n.num a 0 0 0 b 1 0 0 _ (by decide) (by decide) (by decide) (by decide) (by omega)).mono ?_
   rintro e w5 ⟨ek,ei,ex,ey,rfl,hV,hb5⟩
   rw[hO.out] at hV ⊢
   have b5:Below wr.heap.size wr w5:=j01 blq hb5
   have H5:Hid (Lv G w5 top env md last Kj sn cn sk ck sw cw):=H4.out.later b5
   have T5:Hid (Tw G.p G.kb w w5):=T4.out.trans (Tw.of b5)
   have hek:ek=O.1.1:=hV.1
   obtain⟨oc,hoc⟩:∃c,O.2=c:=⟨_,rfl⟩
   rw[hoc] at ho ⊢
   rw[<-hek] at ho
   clear hV hb5 b5 hO hek hoc l0 l1;have H6:Hid (Lv G (w5.alloc (.cells #[.int .i64 ek,.int .i64 ei,.float .f64 ex,.float .f64 ey] 200)) top env md last Kj sn cn sk ck sw cw):=H5.out.later (j00 (Below.refl _ _) _)
   have T6:Hid (Tw G.p G.kb w (w5.alloc (.cells #[.int .i64 ek,.int .i64 ei,.float .f64 ex,.float .f64 ey] 200))):=T5.out.trans (Tw.of (j00 (Below.refl _ _) _))
   have kv:=Blk.new w5 #[.int .i64 ek,.int .i64 ei,.float .f64 ex,.float .f64 ey] 200
   obtain⟨v0,v1,v2,v3,v4⟩:=Blk.four' kv
   rcases ho with ⟨rfl,he1,he2⟩|⟨he1,he2⟩
   ·
    have hEr:Hid (ckB (Dg G) G.T (G.T.tops.take tp) md env f K (i:Int)=.ok (ek,Kj)):=by rw[hfin.out,hro.out];show _=_;unfold kdOr;rw[if_neg he2,<-he1]
    clear he1 he2;go_wp2_with fail;go_ret;exact j0z.good hEr.out H6.out T6.out
   have toc:(oc != 0)=true:=by simp[he1]
   have hEr:Hid (ckB (Dg G) G.T (G.T.tops.take tp) md env f K (i:Int)=.error (4,(i:Int))):=by rw[hfin.out,hro.out,he2];rfl
   clear he1 he2;go_wp2_with fail;refine(j0f hG H6.out 4 (i:Int) (by omega)).mono ?_
   rintro e w6 ⟨rfl,hd,ht⟩
   go_wp2_with fail;go_ret;exact j0z.bad hEr.out hd (T6.out.trans ht)
  have ta2:(a ==2)=false:=by simpa using ha2
  by_cases ha3:a=3
  ·
   have ta3:(a ==3)=true:=by simpa using ha3
   have hsa:smp a=0:=by simp[smp,ha3]
   clear ha2 ha3;by_cases hb2:b=2
   ·
    have tb2:(b ==2)=true:=by simpa using hb2
    have hsb:smp b=0:=by simp[smp,hb2]
    clear hb2;rw[show smp a=0 from hsa,show smp b=0 from hsb] at ho
    obtain⟨O,hO⟩:∃O,Hid (j1v n.num a 0 0 0 b 0 0 0=O):=⟨_,rfl⟩
    rw[hO.out] at ho
    clear hsa hsb;go_wp2_with fail;refine(j2g n.num a 0 0 0 b 0 0 0 _ (by decide) (by decide) (by decide) (by decide) (by omega)).mono ?_
    rintro e w5 ⟨ek,ei,ex,ey,rfl,hV,hb5⟩
    rw[hO.out] at hV ⊢
    have b5:Below wr.heap.size wr w5:=j01 blq hb5
    have H5:Hid (Lv G w5 top env md last Kj sn cn sk ck sw cw):=H4.out.later b5
    have T5:Hid (Tw G.p G.kb w w5):=T4.out.trans (Tw.of b5)
    have hek:ek=O.1.1:=hV.1
    obtain⟨oc,hoc⟩:∃c,O.2=c:=⟨_,rfl⟩
    rw[hoc] at ho ⊢
    rw[<-hek] at ho
    clear hV hb5 b5 hO hek hoc l0 l1;have H6:Hid (Lv G (w5.alloc (.cells #[.int .i64 ek,.int .i64 ei,.float .f64 ex,.float .f64 ey] 200)) top env md last Kj sn cn sk ck sw cw):=H5.out.later (j00 (Below.refl _ _) _)
    have T6:Hid (Tw G.p G.kb w (w5.alloc (.cells #[.int .i64 ek,.int .i64 ei,.float .f64 ex,.float .f64 ey] 200))):=T5.out.trans (Tw.of (j00 (Below.refl _ _) _))
    have kv:=Blk.new w5 #[.int .i64 ek,.int .i64 ei,.float .f64 ex,.float .f64 ey] 200
    obtain⟨v0,v1,v2,v3,v4⟩:=Blk.four' kv
    rcases ho with ⟨rfl,he1,he2⟩|⟨he1,he2⟩
    ·
     have hEr:Hid (ckB (Dg G) G.T (G.T.tops.take tp) md env f K (i:Int)=.ok (ek,Kj)):=by rw[hfin.out,hro.out];show _=_;unfold kdOr;rw[if_neg he2,<-he1]
     clear he1 he2;go_wp2_with fail;go_ret;exact j0z.good hEr.out H6.out T6.out
    have toc:(oc != 0)=true:=by simp[he1]
    have hEr:Hid (ckB (Dg G) G.T (G.T.tops.take tp) md env f K (i:Int)=.error (4,(i:Int))):=by rw[hfin.out,hro.out,he2];rfl
    clear he1 he2;go_wp2_with fail;refine(j0f hG H6.out 4 (i:Int) (by omega)).mono ?_
    rintro e w6 ⟨rfl,hd,ht⟩
    go_wp2_with fail;go_ret;exact j0z.bad hEr.out hd (T6.out.trans ht)
   have tb2:(b ==2)=false:=by simpa using hb2
   by_cases hb3:b=3
   ·
    have tb3:(b ==3)=true:=by simpa using hb3
    have hsb:smp b=0:=by simp[smp,hb3]
    clear hb2 hb3;rw[show smp a=0 from hsa,show smp b=0 from hsb] at ho
    obtain⟨O,hO⟩:∃O,Hid (j1v n.num a 0 0 0 b 0 0 0=O):=⟨_,rfl⟩
    rw[hO.out] at ho
    clear hsa hsb;go_wp2_with fail;refine(j2g n.num a 0 0 0 b 0 0 0 _ (by decide) (by decide) (by decide) (by decide) (by omega)).mono ?_
    rintro e w5 ⟨ek,ei,ex,ey,rfl,hV,hb5⟩
    rw[hO.out] at hV ⊢
    have b5:Below wr.heap.size wr w5:=j01 blq hb5
    have H5:Hid (Lv G w5 top env md last Kj sn cn sk ck sw cw):=H4.out.later b5
    have T5:Hid (Tw G.p G.kb w w5):=T4.out.trans (Tw.of b5)
    have hek:ek=O.1.1:=hV.1
    obtain⟨oc,hoc⟩:∃c,O.2=c:=⟨_,rfl⟩
    rw[hoc] at ho ⊢
    rw[<-hek] at ho
    clear hV hb5 b5 hO hek hoc l0 l1;have H6:Hid (Lv G (w5.alloc (.cells #[.int .i64 ek,.int .i64 ei,.float .f64 ex,.float .f64 ey] 200)) top env md last Kj sn cn sk ck sw cw):=H5.out.later (j00 (Below.refl _ _) _)
    have T6:Hid (Tw G.p G.kb w (w5.alloc (.cells #[.int .i64 ek,.int .i64 ei,.float .f64 ex,.float .f64 ey] 200))):=T5.out.trans (Tw.of (j00 (Below.refl _ _) _))
    have kv:=Blk.new w5 #[.int .i64 ek,.int .i64 ei,.float .f64 ex,.float .f64 ey] 200
    obtain⟨v0,v1,v2,v3,v4⟩:=Blk.four' kv
    rcases ho with ⟨rfl,he1,he2⟩|⟨he1,he2⟩
    ·
     have hEr:Hid (ckB (Dg G) G.T (G.T.tops.take tp) md env f K (i:Int)=.ok (ek,Kj)):=by rw[hfin.out,hro.out];show _=_;unfold kdOr;rw[if_neg he2,<-he1]
     clear he1 he2;go_wp2_with fail;go_ret;exact j0z.good hEr.out H6.out T6.out
    have toc:(oc != 0)=true:=by simp[he1]
    have hEr:Hid (ckB (Dg G) G.T (G.T.tops.take tp) md env f K (i:Int)=.error (4,(i:Int))):=by rw[hfin.out,hro.out,he2];rfl
    clear he1 he2;go_wp2_with fail;refine(j0f hG H6.out 4 (i:Int) (by omega)).mono ?_
    rintro e w6 ⟨rfl,hd,ht⟩
    go_wp2_with fail;go_ret;exact j0z.bad hEr.out hd (T6.out.trans ht)
   have tb3:(b ==3)=false:=by simpa using hb3
   have hsb:smp b=1:=by simp[smp,hb2,hb3]
   clear hb2 hb3;rw[show smp a=0 from hsa,show smp b=1 from hsb] at ho
   obtain⟨O,hO⟩:∃O,Hid (j1v n.num a 0 0 0 b 1 0 0=O):=⟨_,rfl⟩
   rw[hO.out] at ho
   clear hsa hsb;go_wp2_with fail;refine(j2g n.num a 0 0 0 b 1 0 0 _ (by decide) (by decide) (by decide) (by decide) (by omega)).mono ?_
   rintro e w5 ⟨ek,ei,ex,ey,rfl,hV,hb5⟩
   rw[hO.out] at hV ⊢
   have b5:Below wr.heap.size wr w5:=j01 blq hb5
   have H5:Hid (Lv G w5 top env md last Kj sn cn sk ck sw cw):=H4.out.later b5
   have T5:Hid (Tw G.p G.kb w w5):=T4.out.trans (Tw.of b5)
   have hek:ek=O.1.1:=hV.1
   obtain⟨oc,hoc⟩:∃c,O.2=c:=⟨_,rfl⟩
   rw[hoc] at ho ⊢
   rw[<-hek] at ho
   clear hV hb5 b5 hO hek hoc l0 l1;have H6:Hid (Lv G (w5.alloc (.cells #[.int .i64 ek,.int .i64 ei,.float .f64 ex,.float .f64 ey] 200)) top env md last Kj sn cn sk ck sw cw):=H5.out.later (j00 (Below.refl _ _) _)
   have T6:Hid (Tw G.p G.kb w (w5.alloc (.cells #[.int .i64 ek,.int .i64 ei,.float .f64 ex,.float .f64 ey] 200))):=T5.out.trans (Tw.of (j00 (Below.refl _ _) _))
   have kv:=Blk.new w5 #[.int .i64 ek,.int .i64 ei,.float .f64 ex,.float .f64 ey] 200
   obtain⟨v0,v1,v2,v3,v4⟩:=Blk.four' kv
   rcases ho with ⟨rfl,he1,he2⟩|⟨he1,he2⟩
   ·
    have hEr:Hid (ckB (Dg G) G.T (G.T.tops.take tp) md env f K (i:Int)=.ok (ek,Kj)):=by rw[hfin.out,hro.out];show _=_;unfold kdOr;rw[if_neg he2,<-he1]
    clear he1 he2;go_wp2_with fail;go_ret;exact j0z.good hEr.out H6.out T6.out
   have toc:(oc != 0)=true:=by simp[he1]
   have hEr:Hid (ckB (Dg G) G.T (G.T.tops.take tp) md env f K (i:Int)=.error (4,(i:Int))):=by rw[hfin.out,hro.out,he2];rfl
   clear he1 he2;go_wp2_with fail;refine(j0f hG H6.out 4 (i:Int) (by omega)).mono ?_
   rintro e w6 ⟨rfl,hd,ht⟩
   go_wp2_with fail;go_ret;exact j0z.bad hEr.out hd (T6.out.trans ht)
  have ta3:(a ==3)=false:=by simpa using ha3
  have hsa:smp a=1:=by simp[smp,ha2,ha3]
  clear ha2 ha3;by_cases hb2:b=2
  ·
   have tb2:(b ==2)=true:=by simpa using hb2
   have hsb:smp b=0:=by simp[smp,hb2]
   clear hb2;rw[show smp a=1 from hsa,show smp b=0 from hsb] at ho
   obtain⟨O,hO⟩:∃O,Hid (j1v n.num a 1 0 0 b 0 0 0=O):=⟨_,rfl⟩
   rw[hO.out] at ho
   clear hsa hsb;go_wp2_with fail;refine(j2g n.num a 1 0 0 b 0 0 0 _ (by decide) (by decide) (by decide) (by decide) (by omega)).mono ?_
   rintro e w5 ⟨ek,ei,ex,ey,rfl,hV,hb5⟩
   rw[hO.out] at hV ⊢
   have b5:Below wr.heap.size wr w5:=j01 blq hb5
   have H5:Hid (Lv G w5 top env md last Kj sn cn sk ck sw cw):=H4.out.later b5
   have T5:Hid (Tw G.p G.kb w w5):=T4.out.trans (Tw.of b5)
   have hek:ek=O.1.1:=hV.1
   obtain⟨oc,hoc⟩:∃c,O.2=c:=⟨_,rfl⟩
   rw[hoc] at ho ⊢
   rw[<-hek] at ho
   clear hV hb5 b5 hO hek hoc l0 l1;have H6:Hid (Lv G (w5.alloc (.cells #[.int .i64 ek,.int .i64 ei,.float .f64 ex,.float .f64 ey] 200)) top env md last Kj sn cn sk ck sw cw):=H5.out.later (j00 (Below.refl _ _) _)
   have T6:Hid (Tw G.p G.kb w (w5.alloc (.cells #[.int .i64 ek,.int .i64 ei,.float .f64 ex,.float .f64 ey] 200))):=T5.out.trans (Tw.of (j00 (Below.refl _ _) _))
   have kv:=Blk.new w5 #[.int .i64 ek,.int .i64 ei,.float .f64 ex,.float .f64 ey] 200
   obtain⟨v0,v1,v2,v3,v4⟩:=Blk.four' kv
   rcases ho with ⟨rfl,he1,he2⟩|⟨he1,he2⟩
   ·
    have hEr:Hid (ckB (Dg G) G.T (G.T.tops.take tp) md env f K (i:Int)=.ok (ek,Kj)):=by rw[hfin.out,hro.out];show _=_;unfold kdOr;rw[if_neg he2,<-he1]
    clear he1 he2;go_wp2_with fail;go_ret;exact j0z.good hEr.out H6.out T6.out
   have toc:(oc != 0)=true:=by simp[he1]
   have hEr:Hid (ckB (Dg G) G.T (G.T.tops.take tp) md env f K (i:Int)=.error (4,(i:Int))):=by rw[hfin.out,hro.out,he2];rfl
   clear he1 he2;go_wp2_with fail;refine(j0f hG H6.out 4 (i:Int) (by omega)).mono ?_
   rintro e w6 ⟨rfl,hd,ht⟩
   go_wp2_with fail;go_ret;exact j0z.bad hEr.out hd (T6.out.trans ht)
  have tb2:(b ==2)=false:=by simpa using hb2
  by_cases hb3:b=3
  ·
   have tb3:(b ==3)=true:=by simpa using hb3
   have hsb:smp b=0:=by simp[smp,hb3]
   clear hb2 hb3;rw[show smp a=1 from hsa,show smp b=0 from hsb] at ho
   obtain⟨O,hO⟩:∃O,Hid (j1v n.num a 1 0 0 b 0 0 0=O):=⟨_,rfl⟩
   rw[hO.out] at ho
   clear hsa hsb;go_wp2_with fail;refine(j2g n.num a 1 0 0 b 0 0 0 _ (by decide) (by decide) (by decide) (by decide) (by omega)).mono ?_
   rintro e w5 ⟨ek,ei,ex,ey,rfl,hV,hb5⟩
   rw[hO.out] at hV ⊢
   have b5:Below wr.heap.size wr w5:=j01 blq hb5
   have H5:Hid (Lv G w5 top env md last Kj sn cn sk ck sw cw):=H4.out.later b5
   have T5:Hid (Tw G.p G.kb w w5):=T4.out.trans (Tw.of b5)
   have hek:ek=O.1.1:=hV.1
   obtain⟨oc,hoc⟩:∃c,O.2=c:=⟨_,rfl⟩
   rw[hoc] at ho ⊢
   rw[<-hek] at ho
   clear hV hb5 b5 hO hek hoc l0 l1;have H6:Hid (Lv G (w5.alloc (.cells #[.int .i64 ek,.int .i64 ei,.float .f64 ex,.float .f64 ey] 200)) top env md last Kj sn cn sk ck sw cw):=H5.out.later (j00 (Below.refl _ _) _)
   have T6:Hid (Tw G.p G.kb w (w5.alloc (.cells #[.int .i64 ek,.int .i64 ei,.float .f64 ex,.float .f64 ey] 200))):=T5.out.trans (Tw.of (j00 (Below.refl _ _) _))
   have kv:=Blk.new w5 #[.int .i64 ek,.int .i64 ei,.float .f64 ex,.float .f64 ey] 200
   obtain⟨v0,v1,v2,v3,v4⟩:=Blk.four' kv
   rcases ho with ⟨rfl,he1,he2⟩|⟨he1,he2⟩
   ·
    have hEr:Hid (ckB (Dg G) G.T (G.T.tops.take tp) md env f K (i:Int)=.ok (ek,Kj)):=by rw[hfin.out,hro.out];show _=_;unfold kdOr;rw[if_neg he2,<-he1]
    clear he1 he2;go_wp2_with fail;go_ret;exact j0z.good hEr.out H6.out T6.out
   have toc:(oc != 0)=true:=by simp[he1]
   have hEr:Hid (ckB (Dg G) G.T (G.T.tops.take tp) md env f K (i:Int)=.error (4,(i:Int))):=by rw[hfin.out,hro.out,he2];rfl
   clear he1 he2;go_wp2_with fail;refine(j0f hG H6.out 4 (i:Int) (by omega)).mono ?_
   rintro e w6 ⟨rfl,hd,ht⟩
   go_wp2_with fail;go_ret;exact j0z.bad hEr.out hd (T6.out.trans ht)
  have tb3:(b ==3)=false:=by simpa using hb3
  have hsb:smp b=1:=by simp[smp,hb2,hb3]
  clear hb2 hb3;rw[show smp a=1 from hsa,show smp b=1 from hsb] at ho
  obtain⟨O,hO⟩:∃O,Hid (j1v n.num a 1 0 0 b 1 0 0=O):=⟨_,rfl⟩
  rw[hO.out] at ho
  clear hsa hsb;go_wp2_with fail;refine(j2g n.num a 1 0 0 b 1 0 0 _ (by decide) (by decide) (by decide) (by decide) (by omega)).mono ?_
  rintro e w5 ⟨ek,ei,ex,ey,rfl,hV,hb5⟩
  rw[hO.out] at hV ⊢
  have b5:Below wr.heap.size wr w5:=j01 blq hb5
  have H5:Hid (Lv G w5 top env md last Kj sn cn sk ck sw cw):=H4.out.later b5
  have T5:Hid (Tw G.p G.kb w w5):=T4.out.trans (Tw.of b5)
  have hek:ek=O.1.1:=hV.1
  obtain⟨oc,hoc⟩:∃c,O.2=c:=⟨_,rfl⟩
  rw[hoc] at ho ⊢
  rw[<-hek] at ho
  clear hV hb5 b5 hO hek hoc l0 l1;have H6:Hid (Lv G (w5.alloc (.cells #[.int .i64 ek,.int .i64 ei,.float .f64 ex,.float .f64 ey] 200)) top env md last Kj sn cn sk ck sw cw):=H5.out.later (j00 (Below.refl _ _) _)
  have T6:Hid (Tw G.p G.kb w (w5.alloc (.cells #[.int .i64 ek,.int .i64 ei,.float .f64 ex,.float .f64 ey] 200))):=T5.out.trans (Tw.of (j00 (Below.refl _ _) _))
  have kv:=Blk.new w5 #[.int .i64 ek,.int .i64 ei,.float .f64 ex,.float .f64 ey] 200
  obtain⟨v0,v1,v2,v3,v4⟩:=Blk.four' kv
  rcases ho with ⟨rfl,he1,he2⟩|⟨he1,he2⟩
  ·
   have hEr:Hid (ckB (Dg G) G.T (G.T.tops.take tp) md env f K (i:Int)=.ok (ek,Kj)):=by rw[hfin.out,hro.out];show _=_;unfold kdOr;rw[if_neg he2,<-he1]
   clear he1 he2;go_wp2_with fail;go_ret;exact j0z.good hEr.out H6.out T6.out
  have toc:(oc != 0)=true:=by simp[he1]
  have hEr:Hid (ckB (Dg G) G.T (G.T.tops.take tp) md env f K (i:Int)=.error (4,(i:Int))):=by rw[hfin.out,hro.out,he2];rfl
  clear he1 he2;go_wp2_with fail;refine(j0f hG H6.out 4 (i:Int) (by omega)).mono ?_
  rintro e w6 ⟨rfl,hd,ht⟩
  go_wp2_with fail;go_ret;exact j0z.bad hEr.out hd (T6.out.trans ht)
end
end
end Go.Proofs.YtjbbagcpcepkoaaGreatDoor
