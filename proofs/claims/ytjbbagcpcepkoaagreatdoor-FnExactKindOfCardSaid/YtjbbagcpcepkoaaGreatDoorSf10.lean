import Derived.Test.YtjbbagcpcepkoaaGreatDoorSf09
namespace Go.Proofs.YtjbbagcpcepkoaaGreatDoor
set_option maxRecDepth 100000
set_option maxHeartbeats 64000000
section
open Go.RowKit
def jkn (a b c d:Nat):Option Nat:=op2 .sub (floatBits .mul .f64 a c) (floatBits .mul .f64 b d)
def jk7 (a b c d:Nat):Option Nat:=op2 .add (floatBits .mul .f64 a d) (floatBits .mul .f64 b c)
theorem jac (a b c d:Nat) (w:World) :
  Calls Tryz.prog 198 #[.complex .f64 a b,.complex .f64 c d] w λe w'=>∃re im n,e=.returned (.complex .f64 re im)/\Is (jkn a b c d) re/\Is (jk7 a b c d) im/\w'=w.drewN n:=by
 have hm:=λt x y w=>j0n (P:=Tryz.prog) .mul rfl t x y w
 have ha:=λt x y w=>j0n (P:=Tryz.prog) .add rfl t x y w
 have hs:=λt x y w=>j0n (P:=Tryz.prog) .sub rfl t x y w
 go_enter Tryz.func198,Tryz.ntmps198
 go_wp2
 go_ret;exact⟨_,_,_,rfl,Is.op2 (j11 _ _ _ _) (j11 _ _ _ _) (j11 _ _ _ _),Is.op2 (j11 _ _ _ _) (j11 _ _ _ _) (j11 _ _ _ _),rfl⟩
theorem j59 {P:Program} (op:BinOp) (h4:jhi op=true) (x y:Nat) (w:World) :
  (Op.Complex.arith op .f64 x y).run P w=.ok (fres op x y w) (w.drewN (fdraw op x y)):=by
 have h:=j0n (P:=P) op h4 0 x y w
 have e:binOp op 0 (.float .f64 x) (.float .f64 y)=Op.floatArith op .f64 x y:=by
  cases op<;>first|(cases h4;done)|rfl
 rw[e] at h
 simp[Op.Complex.arith,h]
theorem j60 {P:Program} (op:BinOp) (hop:op=.add\/op=.sub) (t:TypeId) (a b c d:Nat) (w:World) :
  (binOp op t (.complex .f64 a b) (.complex .f64 c d)).run P w=.ok (.complex .f64 (fres op a c w) (fres op b d (w.drewN (fdraw op a c)))) ((w.drewN (fdraw op a c)).drewN (fdraw op b d)):=by
 rcases hop with rfl|rfl
 ·
  simp[binOp,Op.complexOp,j59 .add rfl]
 simp[binOp,Op.complexOp,j59 .sub rfl]
def j2a (op:Int) (a b c d:Nat):V×Int :=
 if op=1 then (pV (floatBits .add .f64 a c) (floatBits .add .f64 b d),0) else if op=2 then (pV (floatBits .sub .f64 a c) (floatBits .sub .f64 b d),0)
 else if op=3 then (pV (jkn a b c d) (jk7 a b c d),0)
 else if op=7 then (bV (FloatKind.f64.format.order a c ==some Ordering.eq&&FloatKind.f64.format.order b d ==some Ordering.eq),0) else (zV,1)
theorem jc8 (op:Int) (a b c d:Nat) (w:World) :
  Calls Tryz.prog 183 #[.int .i64 op,.complex .f64 a b,.complex .f64 c d] w λe w'=>j1m (j2a op a b c d) w e w':=by
 by_cases h1:op=1
 ·
  subst h1
  have hf:=λt w=>j60 (P:=Tryz.prog) .add (by simp) t a b c d w
  go_enter Tryz.func183,Tryz.ntmps183
  go_wp2_with (go_at_call 190;refine(j36 _ _ _).mono ?_;rintro e w' ⟨rfl,rfl⟩)
  refine bodyPost_ret (v:=.tuple #[.agg #[.int .i64 3,.int .i64 0,.float .f64 (fres .add a c _),.float .f64 (fres .add b d _)],.int .i64 0]) (by simp[results,Tryz.results183,go_sem];exact⟨rfl,rfl⟩) rfl (j3j rfl (j11 _ _ _ _) (j11 _ _ _ _) rfl ?_)
  exact blq
 by_cases h2:op=2
 ·
  subst h2
  have hf:=λt w=>j60 (P:=Tryz.prog) .sub (by simp) t a b c d w
  go_enter Tryz.func183,Tryz.ntmps183
  go_wp2_with (go_at_call 190;refine(j36 _ _ _).mono ?_;rintro e w' ⟨rfl,rfl⟩)
  refine bodyPost_ret (v:=.tuple #[.agg #[.int .i64 3,.int .i64 0,.float .f64 (fres .sub a c _),.float .f64 (fres .sub b d _)],.int .i64 0]) (by simp[results,Tryz.results183,go_sem];exact⟨rfl,rfl⟩) rfl (j3j rfl (j11 _ _ _ _) (j11 _ _ _ _) rfl ?_)
  exact blq
 by_cases h3:op=3
 ·
  subst h3
  go_enter Tryz.func183,Tryz.ntmps183
  go_wp2_with fail;refine(jac _ _ _ _ _).mono ?_
  rintro e w' ⟨re,im,n,rfl,hre,him,rfl⟩
  go_wp2_with (go_at_call 190;refine(j36 _ _ _).mono ?_;rintro e w' ⟨rfl,rfl⟩)
  refine bq (.tuple #[.agg #[.int .i64 3,.int .i64 0,.float .f64 re,.float .f64 im],.int .i64 0]) (j3j rfl hre him rfl ?_)
  exact blq
 by_cases h7:op=7
 ·
  subst h7
  go_enter Tryz.func183,Tryz.ntmps183
  go_wp2_with (go_at_call 196;refine(j22 _ _).mono ?_;rintro e w' ⟨rfl,rfl⟩)
  refine bq (.tuple #[.agg #[.int .i64 4,.int .i64 (bN (FloatKind.f64.format.order a c ==some Ordering.eq&&FloatKind.f64.format.order b d ==some Ordering.eq)),.float .f64 0,.float .f64 0],.int .i64 0]) (j12 rfl rfl ?_)
  exact blq
 have g1:(op ==1)=false:=beq_eq_false_iff_ne.2 h1
 have g2:(op ==2)=false:=beq_eq_false_iff_ne.2 h2
 have g3:(op ==3)=false:=beq_eq_false_iff_ne.2 h3
 have g7:(op ==7)=false:=beq_eq_false_iff_ne.2 h7
 have E:Hid (j2a op a b c d=(zV,1)):=by simp[Hid,j2a,h1,h2,h3,h7]
 go_enter Tryz.func183,Tryz.ntmps183
 go_wp2_with fail;refine bq (.tuple #[.agg #[.int .i64 0,.int .i64 0,.float .f64 0,.float .f64 0],.int .i64 1]) (j0k E.out rfl ?_)
 exact blq
def j2x (op:Int) (a b:Bool):V×Int :=
 if op=7 then (bV (a ==b),0) else if op=8 then (bV (a&&b),0) else if op=9 then (bV (a || b),0) else (zV,1)
theorem jc3 (op:Int) (a b:Bool) (w:World) :
  Calls Tryz.prog 185 #[.int .i64 op,.bool a,.bool b] w λe w'=>j1m (j2x op a b) w e w':=by
 by_cases h7:op=7
 ·
  subst h7
  cases a<;>cases b
  all_goals
   go_enter Tryz.func185,Tryz.ntmps185
   go_wp2_with (go_at_call 196;refine(j22 _ _).mono ?_;rintro e w' ⟨rfl,rfl⟩)
   first
    | (refine bodyPost_ret (v:=.tuple #[.agg #[.int .i64 4,.int .i64 (bN false),.float .f64 0,.float .f64 0],.int .i64 0]) (by simp[results,Tryz.results185,go_sem];done) rfl (j12 (b:=false) rfl rfl ?_);(with_reducible repeat first|exact Below.refl _ _|refine j00 ?_ _|refine j06 ?_ _|refine j02 ?_|refine j0g ?_ (by first|exact Nat.le_refl _|(dsimp only;omega)|(simp<;>omega)) _|refine j01 ?_ (by with_reducible assumption));done)
    | (refine bodyPost_ret (v:=.tuple #[.agg #[.int .i64 4,.int .i64 (bN true),.float .f64 0,.float .f64 0],.int .i64 0]) (by simp[results,Tryz.results185,go_sem];done) rfl (j12 (b:=true) rfl rfl ?_);(with_reducible repeat first|exact Below.refl _ _|refine j00 ?_ _|refine j06 ?_ _|refine j02 ?_|refine j0g ?_ (by first|exact Nat.le_refl _|(dsimp only;omega)|(simp<;>omega)) _|refine j01 ?_ (by with_reducible assumption));done)
 by_cases h8:op=8
 ·
  subst h8
  cases a<;>cases b
  all_goals
   go_enter Tryz.func185,Tryz.ntmps185
   go_wp2_with (go_at_call 196;refine(j22 _ _).mono ?_;rintro e w' ⟨rfl,rfl⟩)
   first
    | (refine bodyPost_ret (v:=.tuple #[.agg #[.int .i64 4,.int .i64 (bN false),.float .f64 0,.float .f64 0],.int .i64 0]) (by simp[results,Tryz.results185,go_sem];done) rfl (j12 (b:=false) rfl rfl ?_);(with_reducible repeat first|exact Below.refl _ _|refine j00 ?_ _|refine j06 ?_ _|refine j02 ?_|refine j0g ?_ (by first|exact Nat.le_refl _|(dsimp only;omega)|(simp<;>omega)) _|refine j01 ?_ (by with_reducible assumption));done)
    | (refine bodyPost_ret (v:=.tuple #[.agg #[.int .i64 4,.int .i64 (bN true),.float .f64 0,.float .f64 0],.int .i64 0]) (by simp[results,Tryz.results185,go_sem];done) rfl (j12 (b:=true) rfl rfl ?_);(with_reducible repeat first|exact Below.refl _ _|refine j00 ?_ _|refine j06 ?_ _|refine j02 ?_|refine j0g ?_ (by first|exact Nat.le_refl _|(dsimp only;omega)|(simp<;>omega)) _|refine j01 ?_ (by with_reducible assumption));done)
 by_cases h9:op=9
 ·
  subst h9
  cases a<;>cases b
  all_goals
   go_enter Tryz.func185,Tryz.ntmps185
   go_wp2_with (go_at_call 196;refine(j22 _ _).mono ?_;rintro e w' ⟨rfl,rfl⟩)
   first
    | (refine bodyPost_ret (v:=.tuple #[.agg #[.int .i64 4,.int .i64 (bN false),.float .f64 0,.float .f64 0],.int .i64 0]) (by simp[results,Tryz.results185,go_sem];done) rfl (j12 (b:=false) rfl rfl ?_);(with_reducible repeat first|exact Below.refl _ _|refine j00 ?_ _|refine j06 ?_ _|refine j02 ?_|refine j0g ?_ (by first|exact Nat.le_refl _|(dsimp only;omega)|(simp<;>omega)) _|refine j01 ?_ (by with_reducible assumption));done)
    | (refine bodyPost_ret (v:=.tuple #[.agg #[.int .i64 4,.int .i64 (bN true),.float .f64 0,.float .f64 0],.int .i64 0]) (by simp[results,Tryz.results185,go_sem];done) rfl (j12 (b:=true) rfl rfl ?_);(with_reducible repeat first|exact Below.refl _ _|refine j00 ?_ _|refine j06 ?_ _|refine j02 ?_|refine j0g ?_ (by first|exact Nat.le_refl _|(dsimp only;omega)|(simp<;>omega)) _|refine j01 ?_ (by with_reducible assumption));done)
 have g7:(op ==7)=false:=beq_eq_false_iff_ne.2 h7
 have g8:(op ==8)=false:=beq_eq_false_iff_ne.2 h8
 have g9:(op ==9)=false:=beq_eq_false_iff_ne.2 h9
 have E:Hid (j2x op a b=(zV,1)):=by simp[Hid,j2x,h7,h8,h9]
 go_enter Tryz.func185,Tryz.ntmps185
 go_wp2_with fail;refine bq (.tuple #[.agg #[.int .i64 0,.int .i64 0,.float .f64 0,.float .f64 0],.int .i64 1]) (j0k E.out rfl ?_)
 exact blq
end
section
open Go.RowKit
def j1v (op k i:Int) (x y:Nat) (l j:Int) (u v:Nat):V×Int :=
 if okB k i x y=true/\okB l j u v=true/\k=l then
  if k=1 then j2i op i j else if k=2 then j2p op x u else if k=3 then j2a op x y u v else j2x op (i ==1) (j ==1)
 else (zV,1)
theorem j7v (op k i:Int) (x y:Nat) (l j:Int) (u v:Nat) (w:World) :
  Calls Tryz.prog 168 #[.int .i64 op,.agg #[.int .i64 k,.int .i64 i,.float .f64 x,.float .f64 y],.agg #[.int .i64 l,.int .i64 j,.float .f64 u,.float .f64 v]] w λe w'=>j1m (j1v op k i x y l j u v) w e w':=by
 cases hx:okB k i x y
 ·
  have E:Hid (j1v op k i x y l j u v=(zV,1)):=by simp[Hid,j1v,hx]
  go_enter Tryz.func168,Tryz.ntmps168
  go_wp2_with (go_at_call 180;refine(j1h _ _ _ _ _).mono ?_;rintro e w' ⟨rfl,rfl⟩)
  refine bq (.tuple #[.agg #[.int .i64 0,.int .i64 0,.float .f64 0,.float .f64 0],.int .i64 1]) (j0k E.out rfl ?_)
  exact blq
 cases hu:okB l j u v
 ·
  have E:Hid (j1v op k i x y l j u v=(zV,1)):=by simp[Hid,j1v,hu]
  go_enter Tryz.func168,Tryz.ntmps168
  go_wp2_with (go_at_call 180;refine(j1h _ _ _ _ _).mono ?_;rintro e w' ⟨rfl,rfl⟩)
  refine bq (.tuple #[.agg #[.int .i64 0,.int .i64 0,.float .f64 0,.float .f64 0],.int .i64 1]) (j0k E.out rfl ?_)
  exact blq
 by_cases hk:k=l
 ·
  subst hk
  by_cases h1:k=1
  ·
   subst h1
   have E:Hid (j1v op 1 i x y 1 j u v=j2i op i j):=by simp[Hid,j1v,hx,hu]
   go_enter Tryz.func168,Tryz.ntmps168
   go_wp2_with ((go_at_call 180;refine(j1h _ _ _ _ _).mono ?_;rintro e w' ⟨rfl,rfl⟩))
   refine(jex _ _ _ _).mono ?_
   rintro e w' ⟨k',i',x',y',rfl,hv,hb⟩
   obtain⟨hc,hf⟩:=bcell hb
   go_wp2_with fail;refine bodyPost_ret (v:=.tuple #[.agg #[.int .i64 k',.int .i64 i',.float .f64 x',.float .f64 y'],.int .i64 (j2i op i j).2]) (by simp[results,Tryz.results168,go_sem,hc]) rfl ⟨k',i',x',y',by rw[E.out],by rw[E.out];exact hv,?_⟩
   exact blq
  by_cases h2:k=2
  ·
   subst h2
   have E:Hid (j1v op 2 i x y 2 j u v=j2p op x u):=by simp[Hid,j1v,hx,hu]
   go_enter Tryz.func168,Tryz.ntmps168
   go_wp2_with ((go_at_call 180;refine(j1h _ _ _ _ _).mono ?_;rintro e w' ⟨rfl,rfl⟩))
   refine(jce _ _ _ _).mono ?_
   rintro e w' ⟨k',i',x',y',rfl,hv,hb⟩
   obtain⟨hc,hf⟩:=bcell hb
   go_wp2_with fail;refine bodyPost_ret (v:=.tuple #[.agg #[.int .i64 k',.int .i64 i',.float .f64 x',.float .f64 y'],.int .i64 (j2p op x u).2]) (by simp[results,Tryz.results168,go_sem,hc]) rfl ⟨k',i',x',y',by rw[E.out],by rw[E.out];exact hv,?_⟩
   exact blq
  by_cases h3:k=3
  ·
   subst h3
   have E:Hid (j1v op 3 i x y 3 j u v=j2a op x y u v):=by simp[Hid,j1v,hx,hu]
   go_enter Tryz.func168,Tryz.ntmps168
   go_wp2_with (go_at_call 180;refine(j1h _ _ _ _ _).mono ?_;rintro e w' ⟨rfl,rfl⟩)
   go_region_with (first|(go_at_call 184;refine(j8d _ _ _ _ _).mono ?_;rintro e w' ⟨rfl,rfl⟩)|(go_at_call 183;refine(jc8 _ _ _ _ _ _).mono ?_;rintro e w' ⟨k',i',x',y',rfl,hv,hb⟩;obtain⟨hc,hf⟩:=bcell hb))
   all_goals
    go_wp2_with fail;refine bodyPost_ret (v:=.tuple #[.agg #[.int .i64 k',.int .i64 i',.float .f64 x',.float .f64 y'],.int .i64 (j2a op x y u v).2]) (by simp[results,Tryz.results168,go_sem,hc]) rfl ⟨k',i',x',y',by rw[E.out],by rw[E.out];exact hv,?_⟩
    exact blq
  have h4:k=4:=by
   by_cases h:k=4
   ·
    exact h
   simp[okB,h1,h2,h3,h] at hx
  subst h4
  clear h1 h2 h3;have E:Hid (j1v op 4 i x y 4 j u v=j2x op (i ==1) (j ==1)):=by simp[Hid,j1v,hx,hu]
  go_enter Tryz.func168,Tryz.ntmps168
  go_wp2_with ((go_at_call 180;refine(j1h _ _ _ _ _).mono ?_;rintro e w' ⟨rfl,rfl⟩))
  refine(jc3 _ _ _ _).mono ?_
  rintro e w' ⟨k',i',x',y',rfl,hv,hb⟩
  obtain⟨hc,hf⟩:=bcell hb
  go_wp2_with fail;refine bodyPost_ret (v:=.tuple #[.agg #[.int .i64 k',.int .i64 i',.float .f64 x',.float .f64 y'],.int .i64 (j2x op (i ==1) (j ==1)).2]) (by simp[results,Tryz.results168,go_sem,hc]) rfl ⟨k',i',x',y',by rw[E.out],by rw[E.out];exact hv,?_⟩
  exact blq
 have E:Hid (j1v op k i x y l j u v=(zV,1)):=by simp[Hid,j1v,hk]
 have gk:(k != l)=true:=by simp[hk]
 go_enter Tryz.func168,Tryz.ntmps168
 go_wp2_with (go_at_call 180;refine(j1h _ _ _ _ _).mono ?_;rintro e w' ⟨rfl,rfl⟩)
 refine bq (.tuple #[.agg #[.int .i64 0,.int .i64 0,.float .f64 0,.float .f64 0],.int .i64 1]) (j0k E.out rfl ?_)
 exact blq
end
section
open Go.RowKit
theorem jcg (q b:Int):wrap64 (wrap64 q*b)=wrap64 (q*b):=by
 obtain⟨c,hc⟩:∃c,wrap64 q=q-18446744073709551616*c:=⟨(q+9223372036854775808) / 18446744073709551616,by unfold wrap64;omega⟩
 rw[hc,Int.sub_mul,Int.mul_assoc]
 generalize c*b=m
 generalize q*b=n
 unfold wrap64;omega
theorem jcu (a n:Int):wrap64 (a-wrap64 n)=wrap64 (a-n):=by unfold wrap64;omega
theorem jcw {a b:Int} (ha:-9223372036854775808<=a/\a<=9223372036854775807):-9223372036854775808<=a.tmod b/\a.tmod b<=9223372036854775807:=by
 have h:(a.tmod b).natAbs<=a.natAbs:=by rw[Int.natAbs_tmod];exact Nat.mod_le _ _
 by_cases s:0<=a
 ·
  have:=Int.tmod_nonneg b s
  omega
 have e:a.tmod b=-((-a).tmod b):=by rw[Int.neg_tmod,Int.neg_neg]
 have:=Int.tmod_nonneg b (show 0<=-a by omega)
 omega
theorem jlg {a b:Int} (ha:-9223372036854775808<=a/\a<=9223372036854775807):wrap64 (a-wrap64 (wrap64 (a.tdiv b)*b))=a.tmod b:=by
 rw[jcg,jcu]
 have e:a-a.tdiv b*b=a.tmod b:=by
  have:=Int.mul_tdiv_add_tmod a b
  rw[Int.mul_comm] at this;omega
 rw[e]
 exact IntWalk.wrap64_in _ (jcw ha)
theorem j94 (a:Int):a.tdiv (-1)=-a:=by rw[Int.tdiv_neg,Int.tdiv_one]
theorem j97 (a:Int):a.tmod (-1)=0:=by rw[Int.tmod_neg,Int.tmod_one]
theorem j8j {a b c:Int} (h:a=b):Ending.returned (.tuple #[.agg #[.int .i64 1,.int .i64 a,.float .f64 0,.float .f64 0],.int .i64 c])=.returned (.tuple #[.agg #[.int .i64 1,.int .i64 b,.float .f64 0,.float .f64 0],.int .i64 c]):=by rw[h]
theorem jev (op a b:Int) (w:World) (ha:-9223372036854775808<=a/\a<=9223372036854775807) :
  Calls Tryz.prog 152 #[.int .i64 op,.int .i64 a,.int .i64 b] w λe w'=>j1m (j2i op a b) w e w':=by
 by_cases h1:op=1
 ·
  subst h1
  clear ha;go_enter Tryz.func152,Tryz.ntmps152
  go_wp2_with fail;refine bq (.tuple #[.agg #[.int .i64 1,.int .i64 (wrap64 (a+b)),.float .f64 0,.float .f64 0],.int .i64 0]) (j28 rfl rfl ?_)
  exact blq
 by_cases h2:op=2
 ·
  subst h2
  clear ha;go_enter Tryz.func152,Tryz.ntmps152
  go_wp2_with fail;refine bq (.tuple #[.agg #[.int .i64 1,.int .i64 (wrap64 (a-b)),.float .f64 0,.float .f64 0],.int .i64 0]) (j28 rfl rfl ?_)
  exact blq
 by_cases h3:op=3
 ·
  subst h3
  clear ha;go_enter Tryz.func152,Tryz.ntmps152
  go_wp2_with fail;refine bq (.tuple #[.agg #[.int .i64 1,.int .i64 (wrap64 (a*b)),.float .f64 0,.float .f64 0],.int .i64 0]) (j28 rfl rfl ?_)
  exact blq
 by_cases h6:op=6
 ·
  subst h6
  clear ha;go_enter Tryz.func152,Tryz.ntmps152
  go_wp2_with (go_at_call 155;refine(j26 _ _).mono ?_;rintro e w' ⟨rfl,rfl⟩)
  refine bq (.tuple #[.agg #[.int .i64 4,.int .i64 (bN (decide (a<b))),.float .f64 0,.float .f64 0],.int .i64 0]) (j12 rfl rfl ?_)
  exact blq
 by_cases h7:op=7
 ·
  subst h7
  clear ha;go_enter Tryz.func152,Tryz.ntmps152
  go_wp2_with (go_at_call 155;refine(j26 _ _).mono ?_;rintro e w' ⟨rfl,rfl⟩)
  refine bq (.tuple #[.agg #[.int .i64 4,.int .i64 (bN (a ==b)),.float .f64 0,.float .f64 0],.int .i64 0]) (j12 rfl rfl ?_)
  exact blq
 have g1:(op ==1)=false:=beq_eq_false_iff_ne.2 h1
 have g2:(op ==2)=false:=beq_eq_false_iff_ne.2 h2
 have g3:(op ==3)=false:=beq_eq_false_iff_ne.2 h3
 have g6:(op ==6)=false:=beq_eq_false_iff_ne.2 h6
 have g7:(op ==7)=false:=beq_eq_false_iff_ne.2 h7
 by_cases h4:op=4
 ·
  subst h4
  by_cases hb:b=0
  ·
   subst hb
   clear ha;go_enter Tryz.func152,Tryz.ntmps152
   go_wp2_with fail;refine bq (.tuple #[.agg #[.int .i64 0,.int .i64 0,.float .f64 0,.float .f64 0],.int .i64 2]) (j0k rfl rfl ?_)
   exact blq
  by_cases hn:b=-1
  ·
   subst hn
   have E:Hid (wrap64 (-a)=wrap64 (a.tdiv (-1))):=show wrap64 (-a)=wrap64 (a.tdiv (-1)) by rw[j94]
   clear ha;go_enter Tryz.func152,Tryz.ntmps152
   go_wp2_with fail;refine bq (.tuple #[.agg #[.int .i64 1,.int .i64 (wrap64 (-a)),.float .f64 0,.float .f64 0],.int .i64 0]) (j28 rfl (j8j E.out) ?_)
   exact blq
  have gb:(b ==0)=false:=beq_eq_false_iff_ne.2 hb
  have gn:(b ==-1)=false:=beq_eq_false_iff_ne.2 hn
  have F:Hid (j2i 4 a b=(iV (wrap64 (a.tdiv b)),0)):=by simp[Hid,j2i,hb]
  clear ha;go_enter Tryz.func152,Tryz.ntmps152
  go_wp2_with fail;refine bq (.tuple #[.agg #[.int .i64 1,.int .i64 (wrap64 (a.tdiv b)),.float .f64 0,.float .f64 0],.int .i64 0]) (j28 F.out rfl ?_)
  exact blq
 by_cases h5:op=5
 ·
  subst h5
  by_cases hb:b=0
  ·
   subst hb
   clear ha;go_enter Tryz.func152,Tryz.ntmps152
   go_wp2_with fail;refine bq (.tuple #[.agg #[.int .i64 0,.int .i64 0,.float .f64 0,.float .f64 0],.int .i64 2]) (j0k rfl rfl ?_)
   exact blq
  by_cases hn:b=-1
  ·
   subst hn
   have E:Hid (0=a.tmod (-1)):=(j97 a).symm
   clear ha;go_enter Tryz.func152,Tryz.ntmps152
   go_wp2_with fail;refine bq (.tuple #[.agg #[.int .i64 1,.int .i64 (0),.float .f64 0,.float .f64 0],.int .i64 0]) (j28 rfl (j8j E.out) ?_)
   exact blq
  have gb:(b ==0)=false:=beq_eq_false_iff_ne.2 hb
  have gn:(b ==-1)=false:=beq_eq_false_iff_ne.2 hn
  have E:Hid (wrap64 (a-wrap64 (wrap64 (a.tdiv b)*b))=a.tmod b):=jlg ha
  have F:Hid (j2i 5 a b=(iV (a.tmod b),0)):=by simp[Hid,j2i,hb]
  clear ha;go_enter Tryz.func152,Tryz.ntmps152
  go_wp2_with fail;refine bq (.tuple #[.agg #[.int .i64 1,.int .i64 (wrap64 (a-wrap64 (wrap64 (a.tdiv b)*b))),.float .f64 0,.float .f64 0],.int .i64 0]) (j28 F.out (j8j E.out) ?_)
  exact blq
 have g4:(op ==4)=false:=beq_eq_false_iff_ne.2 h4
 have g5:(op ==5)=false:=beq_eq_false_iff_ne.2 h5
 have E:Hid (j2i op a b=(zV,1)):=by simp[Hid,j2i,h1,h2,h3,h4,h5,h6,h7]
 clear ha;go_enter Tryz.func152,Tryz.ntmps152
 go_wp2_with fail;refine bq (.tuple #[.agg #[.int .i64 0,.int .i64 0,.float .f64 0,.float .f64 0],.int .i64 1]) (j0k E.out rfl ?_)
 exact blq
end
section
open Go.RowKit
theorem jc7 (op:Int) (a b:Nat) (w:World) :
  Calls Tryz.prog 153 #[.int .i64 op,.float .f64 a,.float .f64 b] w λe w'=>j1m (j2p op a b) w e w':=by
 by_cases h1:op=1
 ·
  subst h1
  have hf:=λt w=>j0n (P:=Tryz.prog) .add rfl t a b w
  go_enter Tryz.func153,Tryz.ntmps153
  go_wp2_with fail;refine bodyPost_ret (v:=.tuple #[.agg #[.int .i64 2,.int .i64 0,.float .f64 (fres .add a b _),.float .f64 0],.int .i64 0]) (by simp[results,Tryz.results153,go_sem];rfl) rfl (j1u rfl (j11 _ _ _ _) rfl ?_)
  exact blq
 by_cases h2:op=2
 ·
  subst h2
  have hf:=λt w=>j0n (P:=Tryz.prog) .sub rfl t a b w
  go_enter Tryz.func153,Tryz.ntmps153
  go_wp2_with fail;refine bodyPost_ret (v:=.tuple #[.agg #[.int .i64 2,.int .i64 0,.float .f64 (fres .sub a b _),.float .f64 0],.int .i64 0]) (by simp[results,Tryz.results153,go_sem];rfl) rfl (j1u rfl (j11 _ _ _ _) rfl ?_)
  exact blq
 by_cases h3:op=3
 ·
  subst h3
  have hf:=λt w=>j0n (P:=Tryz.prog) .mul rfl t a b w
  go_enter Tryz.func153,Tryz.ntmps153
  go_wp2_with fail;refine bodyPost_ret (v:=.tuple #[.agg #[.int .i64 2,.int .i64 0,.float .f64 (fres .mul a b _),.float .f64 0],.int .i64 0]) (by simp[results,Tryz.results153,go_sem];rfl) rfl (j1u rfl (j11 _ _ _ _) rfl ?_)
  exact blq
 by_cases h4:op=4
 ·
  subst h4
  have hf:=λt w=>j0n (P:=Tryz.prog) .quo rfl t a b w
  go_enter Tryz.func153,Tryz.ntmps153
  go_wp2_with fail;refine bodyPost_ret (v:=.tuple #[.agg #[.int .i64 2,.int .i64 0,.float .f64 (fres .quo a b _),.float .f64 0],.int .i64 0]) (by simp[results,Tryz.results153,go_sem];rfl) rfl (j1u rfl (j11 _ _ _ _) rfl ?_)
  exact blq
 by_cases h6:op=6
 ·
  subst h6
  go_enter Tryz.func153,Tryz.ntmps153
  go_wp2_with (go_at_call 155;refine(j26 _ _).mono ?_;rintro e w' ⟨rfl,rfl⟩)
  refine bq (.tuple #[.agg #[.int .i64 4,.int .i64 (bN (FloatKind.f64.format.order a b ==some Ordering.lt)),.float .f64 0,.float .f64 0],.int .i64 0]) (j12 rfl rfl ?_)
  exact blq
 by_cases h7:op=7
 ·
  subst h7
  go_enter Tryz.func153,Tryz.ntmps153
  go_wp2_with (go_at_call 155;refine(j26 _ _).mono ?_;rintro e w' ⟨rfl,rfl⟩)
  refine bq (.tuple #[.agg #[.int .i64 4,.int .i64 (bN (FloatKind.f64.format.order a b ==some Ordering.eq)),.float .f64 0,.float .f64 0],.int .i64 0]) (j12 rfl rfl ?_)
  exact blq
 have g1:(op ==1)=false:=beq_eq_false_iff_ne.2 h1
 have g2:(op ==2)=false:=beq_eq_false_iff_ne.2 h2
 have g3:(op ==3)=false:=beq_eq_false_iff_ne.2 h3
 have g4:(op ==4)=false:=beq_eq_false_iff_ne.2 h4
 have g6:(op ==6)=false:=beq_eq_false_iff_ne.2 h6
 have g7:(op ==7)=false:=beq_eq_false_iff_ne.2 h7
 have E:Hid (j2p op a b=(zV,1)):=by simp[Hid,j2p,h1,h2,h3,h4,h6,h7]
 go_enter Tryz.func153,Tryz.ntmps153
 go_wp2_with fail;refine bq (.tuple #[.agg #[.int .i64 0,.int .i64 0,.float .f64 0,.float .f64 0],.int .i64 1]) (j0k E.out rfl ?_)
 exact blq
theorem jd2 (op k i:Int) (x y:Nat) (l j:Int) (u v:Nat) (w:World) :
  Calls Tryz.prog 154 #[.int .i64 op,.agg #[.int .i64 k,.int .i64 i,.float .f64 x,.float .f64 y],.agg #[.int .i64 l,.int .i64 j,.float .f64 u,.float .f64 v]] w λe w'=>j1m (j2a op x y u v) w e w':=by
 by_cases h1:op=1
 ·
  subst h1
  have hf:=λt x y w=>j0n (P:=Tryz.prog) .add rfl t x y w
  go_enter Tryz.func154,Tryz.ntmps154
  go_wp2_with fail;refine bodyPost_ret (v:=.tuple #[.agg #[.int .i64 3,.int .i64 0,.float .f64 (fres .add x u _),.float .f64 (fres .add y v _)],.int .i64 0]) (by simp[results,Tryz.results154,go_sem];exact⟨rfl,rfl⟩) rfl (j3j rfl (j11 _ _ _ _) (j11 _ _ _ _) rfl ?_)
  exact blq
 by_cases h2:op=2
 ·
  subst h2
  have hf:=λt x y w=>j0n (P:=Tryz.prog) .sub rfl t x y w
  go_enter Tryz.func154,Tryz.ntmps154
  go_wp2_with fail;refine bodyPost_ret (v:=.tuple #[.agg #[.int .i64 3,.int .i64 0,.float .f64 (fres .sub x u _),.float .f64 (fres .sub y v _)],.int .i64 0]) (by simp[results,Tryz.results154,go_sem];exact⟨rfl,rfl⟩) rfl (j3j rfl (j11 _ _ _ _) (j11 _ _ _ _) rfl ?_)
  exact blq
 by_cases h3:op=3
 ·
  subst h3
  have hm:=λt x y w=>j0n (P:=Tryz.prog) .mul rfl t x y w
  have ha:=λt x y w=>j0n (P:=Tryz.prog) .add rfl t x y w
  have hs:=λt x y w=>j0n (P:=Tryz.prog) .sub rfl t x y w
  go_enter Tryz.func154,Tryz.ntmps154
  go_wp2_with fail;refine bodyPost_ret (v:=.tuple #[.agg #[.int .i64 3,.int .i64 0,.float .f64 (fres .sub (fres .mul x u _) (fres .mul y v _) _),.float .f64 (fres .add (fres .mul x v _) (fres .mul y u _) _)],.int .i64 0]) (by simp[results,Tryz.results154,go_sem];exact⟨rfl,rfl⟩) rfl (j3j rfl (Is.op2 (j11 _ _ _ _) (j11 _ _ _ _) (j11 _ _ _ _)) (Is.op2 (j11 _ _ _ _) (j11 _ _ _ _) (j11 _ _ _ _)) rfl ?_)
  exact blq
 by_cases h7:op=7
 ·
  subst h7
  cases he:(FloatKind.f64.format.order x u ==some Ordering.eq)
  ·
   have E:Hid (j2a 7 x y u v=(bV false,0)):=by simp[Hid,j2a,he]
   go_enter Tryz.func154,Tryz.ntmps154
   go_wp2_with (go_at_call 155;refine(j26 _ _).mono ?_;rintro e w' ⟨rfl,rfl⟩)
   refine bq (.tuple #[.agg #[.int .i64 4,.int .i64 (bN false),.float .f64 0,.float .f64 0],.int .i64 0]) (j12 E.out rfl ?_)
   exact blq
  have E:Hid (j2a 7 x y u v=(bV (FloatKind.f64.format.order y v ==some Ordering.eq),0)):=by simp[Hid,j2a,he]
  go_enter Tryz.func154,Tryz.ntmps154
  go_wp2_with (go_at_call 155;refine(j26 _ _).mono ?_;rintro e w' ⟨rfl,rfl⟩)
  refine bq (.tuple #[.agg #[.int .i64 4,.int .i64 (bN (FloatKind.f64.format.order y v ==some Ordering.eq)),.float .f64 0,.float .f64 0],.int .i64 0]) (j12 E.out rfl ?_)
  exact blq
 have g1:(op ==1)=false:=beq_eq_false_iff_ne.2 h1
 have g2:(op ==2)=false:=beq_eq_false_iff_ne.2 h2
 have g3:(op ==3)=false:=beq_eq_false_iff_ne.2 h3
 have g7:(op ==7)=false:=beq_eq_false_iff_ne.2 h7
 have E:Hid (j2a op x y u v=(zV,1)):=by simp[Hid,j2a,h1,h2,h3,h7]
 go_enter Tryz.func154,Tryz.ntmps154
 go_wp2_with fail;refine bq (.tuple #[.agg #[.int .i64 0,.int .i64 0,.float .f64 0,.float .f64 0],.int .i64 1]) (j0k E.out rfl ?_)
 exact blq
end
section
open Go.RowKit
theorem ok4 {i:Int} {x y:Nat} (h:okB 4 i x y=true):i=0\/i=1:=by
 simp[okB] at h;exact h.1.1
theorem ja7 (op i:Int) (x y:Nat) (j:Int) (u v:Nat) (w:World) (lx:x<18446744073709551616) (ly:y<18446744073709551616) (lu:u<18446744073709551616) (lv:v<18446744073709551616) (hx:okB 4 i x y=true) (hu:okB 4 j u v=true) :
  Calls Tryz.prog 136 #[.int .i64 op,.agg #[.int .i64 4,.int .i64 i,.float .f64 x,.float .f64 y],.agg #[.int .i64 4,.int .i64 j,.float .f64 u,.float .f64 v]] w λe w'=>j1m (j2x op (i ==1) (j ==1)) w e w':=by
 by_cases h7:op=7
 ·
  subst h7
  rcases ok4 hx with rfl|rfl<;>rcases ok4 hu with rfl|rfl
  all_goals
   go_enter Tryz.func136,Tryz.ntmps136
   go_wp2_with (first|(go_at_call 151;refine(j0b _ _ _ _ _ (by assumption) (by assumption)).mono ?_;rintro e w' ⟨rfl,rfl⟩)|(go_at_call 155;refine(j26 _ _).mono ?_;rintro e w' ⟨rfl,rfl⟩))
   first
    | (refine bodyPost_ret (v:=.tuple #[.agg #[.int .i64 4,.int .i64 (bN false),.float .f64 0,.float .f64 0],.int .i64 0]) (by simp[results,Tryz.results136,go_sem];done) rfl (j12 (b:=false) rfl rfl ?_);(with_reducible repeat first|exact Below.refl _ _|refine j00 ?_ _|refine j06 ?_ _|refine j02 ?_|refine j0g ?_ (by first|exact Nat.le_refl _|(dsimp only;omega)|(simp<;>omega)) _|refine j01 ?_ (by with_reducible assumption));done)
    | (refine bodyPost_ret (v:=.tuple #[.agg #[.int .i64 4,.int .i64 (bN true),.float .f64 0,.float .f64 0],.int .i64 0]) (by simp[results,Tryz.results136,go_sem];done) rfl (j12 (b:=true) rfl rfl ?_);(with_reducible repeat first|exact Below.refl _ _|refine j00 ?_ _|refine j06 ?_ _|refine j02 ?_|refine j0g ?_ (by first|exact Nat.le_refl _|(dsimp only;omega)|(simp<;>omega)) _|refine j01 ?_ (by with_reducible assumption));done)
 by_cases h8:op=8
 ·
  subst h8
  rcases ok4 hx with rfl|rfl<;>rcases ok4 hu with rfl|rfl
  all_goals
   go_enter Tryz.func136,Tryz.ntmps136
   go_wp2_with (first|(go_at_call 151;refine(j0b _ _ _ _ _ (by assumption) (by assumption)).mono ?_;rintro e w' ⟨rfl,rfl⟩)|(go_at_call 155;refine(j26 _ _).mono ?_;rintro e w' ⟨rfl,rfl⟩))
   first
    | (refine bodyPost_ret (v:=.tuple #[.agg #[.int .i64 4,.int .i64 (bN false),.float .f64 0,.float .f64 0],.int .i64 0]) (by simp[results,Tryz.results136,go_sem];done) rfl (j12 (b:=false) rfl rfl ?_);(with_reducible repeat first|exact Below.refl _ _|refine j00 ?_ _|refine j06 ?_ _|refine j02 ?_|refine j0g ?_ (by first|exact Nat.le_refl _|(dsimp only;omega)|(simp<;>omega)) _|refine j01 ?_ (by with_reducible assumption));done)
    | (refine bodyPost_ret (v:=.tuple #[.agg #[.int .i64 4,.int .i64 (bN true),.float .f64 0,.float .f64 0],.int .i64 0]) (by simp[results,Tryz.results136,go_sem];done) rfl (j12 (b:=true) rfl rfl ?_);(with_reducible repeat first|exact Below.refl _ _|refine j00 ?_ _|refine j06 ?_ _|refine j02 ?_|refine j0g ?_ (by first|exact Nat.le_refl _|(dsimp only;omega)|(simp<;>omega)) _|refine j01 ?_ (by with_reducible assumption));done)
 by_cases h9:op=9
 ·
  subst h9
  rcases ok4 hx with rfl|rfl<;>rcases ok4 hu with rfl|rfl
  all_goals
   go_enter Tryz.func136,Tryz.ntmps136
   go_wp2_with (first|(go_at_call 151;refine(j0b _ _ _ _ _ (by assumption) (by assumption)).mono ?_;rintro e w' ⟨rfl,rfl⟩)|(go_at_call 155;refine(j26 _ _).mono ?_;rintro e w' ⟨rfl,rfl⟩))
   first
    | (refine bodyPost_ret (v:=.tuple #[.agg #[.int .i64 4,.int .i64 (bN false),.float .f64 0,.float .f64 0],.int .i64 0]) (by simp[results,Tryz.results136,go_sem];done) rfl (j12 (b:=false) rfl rfl ?_);(with_reducible repeat first|exact Below.refl _ _|refine j00 ?_ _|refine j06 ?_ _|refine j02 ?_|refine j0g ?_ (by first|exact Nat.le_refl _|(dsimp only;omega)|(simp<;>omega)) _|refine j01 ?_ (by with_reducible assumption));done)
    | (refine bodyPost_ret (v:=.tuple #[.agg #[.int .i64 4,.int .i64 (bN true),.float .f64 0,.float .f64 0],.int .i64 0]) (by simp[results,Tryz.results136,go_sem];done) rfl (j12 (b:=true) rfl rfl ?_);(with_reducible repeat first|exact Below.refl _ _|refine j00 ?_ _|refine j06 ?_ _|refine j02 ?_|refine j0g ?_ (by first|exact Nat.le_refl _|(dsimp only;omega)|(simp<;>omega)) _|refine j01 ?_ (by with_reducible assumption));done)
 have g7:(op ==7)=false:=beq_eq_false_iff_ne.2 h7
 have g8:(op ==8)=false:=beq_eq_false_iff_ne.2 h8
 have g9:(op ==9)=false:=beq_eq_false_iff_ne.2 h9
 have E:Hid (j2x op (i ==1) (j ==1)=(zV,1)):=by simp[Hid,j2x,h7,h8,h9]
 go_enter Tryz.func136,Tryz.ntmps136
 go_wp2_with (go_at_call 151;refine(j0b _ _ _ _ _ (by assumption) (by assumption)).mono ?_;rintro e w' ⟨rfl,rfl⟩)
 refine bq (.tuple #[.agg #[.int .i64 0,.int .i64 0,.float .f64 0,.float .f64 0],.int .i64 1]) (j0k E.out rfl ?_)
 exact blq
theorem j2g (op k i:Int) (x y:Nat) (l j:Int) (u v:Nat) (w:World) (lx:x<18446744073709551616) (ly:y<18446744073709551616) (lu:u<18446744073709551616) (lv:v<18446744073709551616) (hi:-9223372036854775808<=i/\i<=9223372036854775807) :
  Calls Tryz.prog 136 #[.int .i64 op,.agg #[.int .i64 k,.int .i64 i,.float .f64 x,.float .f64 y],.agg #[.int .i64 l,.int .i64 j,.float .f64 u,.float .f64 v]] w λe w'=>j1m (j1v op k i x y l j u v) w e w':=by
 cases hx:okB k i x y
 ·
  have E:Hid (j1v op k i x y l j u v=(zV,1)):=by simp[Hid,j1v,hx]
  go_enter Tryz.func136,Tryz.ntmps136
  go_wp2_with (go_at_call 151;refine(j0b _ _ _ _ _ (by assumption) (by assumption)).mono ?_;rintro e w' ⟨rfl,rfl⟩)
  refine bq (.tuple #[.agg #[.int .i64 0,.int .i64 0,.float .f64 0,.float .f64 0],.int .i64 1]) (j0k E.out rfl ?_)
  exact blq
 cases hu:okB l j u v
 ·
  have E:Hid (j1v op k i x y l j u v=(zV,1)):=by simp[Hid,j1v,hu]
  go_enter Tryz.func136,Tryz.ntmps136
  go_wp2_with (go_at_call 151;refine(j0b _ _ _ _ _ (by assumption) (by assumption)).mono ?_;rintro e w' ⟨rfl,rfl⟩)
  refine bq (.tuple #[.agg #[.int .i64 0,.int .i64 0,.float .f64 0,.float .f64 0],.int .i64 1]) (j0k E.out rfl ?_)
  exact blq
 by_cases hk:k=l
 ·
  subst hk
  by_cases h1:k=1
  ·
   subst h1
   have E:Hid (j1v op 1 i x y 1 j u v=j2i op i j):=by simp[Hid,j1v,hx,hu]
   go_enter Tryz.func136,Tryz.ntmps136
   go_wp2_with (go_at_call 151;refine(j0b _ _ _ _ _ (by assumption) (by assumption)).mono ?_;rintro e w' ⟨rfl,rfl⟩)
   refine(jev _ _ _ _ hi).mono ?_
   rintro e w' ⟨k',i',x',y',rfl,hv,hb⟩
   obtain⟨hc,hf⟩:=bcell hb
   go_wp2_with fail;refine bodyPost_ret (v:=.tuple #[.agg #[.int .i64 k',.int .i64 i',.float .f64 x',.float .f64 y'],.int .i64 (j2i op i j).2]) (by simp[results,Tryz.results136,go_sem,hc]) rfl ⟨k',i',x',y',by rw[E.out],by rw[E.out];exact hv,?_⟩
   exact blq
  clear hi;by_cases h2:k=2
  ·
   subst h2
   have E:Hid (j1v op 2 i x y 2 j u v=j2p op x u):=by simp[Hid,j1v,hx,hu]
   go_enter Tryz.func136,Tryz.ntmps136
   go_wp2_with (go_at_call 151;refine(j0b _ _ _ _ _ (by assumption) (by assumption)).mono ?_;rintro e w' ⟨rfl,rfl⟩)
   refine(jc7 _ _ _ _).mono ?_
   rintro e w' ⟨k',i',x',y',rfl,hv,hb⟩
   obtain⟨hc,hf⟩:=bcell hb
   go_wp2_with fail;refine bodyPost_ret (v:=.tuple #[.agg #[.int .i64 k',.int .i64 i',.float .f64 x',.float .f64 y'],.int .i64 (j2p op x u).2]) (by simp[results,Tryz.results136,go_sem,hc]) rfl ⟨k',i',x',y',by rw[E.out],by rw[E.out];exact hv,?_⟩
   exact blq
  by_cases h3:k=3
  ·
   subst h3
   have E:Hid (j1v op 3 i x y 3 j u v=j2a op x y u v):=by simp[Hid,j1v,hx,hu]
   go_enter Tryz.func136,Tryz.ntmps136
   go_wp2_with (go_at_call 151;refine(j0b _ _ _ _ _ (by assumption) (by assumption)).mono ?_;rintro e w' ⟨rfl,rfl⟩)
   refine(jd2 _ _ _ _ _ _ _ _ _ _).mono ?_
   rintro e w' ⟨k',i',x',y',rfl,hv,hb⟩
   obtain⟨hc,hf⟩:=bcell hb
   go_wp2_with fail;refine bodyPost_ret (v:=.tuple #[.agg #[.int .i64 k',.int .i64 i',.float .f64 x',.float .f64 y'],.int .i64 (j2a op x y u v).2]) (by simp[results,Tryz.results136,go_sem,hc]) rfl ⟨k',i',x',y',by rw[E.out],by rw[E.out];exact hv,?_⟩
   exact blq
  have h4:k=4:=by
   by_cases h:k=4
   ·
    exact h
   simp[okB,h1,h2,h3,h] at hx
  subst h4
  have E:Hid (j1v op 4 i x y 4 j u v=j2x op (i ==1) (j ==1)):=by simp[Hid,j1v,hx,hu]
  rw[E.out]
  exact ja7 op i x y j u v w lx ly lu lv hx hu
 have E:Hid (j1v op k i x y l j u v=(zV,1)):=by simp[Hid,j1v,hk]
 have gk:(k != l)=true:=by simp[hk]
 clear hi;go_enter Tryz.func136,Tryz.ntmps136
 go_wp2_with (go_at_call 151;refine(j0b _ _ _ _ _ (by assumption) (by assumption)).mono ?_;rintro e w' ⟨rfl,rfl⟩)
 refine bq (.tuple #[.agg #[.int .i64 0,.int .i64 0,.float .f64 0,.float .f64 0],.int .i64 1]) (j0k E.out rfl ?_)
 exact blq
end
section
open Go.RowKit
def negF (x:Nat):Nat:=x ^^^ 9223372036854775808
theorem j5p {x:Nat} (h:x<18446744073709551616):negF x<18446744073709551616:=by
 unfold negF;exact Nat.xor_lt_two_pow (n:=64) h (by decide)
theorem j71 (x:Nat) (w:World):(Op.unary .neg (.float .f64 x)).run Tryz.prog w=.ok (.float .f64 (negF x)) w:=rfl
theorem jfe (x y:Nat) (w:World):(Op.unary .neg (.complex .f64 x y)).run Tryz.prog w=.ok (.complex .f64 (negF x) (negF y)) w:=rfl
theorem jbn (n:Int):floatOfInt .f64 n<18446744073709551616:=by
 have:=floatOfInt_wf .f64 n
 simpa[Lit.wf] using this
def jla (x y:Nat):Option Nat:=op2 .add (floatBits .mul .f64 x x) (floatBits .mul .f64 y y)
def j1w (op i:Int):V×Int :=
 if op=1 then (iV (wrap64 (-i)),0) else if op=5 then (rV (some (floatOfInt .f64 i)),0) else (zV,1)
def j1k (op:Int) (x:Nat):V×Int:=if op=1 then (rV (some (negF x)),0) else (zV,1)
def j1l (op:Int) (x y:Nat):V×Int :=
 if op=1 then (pV (some (negF x)) (some (negF y)),0) else if op=3 then (rV (some x),0) else if op=4 then (rV (some y),0) else if op=6 then (rV (jla x y),0) else (zV,1)
def j1n (op:Int) (b:Bool):V×Int:=if op=2 then (bV (!b),0) else (zV,1)
def j14 (op k i:Int) (x y:Nat):V×Int :=
 if okB k i x y=true then
  if k=1 then j1w op i else if k=2 then j1k op x else if k=3 then j1l op x y else j1n op (i ==1)
 else (zV,1)
theorem jb4 (op i:Int) (w:World) :
  Calls Tryz.prog 186 #[.int .i64 op,.int .i64 i] w λe w'=>j1m (j1w op i) w e w':=by
 by_cases h1:op=1
 ·
  subst h1
  go_enter Tryz.func186,Tryz.ntmps186
  go_wp2_with (go_at_call 178;refine(j2q _ _).mono ?_;rintro e w' ⟨rfl,rfl⟩)
  refine bq (.tuple #[.agg #[.int .i64 1,.int .i64 (wrap64 (-i)),.float .f64 0,.float .f64 0],.int .i64 0]) (j28 rfl rfl ?_)
  exact blq
 by_cases h5:op=5
 ·
  subst h5
  go_enter Tryz.func186,Tryz.ntmps186
  go_wp2_with (go_at_call 197;refine(j23 _ _).mono ?_;rintro e w' ⟨rfl,rfl⟩)
  refine bq (.tuple #[.agg #[.int .i64 2,.int .i64 0,.float .f64 (floatOfInt .f64 i),.float .f64 0],.int .i64 0]) (j1u rfl (j2y (jbn i)) rfl ?_)
  exact blq
 have g1:(op ==1)=false:=beq_eq_false_iff_ne.2 h1
 have g5:(op ==5)=false:=beq_eq_false_iff_ne.2 h5
 have E:Hid (j1w op i=(zV,1)):=by simp[Hid,j1w,h1,h5]
 go_enter Tryz.func186,Tryz.ntmps186
 go_wp2_with fail;refine bq (.tuple #[.agg #[.int .i64 0,.int .i64 0,.float .f64 0,.float .f64 0],.int .i64 1]) (j0k E.out rfl ?_)
 exact blq
theorem ja6 (op:Int) (x:Nat) (w:World) (lx:x<18446744073709551616) :
  Calls Tryz.prog 187 #[.int .i64 op,.float .f64 x] w λe w'=>j1m (j1k op x) w e w':=by
 have hn:=j71
 by_cases h1:op=1
 ·
  subst h1
  go_enter Tryz.func187,Tryz.ntmps187
  go_wp2_with (go_at_call 197;refine(j23 _ _).mono ?_;rintro e w' ⟨rfl,rfl⟩)
  refine bq (.tuple #[.agg #[.int .i64 2,.int .i64 0,.float .f64 (negF x),.float .f64 0],.int .i64 0]) (j1u rfl (j2y (j5p lx)) rfl ?_)
  exact blq
 have g1:(op ==1)=false:=beq_eq_false_iff_ne.2 h1
 have E:Hid (j1k op x=(zV,1)):=by simp[Hid,j1k,h1]
 go_enter Tryz.func187,Tryz.ntmps187
 go_wp2_with fail;refine bq (.tuple #[.agg #[.int .i64 0,.int .i64 0,.float .f64 0,.float .f64 0],.int .i64 1]) (j0k E.out rfl ?_)
 exact blq
theorem j9v (a b:Nat) (w:World) :
  Calls Tryz.prog 199 #[.complex .f64 a b] w λe w'=>∃r n,e=.returned (.float .f64 r)/\Is (jla a b) r/\w'=w.drewN n:=by
 have hm:=λt x y w=>j0n (P:=Tryz.prog) .mul rfl t x y w
 have ha:=λt x y w=>j0n (P:=Tryz.prog) .add rfl t x y w
 go_enter Tryz.func199,Tryz.ntmps199
 go_wp2
 go_ret;exact⟨_,_,rfl,Is.op2 (j11 _ _ _ _) (j11 _ _ _ _) (j11 _ _ _ _),rfl⟩
theorem j9e (op:Int) (x y:Nat) (w:World) (lx:x<18446744073709551616) (ly:y<18446744073709551616) :
  Calls Tryz.prog 188 #[.int .i64 op,.complex .f64 x y] w λe w'=>j1m (j1l op x y) w e w':=by
 have hn:=jfe
 by_cases h1:op=1
 ·
  subst h1
  go_enter Tryz.func188,Tryz.ntmps188
  go_wp2_with (go_at_call 190;refine(j36 _ _ _).mono ?_;rintro e w' ⟨rfl,rfl⟩)
  refine bq (.tuple #[.agg #[.int .i64 3,.int .i64 0,.float .f64 (negF x),.float .f64 (negF y)],.int .i64 0]) (j3j rfl (j2y (j5p lx)) (j2y (j5p ly)) rfl ?_)
  exact blq
 by_cases h3:op=3
 ·
  subst h3
  go_enter Tryz.func188,Tryz.ntmps188
  go_wp2_with (go_at_call 197;refine(j23 _ _).mono ?_;rintro e w' ⟨rfl,rfl⟩)
  refine bq (.tuple #[.agg #[.int .i64 2,.int .i64 0,.float .f64 x,.float .f64 0],.int .i64 0]) (j1u rfl (j2y lx) rfl ?_)
  exact blq
 by_cases h4:op=4
 ·
  subst h4
  go_enter Tryz.func188,Tryz.ntmps188
  go_wp2_with (go_at_call 197;refine(j23 _ _).mono ?_;rintro e w' ⟨rfl,rfl⟩)
  refine bq (.tuple #[.agg #[.int .i64 2,.int .i64 0,.float .f64 y,.float .f64 0],.int .i64 0]) (j1u rfl (j2y ly) rfl ?_)
  exact blq
 by_cases h6:op=6
 ·
  subst h6
  go_enter Tryz.func188,Tryz.ntmps188
  go_wp2_with fail;refine(j9v _ _ _).mono ?_
  rintro e w' ⟨r,n,rfl,hr,rfl⟩
  go_wp2_with (go_at_call 197;refine(j23 _ _).mono ?_;rintro e w' ⟨rfl,rfl⟩)
  refine bq (.tuple #[.agg #[.int .i64 2,.int .i64 0,.float .f64 r,.float .f64 0],.int .i64 0]) (j1u rfl hr rfl ?_)
  exact blq
 have g1:(op ==1)=false:=beq_eq_false_iff_ne.2 h1
 have g3:(op ==3)=false:=beq_eq_false_iff_ne.2 h3
 have g4:(op ==4)=false:=beq_eq_false_iff_ne.2 h4
 have g6:(op ==6)=false:=beq_eq_false_iff_ne.2 h6
 have E:Hid (j1l op x y=(zV,1)):=by simp[Hid,j1l,h1,h3,h4,h6]
 go_enter Tryz.func188,Tryz.ntmps188
 go_wp2_with fail;refine bq (.tuple #[.agg #[.int .i64 0,.int .i64 0,.float .f64 0,.float .f64 0],.int .i64 1]) (j0k E.out rfl ?_)
 exact blq
theorem ja4 (op:Int) (b:Bool) (w:World) :
  Calls Tryz.prog 189 #[.int .i64 op,.bool b] w λe w'=>j1m (j1n op b) w e w':=by
 by_cases h2:op=2
 ·
  subst h2
  go_enter Tryz.func189,Tryz.ntmps189
  go_wp2_with (go_at_call 196;refine(j22 _ _).mono ?_;rintro e w' ⟨rfl,rfl⟩)
  refine bq (.tuple #[.agg #[.int .i64 4,.int .i64 (bN (!b)),.float .f64 0,.float .f64 0],.int .i64 0]) (j12 rfl rfl ?_)
  exact blq
 have g2:(op ==2)=false:=beq_eq_false_iff_ne.2 h2
 have E:Hid (j1n op b=(zV,1)):=by simp[Hid,j1n,h2]
 go_enter Tryz.func189,Tryz.ntmps189
 go_wp2_with fail;refine bq (.tuple #[.agg #[.int .i64 0,.int .i64 0,.float .f64 0,.float .f64 0],.int .i64 1]) (j0k E.out rfl ?_)
 exact blq
theorem j5w (op k i:Int) (x y:Nat) (w:World) (lx:x<18446744073709551616) (ly:y<18446744073709551616) :
  Calls Tryz.prog 169 #[.int .i64 op,.agg #[.int .i64 k,.int .i64 i,.float .f64 x,.float .f64 y]] w λe w'=>j1m (j14 op k i x y) w e w':=by
 cases hx:okB k i x y
 ·
  have E:Hid (j14 op k i x y=(zV,1)):=by simp[Hid,j14,hx]
  go_enter Tryz.func169,Tryz.ntmps169
  go_wp2_with (go_at_call 180;refine(j1h _ _ _ _ _).mono ?_;rintro e w' ⟨rfl,rfl⟩)
  refine bq (.tuple #[.agg #[.int .i64 0,.int .i64 0,.float .f64 0,.float .f64 0],.int .i64 1]) (j0k E.out rfl ?_)
  exact blq
 by_cases h1:k=1
 ·
  subst h1
  have E:Hid (j14 op 1 i x y=j1w op i):=by simp[Hid,j14,hx]
  go_enter Tryz.func169,Tryz.ntmps169
  go_wp2_with ((go_at_call 180;refine(j1h _ _ _ _ _).mono ?_;rintro e w' ⟨rfl,rfl⟩))
  refine(jb4 _ _ _).mono ?_
  rintro e w' ⟨k',i',x',y',rfl,hv,hb⟩
  obtain⟨hc,hf⟩:=bcell hb
  go_wp2_with fail;refine bodyPost_ret (v:=.tuple #[.agg #[.int .i64 k',.int .i64 i',.float .f64 x',.float .f64 y'],.int .i64 (j1w op i).2]) (by simp[results,Tryz.results169,go_sem,hc]) rfl ⟨k',i',x',y',by rw[E.out],by rw[E.out];exact hv,?_⟩
  exact blq
 by_cases h2:k=2
 ·
  subst h2
  have E:Hid (j14 op 2 i x y=j1k op x):=by simp[Hid,j14,hx]
  go_enter Tryz.func169,Tryz.ntmps169
  go_wp2_with ((go_at_call 180;refine(j1h _ _ _ _ _).mono ?_;rintro e w' ⟨rfl,rfl⟩))
  refine(ja6 _ _ _ lx).mono ?_
  rintro e w' ⟨k',i',x',y',rfl,hv,hb⟩
  obtain⟨hc,hf⟩:=bcell hb
  go_wp2_with fail;refine bodyPost_ret (v:=.tuple #[.agg #[.int .i64 k',.int .i64 i',.float .f64 x',.float .f64 y'],.int .i64 (j1k op x).2]) (by simp[results,Tryz.results169,go_sem,hc]) rfl ⟨k',i',x',y',by rw[E.out],by rw[E.out];exact hv,?_⟩
  exact blq
 by_cases h3:k=3
 ·
  subst h3
  have E:Hid (j14 op 3 i x y=j1l op x y):=by simp[Hid,j14,hx]
  go_enter Tryz.func169,Tryz.ntmps169
  go_wp2_with (first|(go_at_call 180;refine(j1h _ _ _ _ _).mono ?_;rintro e w' ⟨rfl,rfl⟩)|(go_at_call 184;refine(j8d _ _ _ _ _).mono ?_;rintro e w' ⟨rfl,rfl⟩))
  refine(j9e _ _ _ _ lx ly).mono ?_
  rintro e w' ⟨k',i',x',y',rfl,hv,hb⟩
  obtain⟨hc,hf⟩:=bcell hb
  go_wp2_with fail;refine bodyPost_ret (v:=.tuple #[.agg #[.int .i64 k',.int .i64 i',.float .f64 x',.float .f64 y'],.int .i64 (j1l op x y).2]) (by simp[results,Tryz.results169,go_sem,hc]) rfl ⟨k',i',x',y',by rw[E.out],by rw[E.out];exact hv,?_⟩
  exact blq
 have h4:k=4:=by
  by_cases h:k=4
  ·
   exact h
  simp[okB,h1,h2,h3,h] at hx
 subst h4
 clear h1 h2 h3;have E:Hid (j14 op 4 i x y=j1n op (i ==1)):=by simp[Hid,j14,hx]
 go_enter Tryz.func169,Tryz.ntmps169
 go_wp2_with ((go_at_call 180;refine(j1h _ _ _ _ _).mono ?_;rintro e w' ⟨rfl,rfl⟩))
 refine(ja4 _ _ _).mono ?_
 rintro e w' ⟨k',i',x',y',rfl,hv,hb⟩
 obtain⟨hc,hf⟩:=bcell hb
 go_wp2_with fail;refine bodyPost_ret (v:=.tuple #[.agg #[.int .i64 k',.int .i64 i',.float .f64 x',.float .f64 y'],.int .i64 (j1n op (i ==1)).2]) (by simp[results,Tryz.results169,go_sem,hc]) rfl ⟨k',i',x',y',by rw[E.out],by rw[E.out];exact hv,?_⟩
 exact blq
end
end Go.Proofs.YtjbbagcpcepkoaaGreatDoor
