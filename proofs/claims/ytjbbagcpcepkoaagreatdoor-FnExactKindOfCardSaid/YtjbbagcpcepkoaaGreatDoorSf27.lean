import Derived.Test.YtjbbagcpcepkoaaGreatDoorSf26
import Derived.ProofKit
import Derived.OpenShut
import Derived.ChangeOld
import Derived.ChangeArms
import Derived.LaidByTextLater
import Derived.Lay
import Derived.LaidMore
import Derived.Stop.Joined
namespace Go.Proofs.YtjbbagcpcepkoaaGreatDoor
set_option maxRecDepth 100000
set_option maxHeartbeats 64000000
set_option linter.unusedVariables false
set_option linter.unusedSimpArgs false
section
open Go.RowKit
def QK (T:Tre) (K:KM):Prop:=∀j:Nat,¬isE (nd T (j:Int)).kind->K j=0
theorem QK.put {T:Tre} {K:KM} (h:QK T K) {i:Nat} {n:Nd} (hv:VN T i n) (he:isE n.kind) (v:Int):QK T (upd K (i:Int) v):=by
 intro j hj
 unfold upd
 split
 ·
  rename_i e
  have:j=i:=by omega
  subst this
  rw[j0j hv.at_] at hj
  exact absurd he hj
 exact h j hj
theorem jma {k:Int} {m j:Nat} (hk:isE k) (h11:¬k=11) (hl:(shp k m).length=m) (hj:j<m):(shp k m)[j]?=some 1:=by
 obtain⟨h1,h2⟩:=hk
 have h:k=1\/k=2\/k=3\/k=4\/k=5\/k=6\/k=7\/k=8\/k=9\/k=10:=by omega
 rcases h with rfl|rfl|rfl|rfl|rfl|rfl|rfl|rfl|rfl|rfl
 case inr.inr.inr.inr.inr.inr.inl=>simp[shp,hj]
 case inr.inr.inr.inr.inr.inr.inr.inl =>
  simp[shp] at hl
  subst hl
  rcases j with _|_|j
  ·
   rfl
  ·
   rfl
  omega
 case inr.inr.inr.inr.inr.inr.inr.inr.inl =>
  simp[shp] at hl
  subst hl
  rcases j with _|j
  ·
   rfl
  omega
 case inr.inr.inr.inr.inr.inr.inr.inr.inr =>
  simp[shp] at hl
  subst hl
  rcases j with _|_|j
  ·
   rfl
  ·
   rfl
  omega
 all_goals
  simp[shp] at hl
  omega
section
variable {D:Int->ByteArray->Int} {T:Tre}
theorem j88 {i:Nat} {n:Nd} (hv:VN T i n) {j:Nat} (hj:j<n.kids.length) {c:Int} (hc:(shp n.kind n.kids.length)[j]?=some c):∃(a:Nat) (m:Nd),n.kids[j]=(a:Int)/\VN T a m/\j1c c m.kind:=by
 obtain⟨nx,hf⟩:=hv.fit
 obtain⟨a,an,b0,hx0,hai,hva,hca,_,_⟩:=hv.kidAt hf hc
 rw[List.getElem?_eq_getElem hj] at hx0
 exact⟨a,an,by simpa using hx0,hva,hca⟩
theorem j7c {i:Nat} {n:Nd} (hv:VN T i n) {j:Nat} {c:Int} (hc:(shp n.kind n.kids.length)[j]?=some c):∃(a:Nat) (m:Nd),kid n j=(a:Int)/\VN T a m/\j1c c m.kind:=by
 have hj:j<n.kids.length:=by rw[<-hv.len];exact(List.getElem?_eq_some_iff.1 hc).1
 obtain⟨a,m,e,h1,h2⟩:=j88 hv hj hc
 exact⟨a,m,by unfold kid;rw[List.getElem?_eq_getElem hj,e];rfl,h1,h2⟩
theorem jkq {g:KM->Int->Ck (Int×KM)}:∀(ks:List Int) (K:KM) (vs:List Int) (K1:KM),(∀x∈ks,∀K v K1,g K x=.ok (v,K1)->QK T K->QK T K1)->ckL g ks K=.ok (vs,K1)->QK T K->QK T K1
 | [],K,vs,K1,_,h,hq=>by
  simp only[ckL,Except.ok.injEq,Prod.mk.injEq] at h
  rw[<-h.2];exact hq
 | i :: is,K,vs,K1,hg,h,hq=>by
  simp only[ckL] at h
  cases hk:g K i with
  | error q=>rw[hk] at h;simp at h
  | ok q =>
   obtain⟨v,K2⟩:=q
   rw[hk] at h
   simp only at h
   cases hr:ckL g is K2 with
   | error q=>rw[hr] at h;simp at h
   | ok q =>
    obtain⟨ws,K3⟩:=q
    rw[hr] at h
    simp only[Except.ok.injEq,Prod.mk.injEq] at h
    obtain⟨_,rfl⟩:=h
    exact jkq is K2 ws K3 (λx hx=>hg x (List.mem_cons_of_mem _ hx)) hr (hg i (by simp) K v K2 hk hq)
theorem jid (ah:List Int) (md:Md) (env:Env):∀(f i:Nat) (n:Nd) (K:KM) (v:Int) (K1:KM),VN T i n->isE n.kind->ckE D T ah md env f K (i:Int)=.ok (v,K1)->QK T K->QK T K1
 | 0,i,n,K,v,K1,_,_,h,_=>by simp[ckE] at h
 | f+1,i,n,K,v,K1,hv,he,h,hq=>by
  have ih:=jid ah md env f
  rw[jbs] at h
  cases hb:ckB D T ah md env f K (i:Int) with
  | error q=>rw[hb] at h;simp at h
  | ok q =>
   obtain⟨k,K2⟩:=q
   rw[hb] at h
   simp only[Except.ok.injEq,Prod.mk.injEq] at h
   obtain⟨rfl,rfl⟩:=h
   refine QK.put ?_ hv he k
   unfold ckB at hb
   rw[j0j hv.at_] at hb
   split at hb
   ·
    rename_i hk
    split at hb
    ·
     obtain⟨a,an,hkid,hva,hca⟩:=j7c hv (j:=0) (c:=1) (by rw[hk];rfl)
     rw[hkid] at hb
     cases hr:ckE D T ah md env f K (a:Int) with
     | error q=>rw[hr] at hb;simp at hb
     | ok q =>
      obtain⟨u,K3⟩:=q
      rw[hr] at hb
      simp only at hb
      split at hb
      ·
       cases hp:j1i D T md n.kids.tail none with
       | error q=>rw[hp] at hb;simp at hb
       | ok q =>
        rw[hp] at hb
        simp only[Except.ok.injEq,Prod.mk.injEq] at hb
        obtain⟨_,rfl⟩:=hb
        exact ih a an K u K3 hva (j1q hca) hr hq
      simp at hb
    simp at hb
   rename_i hk
   split at hb
   ·
    simp at hb
   cases hr:ckL (ckE D T ah md env f) n.kids K with
   | error q=>rw[hr] at hb;simp at hb
   | ok q =>
    obtain⟨vs,K3⟩:=q
    rw[hr] at hb
    simp only at hb
    cases hro:rowE D T ah md env n vs with
    | error q=>rw[hro] at hb;simp at hb
    | ok q =>
     rw[hro] at hb
     simp only[Except.ok.injEq,Prod.mk.injEq] at hb
     obtain⟨_,rfl⟩:=hb
     refine jkq n.kids K vs K3 (λx hx K v K1 hg hq=>?_) hr hq
     obtain⟨j,hj,rfl⟩:=List.getElem_of_mem hx
     obtain⟨a,an,e,hva,hca⟩:=j88 hv hj (jma he hk hv.len hj)
     rw[e] at hg
     exact ih a an K v K1 hva (j1q hca) hg hq
theorem jhr {g:Env->KM->Int->Bool->Ck (Env×KM)} {own:Bool}:∀(is:List Int) (env:Env) (K K1:KM),(∀x∈is,∀env K l env' K',g env K x l=.ok (env',K')->QK T K->QK T K')->ckSs g own is env K=.ok K1->QK T K->QK T K1
 | [],env,K,K1,_,h,hq=>by
  simp only[ckSs,Except.ok.injEq] at h
  rw[<-h];exact hq
 | i :: is,env,K,K1,hg,h,hq=>by
  simp only[ckSs] at h
  cases hk:g env K i (own&&is.isEmpty) with
  | error q=>rw[hk] at h;simp at h
  | ok q =>
   obtain⟨env2,K2⟩:=q
   rw[hk] at h
   exact jhr is env2 K2 K1 (λx hx=>hg x (List.mem_cons_of_mem _ hx)) h (hg i (by simp) env K _ env2 K2 hk hq)
theorem jhl {g:Int->KM->Ck KM}:∀(bs:List Int) (K K1:KM),(∀x∈bs,∀K K',g x K=.ok K'->QK T K->QK T K')->ckBs g bs K=.ok K1->QK T K->QK T K1
 | [],K,K1,_,h,hq=>by
  simp only[ckBs,Except.ok.injEq] at h
  rw[<-h];exact hq
 | i :: is,K,K1,hg,h,hq=>by
  simp only[ckBs] at h
  cases hk:g i K with
  | error q=>rw[hk] at h;simp at h
  | ok K2 =>
   rw[hk] at h
   exact jhl is K2 K1 (λx hx=>hg x (List.mem_cons_of_mem _ hx)) h (hg i (by simp) K K2 hk hq)
theorem ja1 {g:KM->Int->Ck (Int×KM)}:∀(cs:List Int) (had:List ByteArray) (K K1:KM),(∀x∈cs,∀K v K',g K (kid (nd T x) 0)=.ok (v,K')->QK T K->QK T K')->j18 D T g cs had K=.ok K1->QK T K->QK T K1
 | [],had,K,K1,_,h,hq=>by
  simp only[j18,Except.ok.injEq] at h
  rw[<-h];exact hq
 | c :: cs,had,K,K1,hg,h,hq=>by
  simp only[j18] at h
  cases hk:g K (kid (nd T c) 0) with
  | error q=>rw[hk] at h;simp at h
  | ok q =>
   obtain⟨v,K2⟩:=q
   rw[hk] at h
   simp only at h
   split at h
   ·
    simp at h
   split at h
   ·
    simp at h
   split at h
   ·
    exact ja1 cs _ K2 K1 (λx hx=>hg x (List.mem_cons_of_mem _ hx)) h (hg c (by simp) K v K2 hk hq)
   simp at h
def GS (T:Tre) (g:Env->KM->Int->Bool->Ck (Env×KM)):Prop:=∀(i:Nat) (n:Nd) (env:Env) (K:KM) (l:Bool) (env':Env) (K':KM),VN T i n->(12<=n.kind/\n.kind<=26)->g env K (i:Int) l=.ok (env',K')->QK T K->QK T K'
theorem jfd {g:Env->KM->Int->Bool->Ck (Env×KM)} (hg:GS T g) {b:Nat} {bn:Nd} (hv:VN T b bn) (h27:bn.kind=27) {own:Bool} {env:Env} {K K1:KM} (h:ckSs g own (nd T (b:Int)).kids env K=.ok K1) (hq:QK T K):QK T K1:=by
 rw[j0j hv.at_] at h
 refine jhr bn.kids env K K1 (λx hx env K l env' K' he hq=>?_) h hq
 obtain⟨j,hj,rfl⟩:=List.getElem_of_mem hx
 obtain⟨a,an,e,hva,hca⟩:=j88 hv hj (c:=2) (by rw[h27];simp[shp,hj])
 rw[e] at he
 exact hg a an env K l env' K' hva (jif hca) he hq
theorem j46 {env env':Env} {K':KM} {r:Ck KM} (h:j2f env r=.ok (env',K')):r=.ok K':=by
 cases r with
 | error q=>cases h
 | ok q=>cases h;rfl
theorem lt_q {ah:List Int} {md:Md} {env env':Env} {N:Nat} {K K':KM} {i:Int} (h:ckLt D T ah md env N K i=.ok (env',K')) (hx:∀v K1,ckE D T ah md env N K (kid (nd T i) 0)=.ok (v,K1)->QK T K1):QK T K':=by
 unfold ckLt at h
 split at h
 ·
  cases h
 rename_i v K1 hr
 split at h
 ·
  cases h
 cases h;exact hx _ _ hr
theorem st_q {ah:List Int} {md:Md} {env:Env} {N:Nat} {K K':KM} {i:Int} (h:ckSt D T ah md env N K i=.ok K') (hx:∀v K1,ckE D T ah md env N K (kid (nd T i) 0)=.ok (v,K1)->QK T K1):QK T K':=by
 unfold ckSt at h
 split at h
 ·
  cases h
 rename_i v K1 hr
 split at h
 ·
  cases h
 split at h
 ·
  cases h;exact hx _ _ hr
 cases h
theorem p_q {ah:List Int} {md:Md} {env:Env} {N:Nat} {K K':KM} {i sort:Int} (h:ckP D T ah md env N K i sort=.ok K') (hx:∀v K1,ckE D T ah md env N K (kid (nd T i) 0)=.ok (v,K1)->QK T K1):QK T K':=by
 unfold ckP at h
 split at h
 ·
  cases h
 rename_i v K1 hr
 split at h
 ·
  cases h
 cases h;exact hx _ _ hr
theorem x_q {ah:List Int} {md:Md} {env:Env} {N:Nat} {K K':KM} {i:Int} (h:ckX D T ah md env N K i=.ok K') (hx:∀v K1,ckE D T ah md env N K (kid (nd T i) 0)=.ok (v,K1)->QK T K1):QK T K':=by
 unfold ckX at h
 split at h
 ·
  cases h
 rename_i v K1 hr
 cases h;exact hx _ _ hr
theorem br_q {ah:List Int} {md:Md} {env:Env} {N:Nat} {K K':KM} {i want:Int} {g:Int->KM->Ck KM} (h:ckBr D T ah md env N K i want g=.ok K') (hx:∀v K1,ckE D T ah md env N K (kid (nd T i) 0)=.ok (v,K1)->QK T K1) (hg:∀x∈(nd T i).kids.tail,∀K K',g x K=.ok K'->QK T K->QK T K'):QK T K':=by
 unfold ckBr at h
 split at h
 ·
  cases h
 rename_i v K1 hr
 split at h
 ·
  exact jhl _ _ _ hg h (hx _ _ hr)
 cases h
theorem jll {k:Int} {m j:Nat} (hk:k=16\/k=17) (hl:(shp k m).length=m) (hj:j+1<m):(shp k m)[j+1]?=some 3:=by
 rcases hk with rfl|rfl
 ·
  by_cases h3:m=3
  ·
   subst h3
   have:j=0\/j=1:=by omega
   rcases this with rfl|rfl<;>rfl
  have e:shp 16 m=[1,3]:=by simp[shp,h3]
  rw[e] at hl ⊢
  simp at hl
  have:j=0:=by omega
  subst this;rfl
 have e:shp 17 m=[1,3]:=by simp[shp]
 rw[e] at hl ⊢
 simp at hl
 have:j=0:=by omega
 subst this;rfl
theorem jku (ah:List Int) (N:Nat):∀(f:Nat) (md:Md),GS T (ckS D T ah N f md)
 | 0,md=>λi n env K l env' K' hv hk h hq=>by rw[ckS] at h;cases h
 | f+1,md=>λi n env K l env' K' hv hk h hq=>by
  have ih:=jku ah N f
  rw[j4n] at h
  split at h
  ·
   cases h
  rename_i hst
  clear hst;unfold ckS' at h
  have hX:∀c,(shp n.kind n.kids.length)[0]?=some c->(∀k,j1c c k->isE k)->∀v K1,ckE D T ah md env N K (kid (nd T (i:Int)) 0)=.ok (v,K1)->QK T K1:=by
   intro c hc he v K1 hh
   rw[j0j hv.at_] at hh
   obtain⟨a,an,e,hva,hca⟩:=j7c hv hc
   rw[e] at hh
   exact jid ah md env N a an K v K1 hva (he _ hca) hh hq
  have h1:(shp n.kind n.kids.length)[0]?=some 1->∀v K1,ckE D T ah md env N K (kid (nd T (i:Int)) 0)=.ok (v,K1)->QK T K1:=λhc=>hX 1 hc λ_ h=>j1q h
  have hBr:(n.kind=16\/n.kind=17)->∀x∈(nd T (i:Int)).kids.tail,∀K K',ckSs (ckS D T ah N f md) false (nd T x).kids env K=.ok K'->QK T K->QK T K':=by
   intro hk x hx K K' hh hq
   rw[j0j hv.at_] at hx
   obtain⟨j,hj,rfl⟩:=List.getElem_of_mem hx
   have hj2:j+1<n.kids.length:=by simp at hj;omega
   have hle:=hv.len
   obtain⟨b,bn,e,hvb,hcb⟩:=j88 hv hj2 (jll hk hle hj2)
   rw[List.getElem_tail,e] at hh
   exact jfd (ih md) hvb (j34 hcb) hh hq
  have hn:(nd T (i:Int)).kind=n.kind:=by rw[j0j hv.at_]
  rw[hn] at h
  obtain⟨k,hkd⟩:∃k,n.kind=k:=⟨_,rfl⟩
  rw[hkd] at h hk
  have hc:k=12\/k=13\/k=14\/k=15\/k=16\/k=17\/k=18\/k=19\/k=20\/k=21\/k=22\/k=23\/k=24\/k=25\/k=26:=by omega
  rcases hc with rfl|rfl|rfl|rfl|rfl|rfl|rfl|rfl|rfl|rfl|rfl|rfl|rfl|rfl|rfl<;>simp only[Int.reduceEq,if_true,if_false,or_self,or_false,false_or,true_or,or_true] at h
  ·
   exact lt_q h (h1 (by rw[hkd];rfl))
  ·
   exact st_q (j46 h) (h1 (by rw[hkd];rfl))
  ·
   exact p_q (j46 h) (h1 (by rw[hkd];rfl))
  ·
   exact p_q (j46 h) (h1 (by rw[hkd];rfl))
  ·
   exact br_q (j46 h) (h1 (by rw[hkd];unfold shp;simp;split<;>rfl)) (hBr (Or.inl hkd))
  ·
   exact br_q (j46 h) (h1 (by rw[hkd];rfl)) (hBr (Or.inr hkd))
  ·
   have h:=j46 h
   unfold ckEa at h
   split at h
   ·
    cases h
   obtain⟨b,bn,e,hvb,hcb⟩:=j7c hv (j:=2) (c:=3) (by rw[hkd];rfl)
   rw[j0j hv.at_,e] at h
   exact jfd (ih _) hvb (j34 hcb) h hq
  ·
   exact p_q (j46 h) (h1 (by rw[hkd];rfl))
  ·
   have h:=j46 h
   unfold ckHe at h
   split at h
   ·
    cases h
   split at h
   ·
    cases h
   obtain⟨b,bn,e,hvb,hcb⟩:=j7c hv (j:=1) (c:=3) (by rw[hkd];rfl)
   rw[j0j hv.at_,e] at h
   exact jfd (ih _) hvb (j34 hcb) h hq
  ·
   refine ja1 _ _ _ _ (λx hx K v K' hh hq=>?_) (j46 h) hq
   rw[j0j hv.at_] at hx
   obtain⟨j,hj,rfl⟩:=List.getElem_of_mem hx
   obtain⟨b,bn,e,hvb,hcb⟩:=j88 hv hj (c:=8) (by rw[hkd];simp[shp,hj])
   rw[e,j0j hvb.at_] at hh
   obtain⟨a,an,e2,hva,hca⟩:=j7c hvb (j:=0) (c:=1) (by rw[jeq hcb];rfl)
   rw[e2] at hh
   exact jid ah md env N a an K v K' hva (j1q hca) hh hq
  ·
   cases h;exact hq
  ·
   exact p_q (j46 h) (h1 (by rw[hkd];rfl))
  ·
   split at h
   ·
    cases h
   cases h;exact hq
  ·
   exact x_q (j46 h) (hX 10 (by rw[hkd];rfl) λk hk=>by unfold j1c at hk;simp at hk;unfold isE;omega)
  exact x_q (j46 h) (h1 (by rw[hkd];rfl))
theorem jlu {t:Int} {K K1:KM} (h:j2v T t K=.ok K1):K1=K:=by
 unfold j2v at h
 split at h
 ·
  cases h
 split at h
 ·
  split at h
  ·
   cases h;rfl
  cases h
 cases h
theorem jls {ah:List Int} {N:Nat} {K K1:KM} {t:Nat} {n:Nd} (hv:VN T t n) (hk:n.kind=33\/n.kind=34) (h:j1x D T N ah K (t:Int)=.ok K1) (hq:QK T K):QK T K1:=by
 have hle:=hv.len
 have hP:0<n.kids.length:=by rcases hk with e|e<;>(rw[e] at hle;simp[shp] at hle;omega)
 obtain⟨b,bn,e,hvb,hcb⟩:=j88 hv (j:=n.kids.length-1) (by omega) (c:=3) (by
  rcases hk with e|e
  ·
   rw[e,show shp 33 n.kids.length=List.replicate (n.kids.length-1) 7++[3] by simp[shp],List.getElem?_append_right (by simp)]
   simp
  rw[e] at hle ⊢
  have e1:n.kids.length=1:=by simp[shp] at hle;omega
  rw[e1];rfl)
 have hl:n.kids.getLast?.getD 0=(b:Int):=by
  rw[List.getLast?_eq_getElem?,List.getElem?_eq_getElem (by omega),e];rfl
 unfold j1x at h
 simp only[j0j hv.at_,hl] at h
 split at h
 ·
  cases h
 split at h
 ·
  cases h
 rename_i env _
 cases hr:ckSs (ckS D T ah N N ⟨false,[],false,decide (n.kind=33)⟩) (decide (n.kind=33)) (nd T (b:Int)).kids env K with
 | error q=>rw[hr] at h;cases h
 | ok K2 =>
  rw[hr] at h
  have h2:=jfd (jku ah N N _) hvb (j34 hcb) hr hq
  simp only at h
  split at h
  ·
   rw[jlu h];exact h2
  cases h;exact h2
theorem jho {N:Nat}:∀(ts ah:List Int) (K K1:KM),(∀x∈ts,∃(t:Nat) (n:Nd),x=t/\VN T t n/\(n.kind=33\/n.kind=34))->j2o D T N ts ah K=.ok K1->QK T K->QK T K1
 | [],ah,K,K1,_,h,hq=>by
  simp only[j2o,Except.ok.injEq] at h
  rw[<-h];exact hq
 | t :: ts,ah,K,K1,ht,h,hq=>by
  simp only[j2o] at h
  cases hr:j1x D T N ah K t with
  | error q=>rw[hr] at h;cases h
  | ok K2 =>
   rw[hr] at h
   obtain⟨t,n,rfl,hv,hk⟩:=ht t (by simp)
   exact jho ts _ K2 K1 (λx hx=>ht x (List.mem_cons_of_mem _ hx)) h (jls hv hk hr hq)
end
theorem jko {A B C:List (ByteArray×Int)} {T:Tre} (hT:treP T) {K:KM} (h:chkA A B C T=.ok K):QK T K:=by
 refine jho T.tops [] (λ_=>0) K (λx hx=>?_) h (λ_ _=>rfl)
 obtain⟨_,hfit,hcl⟩:=hT
 obtain⟨m,hm,rfl⟩:=List.getElem_of_mem hx
 obtain⟨t,n,e,hn,hc⟩:=hcl m _ (List.getElem?_eq_getElem hm)
 obtain⟨t',b,e',hok,hf,_,_⟩:=hfit.mem _ hx
 have e2:t'=t:=by omega
 subst e2
 rw[j0t hn] at hf
 exact⟨t',n,e,⟨hn,hok,b,hf⟩,jl3 hc⟩
noncomputable def kdA (A B C:List (ByteArray×Int)) (T:Tre) (i:Int):Int :=
 if okR A B C=true then (if treB T=true then (if 0<=i/\i<(T.nodes.length:Int) then (match chkA A B C T with | .error _=>0 | .ok K=>K i.toNat) else 0) else 0) else 0
end
section
open Go.RowKit
theorem j7n (i:Int) (p1 q1 p2 q2 p3 q3:Nat) (n1 n2:Option Addr) (c1 c2 c3 d1 d2 B0:Nat) (A B C:List (ByteArray×Int)) (T:Tre) (w:World) (hA:j0y w (some ⟨p1,q1,none⟩) A) (hB:j0y w (some ⟨p2,q2,none⟩) B) (hC:j0y w (some ⟨p3,q3,none⟩) C) (hT:InT w B0 n1 n2 T) (hk:kTre T) :
  Calls Tryz.prog 13 #[.agg #[.slice (some ⟨p1,q1,none⟩) A.length c1,.slice (some ⟨p2,q2,none⟩) B.length c2,.slice (some ⟨p3,q3,none⟩) C.length c3],.agg #[.slice n1 T.nodes.length d1,.slice n2 T.tops.length d2],.int .i64 i] w λe w'=>e=.returned (.int .i64 (kdA A B C T i))/\Below w.heap.size w w':=by
 have bz:Below w.heap.size w ((w.alloc (.cells #[.slice (some ⟨p1,q1,none⟩) A.length c1,.slice (some ⟨p2,q2,none⟩) B.length c2,.slice (some ⟨p3,q3,none⟩) C.length c3] 35)).alloc (.cells #[.slice n1 T.nodes.length d1,.slice n2 T.tops.length d2] 39)):=j00 (j00 (Below.refl _ _) _) _
 have kr:=Blk.alloc (Blk.new w #[.slice (some ⟨p1,q1,none⟩) A.length c1,.slice (some ⟨p2,q2,none⟩) B.length c2,.slice (some ⟨p3,q3,none⟩) C.length c3] 35) (.cells #[.slice n1 T.nodes.length d1,.slice n2 T.tops.length d2] 39)
 have kt:=Blk.new' (n:=w.heap.size+1) (w.alloc (.cells #[.slice (some ⟨p1,q1,none⟩) A.length c1,.slice (some ⟨p2,q2,none⟩) B.length c2,.slice (some ⟨p3,q3,none⟩) C.length c3] 35)) #[.slice n1 T.nodes.length d1,.slice n2 T.tops.length d2] 39 (by simp)
 obtain⟨W,eW⟩:∃W,((w.alloc (.cells #[.slice (some ⟨p1,q1,none⟩) A.length c1,.slice (some ⟨p2,q2,none⟩) B.length c2,.slice (some ⟨p3,q3,none⟩) C.length c3] 35)).alloc (.cells #[.slice n1 T.nodes.length d1,.slice n2 T.tops.length d2] 39))=W:=⟨_,rfl⟩
 rw[eW] at bz kr kt
 obtain⟨res,hres⟩:∃r,Hid (kdA A B C T i=r):=⟨_,rfl⟩
 rw[hres.out]
 have hnl:T.nodes.length<=1048576:=hk.1.1
 have HA:=Hid.mk' (hA.later bz)
 have HB:=Hid.mk' (hB.later bz)
 have HC:=Hid.mk' (hC.later bz)
 have HT:=Hid.mk' (hT.later bz)
 have HK:=Hid.mk' hk
 have KR:=Hid.mk' kr
 have KT:=Hid.mk' kt
 have BZ:=Hid.mk' bz
 obtain⟨x0,x1,x2,x3⟩:=kr.three
 obtain⟨y0,y1,y2⟩:=kt.two
 clear hA hB hC hT hk kr kt bz;go_enter Tryz.func13,Tryz.ntmps13
 go_wp2_with fail;refine(j8q p1 q1 c1 p2 q2 c2 p3 q3 c3 A B C _ HA.out HB.out HC.out).mono ?_
 rintro e w2 ⟨rfl,hb2⟩
 have B2:=Hid.mk' hb2
 clear hb2 x0 x1 x2 x3 y0 y1 y2;obtain⟨x0,x1,x2,x3⟩:=(KR.out.later B2.out).three
 obtain⟨y0,y1,y2⟩:=(KT.out.later B2.out).two
 cases hok:okR A B C
 ·
  have hR:Hid (res=0):=by show _=_;rw[<-hres.out];unfold kdA;rw[hok];rfl
  clear eW hok;go_wp2_with fail;refine bq (.int .i64 0) ?_
  exact⟨by rw[hR.out],BZ.out.trans (B2.out.mono BZ.out.size)⟩
 have HOK:=Hid.mk' hok
 clear hok;go_wp2_with fail;refine(j7k T n1 n2 d1 d2 B0 _ (HT.out.later B2.out) HK.out).mono ?_
 rintro e w3 ⟨rfl,hb3⟩
 have B3:Hid (Below W.heap.size W w3):=B2.out.trans (hb3.mono B2.out.size)
 clear hb3 x0 x1 x2 x3 y0 y1 y2 B2;obtain⟨x0,x1,x2,x3⟩:=(KR.out.later B3.out).three
 obtain⟨y0,y1,y2⟩:=(KT.out.later B3.out).two
 cases htb:treB T
 ·
  have hR:Hid (res=0):=by show _=_;rw[<-hres.out];unfold kdA;rw[HOK.out,htb];rfl
  clear eW htb;go_wp2_with fail;refine bq (.int .i64 0) ?_
  exact⟨by rw[hR.out],BZ.out.trans (B3.out.mono BZ.out.size)⟩
 have HTB:=Hid.mk' htb
 have htr:treP T:=by
  by_cases h:treP T
  ·
   exact h
  rw[j1d h] at htb;cases htb
 clear htb;have tw:IntKind.i64.wrap ((T.nodes.length:Int)-1)=(T.nodes.length:Int)-1:=by rw[IntKind.wrap_i64];omega
 go_wp2_with fail;refine(j1j i 0 ((T.nodes.length:Int)-1) w3).mono ?_
 rintro e w5 ⟨rfl,rfl⟩
 by_cases hi:0<=i/\i<(T.nodes.length:Int)
 rotate_left 1
 ·
  have hR:Hid (res=0):=by show _=_;rw[<-hres.out];unfold kdA;rw[HOK.out,HTB.out,if_neg hi];rfl
  have hb:(decide (0<=i)&&decide (i<=(T.nodes.length:Int)-1))=false:=by simp;omega
  rw[hb]
  clear eW hi hb tw;go_wp2_with fail;refine bq (.int .i64 0) ?_
  exact⟨by rw[hR.out],BZ.out.trans (B3.out.mono BZ.out.size)⟩
 have hb:(decide (0<=i)&&decide (i<=(T.nodes.length:Int)-1))=true:=by simp;omega
 rw[hb]
 obtain⟨m,rfl⟩:∃m:Nat,i=m:=⟨i.toNat,by omega⟩
 have hm:m<T.nodes.length:=by omega
 have hR:Hid (res=match chkA A B C T with | .error _=>0 | .ok K=>K m):=by show _=_;rw[<-hres.out];unfold kdA;rw[HOK.out,HTB.out,if_pos hi];rfl
 clear hb tw hi;go_wp2_with fail;refine(jg4 (some ⟨p1,q1,none⟩) (some ⟨p2,q2,none⟩) (some ⟨p3,q3,none⟩) n1 n2 c1 c2 c3 d1 d2 B0 A B C T _ (HA.out.later B3.out) (HB.out.later B3.out) (HC.out.later B3.out) (HT.out.later B3.out) HK.out HOK.out htr).mono ?_
 rintro e w4 ⟨G,hG,rfl,hS,hD,hT,hb4⟩
 have B4:Hid (Below W.heap.size W w4):=B3.out.trans (hb4.mono B3.out.size)
 have hTG:=Hid.mk' hT
 rw[hT,hD] at hS
 have hS2:jli G w4 (chkA A B C T):=hS
 clear hS hb4 hD hT x0 x1 x2 x3 y0 y1 y2 eW;cases hr:chkA A B C T with
 | error q =>
  obtain⟨c,nn⟩:=q
  rw[hr] at hS2
  have hE:Hid (res=0):=by show _=_;rw[hR.out,hr]
  have tc:(c != 0)=true:=by have h:=Dd.ne hS2;simpa using h
  obtain⟨cs,_,a2,a3,a4,_⟩:=Dd.ex hS2
  have z13:=(a2.cell 13).trans a3
  clear hS2 a2 a3 a4 hG hr;go_wp2_with fail;refine bq (.int .i64 0) ?_
  exact⟨by rw[hE.out],BZ.out.trans (B4.out.mono BZ.out.size)⟩
 | ok K =>
  rw[hr] at hS2
  obtain⟨tt,aa,bb,ss,cc,ff,ll,hz⟩:=hS2
  have hE:Hid (res=K m):=by show _=_;rw[hR.out,hr]
  have z13:w4.cell? ⟨G.p,13,none⟩=some (.int .i64 0):=(hz.bx.cell 13).trans rfl
  have z15:w4.cell? ⟨G.p,15,none⟩=some (.slice (some ⟨G.kb,0,none⟩) T.nodes.length G.dk):=by rw[<-hTG.out];exact(hz.bx.cell 15).trans rfl
  have zk:w4.cell? ⟨G.kb,m,none⟩=some (.int .i64 (K m)):=hz.kc m (by rw[hTG.out];exact hm)
  have mI:(m:Int)<(T.nodes.length:Int):=by omega
  clear hz hG hr;go_wp2_with fail;refine bq (.int .i64 (K m)) ?_
  exact⟨by rw[hE.out],BZ.out.trans (B4.out.mono BZ.out.size)⟩
end
section
open Go.RowKit Go.Maps Go.WideMaps
theorem jbk (A B C:List (ByteArray×Int)) (T:Tre) (i:Int):kdA A B C T i=if 0<=i/\i<(T.nodes.length:Int) then (match j7f A B C T with | .error _=>0 | .ok K=>K i.toNat) else 0:=by
 unfold kdA j7f
 split
 ·
  split
  ·
   rfl
  split<;>rfl
 split<;>rfl
theorem jj8 {A B C:List (ByteArray×Int)} {T:Tre} {K:KM} (h:j7f A B C T=.ok K):QK T K:=by
 unfold j7f at h
 split at h
 ·
  split at h
  ·
   rename_i htb
   refine jko ?_ h
   by_cases g:treP T
   ·
    exact g
   rw[j1d g] at htb;cases htb
  cases h
 cases h
theorem rl_e {k:Int} (h:isE k):rl k=101:=(jet k 1 (by omega) (by omega)).2 (by unfold cls;exact if_pos h)
theorem jm3 {k:Int} (h:¬isE k):¬rl k=101:=λe=>by
 have g:=(jet k 1 (by omega) (by omega)).1 e
 unfold cls at g
 rw[if_neg (show¬(1<=k/\k<=11) from h)] at g
 repeat (split at g<;>try omega)
theorem j7q (i:Int) (s1 s2 s3 n1 n2:Option Addr) (c1 c2 c3 d1 d2 B0:Nat) (A B C:List (ByteArray×Int)) (T:Tre) (w:World) (hA:j0y w s1 A) (hB:j0y w s2 B) (hC:j0y w s3 C) (nm:∀i,i<(A++B++C).length->(dAt (A++B++C) i).1.size<=maxLen) (l1:A.length<=1048576) (l2:B.length<=1048576) (l3:C.length<=1048576) (hT:InT w B0 n1 n2 T) (hcap:Els 4 j47 w B0 n1 T.nodes) (hk:kTre T) :
  Calls Tryz.prog 14 #[.agg #[.slice s1 A.length c1,.slice s2 B.length c2,.slice s3 C.length c3],.agg #[.slice n1 T.nodes.length d1,.slice n2 T.tops.length d2],.int .i64 i] w λe w'=>e=.returned (.int .i64 (kdA A B C T i))/\Below w.heap.size w w':=by
 have b1:Below w.heap.size w ((w.alloc (.cells #[.slice s1 A.length c1,.slice s2 B.length c2,.slice s3 C.length c3] 35)).alloc (.cells #[.slice n1 T.nodes.length d1,.slice n2 T.tops.length d2] 39)):=j00 (j00 (Below.refl _ _) _) _
 have kr:=Blk.alloc (Blk.new w #[.slice s1 A.length c1,.slice s2 B.length c2,.slice s3 C.length c3] 35) (.cells #[.slice n1 T.nodes.length d1,.slice n2 T.tops.length d2] 39)
 have kt:=Blk.new' (n:=w.heap.size+1) (w.alloc (.cells #[.slice s1 A.length c1,.slice s2 B.length c2,.slice s3 C.length c3] 35)) #[.slice n1 T.nodes.length d1,.slice n2 T.tops.length d2] 39 (by simp)
 obtain⟨x0,x1,x2,x3⟩:=kr.three
 obtain⟨y0,y1,y2⟩:=kt.two
 have hki:=jar s1 s2 s3 n1 n2 c1 c2 c3 d1 d2 B0 A B C T _ (hA.later b1) (hB.later b1) (hC.later b1) nm l1 l2 l3 (hT.later b1) (hcap.later j1s b1) hk
 obtain⟨res,hres⟩:∃r,Hid (kdA A B C T i=r):=⟨_,rfl⟩
 rw[hres.out]
 have B1:=Hid.mk' b1
 have KT:=Hid.mk' kt
 have HT:=Hid.mk' hT
 clear hA hB hC nm hT hcap hk kr kt b1;go_enter Tryz.func14,Tryz.ntmps14
 go_wp2_with fail;refine hki.mono ?_
 rintro e w2 ⟨hb2,hS⟩
 have B2:Hid (Below w.heap.size w w2):=B1.out.trans (hb2.mono B1.out.size)
 have KT2:=Hid.mk' (KT.out.later hb2)
 clear hki x0 x1 x2 x3 y0 y1 y2 B1 hb2 KT;cases hr:j7f A B C T with
 | error q =>
  obtain⟨c,n⟩:=q
  rw[hr] at hS
  have hS:e=.returned (.tuple #[.slice none 0 0,errV c n]):=hS
  subst hS
  have hR:Hid (res=0):=by show _=_;rw[<-hres.out,jbk,hr];split<;>rfl
  clear hr;go_wp2_with fail;refine bq (.int .i64 0) ?_
  exact⟨by rw[hR.out],B2.out⟩
 | ok K1 =>
  rw[hr] at hS
  obtain⟨kb,Kp,rfl,hkc,hkr⟩:=hS
  by_cases h0:i<0
  ·
   have hR:Hid (res=0):=by show _=_;rw[<-hres.out,jbk,if_neg (by omega)]
   have t0:decide (i<0)=true:=by simp[h0]
   clear hr h0 hkc hkr;go_wp2_with fail;refine bq (.int .i64 0) ?_
   exact⟨by rw[hR.out],B2.out⟩
  by_cases hN:(T.nodes.length:Int)<=i
  ·
   have hR:Hid (res=0):=by show _=_;rw[<-hres.out,jbk,if_neg (by omega)]
   have t0:decide (i<0)=false:=by simp;omega
   have t1:decide ((T.nodes.length:Int)<=i)=true:=by simp[hN]
   clear hr h0 hN hkc hkr;go_wp2_with fail;refine bq (.int .i64 0) ?_
   exact⟨by rw[hR.out],B2.out⟩
  obtain⟨m,rfl⟩:∃m:Nat,i=m:=⟨i.toNat,by omega⟩
  have hm:m<T.nodes.length:=by omega
  obtain⟨n,hn⟩:=j0q hm
  have hR:Hid (res=K1 m):=by show _=_;rw[<-hres.out,jbk,if_pos (by omega),hr];rfl
  obtain⟨nb,no,rfl,_,_,s',c',e0,_,_,_,_⟩:=j15 ((HT.out.later B2.out).n) hn
  obtain⟨y0,y1,y2⟩:=KT2.out.two
  have t0:decide ((m:Int)<0)=false:=by simp
  have t1:decide ((T.nodes.length:Int)<=(m:Int))=false:=by simp;omega
  have mI:(m:Int)<(T.nodes.length:Int):=by omega
  have hq:=jj8 hr
  have hnd:=j0j hn
  have v0:=hkc m hm
  clear hr h0 hN hkc;by_cases he:isE n.kind
  ·
   have hv:((rl n.kind).toNat:Int)=101:=by rw[rl_e he];rfl
   have hK:Hid (K1 m=Kp m):=(hkr m hm (by rw[hnd];exact he)).symm
   clear hq hkr hnd he;go_wp2_with fail;refine(j5r n.kind w2).mono ?_
   rintro e w3 ⟨rfl,rfl⟩
   rw[hv]
   go_wp2_with fail;refine bq (.int .i64 (Kp m)) ?_
   exact⟨by rw[hR.out,hK.out],B2.out⟩
  have hv:(((rl n.kind).toNat:Int) != 101)=true:=by
   have h:=jm3 he
   simp only[bne_iff_ne,ne_eq]
   intro e
   have e2:(rl n.kind).toNat=101:=by omega
   exact h (UInt8.toNat_inj.1 (by rw[e2];rfl))
  have hK:Hid (K1 m=0):=hq m (by rw[hnd];exact he)
  clear hq hkr hnd he;go_wp2_with fail;refine(j5r n.kind w2).mono ?_
  rintro e w3 ⟨rfl,rfl⟩
  go_wp2_with fail;refine bq (.int .i64 0) ?_
  exact⟨by rw[hR.out,hK.out],B2.out⟩
end
section
open Go.RowKit
theorem jhn (w:World) (c d:Array Value) (t u:TypeId):Blk ((w.alloc (.cells c t)).alloc (.cells d u)) w.heap.size c t/\Blk ((w.alloc (.cells c t)).alloc (.cells d u)) (w.heap.size+1) d u/\Below w.heap.size w ((w.alloc (.cells c t)).alloc (.cells d u)) :=
 ⟨(Blk.new w c t).alloc _,Blk.new' _ d u (by simp),j00 (j00 (Below.refl _ _) _) _⟩
theorem jax (s t:Option Addr) (cs ct:Nat) (n:Nd) (B C:Nat) (w:World) (hs:Els 1 cInt w B s n.kids) (ht:Els 1 cInt w C t n.kids) (hk:j5f n) :
  Calls Tryz.prog 46 #[.agg #[.int .i64 n.kind,.string n.text,.int .i64 n.num,.slice s n.kids.length cs],.agg #[.int .i64 n.kind,.string n.text,.int .i64 n.num,.slice t n.kids.length ct]] w λe w'=>e=.returned (.bool true)/\Below w.heap.size w w':=by
 have q0:(n.kind != n.kind)=false:=by simp
 have q1:(n.num != n.num)=false:=by simp
 have q2:(n.text.toList ==n.text.toList)=true:=by simp
 obtain⟨k0,k1,L0⟩:=jhn w #[.int .i64 n.kind,.string n.text,.int .i64 n.num,.slice s n.kids.length cs] #[.int .i64 n.kind,.string n.text,.int .i64 n.num,.slice t n.kids.length ct] 73 73
 obtain⟨x0,x1,x2,x3,x4⟩:=k0.four'
 obtain⟨y0,y1,y2,y3,y4⟩:=k1.four'
 go_enter Tryz.func46,Tryz.ntmps46
 go_wp2_with fail;refine(j7z s t cs ct n.kids n.kids _ (hs.later j07 L0).ints (ht.later j07 L0).ints hk.2).mono ?_
 rintro e w3 ⟨rfl,hb3⟩
 rw[show decide (n.kids=n.kids)=true by simp]
 go_wp2_with fail;go_ret;exact⟨rfl,j01 L0 hb3⟩
theorem j9k (s t:Option Addr) (c d:Nat) (L:List Nd) (B C:Nat) (w:World) (hs:Els 4 j1r w B s L) (ht:Els 4 j1r w C t L) (hl:L.length<=1048576) (hk:∀n∈L,j5f n) :
  Calls Tryz.prog 27 #[.slice s L.length c,.slice t L.length d] w λe w'=>e=.returned (.bool true)/\Below w.heap.size w w':=by
 have hal:=alloc_old
 have haf:=j04
 have HK:Hid (∀n∈L,j5f n):=hk
 clear hk;go_enter Tryz.func27,Tryz.ntmps27
 go_wp2_with fail;go_loopw [5] (λi wr=>∃k:Nat,k<=L.length/\i=.int .i64 k/\Below w.heap.size w wr) (λi _=>L.length-(intOf i).toNat)
 case atStart=>exact⟨0,Nat.zero_le _,rfl,Below.refl _ _⟩
 obtain⟨k,hk,rfl,hb⟩:=hrel
 by_cases hlt:k<L.length
 ·
  obtain⟨a,ha⟩:=j0q hlt
  obtain⟨b,o,rfl,_,hp,s',c',e0,e1,e2,e3,f⟩:=j15 (hs.later j08 hb) ha
  obtain⟨b',o',rfl,_,hp',t',d',f0,f1,f2,f3,g⟩:=j15 (ht.later j08 hb) ha
  have hka:Hid (j5f a):=HK.out a (List.mem_of_getElem? ha)
  have PH:Hid (Els 1 cInt wr B s' a.kids/\Els 1 cInt wr C t' a.kids):=⟨f,g⟩
  clear hs ht ha f g;go_wp2_with fail;go_region_with (first
   | (go_at_call 46;refine(jax s' t' c' d' a B C _ (PH.out.1.later j07 (j02 (Below.refl _ _))) (PH.out.2.later j07 (j02 (Below.refl _ _))) hka.out).mono ?_;rintro e w2 ⟨rfl,hb2⟩))
  all_goals
   go_wp2_with fail;go_roundw
   case rel =>
    refine⟨k+1,by omega,by go_num,?_⟩
    exact blq
   case measure=>simp[intOf];omega
 go_wp2_with fail;go_ret;exact⟨rfl,hb⟩
theorem jam (s1 s2 t1 t2:Option Addr) (c1 c2 d1 d2:Nat) (t:Tre) (B C:Nat) (w:World) (hs:InT w B s1 s2 t) (ht:InT w C t1 t2 t) (hk:kTre t) :
  Calls Tryz.prog 12 #[.agg #[.slice s1 t.nodes.length c1,.slice s2 t.tops.length c2],.agg #[.slice t1 t.nodes.length d1,.slice t2 t.tops.length d2]] w λe w'=>e=.returned (.bool true)/\Below w.heap.size w w':=by
 obtain⟨⟨m1,m2⟩,m3⟩:=hk
 obtain⟨k0,k1,L0⟩:=jhn w #[.slice s1 t.nodes.length c1,.slice s2 t.tops.length c2] #[.slice t1 t.nodes.length d1,.slice t2 t.tops.length d2] 39 39
 obtain⟨x0,x1,x2⟩:=k0.two
 obtain⟨y0,y1,y2⟩:=k1.two
 go_enter Tryz.func12,Tryz.ntmps12
 go_wp2_with fail;refine(j9k s1 t1 c1 d1 t.nodes B C _ (hs.n.later j08 L0) (ht.n.later j08 L0) m1 m2).mono ?_
 rintro e w1 ⟨rfl,hb1⟩
 have L1:=j01 L0 hb1
 have k0:=k0.later hb1
 have k1:=k1.later hb1
 clear x0 x1 x2 y0 y1 y2 hb1 L0 m2;obtain⟨x0,x1,x2⟩:=k0.two
 obtain⟨y0,y1,y2⟩:=k1.two
 go_wp2_with fail;refine(j7z s2 t2 c2 d2 t.tops t.tops _ (hs.t.later j07 L1).ints (ht.t.later j07 L1).ints m3).mono ?_
 rintro e w3 ⟨rfl,hb3⟩
 rw[show decide (t.tops=t.tops)=true by simp]
 go_wp2_with fail;go_ret;exact⟨rfl,j01 L1 hb3⟩
end
section
open Go.RowKit Go.Maps Go.WideMaps
def Dc (w:World) (s:Option Addr) (L:List (ByteArray×Int)):Prop:=j0y w s L/\Nms L/\L.length<=maxLen
theorem nms3 {A B C:List (ByteArray×Int)} (a:Nms A) (b:Nms B) (c:Nms C):∀i,i<(A++B++C).length->(dAt (A++B++C) i).1.size<=maxLen:=by
 intro i hi
 have:=jaz hi
 rw[List.mem_append,List.mem_append] at this
 rcases this with (h|h)|h
 ·
  exact a _ h
 ·
  exact b _ h
 exact c _ h
end
section
open Go.RowKit Go.Maps Go.WideMaps
theorem j6s (i:Int) (s1 s2 s3 n1 n2:Option Addr) (c1 c2 c3 d1 d2:Nat) (A B C:List (ByteArray×Int)) (T:Tre) (w:World) (gA:Dc w s1 A) (gB:Dc w s2 B) (gC:Dc w s3 C) (hT:InT w 0 n1 n2 T) (mT:mTre T) :
  Calls Tryz.prog 4 #[.agg #[.slice s1 A.length c1,.slice s2 B.length c2,.slice s3 C.length c3],.agg #[.slice n1 T.nodes.length d1,.slice n2 T.tops.length d2],.int .i64 i] w λe w'=>e=.returned (.bool true)/\Below w.heap.size w w':=by
 obtain⟨hA,nA,mA⟩:=gA
 obtain⟨hB,nB,mB⟩:=gB
 obtain⟨hC,nC,mC⟩:=gC
 have nm:=nms3 nA nB nC
 have b1:Below w.heap.size w ((w.alloc (.cells #[.slice s1 A.length c1,.slice s2 B.length c2,.slice s3 C.length c3] 24)).alloc (.cells #[.slice n1 T.nodes.length d1,.slice n2 T.tops.length d2] 28)):=j00 (j00 (Below.refl _ _) _) _
 have kr:=Blk.alloc (Blk.new w #[.slice s1 A.length c1,.slice s2 B.length c2,.slice s3 C.length c3] 24) (.cells #[.slice n1 T.nodes.length d1,.slice n2 T.tops.length d2] 28)
 have kt:=Blk.new' (n:=w.heap.size+1) (w.alloc (.cells #[.slice s1 A.length c1,.slice s2 B.length c2,.slice s3 C.length c3] 24)) #[.slice n1 T.nodes.length d1,.slice n2 T.tops.length d2] 28 (by simp)
 obtain⟨x0,x1,x2,x3⟩:=kr.three
 have hsr:=jgt s1 s2 s3 c1 c2 c3 A B C _ (hA.later b1) (hB.later b1) (hC.later b1) nA nB nC mA mB mC
 have B1:=Hid.mk' b1
 have KR:=Hid.mk' kr
 have KT:=Hid.mk' kt
 have HA:=Hid.mk' hA
 have HB:=Hid.mk' hB
 have HC:=Hid.mk' hC
 have HT:=Hid.mk' hT
 have MT:=Hid.mk' mT
 have NM:=Hid.mk' nm
 clear hA hB hC hT mT kr kt b1 nA nB nC mA mB mC nm;go_enter Tryz.func4,Tryz.ntmps4
 go_wp2_with fail;refine hsr.mono ?_
 rintro e w1 ⟨⟨r,rfl,hr⟩,hb1⟩
 have L1:Hid (Below w.heap.size w w1):=B1.out.trans (hb1.mono B1.out.size)
 have KR1:=Hid.mk' (KR.out.later hb1)
 have KT1:=Hid.mk' (KT.out.later hb1)
 clear hsr x0 x1 x2 x3 hb1 KR KT B1;rcases hr with rfl|⟨r0,r9,lA,lB,lC⟩
 ·
  go_wp2_with fail;go_ret;exact⟨rfl,L1.out⟩
 have t2:decide (r<0)=false:=by simp;omega
 obtain⟨y0,y1,y2⟩:=KT1.out.two
 have hst:=jd0 n1 n2 d1 d2 T 0 r w1 (HT.out.later L1.out) MT.out r0 r9
 go_wp2_with fail;refine hst.mono ?_
 rintro e X ⟨⟨r2,rfl,hr2⟩,hb2⟩
 have L2:Hid (Below w.heap.size w X):=L1.out.trans (hb2.mono L1.out.size)
 have KR2:=Hid.mk' (KR1.out.later hb2)
 have KT2:=Hid.mk' (KT1.out.later hb2)
 clear hst y0 y1 y2 hb2 KR1 KT1 L1 t2 r0 r9;rcases hr2 with rfl|⟨q0,q9,hk⟩
 ·
  go_wp2_with fail;go_ret;exact⟨rfl,L2.out⟩
 have t2:decide (r2<0)=false:=by simp;omega
 have HKT:=Hid.mk' hk
 clear q9 hk;obtain⟨k1,hck⟩:∃a,Hid (kdA A B C T i=a):=⟨_,rfl⟩
 go_wp2_with fail;clear t2 q0;have hx1:w.heap.size<X.heap.size:=KR2.out.lt
 have hx2:w.heap.size+1<X.heap.size:=KT2.out.lt
 have hS:Hid (∀Y,Below X.heap.size X Y->Y.cell? ⟨w.heap.size,0,none⟩=some (.slice s1 A.length c1)/\Y.cell? ⟨w.heap.size,1,none⟩=some (.slice s2 B.length c2)/\Y.cell? ⟨w.heap.size,2,none⟩=some (.slice s3 C.length c3)/\Y.cell? ⟨w.heap.size+1,0,none⟩=some (.slice n1 T.nodes.length d1)/\Y.cell? ⟨w.heap.size+1,1,none⟩=some (.slice n2 T.tops.length d2)):=λY hY=>⟨(hY.cell (p:=⟨w.heap.size,0,none⟩) hx1).trans ((KR2.out.cell 0).trans rfl),(hY.cell (p:=⟨w.heap.size,1,none⟩) hx1).trans ((KR2.out.cell 1).trans rfl),(hY.cell (p:=⟨w.heap.size,2,none⟩) hx1).trans ((KR2.out.cell 2).trans rfl),(hY.cell (p:=⟨w.heap.size+1,0,none⟩) hx2).trans ((KT2.out.cell 0).trans rfl),(hY.cell (p:=⟨w.heap.size+1,1,none⟩) hx2).trans ((KT2.out.cell 1).trans rfl)⟩
 refine wp_region_held_drew (S:=λY=>Y.cell? ⟨w.heap.size,0,none⟩=some (.slice s1 A.length c1)/\Y.cell? ⟨w.heap.size,1,none⟩=some (.slice s2 B.length c2)/\Y.cell? ⟨w.heap.size,2,none⟩=some (.slice s3 C.length c3)/\Y.cell? ⟨w.heap.size+1,0,none⟩=some (.slice n1 T.nodes.length d1)/\Y.cell? ⟨w.heap.size+1,1,none⟩=some (.slice n2 T.tops.length d2)) (by kernel_rfl) ?_ (λhHeld=>?_)
 ·
  exact hS.out _ (j02 (Below.refl _ _))
 have BX:Hid (Below X.heap.size X X.drew):=j02 (Below.refl _ _)
 refine wpr 0 22 ?_;simp only[zs];refine wpr 2 24 ?_;simp only[zs];refine wpr 4 26 ?_;simp only[zs];refine wpAnyH_ready (rs:=[1]) (by kernel_rfl) (by simp) ?_
 refine AllReadyH.cons rfl (λKQ hK=>?_) AllReadyH.nil
 go_simp;have LX:Below w.heap.size w _:=L2.out.trans (BX.out.mono L2.out.size)
 refine(j6l s1 s2 s3 c1 c2 c3 A B C _ (HA.out.later LX) (HB.out.later LX) (HC.out.later LX) lA lB lC).mono ?_
 rintro e g1 ⟨⟨ra,rb,rc,rfl,dA,dB,dC⟩,hb⟩
 have BX0:=BX
 have BX:Hid (Below X.heap.size X g1):=j01 BX0.out hb
 have DA:=Hid.mk' dA
 have DB:=Hid.mk' dB
 have DC:=Hid.mk' dC
 clear dA dB dC LX;clear hb BX0;refine hK.out _ _ (hS.out _ BX.out) (λhHeld=>?_)
 clear hK KQ;try simp only[zs]
 refine wpAnyH_ready (rs:=[3]) (by kernel_rfl) (by simp) ?_
 refine AllReadyH.cons rfl (λKQ hK=>?_) AllReadyH.nil
 go_simp;have LX:Below w.heap.size w _:=L2.out.trans (BX.out.mono L2.out.size)
 refine(j4d n1 n2 d1 d2 T 0 _ (HT.out.later LX) HKT.out).mono ?_
 rintro e g2 ⟨⟨ta,tb,rfl,dT,_⟩,hb⟩
 have BX0:=BX
 have BX:Hid (Below X.heap.size X g2):=j01 BX0.out hb
 have DT:=Hid.mk' dT
 clear dT LX;have DA:=Hid.mk' (DA.out.later hb)
 have DB:=Hid.mk' (DB.out.later hb)
 have DC:=Hid.mk' (DC.out.later hb)
 clear hb BX0;refine hK.out _ _ (hS.out _ BX.out) (λhHeld=>?_)
 clear hK KQ;try simp only[zs]
 refine wpAnyH_ready (rs:=[5]) (by kernel_rfl) (by simp) ?_
 refine AllReadyH.cons rfl (λKQ hK=>?_) AllReadyH.nil
 go_simp;refine(j7n i ra 0 rb 0 rc 0 (some ⟨ta,0,none⟩) (some ⟨tb,0,none⟩) A.length B.length C.length T.nodes.length T.tops.length _ A B C T _ DA.out DB.out DC.out DT.out HKT.out).mono ?_
 rintro e Z ⟨rfl,hb⟩
 have BX0:=BX
 have BX:Hid (Below X.heap.size X Z):=j01 BX0.out hb
 rw[hck.out]
 clear hb BX0 DA DB DC DT;refine hK.out _ _ (hS.out _ BX.out) (λhHeld=>?_)
 clear hK KQ;try simp only[zs]
 refine wpr 6 8 ?_;simp only[zs];refine wpAnyH_done (by kernel_rfl) ?_ _
 clear hHeld hS;have L3:Hid (Below w.heap.size w Z):=L2.out.trans (BX.out.mono L2.out.size)
 have KR3:=Hid.mk' (KR2.out.later BX.out)
 have KT3:=Hid.mk' (KT2.out.later BX.out)
 clear BX L2 KR2 KT2 hx1 hx2;obtain⟨x0,x1,x2,x3⟩:=KR3.out.three
 have htr:=j6l s1 s2 s3 c1 c2 c3 A B C _ (HA.out.later L3.out) (HB.out.later L3.out) (HC.out.later L3.out) lA lB lC
 go_wp2_with fail;refine htr.mono ?_
 rintro e w4 ⟨⟨a4,b4,e4,rfl,dA,dB,dC⟩,hb4⟩
 have hal:Below w4.heap.size w4 (w4.alloc (.cells #[.slice (some ⟨a4,0,none⟩) A.length A.length,.slice (some ⟨b4,0,none⟩) B.length B.length,.slice (some ⟨e4,0,none⟩) C.length C.length] 35)):=j00 (Below.refl _ _) _
 have hb:=hb4.trans (hal.mono hb4.size)
 have L4:Hid (Below w.heap.size w (w4.alloc (.cells #[.slice (some ⟨a4,0,none⟩) A.length A.length,.slice (some ⟨b4,0,none⟩) B.length B.length,.slice (some ⟨e4,0,none⟩) C.length C.length] 35))):=L3.out.trans (hb.mono L3.out.size)
 have KR4:=Hid.mk' (KR3.out.later hb)
 have KT4:=Hid.mk' (KT3.out.later hb)
 have J4:=Hid.mk' (Blk.new w4 #[.slice (some ⟨a4,0,none⟩) A.length A.length,.slice (some ⟨b4,0,none⟩) B.length B.length,.slice (some ⟨e4,0,none⟩) C.length C.length] 35)
 have DA:=Hid.mk' (dA.later hal)
 have DB:=Hid.mk' (dB.later hal)
 have DC:=Hid.mk' (dC.later hal)
 clear htr x0 x1 x2 x3 hb4 hal hb dA dB dC L3 KR3 KT3;obtain⟨y0,y1,y2⟩:=KT4.out.two
 go_wp2_with fail;generalize w4.alloc (.cells #[.slice (some ⟨a4,0,none⟩) A.length A.length,.slice (some ⟨b4,0,none⟩) B.length B.length,.slice (some ⟨e4,0,none⟩) C.length C.length] 35)=Y4 at L4 KR4 KT4 J4 DA DB DC y0 y1 y2 ⊢
 refine(j4d n1 n2 d1 d2 T 0 _ (HT.out.later L4.out) HKT.out).mono ?_
 rintro e w5 ⟨⟨a5,b5,rfl,hI,hC5⟩,hb5⟩
 have hal:Below w5.heap.size w5 (w5.alloc (.cells #[.slice (some ⟨a5,0,none⟩) T.nodes.length T.nodes.length,.slice (some ⟨b5,0,none⟩) T.tops.length T.tops.length] 39)):=j00 (Below.refl _ _) _
 have hb:=hb5.trans (hal.mono hb5.size)
 have L5:Hid (Below w.heap.size w (w5.alloc (.cells #[.slice (some ⟨a5,0,none⟩) T.nodes.length T.nodes.length,.slice (some ⟨b5,0,none⟩) T.tops.length T.tops.length] 39))):=L4.out.trans (hb.mono L4.out.size)
 have KR5:=Hid.mk' (KR4.out.later hb)
 have KT5:=Hid.mk' (KT4.out.later hb)
 have J5:=Hid.mk' (J4.out.later hb)
 have M5:=Hid.mk' (Blk.new w5 #[.slice (some ⟨a5,0,none⟩) T.nodes.length T.nodes.length,.slice (some ⟨b5,0,none⟩) T.tops.length T.tops.length] 39)
 have DA:=Hid.mk' (DA.out.later hb)
 have DB:=Hid.mk' (DB.out.later hb)
 have DC:=Hid.mk' (DC.out.later hb)
 have DI:=Hid.mk' (hI.later hal)
 have DCC:=Hid.mk' (hC5.later j1s hal)
 clear y0 y1 y2 hb5 hal hb hI hC5 L4 KR4 KT4 J4;obtain⟨x0,x1,x2,x3⟩:=J5.out.three
 obtain⟨y0,y1,y2⟩:=M5.out.two
 go_wp2_with fail;generalize w5.alloc (.cells #[.slice (some ⟨a5,0,none⟩) T.nodes.length T.nodes.length,.slice (some ⟨b5,0,none⟩) T.tops.length T.tops.length] 39)=Y5 at L5 KR5 KT5 J5 M5 DA DB DC DI DCC x0 x1 x2 x3 y0 y1 y2 ⊢
 generalize w4.heap.size=z4 at J5 x0 x1 x2 x3 ⊢
 generalize w5.heap.size=z5 at M5 y0 y1 y2 ⊢
 have hci:=j7q i (some ⟨a4,0,none⟩) (some ⟨b4,0,none⟩) (some ⟨e4,0,none⟩) (some ⟨a5,0,none⟩) (some ⟨b5,0,none⟩) A.length B.length C.length T.nodes.length T.tops.length _ A B C T Y5 DA.out DB.out DC.out NM.out lA lB lC DI.out DCC.out HKT.out
 refine hci.mono ?_
 rintro e V ⟨rfl,hb⟩
 rw[hck.out]
 have L6:Hid (Below w.heap.size w V):=L5.out.trans (hb.mono L5.out.size)
 have KR6:=Hid.mk' (KR5.out.later hb)
 have KT6:=Hid.mk' (KT5.out.later hb)
 have J6:=Hid.mk' (J5.out.later hb)
 have M6:=Hid.mk' (M5.out.later hb)
 have DA:=Hid.mk' (DA.out.later hb)
 have DB:=Hid.mk' (DB.out.later hb)
 have DC:=Hid.mk' (DC.out.later hb)
 have DI:=Hid.mk' (DI.out.later hb)
 clear hci x0 x1 x2 x3 y0 y1 y2 hb L5 KR5 KT5 J5 M5 DCC;have q1:(k1 != k1)=false:=by simp
 go_wp2_with fail;clear q1;have hx1:w.heap.size<V.heap.size:=KR6.out.lt
 have hx2:w.heap.size+1<V.heap.size:=KT6.out.lt
 have hx4:z4<V.heap.size:=J6.out.lt
 have hx5:z5<V.heap.size:=M6.out.lt
 have hS:Hid (∀Y,Below V.heap.size V Y->Y.cell? ⟨z4,0,none⟩=some (.slice (some ⟨a4,0,none⟩) A.length A.length)/\Y.cell? ⟨z4,1,none⟩=some (.slice (some ⟨b4,0,none⟩) B.length B.length)/\Y.cell? ⟨z4,2,none⟩=some (.slice (some ⟨e4,0,none⟩) C.length C.length)/\Y.cell? ⟨w.heap.size,0,none⟩=some (.slice s1 A.length c1)/\Y.cell? ⟨w.heap.size,1,none⟩=some (.slice s2 B.length c2)/\Y.cell? ⟨w.heap.size,2,none⟩=some (.slice s3 C.length c3)):=λY hY=>⟨(hY.cell (p:=⟨z4,0,none⟩) hx4).trans ((J6.out.cell 0).trans rfl),(hY.cell (p:=⟨z4,1,none⟩) hx4).trans ((J6.out.cell 1).trans rfl),(hY.cell (p:=⟨z4,2,none⟩) hx4).trans ((J6.out.cell 2).trans rfl),(hY.cell (p:=⟨w.heap.size,0,none⟩) hx1).trans ((KR6.out.cell 0).trans rfl),(hY.cell (p:=⟨w.heap.size,1,none⟩) hx1).trans ((KR6.out.cell 1).trans rfl),(hY.cell (p:=⟨w.heap.size,2,none⟩) hx1).trans ((KR6.out.cell 2).trans rfl)⟩
 refine wp_region_held_drew (S:=λY=>Y.cell? ⟨z4,0,none⟩=some (.slice (some ⟨a4,0,none⟩) A.length A.length)/\Y.cell? ⟨z4,1,none⟩=some (.slice (some ⟨b4,0,none⟩) B.length B.length)/\Y.cell? ⟨z4,2,none⟩=some (.slice (some ⟨e4,0,none⟩) C.length C.length)/\Y.cell? ⟨w.heap.size,0,none⟩=some (.slice s1 A.length c1)/\Y.cell? ⟨w.heap.size,1,none⟩=some (.slice s2 B.length c2)/\Y.cell? ⟨w.heap.size,2,none⟩=some (.slice s3 C.length c3)) (by kernel_rfl) ?_ (λhHeld=>?_)
 ·
  exact hS.out _ (j02 (Below.refl _ _))
 have BX:Hid (Below V.heap.size V V.drew):=j02 (Below.refl _ _)
 refine wpr 0 39 ?_;simp only[zs];refine wpr 1 40 ?_;simp only[zs];refine wpAnyH_ready (rs:=[2]) (by kernel_rfl) (by simp) ?_
 refine AllReadyH.cons rfl (λKQ hK=>?_) AllReadyH.nil
 go_simp;have LX:Below w.heap.size w _:=L6.out.trans (BX.out.mono L6.out.size)
 refine(j6l s1 s2 s3 c1 c2 c3 A B C _ (HA.out.later LX) (HB.out.later LX) (HC.out.later LX) lA lB lC).mono ?_
 rintro e g1 ⟨⟨ra,rb,rc,rfl,dA,dB,dC⟩,hb⟩
 have BX0:=BX
 have BX:Hid (Below V.heap.size V g1):=j01 BX0.out hb
 have GA:=Hid.mk' dA
 have GB:=Hid.mk' dB
 have GC:=Hid.mk' dC
 clear dA dB dC LX;have DA1:=Hid.mk' (DA.out.later BX.out)
 have DB1:=Hid.mk' (DB.out.later BX.out)
 have DC1:=Hid.mk' (DC.out.later BX.out)
 clear hb BX0;refine hK.out _ _ (hS.out _ BX.out) (λhHeld=>?_)
 clear hK KQ;try simp only[zs]
 refine wpAnyH_ready (rs:=[3]) (by kernel_rfl) (by simp) ?_
 refine AllReadyH.cons rfl (λKQ hK=>?_) AllReadyH.nil
 go_simp;refine(jcm _ _ _ _ _ _ _ _ _ _ _ _ A B C _ DA1.out DB1.out DC1.out GA.out GB.out GC.out lA lB lC).mono ?_
 rintro e U ⟨rfl,hb⟩
 have BX0:=BX
 have BX:Hid (Below V.heap.size V U):=j01 BX0.out hb
 clear hb BX0;refine hK.out _ _ (hS.out _ BX.out) (λhHeld=>?_)
 clear hK KQ;try simp only[zs]
 refine wpr 4 43 ?_;simp only[zs];refine wpAnyH_done (by kernel_rfl) ?_ _
 clear hHeld hS;have L7:Hid (Below w.heap.size w U):=L6.out.trans (BX.out.mono L6.out.size)
 have KT7:=Hid.mk' (KT6.out.later BX.out)
 have M7:=Hid.mk' (M6.out.later BX.out)
 have DI7:=Hid.mk' (DI.out.later BX.out)
 clear GA GB GC DA1 DB1 DC1 DA DB DC DI BX L6 KT6 KR6 J6 M6 hx1 hx2 hx4 hx5;go_wp2_with fail;have hx2:w.heap.size+1<U.heap.size:=KT7.out.lt
 have hx5:z5<U.heap.size:=M7.out.lt
 have hS:Hid (∀Y,Below U.heap.size U Y->Y.cell? ⟨z5,0,none⟩=some (.slice (some ⟨a5,0,none⟩) T.nodes.length T.nodes.length)/\Y.cell? ⟨z5,1,none⟩=some (.slice (some ⟨b5,0,none⟩) T.tops.length T.tops.length)/\Y.cell? ⟨w.heap.size+1,0,none⟩=some (.slice n1 T.nodes.length d1)/\Y.cell? ⟨w.heap.size+1,1,none⟩=some (.slice n2 T.tops.length d2)):=λY hY=>⟨(hY.cell (p:=⟨z5,0,none⟩) hx5).trans ((M7.out.cell 0).trans rfl),(hY.cell (p:=⟨z5,1,none⟩) hx5).trans ((M7.out.cell 1).trans rfl),(hY.cell (p:=⟨w.heap.size+1,0,none⟩) hx2).trans ((KT7.out.cell 0).trans rfl),(hY.cell (p:=⟨w.heap.size+1,1,none⟩) hx2).trans ((KT7.out.cell 1).trans rfl)⟩
 refine wp_region_held_drew (S:=λY=>Y.cell? ⟨z5,0,none⟩=some (.slice (some ⟨a5,0,none⟩) T.nodes.length T.nodes.length)/\Y.cell? ⟨z5,1,none⟩=some (.slice (some ⟨b5,0,none⟩) T.tops.length T.tops.length)/\Y.cell? ⟨w.heap.size+1,0,none⟩=some (.slice n1 T.nodes.length d1)/\Y.cell? ⟨w.heap.size+1,1,none⟩=some (.slice n2 T.tops.length d2)) (by kernel_rfl) ?_ (λhHeld=>?_)
 ·
  exact hS.out _ (j02 (Below.refl _ _))
 have BX:Hid (Below U.heap.size U U.drew):=j02 (Below.refl _ _)
 refine wpr 0 44 ?_;simp only[zs];refine wpr 1 45 ?_;simp only[zs];refine wpAnyH_ready (rs:=[2]) (by kernel_rfl) (by simp) ?_
 refine AllReadyH.cons rfl (λKQ hK=>?_) AllReadyH.nil
 go_simp;have LX:Below w.heap.size w _:=L7.out.trans (BX.out.mono L7.out.size)
 refine(j4d n1 n2 d1 d2 T 0 _ (HT.out.later LX) HKT.out).mono ?_
 rintro e g1 ⟨⟨ta,tb,rfl,dT,_⟩,hb⟩
 have BX0:=BX
 have BX:Hid (Below U.heap.size U g1):=j01 BX0.out hb
 have DT:=Hid.mk' dT
 clear dT LX;have DI8:=Hid.mk' (DI7.out.later BX.out)
 clear hb BX0;refine hK.out _ _ (hS.out _ BX.out) (λhHeld=>?_)
 clear hK KQ;try simp only[zs]
 refine wpAnyH_ready (rs:=[3]) (by kernel_rfl) (by simp) ?_
 refine AllReadyH.cons rfl (λKQ hK=>?_) AllReadyH.nil
 go_simp;refine(jam _ _ _ _ _ _ _ _ T _ _ _ DI8.out DT.out HKT.out).mono ?_
 rintro e Q ⟨rfl,hb⟩
 have BX0:=BX
 have BX:Hid (Below U.heap.size U Q):=j01 BX0.out hb
 clear hb BX0;refine hK.out _ _ (hS.out _ BX.out) (λhHeld=>?_)
 clear hK KQ;try simp only[zs]
 refine wpr 4 48 ?_;simp only[zs];refine wpAnyH_done (by kernel_rfl) ?_ _
 clear hHeld hS;have L8:Hid (Below w.heap.size w Q):=L7.out.trans (BX.out.mono L7.out.size)
 go_wp2_with fail;go_ret;exact⟨rfl,L8.out⟩
end
section
open Go.ChangeShapes Go.WideShapes Go.ChangeAt Go.RowKit Go.Joins
theorem Tryz.own:ownKnob Tryz.prog.godebug=none:=by kernel_rfl
theorem Tryz.laidOut:laidOutB Tryz.prog=true:=by kernel_rfl
theorem Tryz.cellsI:Tryz.prog.cellsOf 3=1:=by kernel_rfl
theorem Tryz.cellsIs:Tryz.prog.cellsOf 26=1:=by kernel_rfl
section
variable {H:Type} {enc:TypeId×Value->H} {w:World} {base:Nat} {spare:Nat->Bool} {held:Bool}
theorem j8m {n:Int} (h:(Lit.int .i64 n).wf=true):-9223372036854775808<=n/\n<=9223372036854775807:=by
 have e1:IntKind.i64.min=-9223372036854775808:=by decide +kernel
 have e2:IntKind.i64.max=9223372036854775807:=by decide +kernel
 simp only[Lit.wf,Bool.and_eq_true,decide_eq_true_eq,e1,e2] at h
 exact h
theorem jab {α:Type} {t e:TypeId} {k:Nat} {E:World->Nat->List Value->α->Prop} {ok:α->Prop} (ht:Tryz.prog.underlying t=some (.slice e)) (hc:Tryz.prog.cellsOf e=k) (hk:0<k)
  (one:∀(m:Nat) (cs:List Value) (y:DataW H×List MemPlace),DataW.trod enc Tryz.prog w base spare held m e cs=some y->∃a,E w 0 cs a/\ok a)
  {fuel:Nat} {cs0:List Value} {y:DataW H×List MemPlace} (h:DataW.trod enc Tryz.prog w base spare held fuel t cs0=some y) :
  ∃s c L,cs0=[.slice s (List.length (α:=α) L) c]/\Els k E w 0 s L/\(∀a∈L,ok a)/\L.length<=9223372036854775807:=by
 subst hc
 rcases DataW.trod_slice ht h with ⟨hcs,_⟩|⟨a,len,cap,elems,rest,n,_,hcs,_,hb,hl,hm,hlen,hel,_,_⟩
 ·
  exact⟨none,0,[],hcs,Or.inl rfl,λa ha=>by simp at ha,by simp⟩
 have each:∀i,i<len->∃(x:α) (cs:List Value),cs.length=Tryz.prog.cellsOf e/\(∀j,j<Tryz.prog.cellsOf e->w.cell? ((a.add (i*Tryz.prog.cellsOf e)).add j)=cs[j]?)/\E w 0 cs x/\ok x:=by
  intro i hi
  have:=hel i hi
  obtain⟨q,hq⟩:∃q,elems[i]?=some q:=⟨elems[i],by simp[hlen,hi]⟩
  rw[hq,Option.bind_eq_some_iff] at this
  obtain⟨cs,hcs',hy⟩:=this
  have hc:=World.cells?_some hcs'
  obtain⟨x,hx,hok⟩:=one _ _ _ hy
  exact⟨x,cs,hc.2.1,hc.2.2,hx,hok⟩
 by_cases h0:len=0
 ·
  subst h0
  exact⟨some a,cap,[],by simpa using hcs,Or.inl rfl,λa ha=>by simp at ha,by simp⟩
 have hlenm:len<=9223372036854775807:=by unfold maxLen at hm;omega
 let g:Nat->α:=λi=>if h:i<len then Classical.choose (each i h) else Classical.choose (each 0 (by omega))
 have hg:∀i,i<len->∃cs,cs.length=Tryz.prog.cellsOf e/\(∀j,j<Tryz.prog.cellsOf e->w.cell? ((a.add (i*Tryz.prog.cellsOf e)).add j)=cs[j]?)/\E w 0 cs (g i)/\ok (g i):=by
  intro i hi
  have:g i=Classical.choose (each i hi):=by simp[g,hi]
  rw[this]
  exact Classical.choose_spec (each i hi)
 have hL:((List.range len).map g).length=len:=by simp
 obtain⟨b,off,spot⟩:=a
 obtain⟨cs00,c00,c01,_⟩:=hg 0 (by omega)
 have h00:=c01 0 hk
 obtain⟨u0,hu0⟩:∃u,cs00[0]?=some u:=⟨cs00[0],by simp[c00,hk]⟩
 rw[hu0] at h00
 have hspot:spot=none:=by simpa[Addr.add] using World.cell?_spot h00
 subst hspot
 refine⟨some ⟨b,off,none⟩,cap,(List.range len).map g,by rw[hL];exact hcs,Or.inr ⟨b,off,rfl,Nat.zero_le _,?_,λj x hx=>?_,λh=>absurd h (by omega)⟩,?_,by rw[hL];exact hlenm⟩
 ·
  have:=World.block_lt_of_cell? _ _ h00
  simpa[Addr.add] using this
 ·
  have hj:j<len:=by
   have:=(List.getElem?_eq_some_iff.1 hx).1
   simpa using this
  obtain⟨cs,d1,d2,d3,d4⟩:=hg j hj
  have ex:x=g j:=by simp[hj] at hx;exact hx.symm
  subst ex
  refine⟨cs,d1,λi u hu=>?_,d3⟩
  have hi:i<Tryz.prog.cellsOf e:=by rw[<-d1];exact(List.getElem?_eq_some_iff.1 hu).1
  have:=d2 i hi
  rw[hu] at this
  rw[Addr.add_add,add_plain,<-Nat.add_assoc] at this
  exact this
 intro x hx
 simp only[List.mem_map,List.mem_range] at hx
 obtain⟨i,hi,rfl⟩:=hx
 obtain⟨_,_,_,_,d4⟩:=hg i hi
 exact d4
end
end
section
open Go.ChangeShapes Go.WideShapes Go.ChangeAt Go.RowKit Go.Joins
theorem Tryz.cellsR:Tryz.prog.cellsOf 24=3:=by kernel_rfl
theorem Tryz.cellsD:Tryz.prog.cellsOf 76=2:=by kernel_rfl
theorem Tryz.cellsS:Tryz.prog.cellsOf 9=1:=by kernel_rfl
section
variable {H:Type} {enc:TypeId×Value->H} {w:World} {base:Nat} {spare:Nat->Bool} {held:Bool}
theorem jfu {n:Nat} {a:Addr} {y:DataW H×List MemPlace} (h:(w.cells? base a 2).bind (DataW.trod enc Tryz.prog w base spare held n 76)=some y) :
  ∃(s:ByteArray) (k:Int),s.size<=maxLen/\w.cell? (a.add 0)=some (.string s)/\w.cell? (a.add 1)=some (.int .i64 k):=by
 rw[Option.bind_eq_some_iff] at h
 obtain⟨cs,hcs,hy⟩:=h
 have hc:=World.cells?_some hcs
 obtain⟨y0,y1,m,_,hlen,h0,h1⟩:=trod_struct2 Tryz.underlying76 hy
 rw[Tryz.cellsD] at hlen
 match cs,hlen with
 | [v0,v1],_ =>
  rw[Tryz.cellsS] at h0
  rw[Tryz.cellsI] at h1
  simp at h0 h1
  obtain⟨s,e0,_,hs⟩:=DataW.trod_string Tryz.underlying9 h0
  obtain⟨k,e1,_,_⟩:=DataW.trod_int Tryz.underlying3 h1
  simp only[List.cons.injEq,and_true] at e0 e1
  subst e0 e1
  have c0:=hc.2.2 0 (by omega)
  have c1:=hc.2.2 1 (by omega)
  exact⟨s,k,hs,by simpa using c0,by simpa using c1⟩
theorem j7b {fuel:Nat} {v:Value} {y:DataW H×List MemPlace} (h:DataW.trod enc Tryz.prog w base spare held fuel 22 [v]=some y) :
  ∃s c L,v=.slice s (List.length (α:=ByteArray×Int) L) c/\Dc w s L:=by
 rcases DataW.trod_slice Tryz.underlying22 h with ⟨hcs,_⟩|⟨a,len,cap,elems,rest,n,_,hcs,_,hb,hl,hm,hlen,hel,_,_⟩
 ·
  simp at hcs
  exact⟨none,0,[],hcs,Or.inl rfl,λp hp=>by simp at hp,by simp⟩
 simp at hcs
 have each:∀i,i<len->∃p:ByteArray×Int,p.1.size<=maxLen/\w.cell? ((a.add (i*2)).add 0)=some (.string p.1)/\w.cell? ((a.add (i*2)).add 1)=some (.int .i64 p.2):=by
  intro i hi
  have:=hel i hi
  rw[Tryz.cellsD] at this
  obtain⟨e,he⟩:∃e,elems[i]?=some e:=⟨elems[i],by simp[hlen,hi]⟩
  rw[he] at this
  obtain⟨s,k,h1,h2,h3⟩:=jfu this
  exact⟨(s,k),h1,h2,h3⟩
 let g:Nat->ByteArray×Int:=λi=>if h:i<len then Classical.choose (each i h) else (ByteArray.empty,0)
 have hg:∀i,i<len->(g i).1.size<=maxLen/\w.cell? ((a.add (i*2)).add 0)=some (.string (g i).1)/\w.cell? ((a.add (i*2)).add 1)=some (.int .i64 (g i).2):=by
  intro i hi
  have:g i=Classical.choose (each i hi):=by simp[g,hi]
  rw[this]
  exact Classical.choose_spec (each i hi)
 have hL:((List.range len).map g).length=len:=by simp
 refine⟨some a,cap,(List.range len).map g,by rw[hL];exact hcs,?_,?_,by rw[hL];omega⟩
 ·
  by_cases he:len=0
  ·
   left;simp[he]
  right
  obtain⟨b,off,spot⟩:=a
  have h0:=(hg 0 (by omega)).2.1
  have hspot:spot=none:=by simpa[Addr.add] using World.cell?_spot h0
  subst hspot
  refine⟨b,off,rfl,?_,λj hj=>?_⟩
  ·
   have:=World.block_lt_of_cell? _ _ h0
   simpa[Addr.add] using this
  rw[hL] at hj
  have e:dAt ((List.range len).map g) j=g j:=by simp[dAt,hj]
  rw[e]
  obtain⟨_,g1,g2⟩:=hg j hj
  rw[Addr.add_add,add_plain] at g1 g2
  exact⟨g1,g2⟩
 intro p hp
 simp only[List.mem_map,List.mem_range] at hp
 obtain⟨i,hi,rfl⟩:=hp
 exact(hg i hi).1
theorem jj0 {r:Reach} {b0:Nat} {v:Value} {d:DataW H} {p:List MemPlace} (hv:Value.okWide Tryz.prog w r b0 24 v) (h:DataW.Trod enc Tryz.prog w base spare held 24 v d p) :
  ∃s1 s2 s3 c1 c2 c3 A B C,v=.agg #[.slice s1 (List.length (α:=ByteArray×Int) A) c1,.slice s2 (List.length (α:=ByteArray×Int) B) c2,.slice s3 (List.length (α:=ByteArray×Int) C) c3]/\Dc w s1 A/\Dc w s2 B/\Dc w s3 C:=by
 obtain⟨v0,v1,v2,y0,y1,y2,n,rfl,rfl,rfl,h0,h1,h2⟩:=open_agg3 Tryz.underlying24 (by kernel_rfl) Tryz.cellsR hv h
 obtain⟨s1,c1,A,rfl,gA⟩:=j7b h0
 obtain⟨s2,c2,B,rfl,gB⟩:=j7b h1
 obtain⟨s3,c3,C,rfl,gC⟩:=j7b h2
 exact⟨s1,s2,s3,c1,c2,c3,A,B,C,rfl,gA,gB,gC⟩
end
end
section
open Go.ChangeShapes Go.WideShapes Go.ChangeAt Go.RowKit Go.Joins
section
variable {H:Type} {enc:TypeId×Value->H} {w:World} {base:Nat} {spare:Nat->Bool} {held:Bool}
theorem jm6 {r:Reach} {b0:Nat} {v:Value} {d:DataW H} {p:List MemPlace} (hv:Value.okWide Tryz.prog w r b0 3 v) (h:DataW.Trod enc Tryz.prog w base spare held 3 v d p) :
  ∃n:Int,v=.int .i64 n/\(-9223372036854775808<=n/\n<=9223372036854775807):=by
 obtain⟨n,rfl,rfl,rfl,wn⟩:=open_int Tryz.underlying3 hv h
 refine⟨n,rfl,?_⟩
 simp[Lit.wf] at wn
 first|exact wn|omega
end
end
section
open Go.ChangeShapes Go.WideShapes Go.ChangeAt Go.RowKit Go.Joins
theorem Tryz.cellsNode:Tryz.prog.cellsOf 78=4:=by kernel_rfl
theorem Tryz.cellsTree:Tryz.prog.cellsOf 28=2:=by kernel_rfl
theorem Tryz.cellsStr:Tryz.prog.cellsOf 9=1:=by kernel_rfl
theorem Tryz.cellsNodeS:Tryz.prog.cellsOf 25=1:=by kernel_rfl
section
variable {H:Type} {enc:TypeId×Value->H} {w:World} {base:Nat} {spare:Nat->Bool} {held:Bool}
theorem jda (m:Nat) (cs:List Value) (y:DataW H×List MemPlace) (h:DataW.trod enc Tryz.prog w base spare held m 3 cs=some y):∃a,cInt w 0 cs a/\okI a:=by
 obtain⟨n,e0,_,wf⟩:=DataW.trod_int Tryz.underlying3 h
 exact⟨n,e0,j8m wf⟩
theorem jiu (m:Nat) (cs:List Value) (y:DataW H×List MemPlace) (h:DataW.trod enc Tryz.prog w base spare held m 78 cs=some y):∃a,j1r w 0 cs a/\jds a:=by
 obtain⟨y0,y1,y2,y3,n,_,hlen,h0,h1,h2,h3⟩:=trod_struct4 Tryz.underlying78 h
 rw[Tryz.cellsNode] at hlen
 match cs,hlen with
 | [v0,v1,v2,v3],_ =>
  simp[Tryz.cellsI,Tryz.cellsStr,Tryz.cellsIs] at h0 h1 h2 h3
  obtain⟨a,e0,_,wa⟩:=DataW.trod_int Tryz.underlying3 h0
  obtain⟨b,e1,_,wb⟩:=DataW.trod_string Tryz.underlying9 h1
  obtain⟨c,e2,_,wc⟩:=DataW.trod_int Tryz.underlying3 h2
  obtain⟨s,cap,L,e3,f3,m3,m4⟩:=jab Tryz.underlying26 Tryz.cellsI (by omega) jda h3
  simp only[List.cons.injEq,and_true] at e0 e1 e2 e3
  subst e0 e1 e2 e3
  exact⟨⟨a,b,c,L⟩,⟨s,cap,rfl,f3⟩,⟨j8m wa,j8m wc⟩,(by have:=wb;unfold maxLen at this;omega),m4,m3⟩
theorem jh2 {r:Reach} {b0:Nat} {v:Value} {d:DataW H} {p:List MemPlace} (hv:Value.okWide Tryz.prog w r b0 28 v) (h:DataW.Trod enc Tryz.prog w base spare held 28 v d p) :
  ∃s1 s2 c1 c2 t,v=.agg #[.slice s1 (Tre.nodes t).length c1,.slice s2 t.tops.length c2]/\InT w 0 s1 s2 t/\mTre t:=by
 obtain⟨cs,rfl,hsz⟩:=okWide_struct Tryz.underlying28 hv
 obtain⟨fuel,hf⟩:=h
 obtain⟨y0,y1,m,_,hlen,g0,g1⟩:=trod_struct2 Tryz.underlying28 hf
 rw[Tryz.cellsTree] at hsz
 obtain⟨l⟩:=cs
 match l,hsz with
 | [v0,v1],_ =>
  simp[Value.cells,Tryz.cellsNodeS,Tryz.cellsIs] at g0 g1
  obtain⟨s1,c1,A,e0,f1,m1,m2⟩:=jab Tryz.underlying25 Tryz.cellsNode (by omega) jiu g0
  obtain⟨s2,c2,B,e1,f2,m3,m4⟩:=jab Tryz.underlying26 Tryz.cellsI (by omega) jda g1
  simp only[List.cons.injEq,and_true] at e0 e1
  subst e0 e1
  exact⟨s1,s2,c1,c2,⟨A,B⟩,rfl,⟨f1,f2⟩,m2,m1,m4,m3⟩
end
end
section
open Go.ChangeShapes Go.WideShapes Go.ChangeAt Go.RowKit Go.Joins
theorem jha (os:Os) (args:Array Value):laidMetH Tryz.prog Rows.fnExactKindOfRow.laid ((World.laidAll Tryz.prog os Rows.fnExactKindOfRow.laid).forCall (λ_ _=>0) ⟨#[],args,[]⟩).memory:=by
 rw[MakeChecks.laidMetH_plain _ _ _ (by kernel_rfl)]
 exact laidMet_laidAll _ (by kernel_rfl) (by kernel_rfl)
theorem lifted (os:Os) (started:os.Started) (H:Type) (enc:TypeId×Value->H) :
  ReturnsInHanded {} Tryz.checked os 4 .any (λw args=>(Rows.fnExactKindOfSpec.pre enc Tryz.prog Tryz.f4 [] false w args/\laidMetH Tryz.prog Rows.fnExactKindOfRow.laid w)/\sizedMet enc Tryz.prog Tryz.f4 (OpenSpec.ofChange Rows.fnExactKindOfSpec) false w args)
   (Rows.fnExactKindOfSpec.post enc Tryz.prog Tryz.f4 false true false false):=by
 refine returnsInHanded_of_change_and (C:=Tryz.checked) (X:=λw _=>laidMetH Tryz.prog Rows.fnExactKindOfRow.laid w) (λ_ _ _ hh h=>h.of_heap hh) Tryz.own started (by kernel_rfl) Tryz.func4
  (ChangeSpec.witness_shaped (enc:=enc) (C:=Tryz.checked) (os:=os) (X:=λw _=>laidMetH Tryz.prog Rows.fnExactKindOfRow.laid w) false (World.laidAll Tryz.prog os Rows.fnExactKindOfRow.laid) #[.agg #[.slice none 0 0,.slice none 0 0,.slice none 0 0],.agg #[.slice none 0 0,.slice none 0 0],.int .i64 0] 8 (World.laidAll_os _ _ _)
   (World.shaped_of_ZipB (by kernel_rfl) (by kernel_rfl)) (by kernel_rfl) (by kernel_rfl) (by kernel_rfl) (jha os _)) ?_
 intro W base args ds gs before hval0 hW _ _ hL _
 have hval:∀(j:Nat) t v,Tryz.f4.params[j]?=some t->args[j]?=some v->Value.okWide Tryz.prog W .any base t v:=hval0
 have hW':=hW
 obtain⟨p,q,hA0,hV,rfl,hfz,hnd⟩:=hW
 have hA:DataW.TrodAll enc Tryz.prog W 0 (λ_=>true) true Tryz.f4.params.toList args.toList ds p:=hA0
 rw[Tryz.params4] at hA hval
 obtain⟨v0,vs0,d0,ds0,p0,q0,hargs,rfl,rfl,h0,r0⟩:=trodAll_cons hA
 obtain⟨v1,vs1,d1,ds1,p1,q1,rfl,rfl,rfl,h1,r1⟩:=trodAll_cons r0
 obtain⟨v2,vs2,d2,ds2,p2,q2,rfl,rfl,rfl,h2,r2⟩:=trodAll_cons r1
 obtain⟨rfl,rfl,rfl⟩:=trodAll_nil r2
 obtain rfl:args=#[v0,v1,v2]:=by cases args;simp_all
 obtain⟨rfl,rfl⟩:=trodVars_none hV
 have k0:=h0
 have lt0:∀x∈p0,x.block<W.heap.size:=by obtain⟨m,hm⟩:=k0;exact DataW.trod_lt m _ _ _ hm
 have k1:=h1
 have lt1:∀x∈p1,x.block<W.heap.size:=by obtain⟨m,hm⟩:=k1;exact DataW.trod_lt m _ _ _ hm
 have k2:=h2
 have lt2:∀x∈p2,x.block<W.heap.size:=by obtain⟨m,hm⟩:=k2;exact DataW.trod_lt m _ _ _ hm
 obtain⟨s1,s2,s3,c1,c2,c3,A,B,C,rfl,gA,gB,gC⟩:=jj0 (hval 0 24 v0 rfl rfl) h0
 obtain⟨a1,a2,e1,e2,T,rfl,hI,hm⟩:=jh2 (hval 1 28 v1 rfl rfl) h1
 obtain⟨n2,rfl,wn2⟩:=jm6 (hval 2 3 v2 rfl rfl) h2
 clear hA0 hval0;refine(j6s n2 s1 s2 s3 a1 a2 c1 c2 c3 e1 e2 A B C T W gA gB gC hI hm).mono λe W' ⟨he,bel⟩=>?_
 subst he
 exact⟨_,rfl,_,_,_,[],_,[],hW',trodAll_mk1 (shut_bool Tryz.underlying4 _),(trodAll_cons_mk (Below.trod Tryz.laidOut (by kernel_rfl) (of_decide_eq_true (by kernel_rfl)) k0 bel lt0) (trodAll_cons_mk (Below.trod Tryz.laidOut (by kernel_rfl) (of_decide_eq_true (by kernel_rfl)) k1 bel lt1) (trodAll_cons_mk (Below.trod Tryz.laidOut (by kernel_rfl) (of_decide_eq_true (by kernel_rfl)) k2 bel lt2) trodAll_mk0))),rfl,bel.frame _,λh=>by cases h⟩
theorem row_holds:Rows.FnExactKindOfSaid :=
 OpenClaim.holds_of_wide 4 Tryz.f4 rfl rfl rfl rfl rfl rfl rfl ⟨rfl,rfl,rfl,rfl,rfl⟩ rfl rfl rfl rfl rfl (by kernel_rfl) Tryz.func4 (by kernel_rfl)
  (of_decide_eq_true (by kernel_rfl)) (by unfold Func.isWrapper;first|(rw[if_pos (by decide +kernel)];kernel_rfl)|(rw[if_neg (by decide +kernel)];exact⟨rfl,rfl⟩))
  (λos started H enc _=>lifted os started H enc)
end
end Go.Proofs.YtjbbagcpcepkoaaGreatDoor
