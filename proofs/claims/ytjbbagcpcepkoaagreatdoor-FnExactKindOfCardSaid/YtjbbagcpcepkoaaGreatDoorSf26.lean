import Derived.Test.YtjbbagcpcepkoaaGreatDoorSf25
namespace Go.Proofs.YtjbbagcpcepkoaaGreatDoor
set_option maxRecDepth 100000
set_option maxHeartbeats 64000000
set_option linter.unusedVariables false
set_option linter.unusedSimpArgs false
section
open Go.RowKit
def sl {α:Type} (f:α->α->Bool) (L M:List α):Bool:=decide (L.length=M.length)&&(L.zip M).all (λp=>f p.1 p.2)
theorem jl9 {α:Type} {f:α->α->Bool} {L M:List α} (h:¬L.length=M.length):false=sl f L M:=by simp[sl,h]
theorem jm1 {α:Type} {f:α->α->Bool} {L M:List α} {j:Nat} {a b:α} (ha:L[j]?=some a) (hb:M[j]?=some b) (h:f a b=false):false=sl f L M:=by
 have hz:(L.zip M)[j]?=some (a,b):=by rw[List.getElem?_zip_eq_some];exact⟨ha,hb⟩
 have hm:=List.mem_of_getElem? hz
 cases hs:sl f L M
 ·
  rfl
 simp only[sl,Bool.and_eq_true,List.all_eq_true] at hs
 have:=hs.2 _ hm
 simp only at this
 rw[h] at this
 cases this
theorem jk2 {α:Type} {f:α->α->Bool} {L M:List α} (hn:L.length=M.length) (h:∀(j:Nat) a b,j<L.length->L[j]?=some a->M[j]?=some b->f a b=true):true=sl f L M:=by
 symm
 simp only[sl,Bool.and_eq_true,List.all_eq_true,decide_eq_true_eq]
 refine⟨hn,λp hp=>?_⟩
 obtain⟨j,hj⟩:=List.mem_iff_getElem?.1 hp
 obtain⟨a,b⟩:=p
 rw[List.getElem?_zip_eq_some] at hj
 exact h j a b (List.getElem?_eq_some_iff.1 hj.1).1 hj.1 hj.2
def eqI (a b:Int):Bool:=a ==b
theorem j4q (s t:Option Addr) (c d:Nat) (L M:List Int) (B C:Nat) (w:World) (hs:Els 1 cInt w B s L) (ht:Els 1 cInt w C t M) (hl:L.length<=1048576) (hl2:M.length<=1048576) :
  Calls Tryz.prog 59 #[.slice s L.length c,.slice t M.length d] w λe w'=>e=.returned (.bool (sl eqI L M))/\Below w.heap.size w w':=by
 have hal:=alloc_old
 have haf:=j04
 by_cases hn:L.length=M.length
 ·
  have t0:((L.length:Int) != (M.length:Int))=false:=by simp[hn]
  have HN:Hid (L.length=M.length):=hn
  clear hn;go_enter Tryz.func59,Tryz.ntmps59
  go_wp2_with fail;clear t0;go_loopw [13] (λi wr=>∃k:Nat,k<=L.length/\i=.int .i64 k/\Hid (∀(j:Nat) a b,j<k->L[j]?=some a->M[j]?=some b->eqI a b=true)/\Below w.heap.size w wr) (λi _=>L.length-(intOf i).toNat)
  case atStart=>exact⟨0,Nat.zero_le _,rfl,λj a b hj=>by omega,Below.refl _ _⟩
  obtain⟨k,hk,rfl,hall,hb⟩:=hrel
  by_cases hlt:k<L.length
  ·
   have hltM:k<M.length:=by have:=HN.out;omega
   obtain⟨a,ha⟩:=j0q hlt
   obtain⟨b,hb0⟩:=j0q hltM
   obtain⟨b1,o1,rfl,_,hpb1,eb1⟩:=j05 (hs.later j07 hb) ha
   obtain⟨b2,o2,rfl,_,hpb2,eb2⟩:=j05 (ht.later j07 hb) hb0
   have HA:Hid (L[k]?=some a):=ha
   have HB:Hid (M[k]?=some b):=hb0
   clear hs ht ha hb0;cases hf:eqI a b
   ·
    have E0:Hid (false=sl eqI L M):=jm1 HA.out HB.out hf
    have g:(a != b)=true:=by simp[eqI] at hf;simp[hf]
    clear hf;go_wp2_with fail;go_region
    all_goals
     go_wp2_with fail;go_ret;refine⟨j03 E0.out,?_⟩
     exact blq
   have hst:Hid (∀(j:Nat) a b,j<k+1->L[j]?=some a->M[j]?=some b->eqI a b=true):=by
    intro j a' b' hj ha' hb'
    by_cases e:j=k
    ·
     subst e
     rw[HA.out] at ha'
     rw[HB.out] at hb'
     cases ha'
     cases hb'
     exact hf
    exact hall.out j a' b' (by omega) ha' hb'
   have g:a=b:=by simpa[eqI] using hf
   subst g
   clear hf;go_wp2_with fail;go_region
   all_goals
    go_wp2_with fail;go_roundw
    case rel =>
     refine⟨k+1,by omega,by go_num,hst,?_⟩
     exact blq
    case measure=>simp[intOf];omega
  have E0:Hid (true=sl eqI L M):=jk2 HN.out (λj a b hj ha hb=>hall.out j a b (by omega) ha hb)
  go_wp2_with fail;go_ret;exact⟨j03 E0.out,hb⟩
 have t0:((L.length:Int) != (M.length:Int))=true:=by simp;omega
 go_enter Tryz.func59,Tryz.ntmps59
 go_wp2_with fail;go_ret;exact⟨j03 (jl9 hn),Below.refl _ _⟩
end
section
open Go.RowKit
theorem jbu {L M:List Int}:sl eqI L M=decide (L=M):=by
 unfold sl
 by_cases h:L=M
 ·
  subst h
  have:∀l:List Int,(l.zip l).all (λp=>eqI p.1 p.2)=true:=by
   intro l
   induction l with
   | nil=>rfl
   | cons a l ih=>simp[eqI] at ih ⊢;exact ih
  simp[this]
 rw[decide_eq_false h]
 by_cases hl:L.length=M.length
 ·
  rw[decide_eq_true hl,Bool.true_and]
  cases hz:(L.zip M).all (λp=>eqI p.1 p.2) with
  | false=>rfl
  | true =>
   exfalso
   apply h
   refine List.ext_getElem hl λi h1 h2=>?_
   rw[List.all_eq_true] at hz
   have:=hz (L[i],M[i]) (by rw[List.mem_iff_getElem];exact⟨i,by simp;omega,by simp⟩)
   simpa[eqI] using this
 rw[decide_eq_false hl];rfl
theorem OI.take {w:World} {B:Nat} {s:Option Addr} {c:Nat} {A:List Int} (h:OI w B (.slice s A.length c) A) (r:Nat) (hr:r<=A.length):OI w B (.slice s (A.take r).length c) (A.take r):=by
 have hl:(A.take r).length=r:=by simp;omega
 rcases h.2 with ⟨h1,h2⟩|⟨g,cap,cur,h1,hb,hg,hc,hm,hsz,ht⟩
 ·
  have h3:r=0:=by omega
  subst h3
  simp only[Value.slice.injEq] at h1
  obtain⟨rfl,_,rfl⟩:=h1
  exact OI.nil _ _
 simp only[Value.slice.injEq] at h1
 obtain⟨rfl,_,rfl⟩:=h1
 refine⟨by simp,Or.inr ⟨g,c,cur,rfl,hb,hg,by omega,hm,hsz,?_⟩⟩
 rw[hl,List.map_take,<-ht,List.take_take]
 congr 1
 omega
theorem Tryz.htI:Tryz.prog.underlying 26=some (.slice (Tryz.prog.elem 26)):=by kernel_rfl
theorem jcr {w:World} {B:Nat} {s:Option Addr} {c:Nat} {A:List Int} (h:OI w B (.slice s A.length c) A) (r:Nat) (hr:r<=A.length) :
  ∃s8 c8,(∀W,(Instr.slice 26 (.slice s A.length c) (some (.int .i64 (r:Int))) none none).run Tryz.prog W=.ok (.slice s8 (A.drop r).length c8) W)/\Els 1 cInt w B s8 (A.drop r):=by
 have hrun:∀W,(Instr.slice 26 (.slice s A.length c) (some (.int .i64 (r:Int))) none none).run Tryz.prog W=.ok (sliced s r A.length c 1) W:=by
  intro W
  rw[run_slice_l (P:=Tryz.prog) W 26 s A.length c Tryz.htI .i64 (r:Int) (by omega) (by omega)]
  have e1:(Go.sizeOf (Tryz.prog.elem 26)).run Tryz.prog W=.ok 1 W:=by kernel_rfl
  rw[e1]
  simp[Result.andThen]
 refine⟨if c=r then s else s.map (·.add (r*1)),c-r,λW=>(hrun W).trans ?_,?_⟩
 ·
  unfold sliced
  rw[List.length_drop]
 rcases h.els with h0|⟨b,o,rfl,h1,h2,h3,hz⟩
 ·
  exact Or.inl (by simp[h0])
 by_cases e:c=r
 ·
  have:=h.cap
  exact Or.inl (List.drop_eq_nil_of_le (by omega))
 rw[if_neg e]
 refine Or.inr ⟨b,o+r,by simp[Addr.add,Nat.add_comm],h1,h2,λj a ha=>?_,hz⟩
 rw[List.getElem?_drop] at ha
 obtain⟨cs,e1,e2,e3⟩:=h3 (r+j) a ha
 refine⟨cs,e1,λi u hu=>?_,e3⟩
 have:=e2 i u hu
 rw[show o+r+j*1+i=o+(r+j)*1+i by omega]
 exact this
theorem jcp {w:World} {B:Nat} {s:Option Addr} {c:Nat} {A:List Int} (h:OI w B (.slice s A.length c) A) (r:Nat) (hr:r<=A.length) :
  ∀W,(Instr.slice 26 (.slice s A.length c) none (some (.int .i64 (r:Int))) none).run Tryz.prog W=.ok (.slice s r c) W:=by
 intro W
 have hc:=h.cap
 rw[run_slice_h (P:=Tryz.prog) W 26 s A.length c Tryz.htI .i64 (r:Int) (by omega) (by omega)]
 have e1:(Go.sizeOf (Tryz.prog.elem 26)).run Tryz.prog W=.ok 1 W:=by kernel_rfl
 rw[e1]
 unfold sliced
 cases s<;>simp[Result.andThen,Addr.add]
theorem jdf {t:Tre} (h:treP t):Run (j0e t) (okN t) 0 t.nodes.length [] t.tops:=jdj.2 h.2.1
theorem j5b {t:Tre} {k:Nat} {A:List Int} {nd:Nd} (hR:Run (j0e t) (okN t) 0 k [] A) (hnd:t.nodes[k]?=some nd) (h:treP t):okN t k/\∃A0,A=A0++nd.kids:=by
 have hk:k<t.nodes.length:=(List.getElem?_eq_some_iff.1 hnd).1
 obtain⟨l1,g1,g2⟩:=Run.split (Nat.zero_le k) (jdf h) (by omega)
 obtain rfl:=hR.same g1
 cases g2 with
 | nil=>omega
 | cons _ _ _ l2 _ h1 _ =>
  obtain⟨h2,A0,h3,_⟩:=h1
  rw[j0t hnd] at h3
  exact⟨h2,A0,h3⟩
theorem jg9 {t:Tre} {k:Nat} {A0:List Int} {nd:Nd} (hR:Run (j0e t) (okN t) 0 k [] (A0++nd.kids)) (hnd:t.nodes[k]?=some nd) (hok:okN t k):Run (j0e t) (okN t) 0 (k+1) [] (A0++[(k:Int)]) :=
 hR.trans (Run.one ⟨hok,A0,by rw[j0t hnd],rfl⟩)
theorem j9r {t:Tre} {k:Nat} {A:List Int} (hR:Run (j0e t) (okN t) 0 k [] A):∀x∈A,∃m:Nat,x=m/\m<k:=hR.mem (λx hx=>by cases hx)
theorem ja0 {t:Tre} {A:List Int} (hv:∀x∈A,∃m:Nat,x=m/\m<t.nodes.length):(∀(j:Nat) (x:Int),A[j]?=some x->∃(m:Nat) (nd:Nd),x=m/\t.nodes[m]?=some nd/\j1c 9 nd.kind) ↔∀b∈(A.map (kkAt t)).map rl,b=116:=by
 constructor
 ·
  intro h b hb
  simp only[List.mem_map] at hb
  obtain⟨y,⟨x,hx,rfl⟩,rfl⟩:=hb
  obtain⟨j,hj⟩:=List.mem_iff_getElem?.1 hx
  obtain⟨m,nd,rfl,e1,e2⟩:=h j x hj
  have:=(j8x nd.kind 9 (by omega) (by omega)).1 e2
  simp[kkAt,e1]
  exact this
 intro h j x hx
 obtain⟨m,rfl,hm⟩:=hv x (List.mem_of_getElem? hx)
 refine⟨m,t.nodes[m],rfl,by simp[hm],(j8x _ 9 (by omega) (by omega)).2 ?_⟩
 have:=h (rl (kkAt t m)) (List.mem_map.2 ⟨_,List.mem_map.2 ⟨_,List.mem_of_getElem? hx,rfl⟩,rfl⟩)
 simp[kkAt,hm] at this
 exact this
theorem jh7 {k:Int} {ks:List Int} (h:kidB k ks=true):j3c k ks:=by
 by_cases g:j3c k ks
 ·
  exact g
 rw[j7t g] at h;cases h
theorem j7e (t:Tre) (s1 s2:Option Addr) (c1 c2 B:Nat) (w:World) (hT:InT w B s1 s2 t) (hkt:kTre t) :
  Calls Tryz.prog 39 #[.agg #[.slice s1 t.nodes.length c1,.slice s2 t.tops.length c2]] w λe w'=>e=.returned (.bool (treB t))/\Below w.heap.size w w':=by
 have hal:=alloc_old
 have haf:=j04
 have k0:=Blk.new w #[.slice s1 t.nodes.length c1,.slice s2 t.tops.length c2] 39
 have L0:=j00 (Below.refl _ w) (.cells #[.slice s1 t.nodes.length c1,.slice s2 t.tops.length c2] 39)
 obtain⟨x0,x1,x2⟩:=k0.two
 have hn:=hkt.1.1
 have ht:=hkt.2
 have HKN:Hid (∀n∈t.nodes,j5f n):=hkt.1.2
 have HT:Hid (InT w B s1 s2 t):=hT
 clear hkt hT;by_cases h4:t.nodes.length<=4000
 rotate_left
 ·
  have q1:decide ((4000:Int)<(t.nodes.length:Int))=true:=by simp;omega
  have HE:Hid (treB t=false):=j1d λh=>h4 h.1
  clear h4;go_enter Tryz.func39,Tryz.ntmps39
  go_wp2_with fail;go_ret;exact⟨j03 HE.out.symm,L0⟩
 have q1:decide ((4000:Int)<(t.nodes.length:Int))=false:=by simp;omega
 go_enter Tryz.func39,Tryz.ntmps39
 go_wp2_with fail;refine(j7a _).mono ?_
 rintro e W1 ⟨rfl,hown,hb1⟩
 have e1:(w.alloc (.cells #[.slice s1 t.nodes.length c1,.slice s2 t.tops.length c2] 39)).heap.size=w.heap.size+1:=by simp
 rw[e1] at hown ⊢
 have L1:Hid (Below w.heap.size w W1):=j01 L0 hb1
 have K1:Hid (Blk W1 w.heap.size #[.slice s1 t.nodes.length c1,.slice s2 t.tops.length c2] 39):=k0.later hb1
 have HM:Hid (W1.ownsMap Tryz.prog 9 (unitElem (H:=Unit)) (w.heap.size+1) 32 (j30 words (.map []))):=hown
 have sz1:w.heap.size+2<=W1.heap.size:=by have:=hown.lt;omega
 clear hown hb1 e1 L0 k0 x0 x1 x2;obtain⟨x0,x1,x2⟩:=K1.out.two
 go_wp2_with fail;go_loopw [4,16] (λv i wr=>∃(k:Nat) (A:List Int) (sa:Option Addr) (ca:Nat),k<=t.nodes.length/\i=.int .i64 k/\v=.slice sa A.length ca/\Hid (Run (j0e t) (okN t) 0 k [] A)/\Hid (OI wr W1.heap.size (.slice sa A.length ca) A)/\Hid (Below W1.heap.size W1 wr)) (λ_ i _=>t.nodes.length-(intOf i).toNat)
 case atStart=>exact⟨0,[],none,0,Nat.zero_le _,rfl,rfl,Run.nil _ _,OI.nil _ _,Below.refl _ _⟩
 clear x0 x1 x2;obtain⟨k,A,sa,ca,hk,rfl,rfl,hRun,hO,hb⟩:=hrel
 have lA:A.length<=4000:=by have:=hRun.out.len;simp at this;omega
 have hbW:Hid (Below w.heap.size w wr):=Below.trans L1.out (by have:=hb.out;exact⟨this.os,this.tape,this.output,this.size,λj hj=>this.block j (by omega)⟩)
 by_cases hlt:k<t.nodes.length
 ·
  obtain⟨nd,hnd⟩:=j0q hlt
  have hkd:=HKN.out nd (List.mem_of_getElem? hnd)
  obtain⟨hkt,hkl⟩:=hkd
  obtain⟨b,o,rfl,_,hp,s9,c9,e0,e1,e2,e3,hK⟩:=j15 HT.out.n hnd
  have z0:=(hbW.out.cell (p:=⟨b,o+k*4,none⟩) hp).trans e0
  have z1:=(hbW.out.cell (p:=⟨b,o+k*4+1,none⟩) hp).trans e1
  have z2:=(hbW.out.cell (p:=⟨b,o+k*4+2,none⟩) hp).trans e2
  have z3:=(hbW.out.cell (p:=⟨b,o+k*4+3,none⟩) hp).trans e3
  have HND:Hid (t.nodes[k]?=some nd):=hnd
  have hkI:(k:Int)<(t.nodes.length:Int):=by omega
  clear hnd e0 e1 e2 e3;have kN:=Blk.new wr #[.int .i64 nd.kind,.string nd.text,.int .i64 nd.num,.slice s9 nd.kids.length c9] 73
  have LX:=j00 (Below.refl _ wr) (.cells #[.int .i64 nd.kind,.string nd.text,.int .i64 nd.num,.slice s9 nd.kids.length c9] 73)
  go_upto_region 8 with fail
  generalize hX:wr.alloc (.cells #[.int .i64 nd.kind,.string nd.text,.int .i64 nd.num,.slice s9 nd.kids.length c9] 73)=X at kN LX ⊢
  clear hX z0 z1 z2 z3;have ltN:wr.heap.size<X.heap.size:=kN.lt
  obtain⟨n0,n1,n2,n3,n4⟩:=kN.four'
  have hOX:Hid (OI X W1.heap.size (.slice sa A.length ca) A):=hO.out.later LX
  have hbX:Hid (Below W1.heap.size W1 X):=j01 hb.out LX
  have HBX:Hid (Below w.heap.size w X):=j01 hbW.out LX
  have HKX:Hid (Els 1 cInt X B s9 nd.kids):=hK.later j07 HBX.out
  have szX:W1.heap.size<=X.heap.size:=hbX.out.size
  clear hK;by_cases hle:nd.kids.length<=A.length
  rotate_left
  ·
   have tw:IntKind.i64.wrap ((A.length:Int)-(nd.kids.length:Int))=(A.length:Int)-(nd.kids.length:Int):=by rw[IntKind.wrap_i64];omega
   have q2:decide ((A.length:Int)-(nd.kids.length:Int)<0)=true:=by simp;omega
   have HE:Hid (treB t=false):=j1d λh=>by
    obtain⟨_,A0,h6⟩:=j5b hRun.out HND.out h
    have:=congrArg List.length h6
    simp at this
    omega
   clear hle;go_upto_region 9 with fail
   refine wp_region_held_drew (S:=(λ_=>True)) (by kernel_rfl) ?_ (λhHeld=>?_)
   ·
    trivial
   refine wpr 0 27 ?_;simp only[zs];refine wpr 1 28 ?_;simp only[zs];refine wpr 2 29 ?_;simp only[zs];refine j6z (by kernel_rfl) (λ_ _ _ _ h=>h) [(3,30),(4,31),(5,32),(6,33),(7,34),(8,35),(9,36)] 1 _ _ _ (by assumption) (by kernel_rfl) ?_ _ rfl
   simp only[zs];refine wpr 10 37 ?_;simp only[zs];refine wpAnyH_done (by kernel_rfl) ?_ _
   go_wp2_with fail;go_ret;exact⟨j03 HE.out.symm,j02 HBX.out⟩
  obtain⟨A0,HA0⟩:∃A0,Hid (A.take (A.length-nd.kids.length)=A0):=⟨_,rfl⟩
  have lA0:A0.length+nd.kids.length=A.length:=by rw[<-HA0.out];simp;omega
  have hr0:A0.length<=A.length:=by omega
  have tw:IntKind.i64.wrap ((A.length:Int)-(nd.kids.length:Int))=(A0.length:Int):=by rw[IntKind.wrap_i64];omega
  have q2:decide ((A0.length:Int)<0)=false:=by simp
  obtain⟨s8,c8,hsl,hE8⟩:=jcr hOX.out A0.length hr0
  obtain⟨D,HD⟩:∃D,Hid (A.drop A0.length=D):=⟨_,rfl⟩
  have lD:D.length<=4000:=by rw[<-HD.out];simp;omega
  rw[HD.out] at hsl hE8
  have HE8:Hid (Els 1 cInt X W1.heap.size s8 D):=hE8
  have hsh:=jcp hOX.out A0.length hr0
  have HA:Hid (A.take A0.length=A0):=by
   show _=_
   have h7:=HA0.out
   rw[show A.length-nd.kids.length=A0.length by omega] at h7
   exact h7
  have hO0:Hid (OI X W1.heap.size (.slice sa A0.length ca) A0):=by
   have:=hOX.out.take A0.length hr0
   rw[HA.out] at this
   exact this
  have HLA:Hid (A0.length+nd.kids.length=A.length):=lA0
  have lA1:A0.length<=4000:=by omega
  have lK1:nd.kids.length<=4000:=by omega
  clear hE8 hle lA0;by_cases heq:D=nd.kids
  rotate_left
  ·
   have qe:decide (D=nd.kids)=false:=decide_eq_false heq
   have HE:Hid (treB t=false):=j1d λh=>by
    obtain⟨_,A9,h6⟩:=j5b hRun.out HND.out h
    have h7:=congrArg List.length h6
    simp at h7
    have lA0:=HLA.out
    apply heq
    rw[<-HD.out,h6,List.drop_left' (by omega)]
   clear heq hsh;go_upto_region 9 with fail
   refine wp_region_held_drew (S:=(λw'=>w'.cell? ⟨wr.heap.size,3,none⟩=some (.slice s9 nd.kids.length c9))) (by kernel_rfl) ?_ (λhHeld=>?_)
   ·
    exact n3
   refine wpr 0 27 ?_;simp only[zs];refine wpr 1 28 ?_;simp only[zs];refine wpr 2 29 ?_;simp only[zs];refine wpr 3 30 ?_;simp only[zs];refine wpr 4 31 ?_;simp only[zs];refine wpr 5 32 ?_;simp only[zs];refine wpr 6 33 ?_;simp only[zs];refine wpr 7 34 ?_;simp only[zs];refine wpy 8 λK hK=>?_
   go_simp;refine(j4q s8 s9 c8 c9 D nd.kids W1.heap.size B _ (HE8.out.later j07 (j02 (Below.refl _ _))) (HKX.out.later j07 (j02 (Below.refl _ _))) (by omega) hkl).mono ?_
   rintro e w2 ⟨rfl,hb2⟩
   rw[jbu,qe]
   have hb2:Below X.heap.size X w2:=j01 (j02 (Below.refl _ _)) hb2
   have n3:=(hb2.cell (p:=⟨wr.heap.size,3,none⟩) ltN).trans n3
   refine hK.out _ _ ?_ (λhHeld=>?_)
   ·
    exact n3
   clear hK K;try simp only[zs]
   refine wpr 9 36 ?_;simp only[zs];refine wpr 10 37 ?_;simp only[zs];refine wpAnyH_done (by kernel_rfl) ?_ _
   go_wp2_with fail;go_ret;exact⟨j03 HE.out.symm,j01 HBX.out hb2⟩
  have qe:decide (D=nd.kids)=true:=decide_eq_true heq
  have HAA:Hid (A=A0++nd.kids):=by
   show _=_
   have h7:=(List.take_append_drop A0.length A).symm
   rw[HA.out,HD.out,heq] at h7
   exact h7
  have HVK:Hid (∀x∈nd.kids,∃m:Nat,x=m/\m<t.nodes.length):=λx hx=>by
   obtain⟨m,e,hm⟩:=j9r hRun.out x (by rw[HAA.out];simp[hx])
   exact⟨m,e,by omega⟩
  clear heq;go_upto_region 9 with fail
  refine wp_region_held_drew (S:=(λw'=>w'.cell? ⟨wr.heap.size,3,none⟩=some (.slice s9 nd.kids.length c9))) (by kernel_rfl) ?_ (λhHeld=>?_)
  ·
   exact n3
  refine wpr 0 27 ?_;simp only[zs];refine wpr 1 28 ?_;simp only[zs];refine wpr 2 29 ?_;simp only[zs];refine wpr 3 30 ?_;simp only[zs];refine wpr 4 31 ?_;simp only[zs];refine wpr 5 32 ?_;simp only[zs];refine wpr 6 33 ?_;simp only[zs];refine wpr 7 34 ?_;simp only[zs];refine wpy 8 λK hK=>?_
  go_simp;refine(j4q s8 s9 c8 c9 D nd.kids W1.heap.size B _ (HE8.out.later j07 (j02 (Below.refl _ _))) (HKX.out.later j07 (j02 (Below.refl _ _))) (by omega) hkl).mono ?_
  rintro e w2 ⟨rfl,hb2⟩
  rw[jbu,qe]
  have hb2:Below X.heap.size X w2:=j01 (j02 (Below.refl _ _)) hb2
  have n3:=(hb2.cell (p:=⟨wr.heap.size,3,none⟩) ltN).trans n3
  refine hK.out _ _ ?_ (λhHeld=>?_)
  ·
   exact n3
  clear hK K;try simp only[zs]
  refine wpr 9 36 ?_;simp only[zs];refine wpr 10 37 ?_;simp only[zs];refine wpAnyH_done (by kernel_rfl) ?_ _
  clear hsl HE8;replace kN:=kN.later hb2
  have HO2:Hid (OI w2 W1.heap.size (.slice sa A0.length ca) A0):=hO0.out.later hb2
  have HB2:Hid (Below W1.heap.size W1 w2):=j01 hbX.out hb2
  have HW2:Hid (Below w.heap.size w w2):=j01 HBX.out hb2
  have hM2:Hid (w2.ownsMap Tryz.prog 9 (unitElem (H:=Unit)) (w.heap.size+1) 32 (j30 words (.map []))):=HM.out.kept (j1a HB2.out) (by simp)
  have K2:Hid (Blk w2 w.heap.size #[.slice (some ⟨b,o,none⟩) t.nodes.length c1,.slice s2 t.tops.length c2] 39):=K1.out.later HB2.out
  have HK2:Hid (Els 1 cInt w2 B s9 nd.kids):=HKX.out.later j07 hb2
  have HN2:Hid (Els 4 j1r w2 B (some ⟨b,o,none⟩) t.nodes):=HT.out.n.later j08 HW2.out
  clear n0 n1 n2 n3 n4 hb2 hOX hbX HBX HKX hO hb;obtain⟨n0,n1,n2,n3,n4⟩:=kN.four'
  obtain⟨x0,x1,x2⟩:=K2.out.two
  cases qt:tfB nd.kind nd.text
  ·
   have HE:Hid (treB t=false):=j1d λh=>by have h5:=(j6d HND.out HVK.out).1 (j5b hRun.out HND.out h).1;rw[j58] at h5;rw[qt] at h5;simp at h5
   go_wp2_with (go_at_call 60;refine(j3l nd.kind nd.text hkt nd.num s9 nd.kids.length c9 (w.heap.size+1) _ hM2.out).mono ?_;rintro e w3 ⟨rfl,hb3⟩;rw[qt];obtain⟨n0,n1,n2,n3,n4⟩:=(kN.later hb3).four';obtain⟨x0,x1,x2⟩:=(K2.out.later hb3).two)
   go_ret;exact⟨j03 HE.out.symm,j01 HW2.out hb3⟩
  cases qn:nfB nd.kind nd.num
  ·
   have HE:Hid (treB t=false):=j1d λh=>by have h5:=(j6d HND.out HVK.out).1 (j5b hRun.out HND.out h).1;rw[j58] at h5;rw[qn] at h5;simp at h5
   go_wp2_with (first|(go_at_call 60;refine(j3l nd.kind nd.text hkt nd.num s9 nd.kids.length c9 (w.heap.size+1) _ hM2.out).mono ?_;rintro e w3 ⟨rfl,hb3⟩;rw[qt];obtain⟨n0,n1,n2,n3,n4⟩:=(kN.later hb3).four';obtain⟨x0,x1,x2⟩:=(K2.out.later hb3).two)|(go_at_call 61;refine(j3m nd.kind nd.text nd.num s9 nd.kids.length c9 _).mono ?_;rintro e w4 ⟨rfl,hb4⟩;rw[qn];obtain⟨n0,n1,n2,n3,n4⟩:=((kN.later hb3).later hb4).four';obtain⟨x0,x1,x2⟩:=((K2.out.later hb3).later hb4).two))
   go_ret;exact⟨j03 HE.out.symm,j01 (j01 HW2.out hb3) hb4⟩
  cases qk:kidB nd.kind (nd.kids.map (kkAt t))
  ·
   have HE:Hid (treB t=false):=j1d λh=>by have h5:=(j6d HND.out HVK.out).1 (j5b hRun.out HND.out h).1;rw[j58] at h5;have h6:=j9q h5.2;rw[qk] at h6;cases h6
   go_wp2_with (first|(go_at_call 60;refine(j3l nd.kind nd.text hkt nd.num s9 nd.kids.length c9 (w.heap.size+1) _ hM2.out).mono ?_;rintro e w3 ⟨rfl,hb3⟩;rw[qt];obtain⟨n0,n1,n2,n3,n4⟩:=(kN.later hb3).four';obtain⟨x0,x1,x2⟩:=(K2.out.later hb3).two)|(go_at_call 61;refine(j3m nd.kind nd.text nd.num s9 nd.kids.length c9 _).mono ?_;rintro e w4 ⟨rfl,hb4⟩;rw[qn];obtain⟨n0,n1,n2,n3,n4⟩:=((kN.later hb3).later hb4).four';obtain⟨x0,x1,x2⟩:=((K2.out.later hb3).later hb4).two)|(go_at_call 62;refine(j6n nd.kind t nd.text nd.num s9 (some ⟨b,o,none⟩) c9 c1 nd.kids B B _ ((HK2.out.later j07 hb3).later j07 hb4) ((HN2.out.later j08 hb3).later j08 hb4) HVK.out hkl hn).mono ?_;rintro e w5 ⟨rfl,hb5⟩;rw[qk]))
   go_ret;exact⟨j03 HE.out.symm,j01 (j01 (j01 HW2.out hb3) hb4) hb5⟩
  have HOK:Hid (okN t k):=(j6d HND.out HVK.out).2 ⟨by rw[j58,qt,qn];rfl,jh7 qk⟩
  go_upto_region 13 with (first|(go_at_call 60;refine(j3l nd.kind nd.text hkt nd.num s9 nd.kids.length c9 (w.heap.size+1) _ hM2.out).mono ?_;rintro e w3 ⟨rfl,hb3⟩;rw[qt];obtain⟨n0,n1,n2,n3,n4⟩:=(kN.later hb3).four';obtain⟨x0,x1,x2⟩:=(K2.out.later hb3).two)|(go_at_call 61;refine(j3m nd.kind nd.text nd.num s9 nd.kids.length c9 _).mono ?_;rintro e w4 ⟨rfl,hb4⟩;rw[qn];obtain⟨n0,n1,n2,n3,n4⟩:=((kN.later hb3).later hb4).four';obtain⟨x0,x1,x2⟩:=((K2.out.later hb3).later hb4).two)|(go_at_call 62;refine(j6n nd.kind t nd.text nd.num s9 (some ⟨b,o,none⟩) c9 c1 nd.kids B B _ ((HK2.out.later j07 hb3).later j07 hb4) ((HN2.out.later j08 hb3).later j08 hb4) HVK.out hkl hn).mono ?_;rintro e w5 ⟨rfl,hb5⟩;rw[qk]))
  have hb25:Below w2.heap.size w2 w5:=j01 (j01 hb3 hb4) hb5
  obtain⟨R2,hR2⟩:∃R2,Hid (A0++[(k:Int)]=R2):=⟨_,(rfl:A0++[(k:Int)]=_)⟩
  have hb6:Below W1.heap.size W1 (w5.alloc (.cells #[.int .i64 (k:Int)] 3)):=j00 (j01 HB2.out hb25) _
  have hO6:Hid (OI (w5.alloc (.cells #[.int .i64 (k:Int)] 3)) W1.heap.size (.slice sa A0.length ca) A0):=(HO2.out.later hb25).later (j00 (Below.refl _ _) _)
  have E6:Hid (Els 1 cInt (w5.alloc (.cells #[.int .i64 (k:Int)] 3)) w5.heap.size (some ⟨w5.heap.size,0,none⟩) [(k:Int)]):=Els.one (Blk.new w5 #[.int .i64 (k:Int)] 3)
  clear n0 n1 n2 n3 n4 x0 x1 x2 hb3 hb4 hb5 hb25 kN HK2 HN2 hM2;go_wp2_with (at_builtin;refine j0c rfl _ _ rfl W1.heap.size sa ca A0 rfl hO6.out w5.heap.size _ 1 [(k:Int)] rfl E6.out R2 hR2.out (by simp;omega) hb6.size ?_;intro s' c' w7 hO7 hg7 hn7)
  have hO7:Hid (OI w7 W1.heap.size (.slice s' R2.length c') R2):=hO7
  have hb7:Hid (Below W1.heap.size W1 w7):=j32 hb6 hb6.size hO6.out hg7
  clear hg7 hn7 hO6 E6 hb6;go_wp2_with fail;go_roundw
  case rel =>
   refine⟨k+1,R2,s',c',by omega,by go_num,rfl,?_,hO7,hb7⟩
   have h8:=hRun.out
   rw[HAA.out] at h8
   have h9:=jg9 h8 HND.out HOK.out
   rw[hR2.out] at h9
   exact h9
  case measure=>simp[intOf];omega
 have hkn:k=t.nodes.length:=by omega
 have hR9:=hRun.out
 rw[hkn] at hR9
 have HR9:Hid (Run (j0e t) (okN t) 0 t.nodes.length [] A):=hR9
 have HV:Hid (∀x∈A,∃m:Nat,x=m/\m<t.nodes.length):=j9r hR9
 have H4:Hid (t.nodes.length<=4000):=h4
 have KZ:Hid (Blk wr w.heap.size #[.slice s1 t.nodes.length c1,.slice s2 t.tops.length c2] 39):=K1.out.later hb.out
 have hkI:¬(k:Int)<(t.nodes.length:Int):=by omega
 clear hR9 hkn;obtain⟨x0,x1,x2⟩:=KZ.out.two
 by_cases heq:A=t.tops
 rotate_left
 ·
  have qe:decide (A=t.tops)=false:=decide_eq_false heq
  have HE:Hid (treB t=false):=j1d λh=>heq (HR9.out.same (jdf h))
  clear heq;go_wp2_with (go_at_call 59;refine(j4q sa s2 ca c2 A t.tops W1.heap.size B _ hO.out.els (HT.out.t.later j07 hbW.out) (by omega) ht).mono ?_;rintro e w2 ⟨rfl,hb2⟩;rw[jbu,qe])
  go_ret;exact⟨j03 HE.out.symm,j01 hbW.out hb2⟩
 have qe:decide (A=t.tops)=true:=decide_eq_true heq
 obtain⟨R,HRR⟩:∃R,Hid ((A.map (kkAt t)).map rl=R):=⟨_,rfl⟩
 have lR:R.length<=1048576:=by rw[<-HRR.out];simp;omega
 have HE:Hid (treB t=decide (∀b∈R,b=116)):=by
  show _=_
  by_cases hall:∀b∈R,b=116
  ·
   rw[decide_eq_true hall]
   refine j9z ⟨H4.out,?_,?_⟩
   ·
    rw[<-heq];exact jdj.1 HR9.out
   rw[<-heq]
   exact(ja0 HV.out).2 (by rw[HRR.out];exact hall)
  rw[decide_eq_false hall]
  refine j1d λh=>hall ?_
  have h6:=h.2.2
  rw[<-heq] at h6
  have h7:=(ja0 HV.out).1 h6
  rw[HRR.out] at h7
  exact h7
 have HL:Hid (t.tops.length=A.length):=by show _=_;rw[heq]
 clear heq;go_wp2_with (first|(go_at_call 59;refine(j4q sa s2 ca c2 A t.tops W1.heap.size B _ hO.out.els (HT.out.t.later j07 hbW.out) (by omega) ht).mono ?_;rintro e w2 ⟨rfl,hb2⟩;rw[jbu,qe];obtain⟨x0,x1,x2⟩:=(KZ.out.later hb2).two)|(go_at_call 64;refine(j0a t sa s1 ca c1 A W1.heap.size B _ (hO.out.els.later j07 hb2) ((HT.out.n.later j08 hbW.out).later j08 hb2) HV.out (by omega) hn).mono ?_;rintro e w3 ⟨rfl,hb3⟩;rw[HRR.out])|(go_at_call 63;refine(j42 R 116 (by decide) lR _).mono ?_;rintro e w4 ⟨rfl,hb4⟩))
 go_ret;exact⟨j03 HE.out.symm,j01 (j01 (j01 hbW.out hb2) hb3) hb4⟩
end
section
open Go.RowKit Go.Maps Go.WideMaps
noncomputable def j7f (A B C:List (ByteArray×Int)) (T:Tre):Ck KM:=if okR A B C=true then (if treB T=true then chkA A B C T else .error (1,-1)) else .error (1,-1)
structure NewC (w w':World) (bd:Nat) (n1:Option Addr) (N d1 c kb bt:Nat):Prop where
 bx:Blk w' c #[.map (some bd),.slice n1 N d1,.slice (some ⟨kb,0,none⟩) N N,.map (some bt)] 93
 kbB:Blk w' kb (madeCells #[.int .i64 0] N) 3
 btQ:QM w' bt 0 (λ_=>none)
 o1:w.heap.size<=c
 o2:w.heap.size<=kb
 o3:w.heap.size<=bt
 n1:¬kb=c
 n2:¬bt=c
 n3:¬bt=kb
 bl:Below w.heap.size w w'
theorem jgi (v:Value) (n j:Nat) (h:j<n):(madeCells #[v] n)[j]?=some v:=by
 rw[<-Array.getElem?_toList,toList_madeCells_one];simp[h]
theorem AhOk.nil {T:Tre}:AhOk T []:=⟨by simp,by simp⟩
theorem AhOk.snoc {T:Tre} {ah:List Int} (h:AhOk T ah) {t:Nat} {n:Nd} (hv:VN T t n) (h0:0<n.kids.length) (hn:(ah.any λa=>decide ((nd T a).text=(nd T (t:Int)).text))=false):AhOk T (ah++[(t:Int)]):=by
 rw[List.any_eq_false] at hn
 have hne:∀a∈ah,¬(nd T a).text=(nd T (t:Int)).text:=λa ha=>by simpa using hn a ha
 refine⟨λa ha b hb e=>?_,λa ha=>?_⟩
 ·
  simp only[List.mem_append,List.mem_singleton] at ha hb
  rcases ha with ha|rfl<;>rcases hb with hb|rfl
  ·
   exact h.uq a ha b hb e
  ·
   exact absurd e (hne a ha)
  ·
   exact absurd e.symm (hne b hb)
  rfl
 simp only[List.mem_append,List.mem_singleton] at ha
 rcases ha with ha|rfl
 ·
  exact h.top a ha
 exact⟨t,n,rfl,hv,h0⟩
theorem je7 {D:Int->ByteArray->Int} {T:Tre} {N:Nat} {ah:List Int} {K K1:KM} {t:Int} (h:j1x D T N ah K t=.ok K1):(ah.any λa=>decide ((nd T a).text=(nd T t).text))=false:=by
 unfold j1x at h
 simp only at h
 split at h
 ·
  cases h
 rename_i hn;simpa using hn
section
variable {w w':World}
def j8z (T:Tre) (w:World) (r:Ck KM) (e:Ending) (w':World):Prop:=Below w.heap.size w w'/\match r with
 | .error (c,n)=>e=.returned (.tuple #[.slice none 0 0,errV c n])
 | .ok K1=>∃(kb:Nat) (Kp:KM),e=.returned (.tuple #[.slice (some ⟨kb,0,none⟩) T.nodes.length T.nodes.length,.nilIface])/\(∀j,j<T.nodes.length->w'.cell? ⟨kb,j,none⟩=some (.int .i64 (Kp j)))/\KR T Kp K1
theorem j8z.bad {T:Tre} {c n:Int} {r:Ck KM} (hr:r=.error (c,n)) (hb:Below w.heap.size w w'):j8z T w r (.returned (.tuple #[.slice none 0 0,errV c n])) w':=by subst hr;exact⟨hb,rfl⟩
theorem j8z.good {T:Tre} {K1 Kp:KM} {kb:Nat} {r:Ck KM} (hr:r=.ok K1) (hb:Below w.heap.size w w') (h1:∀j,j<T.nodes.length->w'.cell? ⟨kb,j,none⟩=some (.int .i64 (Kp j))) (h2:KR T Kp K1):j8z T w r (.returned (.tuple #[.slice (some ⟨kb,0,none⟩) T.nodes.length T.nodes.length,.nilIface])) w':=by subst hr;exact⟨hb,kb,Kp,rfl,h1,h2⟩
structure LdO (G:Pd) (w:World) (all:Ck KM) (ts ah:List Int) (K Kp:KM):Prop where
 ck:all=j2o (Dp G) G.T G.T.nodes.length ts ah K
 p:Pv G w ah Kp
 kr:KR G.T Kp K
 ah:AhOk G.T ah
theorem jkx {k:Int} (h:j1c 9 k):k=33\/k=34:=by
 unfold j1c at h
 simp only[show¬(9:Int)=10 by omega,if_false] at h
 have h:=h.1
 unfold cls at h
 repeat (split at h<;>try omega)
theorem jar (s1 s2 s3 n1 n2:Option Addr) (c1 c2 c3 d1 d2 B0:Nat) (A B C:List (ByteArray×Int)) (T:Tre) (w:World) (hA:j0y w s1 A) (hB:j0y w s2 B) (hC:j0y w s3 C) (nm:∀i,i<(A++B++C).length->(dAt (A++B++C) i).1.size<=maxLen) (l1:A.length<=1048576) (l2:B.length<=1048576) (l3:C.length<=1048576) (hT:InT w B0 n1 n2 T) (hcap:Els 4 j47 w B0 n1 T.nodes) (hk:kTre T) :
  Calls Tryz.prog 24 #[.agg #[.slice s1 A.length c1,.slice s2 B.length c2,.slice s3 C.length c3],.agg #[.slice n1 T.nodes.length d1,.slice n2 T.tops.length d2]] w λe w'=>j8z T w (j7f A B C T) e w':=by
 have b1:Below w.heap.size w ((w.alloc (.cells #[.slice s1 A.length c1,.slice s2 B.length c2,.slice s3 C.length c3] 35)).alloc (.cells #[.slice n1 T.nodes.length d1,.slice n2 T.tops.length d2] 39)):=j00 (j00 (Below.refl _ _) _) _
 have kr:=Blk.alloc (Blk.new w #[.slice s1 A.length c1,.slice s2 B.length c2,.slice s3 C.length c3] 35) (.cells #[.slice n1 T.nodes.length d1,.slice n2 T.tops.length d2] 39)
 have kt:=Blk.new' (n:=w.heap.size+1) (w.alloc (.cells #[.slice s1 A.length c1,.slice s2 B.length c2,.slice s3 C.length c3] 35)) #[.slice n1 T.nodes.length d1,.slice n2 T.tops.length d2] 39 (by simp)
 obtain⟨x0,x1,x2,x3⟩:=kr.three
 have hdc:=j74 s1 s2 s3 c1 c2 c3 A B C _ (hA.later b1) (hB.later b1) (hC.later b1) nm l1 l2 l3
 obtain⟨res,hres⟩:∃r,Hid (j7f A B C T=r):=⟨_,rfl⟩
 rw[hres.out]
 have hT1:=Hid.mk' (hT.later b1)
 have hC1:=Hid.mk' (hcap.later j1s b1)
 have HK:=Hid.mk' hk
 have KT:=Hid.mk' kt
 have B1:=Hid.mk' b1
 have hnl:T.nodes.length<=1048576:=hk.1.1
 have htl:T.tops.length<=1048576:=hk.2
 clear hA hB hC nm hT hcap hk kr kt b1;go_enter Tryz.func24,Tryz.ntmps24
 go_wp2_with fail;refine hdc.mono ?_
 rintro e w2 ⟨hno,hyes,hb2⟩
 have HB2:Hid (Below w.heap.size w w2):=B1.out.trans (hb2.mono B1.out.size)
 have KT2:=Hid.mk' (KT.out.later hb2)
 have HT2:=Hid.mk' (hT1.out.later hb2)
 have HC2:=Hid.mk' (hC1.out.later j1s hb2)
 clear hdc x0 x1 x2 x3 hb2 KT hT1 hC1 B1;cases hok:okR A B C
 ·
  rw[hno hok]
  have hR:Hid (res=.error (1,-1)):=by show _=_;rw[<-hres.out];unfold j7f;rw[hok];rfl
  clear hno hyes hok;go_wp2_with fail;refine bq (.tuple #[.slice none 0 0,errV 1 (-1)]) ?_
  exact j8z.bad hR.out HB2.out
 obtain⟨bd,ndm,he,hdm⟩:=hyes hok
 rw[he]
 have HDM:=Hid.mk' hdm
 have HOK:=Hid.mk' hok
 clear hno hyes hok he hdm;obtain⟨y0,y1,y2⟩:=KT2.out.two
 have htr:=j7e T n1 n2 d1 d2 B0 w2 HT2.out HK.out
 go_wp2_with fail;refine htr.mono ?_
 rintro e X ⟨rfl,hb3⟩
 have HB3:Hid (Below w.heap.size w X):=HB2.out.trans (hb3.mono HB2.out.size)
 have KT3:=Hid.mk' (KT2.out.later hb3)
 have HT3:=Hid.mk' (HT2.out.later hb3)
 have HC3:=Hid.mk' (HC2.out.later j1s hb3)
 have HD3:=Hid.mk' (HDM.out.kept (j1a hb3) (by simp))
 clear htr y0 y1 y2 hb3 KT2 HT2 HC2 HDM HB2;cases htb:treB T
 ·
  have hR:Hid (res=.error (1,-1)):=by show _=_;rw[<-hres.out];unfold j7f;rw[HOK.out,htb];rfl
  clear htb;go_wp2_with fail;refine bq (.tuple #[.slice none 0 0,errV 1 (-1)]) ?_
  exact j8z.bad hR.out HB3.out
 have HTP:Hid (treP T):=by
  show treP T
  by_cases q:treP T
  ·
   exact q
  rw[j1d q] at htb;cases htb
 have HRS:Hid (res=j2o (λsort s=>dkL (j19 A B C sort) s) T T.nodes.length T.tops [] (λ_=>0)):=by show _=_;rw[<-hres.out];unfold j7f;rw[HOK.out,htb];rfl
 clear htb;have hmk:∀W,(Instr.makeSlice 26 (.int .i64 (T.nodes.length:Int)) (.int .i64 (T.nodes.length:Int))).run Tryz.prog W=.ok (.slice (some ⟨W.heap.size,0,none⟩) T.nodes.length T.nodes.length) (W.alloc (.cells (madeCells #[.int .i64 0] T.nodes.length) 3)):=λW=>run_make_row' (P:=Tryz.prog) 26 3 (.int .i64 0) 8 Tryz.underlying26 jhj rfl .i64 .i64 T.nodes.length (by omega) (by omega) W
 have hmm:=j6i
 go_wp2_with fail;have htx:w.heap.size+1<X.heap.size:=KT3.out.lt
 have hS:Hid (∀Y,Below X.heap.size X Y->Y.cell? ⟨w.heap.size+1,0,none⟩=some (.slice n1 T.nodes.length d1)):=λY hY=>(hY.cell (p:=⟨w.heap.size+1,0,none⟩) htx).trans ((KT3.out.cell 0).trans rfl)
 refine wp_region_held_drew (S:=λY=>Y.cell? ⟨w.heap.size+1,0,none⟩=some (.slice n1 T.nodes.length d1)) (by kernel_rfl) ?_ (λhHeld=>?_)
 ·
  exact hS.out _ (j02 (Below.refl _ _))
 have BX0:Hid (Below X.heap.size X X.drew):=j02 (Below.refl _ _)
 have hsd:Hid (X.drew.heap.size=X.heap.size):=by show _=_;simp
 refine wpr 0 26 ?_;simp only[zs];refine wpr 1 27 ?_;simp only[zs];refine wpr 2 28 ?_;simp only[zs];refine wpr 3 29 ?_;simp only[zs];refine wpr 4 30 ?_;simp only[zs];refine wpr 5 31 ?_;simp only[zs];refine wpAnyH_ready (rs:=[6,7]) (by kernel_rfl) (by simp) ?_
 refine AllReadyH.cons rfl (λKQ hK=>?_) ?_
 focus
  go_simp;refine hK.out _ _ (hS.out _ (j02 (j00 (Below.refl _ _) _))) (λhHeld=>?_)
  clear hK KQ;try simp only[zs]
  refine wpAnyH_ready (rs:=[7]) (by kernel_rfl) (by simp) ?_
  refine AllReadyH.cons rfl (λKQ hK=>?_) AllReadyH.nil
  go_simp;refine hK.out _ _ (hS.out _ (j02 (j00 (j00 (Below.refl _ _) _) _))) (λhHeld=>?_)
  clear hK KQ;try simp only[zs]
  refine wpr 8 34 ?_;simp only[zs];refine wpAnyH_ready (rs:=[9]) (by kernel_rfl) (by simp) ?_
  refine AllReadyH.cons rfl (λKQ hK=>?_) AllReadyH.nil
  go_simp;refine hK.out _ _ (hS.out _ (j02 (j00 (j00 (j00 (Below.refl _ _) _) _) _))) (λhHeld=>?_)
  clear hK KQ;try simp only[zs]
  refine wpr 10 8 ?_;simp only[zs];refine wpAnyH_done (by kernel_rfl) ?_ _
  have HQ1:QM (((X.alloc (.cells (madeCells #[.int .i64 0] T.nodes.length) 3)).alloc (.map #[] 0)).alloc (.cells #[.map (some bd),.slice n1 T.nodes.length d1,.slice (some ⟨X.heap.size,0,none⟩) T.nodes.length T.nodes.length,.map (some (X.heap.size+1))] 93)).drew (X.heap.size+1) 0 (λ_=>none):=by
   have h:=((QM.made (X.alloc (.cells (madeCells #[.int .i64 0] T.nodes.length) 3))).later (j00 (Below.refl _ _) (.cells #[.map (some bd),.slice n1 T.nodes.length d1,.slice (some ⟨X.heap.size,0,none⟩) T.nodes.length T.nodes.length,.map (some (X.heap.size+1))] 93))).later (j02 (Below.refl _ _))
   have e:(X.alloc (.cells (madeCells #[.int .i64 0] T.nodes.length) 3)).heap.size=X.heap.size+1:=by simp
   rw[e] at h
   exact h
  have HK1:Blk (((X.alloc (.cells (madeCells #[.int .i64 0] T.nodes.length) 3)).alloc (.map #[] 0)).alloc (.cells #[.map (some bd),.slice n1 T.nodes.length d1,.slice (some ⟨X.heap.size,0,none⟩) T.nodes.length T.nodes.length,.map (some (X.heap.size+1))] 93)).drew X.heap.size (madeCells #[.int .i64 0] T.nodes.length) 3:=(Blk.new X (madeCells #[.int .i64 0] T.nodes.length) 3).later (j02 (j00 (j00 (Below.refl _ _) _) _))
  have HC1:Blk (((X.alloc (.cells (madeCells #[.int .i64 0] T.nodes.length) 3)).alloc (.map #[] 0)).alloc (.cells #[.map (some bd),.slice n1 T.nodes.length d1,.slice (some ⟨X.heap.size,0,none⟩) T.nodes.length T.nodes.length,.map (some (X.heap.size+1))] 93)).drew (X.heap.size+1+1) #[.map (some bd),.slice n1 T.nodes.length d1,.slice (some ⟨X.heap.size,0,none⟩) T.nodes.length T.nodes.length,.map (some (X.heap.size+1))] 93:=(Blk.new' (n:=X.heap.size+1+1) ((X.alloc (.cells (madeCells #[.int .i64 0] T.nodes.length) 3)).alloc (.map #[] 0)) #[.map (some bd),.slice n1 T.nodes.length d1,.slice (some ⟨X.heap.size,0,none⟩) T.nodes.length T.nodes.length,.map (some (X.heap.size+1))] 93 (by simp)).later (j02 (Below.refl _ _))
  have HCX:Hid (∃kb bt,NewC X (((X.alloc (.cells (madeCells #[.int .i64 0] T.nodes.length) 3)).alloc (.map #[] 0)).alloc (.cells #[.map (some bd),.slice n1 T.nodes.length d1,.slice (some ⟨X.heap.size,0,none⟩) T.nodes.length T.nodes.length,.map (some (X.heap.size+1))] 93)).drew bd n1 T.nodes.length d1 (X.heap.size+1+1) kb bt):=⟨X.heap.size,X.heap.size+1,HC1,HK1,HQ1,by omega,by omega,by omega,by omega,by omega,by omega,j02 (j00 (j00 (j00 (Below.refl _ _) _) _) _)⟩
  generalize (((X.alloc (.cells (madeCells #[.int .i64 0] T.nodes.length) 3)).alloc (.map #[] 0)).alloc (.cells #[.map (some bd),.slice n1 T.nodes.length d1,.slice (some ⟨X.heap.size,0,none⟩) T.nodes.length T.nodes.length,.map (some (X.heap.size+1))] 93)).drew=Z at HCX ⊢
  clear HQ1 HK1 HC1 hHeld
 rotate_left 1;refine AllReadyH.cons rfl (λKQ hK=>?_) AllReadyH.nil
 go_simp;refine hK.out _ _ (hS.out _ (j02 (j00 (Below.refl _ _) _))) (λhHeld=>?_)
 clear hK KQ;try simp only[zs]
 refine wpAnyH_ready (rs:=[6]) (by kernel_rfl) (by simp) ?_
 refine AllReadyH.cons rfl (λKQ hK=>?_) AllReadyH.nil
 go_simp;refine hK.out _ _ (hS.out _ (j02 (j00 (j00 (Below.refl _ _) _) _))) (λhHeld=>?_)
 clear hK KQ;try simp only[zs]
 refine wpr 8 34 ?_;simp only[zs];refine wpAnyH_ready (rs:=[9]) (by kernel_rfl) (by simp) ?_
 refine AllReadyH.cons rfl (λKQ hK=>?_) AllReadyH.nil
 go_simp;refine hK.out _ _ (hS.out _ (j02 (j00 (j00 (j00 (Below.refl _ _) _) _) _))) (λhHeld=>?_)
 clear hK KQ;try simp only[zs]
 refine wpr 10 8 ?_;simp only[zs];refine wpAnyH_done (by kernel_rfl) ?_ _
 have HQ1:QM (((X.alloc (.map #[] 0)).alloc (.cells (madeCells #[.int .i64 0] T.nodes.length) 3)).alloc (.cells #[.map (some bd),.slice n1 T.nodes.length d1,.slice (some ⟨X.heap.size+1,0,none⟩) T.nodes.length T.nodes.length,.map (some (X.heap.size))] 93)).drew (X.heap.size) 0 (λ_=>none):=by
  have h:=(QM.made X).later (j02 (j00 (j00 (Below.refl _ _) (.cells (madeCells #[.int .i64 0] T.nodes.length) 3)) (.cells #[.map (some bd),.slice n1 T.nodes.length d1,.slice (some ⟨X.heap.size+1,0,none⟩) T.nodes.length T.nodes.length,.map (some (X.heap.size))] 93)))
  exact h
 have HK1:Blk (((X.alloc (.map #[] 0)).alloc (.cells (madeCells #[.int .i64 0] T.nodes.length) 3)).alloc (.cells #[.map (some bd),.slice n1 T.nodes.length d1,.slice (some ⟨X.heap.size+1,0,none⟩) T.nodes.length T.nodes.length,.map (some (X.heap.size))] 93)).drew (X.heap.size+1) (madeCells #[.int .i64 0] T.nodes.length) 3:=(Blk.new' (n:=X.heap.size+1) (X.alloc (.map #[] 0)) (madeCells #[.int .i64 0] T.nodes.length) 3 (by simp)).later (j02 (j00 (Below.refl _ _) _))
 have HC1:Blk (((X.alloc (.map #[] 0)).alloc (.cells (madeCells #[.int .i64 0] T.nodes.length) 3)).alloc (.cells #[.map (some bd),.slice n1 T.nodes.length d1,.slice (some ⟨X.heap.size+1,0,none⟩) T.nodes.length T.nodes.length,.map (some (X.heap.size))] 93)).drew (X.heap.size+1+1) #[.map (some bd),.slice n1 T.nodes.length d1,.slice (some ⟨X.heap.size+1,0,none⟩) T.nodes.length T.nodes.length,.map (some (X.heap.size))] 93:=(Blk.new' (n:=X.heap.size+1+1) ((X.alloc (.map #[] 0)).alloc (.cells (madeCells #[.int .i64 0] T.nodes.length) 3)) #[.map (some bd),.slice n1 T.nodes.length d1,.slice (some ⟨X.heap.size+1,0,none⟩) T.nodes.length T.nodes.length,.map (some (X.heap.size))] 93 (by simp)).later (j02 (Below.refl _ _))
 have HCX:Hid (∃kb bt,NewC X (((X.alloc (.map #[] 0)).alloc (.cells (madeCells #[.int .i64 0] T.nodes.length) 3)).alloc (.cells #[.map (some bd),.slice n1 T.nodes.length d1,.slice (some ⟨X.heap.size+1,0,none⟩) T.nodes.length T.nodes.length,.map (some (X.heap.size))] 93)).drew bd n1 T.nodes.length d1 (X.heap.size+1+1) kb bt):=⟨X.heap.size+1,X.heap.size,HC1,HK1,HQ1,by omega,by omega,by omega,by omega,by omega,by omega,j02 (j00 (j00 (j00 (Below.refl _ _) _) _) _)⟩
 generalize (((X.alloc (.map #[] 0)).alloc (.cells (madeCells #[.int .i64 0] T.nodes.length) 3)).alloc (.cells #[.map (some bd),.slice n1 T.nodes.length d1,.slice (some ⟨X.heap.size+1,0,none⟩) T.nodes.length T.nodes.length,.map (some (X.heap.size))] 93)).drew=Z at HCX ⊢
 clear HQ1 HK1 HC1 hHeld
 all_goals
  clear hS BX0 hsd hmk hmm;obtain⟨kb,bt,hc⟩:=HCX.out
  obtain⟨G,hGd⟩:∃G:Pd,Hid (G=⟨X,B0,n1,n2,d1,d2,T,A,B,C,bd,ndm,X.heap.size+1+1,kb,bt⟩):=⟨_,rfl⟩
  have hG:G.Ok:=by rw[hGd.out];exact⟨HT3.out,HC3.out,HK.out,HTP.out,HOK.out,HD3.out,hc.o1,hc.o2,hc.o3,hc.n1,hc.n2,hc.n3⟩
  have hP:Pv G Z [] (λ_=>0):=by
   rw[hGd.out]
   refine⟨hc.bx,hc.kbB.lt,λj hj=>(hc.kbB.cell j).trans (jgi _ _ _ hj),λj=>hc.kbB.frozen j,⟨0,Nat.le_refl _,hc.btQ⟩,hc.bl⟩
  have hT0:G.T=T:=by rw[hGd.out]
  have hDp:Dp G=λsort s=>dkL (j19 A B C sort) s:=by rw[hGd.out];rfl
  have hw0:G.w0=X:=by rw[hGd.out]
  have hcc:G.c=X.heap.size+1+1:=by rw[hGd.out]
  have L0:Hid (LdO G Z res (T.tops.drop 0) (T.tops.take 0) (λ_=>0) (λ_=>0)):=⟨by rw[List.drop_zero,hDp,hT0];exact HRS.out,hP,λ_ _ _=>rfl,AhOk.nil⟩
  have HG:=Hid.mk' hG
  have HT0:=Hid.mk' hT0
  have HW0:=Hid.mk' hw0
  have HCC:=Hid.mk' hcc
  have KT4:=Hid.mk' (KT3.out.later hc.bl)
  obtain⟨y0,y1,y2⟩:=KT4.out.two
  clear hG hP hDp hw0 hcc hT0 hc HCX;rw[<-HCC.out]
  go_wp2_with fail;clear y0 y1 y2;go_loopw [39] (λiv wr=>∃m:Nat,m<=T.tops.length/\iv=.int .i64 m/\Hid (∃Km Kpm,LdO G wr res (T.tops.drop m) (T.tops.take m) Km Kpm)) (λiv _=>T.tops.length-(intOf iv).toNat)
  case atStart=>exact⟨0,Nat.zero_le _,rfl,⟨_,_,L0.out⟩⟩
  clear L0;obtain⟨m,hm,rfl,hLD⟩:=hrel
  obtain⟨Km,Kpm,hld⟩:=hLD.out
  have LD:=Hid.mk' hld
  clear hLD hld;have HBW:Hid (Below w.heap.size w wr):=by have h:=LD.out.p.bl;rw[HW0.out] at h;exact HB3.out.trans (h.mono HB3.out.size)
  by_cases hlt:m<T.tops.length
  rotate_left 1
  ·
   have hme:m=T.tops.length:=by omega
   subst hme
   have hR:Hid (res=.ok Km):=by show _=_;rw[LD.out.ck,List.drop_length];rfl
   have y2:wr.cell? ⟨G.c,2,none⟩=some (.slice (some ⟨G.kb,0,none⟩) T.nodes.length T.nodes.length):=by have h:=LD.out.p.bx.cell 2;rw[HT0.out] at h;exact h.trans rfl
   have hkr:=LD.out.kr
   rw[HT0.out] at hkr
   have HKR2:=Hid.mk' hkr
   clear hkr;go_wp2_with fail;refine bq (.tuple #[.slice (some ⟨G.kb,0,none⟩) T.nodes.length T.nodes.length,.nilIface]) ?_
   exact j8z.good hR.out HBW.out (λj hj=>LD.out.p.kc j (by rw[HT0.out];exact hj)) HKR2.out
  obtain⟨x,hx⟩:=j0q hlt
  have hdr:T.tops.drop m=x :: T.tops.drop (m+1):=by rw[List.drop_eq_getElem_cons hlt];congr 1;exact(List.getElem?_eq_some_iff.1 hx).2
  have htk:T.tops.take (m+1)=T.tops.take m++[x]:=by rw[List.take_add_one,hx];rfl
  obtain⟨_,hfitT,hclT⟩:=HTP.out
  obtain⟨t,tn,rfl,htn,hct⟩:=hclT m x hx
  obtain⟨t',b',e',hok',hfk',_,hlt'⟩:=hfitT.at_ hx
  have e':t=t':=by omega
  subst e'
  rw[j0t htn] at hfk'
  have hvt:VN G.T t tn:=by rw[HT0.out];exact⟨htn,hok',b',hfk'⟩
  have hft:FitL (j0e G.T) (okN G.T) tn.kids b' t:=by rw[HT0.out];exact hfk'
  have hkt:=jkx hct
  have hk0:0<tn.kids.length:=by have h1:=hvt.len;rcases hkt with e|e<;>(rw[e] at h1;simp[shp] at h1;omega)
  obtain⟨fb,fo,en2,_,hfb,pp⟩:=j05 HT3.out.t hx
  have en2':=Hid.mk' en2
  have v1:wr.cell? ⟨fb,fo+m,none⟩=some (.int .i64 (t:Int)):=by have h:=LD.out.p.bl;rw[HW0.out] at h;exact(h.cell (p:=⟨fb,fo+m,none⟩) hfb).trans pp
  have mI:(m:Int)<(T.tops.length:Int):=by omega
  have htop:=Hid.mk' (jfx HG.out LD.out.ah (by rw[List.length_take];omega) LD.out.p LD.out.kr hvt hkt hft)
  have CK2:Hid (res=match j1x (Dp G) G.T G.T.nodes.length (T.tops.take m) Km (t:Int) with | .error e=> .error e | .ok K1=>j2o (Dp G) G.T G.T.nodes.length (T.tops.drop (m+1)) (T.tops.take m++[(t:Int)]) K1):=by show _=_;rw[LD.out.ck,hdr,j2o];rfl
  have HVT:=Hid.mk' hvt
  have HK0:=Hid.mk' hk0
  have HTK:=Hid.mk' htk
  clear hx hdr htk hfitT hclT htn hct hok' hfk' hvt hft pp;subst en2
  go_wp2_with fail;refine htop.out.mono ?_
  intro e w5 hSO
  clear htop v1;cases hr0:j1x (Dp G) G.T G.T.nodes.length (T.tops.take m) Km (t:Int) with
  | error q =>
   obtain⟨c,nq⟩:=q
   rw[hr0] at hSO
   obtain⟨rfl,hb5⟩:=hSO
   have hR:Hid (res=.error (c,nq)):=by show _=_;rw[CK2.out,hr0]
   have HB5:Hid (Below w.heap.size w w5):=by rw[HW0.out] at hb5;exact HB3.out.trans (hb5.mono HB3.out.size)
   clear hr0 hb5;go_wp2_with fail;refine bq (.tuple #[.slice none 0 0,errV c nq]) ?_
   exact j8z.bad hR.out HB5.out
  | ok K5 =>
   rw[hr0] at hSO
   obtain⟨rfl,Kp5,hp5,hk5⟩:=hSO
   have HN:Hid (LdO G w5 res (T.tops.drop (m+1)) (T.tops.take (m+1)) K5 Kp5):=⟨by rw[CK2.out,hr0,HTK.out],by rw[HTK.out];exact hp5,hk5,by rw[HTK.out];exact LD.out.ah.snoc HVT.out HK0.out (je7 hr0)⟩
   clear hr0 hp5 hk5;go_wp2_with fail;go_roundw
   case rel=>exact⟨m+1,by omega,by go_num,⟨_,_,HN.out⟩⟩
   case measure=>simp[intOf];omega
end
end
section
open Go.RowKit
theorem Tryz.infoNd:(Tryz.prog.info? 73).map (λi=>(i.zero,i.size,i.bytes))=some (some (.agg #[.int .i64 0,.string {data:=#[]},.int .i64 0,.slice none 0 0]),4,56):=by kernel_rfl
theorem jas (s:Option Addr) (cap:Nat) (n:Nd) (B:Nat) (w:World) (hL:Els 1 cInt w B s n.kids) (hk:j5f n) :
  Calls Tryz.prog 37 #[.agg #[.int .i64 n.kind,.string n.text,.int .i64 n.num,.slice s n.kids.length cap]] w λe w'=>(∃g:Nat,e=.returned (.agg #[.int .i64 n.kind,.string n.text,.int .i64 n.num,.slice (some ⟨g,0,none⟩) n.kids.length n.kids.length])/\Els 1 cInt w' w.heap.size (some ⟨g,0,none⟩) n.kids)/\Below w.heap.size w w':=by
 have hal:=alloc_old
 have haf:=j04
 obtain⟨k0,k1,k2⟩:=jks w #[.int .i64 n.kind,.string n.text,.int .i64 n.num,.slice s n.kids.length cap] #[.int .i64 0,.string {data:=#[]},.int .i64 0,.slice none 0 0] #[.int .i64 n.kind,.string n.text,.int .i64 n.num,.slice none 0 0] 78 73 73
 have L0:Below w.heap.size w (((w.alloc (.cells #[.int .i64 n.kind,.string n.text,.int .i64 n.num,.slice s n.kids.length cap] 78)).alloc (.cells #[.int .i64 0,.string {data:=#[]},.int .i64 0,.slice none 0 0] 73)).alloc (.cells #[.int .i64 n.kind,.string n.text,.int .i64 n.num,.slice none 0 0] 73)):=blq
 have n0:¬w.heap.size=w.heap.size+1+1:=by omega
 have n1:¬w.heap.size+1=w.heap.size+1+1:=by omega
 have lx:=k2.lt
 go_enter Tryz.func37,Tryz.ntmps37
 go_wp2_with fail;refine(j6m s cap n.kids B _ (hL.later j07 L0) hk.2).mono ?_
 rintro e w3 ⟨g,rfl,e3,d3,hb3⟩
 have d3:=d3.drop j0w (B':=w.heap.size+1+1+1) (by omega)
 have L3:=j01 L0 hb3
 have S1:=k1.later hb3
 have S2:=k2.later hb3
 clear k0 k1 k2 L0 hb3;obtain⟨z0,z1,z2,z3,z4⟩:=S2.four'
 obtain⟨y0,y1,y2,y3,y4⟩:=S1.four'
 go_wp2_with fail;refine bodyPost_ret (v:=.agg #[.int .i64 n.kind,.string n.text,.int .i64 n.num,.slice (some ⟨g,0,none⟩) n.kids.length n.kids.length]) (by simp[results,Tryz.results37,go_sem,y0,y1,y2,y3]) rfl ⟨⟨g,rfl,?_⟩,?_⟩
 ·
  refine(d3.kept j07 ?_).drop j0w (by omega)
  repeat (first|with_reducible exact Kept.refl _ _|with_reducible refine Kept.trans ?_ (Kept.set _ (by simp<;>omega) _))
 repeat (first|with_reducible exact L3|with_reducible refine Below.setCell ?_ (by simp<;>omega) _)
end
section
open Go.RowKit Go.Maps Go.WideMaps
theorem jm0 {w:World} {B:Nat} {s:Option Addr} {L:List Nd} (h:Els 4 j47 w B s L):Els 4 j1r w B s L:=by
 rcases h with h0|⟨b,o,h1,h2,h3,h4,h5⟩
 ·
  exact Or.inl h0
 refine Or.inr ⟨b,o,h1,h2,h3,λk a ha=>?_,h5⟩
 obtain⟨cs,g1,g2,s',c',e1,e2,e3⟩:=h4 k a ha
 exact⟨cs,g1,g2,s',c',e1,e2⟩
theorem j8l (s:Option Addr) (c:Nat) (L:List Nd) (B:Nat) (w:World) (hL:Els 4 j1r w B s L) (hl:L.length<=1048576) (hk:∀n∈L,j5f n) :
  Calls Tryz.prog 22 #[.slice s L.length c] w λe w'=>Made 4 j47 w L e w':=by
 have HK:Hid (∀n∈L,j5f n):=hk
 clear hk;obtain⟨i0,hi,hz0,hz1,hz2⟩:=info_parts Tryz.infoNd
 go_enter Tryz.func22,Tryz.ntmps22
 go_wp2_with (at_make;refine wpList_make_full _ rfl _ _ 37 rfl w.heap.size 73 i0 (.agg #[.int .i64 0,.string {data:=#[]},.int .i64 0,.slice none 0 0]) 4 Tryz.underlying37 hi hz0 hz1 .i64 .i64 _ _ L.length rfl rfl rfl rfl (by rw[hz2];omega) (by unfold maxLen;omega) (Nat.le_refl _) ?_)
 intro w1 hown hgrow
 have hrow:Hid (Mk 4 j47 [.int .i64 0,.string {data:=#[]},.int .i64 0,.slice none 0 0] 73 w1 w.heap.size w.heap.size L 0):=Mk.start (z:=#[.int .i64 0,.string {data:=#[]},.int .i64 0,.slice none 0 0]) rfl hown
 have hbel:Hid (Below w.heap.size w w1):=(Below.refl _ w).grown hgrow (Nat.le_refl _) (λk h=>by cases h)
 clear hown hgrow hi hz0 hz1 hz2;go_wp2_with fail;go_loopw [4] (λi wr=>∃k:Nat,k<=L.length/\i=.int .i64 k/\Hid (Mk 4 j47 [.int .i64 0,.string {data:=#[]},.int .i64 0,.slice none 0 0] 73 wr w.heap.size w.heap.size L k)/\Hid (Below w.heap.size w wr)) (λi _=>L.length-(intOf i).toNat)
 case atStart=>exact⟨0,Nat.zero_le _,rfl,hrow,hbel⟩
 obtain⟨k,hk,rfl,hrow,hbel⟩:=hrel
 by_cases hlt:k<L.length
 ·
  obtain⟨a,ha⟩:=j0q hlt
  obtain⟨b,o,rfl,hB,hp,s',c',e0,e1,e2,e3,f⟩:=j15 (hL.later j08 hbel.out) ha
  have hka:=HK.out a (List.mem_of_getElem? ha)
  have hgr:=(hrow.out.at hlt).2.1
  clear hL;go_wp2_with fail;refine(jas s' c' a B _ f hka).mono ?_
  rintro e w2 ⟨⟨g,rfl,d1⟩,hb2⟩
  have hr2:=hrow.out.later j1s hb2
  have L2:Hid (Below w.heap.size w w2):=j01 hbel.out hb2
  obtain⟨_,hg,fz,cz⟩:=hr2.at hlt
  have g0:=cz 0 _ rfl
  have g1:=cz 1 _ rfl
  have g2:=cz 2 _ rfl
  have g3:=cz 3 _ rfl
  rw[Nat.add_zero] at g0
  have hputH:Hid (Mk 4 j47 [.int .i64 0,.string {data:=#[]},.int .i64 0,.slice none 0 0] 73 ((((w2.setCell ⟨w.heap.size,k*4,none⟩ (.int .i64 a.kind)).setCell ⟨w.heap.size,k*4+1,none⟩ (.string a.text)).setCell ⟨w.heap.size,k*4+2,none⟩ (.int .i64 a.num)).setCell ⟨w.heap.size,k*4+3,none⟩ (.slice (some ⟨g,0,none⟩) a.kids.length a.kids.length)) w.heap.size w.heap.size L (k+1)) :=
   hr2.push j1s ha (c:=[.int .i64 a.kind,.string a.text,.int .i64 a.num,.slice (some ⟨g,0,none⟩) a.kids.length a.kids.length]) rfl ⟨_,_,rfl,d1.drop j0w (by omega),Nat.le_refl _⟩ (by repeat (first|with_reducible exact Kept.refl _ _|with_reducible refine Kept.trans ?_ (Kept.set _ (by simp) _))) (λA C hA h=>put4 hA h)
  clear hr2 hrow ha cz f d1 hka;go_wp2_with fail;go_roundw
  case rel =>
   refine⟨k+1,by omega,by go_num,hputH,?_⟩
   show Below _ _ _
   repeat (first|with_reducible exact L2.out|with_reducible refine Below.setCell ?_ (by simp) _)
  case measure=>simp[intOf];omega
 have hm':k=L.length:=by omega
 subst hm'
 go_wp2_with fail;go_ret;exact⟨_,rfl,Nat.le_refl _,hrow.out.done j4j,hbel.out⟩
theorem j4d (s1 s2:Option Addr) (c1 c2:Nat) (t:Tre) (B:Nat) (w:World) (hT:InT w B s1 s2 t) (hk:kTre t) :
  Calls Tryz.prog 9 #[.agg #[.slice s1 t.nodes.length c1,.slice s2 t.tops.length c2]] w λe w'=>(∃a b:Nat,e=.returned (.agg #[.slice (some ⟨a,0,none⟩) t.nodes.length t.nodes.length,.slice (some ⟨b,0,none⟩) t.tops.length t.tops.length])/\InT w' w.heap.size (some ⟨a,0,none⟩) (some ⟨b,0,none⟩) t/\Els 4 j47 w' w.heap.size (some ⟨a,0,none⟩) t.nodes)/\Below w.heap.size w w':=by
 have hal:=alloc_old
 have haf:=j04
 obtain⟨⟨m1,m2⟩,m3⟩:=hk
 obtain⟨k0,k1,k2⟩:=jks w #[.slice s1 t.nodes.length c1,.slice s2 t.tops.length c2] #[.slice none 0 0,.slice none 0 0] #[.slice none 0 0,.slice none 0 0] 28 39 39
 go_enter Tryz.func9,Tryz.ntmps9
 go_wp2_with fail;refine(j8l s1 c1 t.nodes B _ (hT.n.later j08 blq) m1 m2).mono ?_
 rintro e w1 ⟨g1,rfl,e1,d1,hb1⟩
 simp only[World.size_alloc] at e1
 have L1:Below w.heap.size w w1:=blq
 have d1:=d1.drop j4j e1
 have P0:=(k0.later hb1).other (m:=w.heap.size+1+1) (by omega) 0 (.slice (some ⟨g1,0,none⟩) t.nodes.length t.nodes.length)
 have P1:=(k1.later hb1).other (m:=w.heap.size+1+1) (by omega) 0 (.slice (some ⟨g1,0,none⟩) t.nodes.length t.nodes.length)
 have P2:=(k2.later hb1).set 0 (.slice (some ⟨g1,0,none⟩) t.nodes.length t.nodes.length)
 have D1:=d1.kept j1s (Kept.set w1 (p:=⟨w.heap.size+1+1,0,none⟩) (by simp) (.slice (some ⟨g1,0,none⟩) t.nodes.length t.nodes.length))
 have LX:=L1.setCell (p:=⟨w.heap.size+1+1,0,none⟩) (by simp;omega) (.slice (some ⟨g1,0,none⟩) t.nodes.length t.nodes.length)
 obtain⟨z0,z1,z2⟩:=(k2.later hb1).two
 obtain⟨x0,x1,x2⟩:=(k0.later hb1).two
 have n0:¬w.heap.size=w.heap.size+1+1:=by omega
 clear k0 k1 k2 hb1 d1 L1 m2;go_wp2_with fail;clear x0 x1 x2 z0 z1 z2;generalize hX:w1.setCell ⟨w.heap.size+1+1,0,none⟩ (.slice (some ⟨g1,0,none⟩) t.nodes.length t.nodes.length)=X at P0 P1 P2 D1 LX ⊢
 clear hX;have P2:Blk X (w.heap.size+1+1) #[.slice (some ⟨g1,0,none⟩) t.nodes.length t.nodes.length,.slice none 0 0] 39:=P2
 refine(j6m s2 c2 t.tops B _ (hT.t.later j07 LX) m3).mono ?_
 rintro e w3 ⟨g3,rfl,e3,d3,hb3⟩
 have ly:w.heap.size+1+1<X.heap.size:=P2.lt
 have d3:=d3.drop j0w (B':=w.heap.size+1+1+1) (by omega)
 have L3:=j01 LX hb3
 have R1:=(P1.later hb3)
 have R2:=(P2.later hb3)
 have G1:=D1.later j1s hb3
 clear P0 P1 P2 D1 LX hb3;obtain⟨z0,z1,z2⟩:=R2.two
 obtain⟨y0,y1,y2⟩:=R1.two
 have n1:¬w.heap.size+1=w.heap.size+1+1:=by omega
 go_wp2_with fail;refine bodyPost_ret (v:=.agg #[.slice (some ⟨g1,0,none⟩) t.nodes.length t.nodes.length,.slice (some ⟨g3,0,none⟩) t.tops.length t.tops.length]) (by simp[results,Tryz.results9,go_sem,y0,y1]) rfl ⟨⟨g1,g3,rfl,?_⟩,?_⟩
 ·
  refine⟨InT.drop (B:=w.heap.size+1+1+1) (InT.kept (w:=w3) ⟨jm0 G1,d3⟩ ?_) (by omega),Els.drop (B:=w.heap.size+1+1+1) j4j (G1.kept j1s ?_) (by omega)⟩
  all_goals repeat (first|with_reducible exact Kept.refl _ _|with_reducible refine Kept.trans ?_ (Kept.set _ (by simp<;>omega) _))
 repeat (first|with_reducible exact L3|with_reducible refine Below.setCell ?_ (by simp<;>omega) _)
theorem jgt (s1 s2 s3:Option Addr) (c1 c2 c3:Nat) (A B C:List (ByteArray×Int)) (w:World) (hA:j0y w s1 A) (hB:j0y w s2 B) (hC:j0y w s3 C) (nA:Nms A) (nB:Nms B) (nC:Nms C) (mA:A.length<=maxLen) (mB:B.length<=maxLen) (mC:C.length<=maxLen) :
  Calls Tryz.prog 5 #[.agg #[.slice s1 A.length c1,.slice s2 B.length c2,.slice s3 C.length c3],.int .i64 1048576] w λe w'=>(∃r:Int,e=.returned (.int .i64 r)/\(r=-1\/(0<=r/\r<=1048576/\A.length<=1048576/\B.length<=1048576/\C.length<=1048576)))/\Below w.heap.size w w':=by
 have hal:=alloc_old
 have haf:=j04
 have k0:=Blk.new w #[.slice s1 A.length c1,.slice s2 B.length c2,.slice s3 C.length c3] 24
 go_enter Tryz.func5,Tryz.ntmps5
 go_wp2_with fail;refine(j4x s1 c1 A 1048576 _ (hA.later blq) nA mA (by omega) (by omega)).mono ?_
 rintro e w1 ⟨⟨r,rfl,hr⟩,hb1⟩
 have L1:Below w.heap.size w w1:=blq
 have K1:=k0.later hb1
 clear k0 hb1;obtain⟨x0,x1,x2,x3⟩:=K1.three
 rcases hr with rfl|⟨r0,r1,lA⟩
 ·
  go_wp2_with fail;go_ret;exact⟨⟨_,rfl,Or.inl rfl⟩,L1⟩
 have t2:decide (r<0)=false:=by simp;omega
 go_wp2_with fail;refine(j4x s2 c2 B r _ (hB.later L1) nB mB r0 r1).mono ?_
 rintro e w2 ⟨⟨q,rfl,hq⟩,hb2⟩
 have L2:=j01 L1 hb2
 have K2:=K1.later hb2
 clear K1 hb2 x0 x1 x2 x3;obtain⟨x0,x1,x2,x3⟩:=K2.three
 rcases hq with rfl|⟨q0,q1,lB⟩
 ·
  go_wp2_with fail;go_ret;exact⟨⟨_,rfl,Or.inl rfl⟩,L2⟩
 have t3:decide (q<0)=false:=by simp;omega
 go_wp2_with fail;refine(j4x s3 c3 C q _ (hC.later L2) nC mC q0 (by omega)).mono ?_
 rintro e w3 ⟨⟨p,rfl,hp⟩,hb3⟩
 have L3:=j01 L2 hb3
 clear hb3 x0 x1 x2 x3;rcases hp with rfl|⟨p0,p1,lC⟩
 ·
  go_wp2_with fail;go_ret;exact⟨⟨_,rfl,Or.inl rfl⟩,L3⟩
 have t4:decide (p<0)=false:=by simp;omega
 go_wp2_with fail;go_ret;exact⟨⟨_,rfl,Or.inr ⟨p0,by omega,lA,lB,lC⟩⟩,L3⟩
end
end Go.Proofs.YtjbbagcpcepkoaaGreatDoor
