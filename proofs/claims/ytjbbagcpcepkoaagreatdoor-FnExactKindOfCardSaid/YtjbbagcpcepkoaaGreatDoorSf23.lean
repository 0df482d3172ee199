import Derived.Test.YtjbbagcpcepkoaaGreatDoorSf22
namespace Go.Proofs.YtjbbagcpcepkoaaGreatDoor
set_option maxRecDepth 100000
set_option maxHeartbeats 64000000
set_option linter.unusedVariables false
set_option linter.unusedSimpArgs false
section
open Go.RowKit Go.Maps Go.WideMaps
theorem jbd (s t:ByteArray) (L:List ByteArray):inL s (L++[t])=(inL s L || decide (t=s)):=by
 unfold inL;simp[List.any_append]
theorem j7s (f:Nm) (t:ByteArray) (v:Int) {L:List ByteArray} (h:∀s,(f s).isSome=inL s L) (s:ByteArray):(j39 f t v s).isSome=inL s (L++[t]):=by
 rw[jbd,<-h s]
 unfold j39
 by_cases e:s=t
 ·
  rw[if_pos e];simp[e]
 rw[if_neg e]
 have:decide (t=s)=false:=by simp;exact λq=>e q.symm
 rw[this];simp
def ckCn (D:Int->ByteArray->Int) (T:Tre) (g:KM->Int->Ck (Int×KM)) (cs:List Int) (had:List ByteArray) (c:Int) (s:ByteArray) (k:Int) (K1:KM):Ck KM:=if D 1 s=0 then .error (3,c) else if inL s had=true then .error (2,c) else if D 1 s=k then j18 D T g cs (had++[s]) K1 else .error (4,c)
theorem j63 (D:Int->ByteArray->Int) (T:Tre) (g:KM->Int->Ck (Int×KM)) (c:Int) (cs:List Int) (had:List ByteArray) (K:KM):j18 D T g (c :: cs) had K=match g K (kid (nd T c) 0) with | .error e=> .error e | .ok (k,K1)=>ckCn D T g cs had c (nd T c).text k K1:=by
 rw[j18]
 cases g K (kid (nd T c) 0) with
 | error q=>rfl
 | ok q=>rfl
section
variable {G:Pd} {w w':World} {ah:List Int} {Kp Kp' K:KM} {km ko mb nn:Nat} {gg:Nm} {bs:List Nat} {md:Md} {av:Value} {env:Env} {nx:Nat} {lst hr:Bool} {tk:Int}
structure LdC (G:Pd) (w0 w:World) (ah:List Int) (km ko:Nat) (gg:Nm) (bs:List Nat) (md:Md) (av:Value) (env:Env) (nx mp m:Nat) (Kp0:KM) (g:KM->Int->Ck (Int×KM)) (all:Ck KM) (ks:List Int) (had:List ByteArray) (f:Nm) (cnt:Nat) (K Kp:KM):Prop where
 ck:all=j18 (Dp G) G.T g ks had K
 q:QM w mp cnt f
 cm:cnt<=m
 hf:∀s,(f s).isSome=inL s had
 p:Pv G w ah Kp
 kr:KR G.T Kp K
 lo:∀j,j<nx->Kp j=Kp0 j
 x:Px G w km ko gg bs md av env Kp nx
 tw:Tw G.kb G.kb w0 w
theorem jc0 (hG:G.Ok) {N:Nat} (hE:ExpP G ah N) {i:Nat} {n:Nd} (hv:VN G.T i n) (hfit:FitL (j0e G.T) (okN G.T) n.kids nx i) (hiN0:i<=N) (hkd:n.kind=21) (h:Pv G w ah Kp) (hp:Px G w km ko gg bs md av env Kp nx) (hkr:KR G.T Kp K) :
  Calls Tryz.prog 115 #[.pointer (some ⟨G.c,0,none⟩),.int .i64 (i:Int),.agg #[addF km,j09 km ko,.int .i64 tk,.bool lst,.bool hr,av]] w λe w'=>j13 G w ah nx Kp (j18 (Dp G) G.T (ckE (Dp G) G.T ah md env N) n.kids [] K) e w':=by
 obtain⟨nb,no,s9,c9,en1,hnb,e0,e1,e2,e3,ekids,hcap⟩:=Pd.node hG hv.at_
 have hiN:i<G.T.nodes.length:=(List.getElem?_eq_some_iff.1 hv.at_).1
 have iI:(i:Int)<(G.T.nodes.length:Int):=by omega
 have hn4:G.T.nodes.length<=4000:=hG.tr.1
 have hkl:n.kids.length<=1048576:=(hG.k.1.2 n (List.mem_of_getElem? hv.at_)).2
 have hle:=hfit.le
 obtain⟨all,hall⟩:∃r,Hid (j18 (Dp G) G.T (ckE (Dp G) G.T ah md env N) n.kids [] K=r):=⟨_,rfl⟩
 rw[hall.out]
 have b1:Below w.heap.size w (w.alloc (.cells #[addF km,j09 km ko,.int .i64 tk,.bool lst,.bool hr,av] 139)):=j00 (Below.refl _ _) _
 have b2:Below w.heap.size w ((w.alloc (.cells #[addF km,j09 km ko,.int .i64 tk,.bool lst,.bool hr,av] 139)).alloc (.map #[] 0)):=j00 b1 _
 have x1:((w.alloc (.cells #[addF km,j09 km ko,.int .i64 tk,.bool lst,.bool hr,av] 139)).alloc (.map #[] 0)).cell? ⟨G.c,1,none⟩=some (.slice (some ⟨nb,no,none⟩) G.T.nodes.length G.d1):=by rw[<-en1];exact((h.later b2).bx.cell 1).trans rfl
 have q3:=((h.later b2).bl.cell (p:=⟨nb,no+i*4+3,none⟩) hnb).trans e3
 have BP:Hid (Blk ((w.alloc (.cells #[addF km,j09 km ko,.int .i64 tk,.bool lst,.bool hr,av] 139)).alloc (.map #[] 0)) w.heap.size #[addF km,j09 km ko,.int .i64 tk,.bool lst,.bool hr,av] 139):=Blk.alloc (Blk.new w #[addF km,j09 km ko,.int .i64 tk,.bool lst,.bool hr,av] 139) _
 have QM0:Hid (QM ((w.alloc (.cells #[addF km,j09 km ko,.int .i64 tk,.bool lst,.bool hr,av] 139)).alloc (.map #[] 0)) (w.heap.size+1) 0 (λ_=>none)):=by
  have h:=QM.made (w.alloc (.cells #[addF km,j09 km ko,.int .i64 tk,.bool lst,.bool hr,av] 139))
  have e:(w.alloc (.cells #[addF km,j09 km ko,.int .i64 tk,.bool lst,.bool hr,av] 139)).heap.size=w.heap.size+1:=by simp
  rw[e] at h;exact h
 have hwk:¬w.heap.size=G.kb:=by have:=h.kl;omega
 have hmk:¬w.heap.size+1=G.kb:=by have:=h.kl;omega
 have hmc:¬w.heap.size+1=G.c:=by have:=h.bx.lt;omega
 have hmt:¬w.heap.size+1=G.bt:=by obtain⟨m,_,q⟩:=h.tp;have:=q.lt;omega
 have hm0:G.w0.heap.size<=w.heap.size+1:=by have:=h.bl.size;omega
 have hbs2:Hid (∀b∈bs,¬b=w.heap.size+1):=λb hb=>by have:=hp.sc.lt b hb;omega
 have hav2:Hid (∀ba,av=.map (some ba)->¬ba=w.heap.size+1):=by
  intro ba hba
  rcases hp.am with ⟨_,h2,_⟩|⟨_,ba',na,fa,h2,h3,_⟩
  ·
   rw[h2] at hba;cases hba
  rw[h2] at hba;cases hba;have:=h3.lt;omega
 have L0:Hid (LdC G w ((w.alloc (.cells #[addF km,j09 km ko,.int .i64 tk,.bool lst,.bool hr,av] 139)).alloc (.map #[] 0)) ah km ko gg bs md av env nx (w.heap.size+1) 0 Kp (ckE (Dp G) G.T ah md env N) all (n.kids.drop 0) [] (λ_=>none) 0 K Kp):=⟨by rw[List.drop_zero];exact hall.out.symm,QM0.out,Nat.le_refl _,λs=>rfl,h.later b2,hkr,λ_ _=>rfl,hp.later b2,Tw.of b2⟩
 have EK:=Hid.mk' ekids
 have HV:=Hid.mk' hv
 have HKD:=Hid.mk' hkd
 have HFIT:Hid (FitL (j0e G.T) (okN G.T) n.kids nx i):=hfit
 have hmm:=j6i
 clear h hp b1 b2 e0 e1 e2 e3 ekids hfit hv hkr hkd hcap;go_enter Tryz.func115,Tryz.ntmps115
 go_wp2_with fail;clear x1 q3 hmm;go_loopw [26] (λiv wr=>∃m:Nat,m<=n.kids.length/\iv=.int .i64 m/\Hid (∃had f cnt Km Kpm,LdC G w wr ah km ko gg bs md av env nx (w.heap.size+1) m Kp (ckE (Dp G) G.T ah md env N) all (n.kids.drop m) had f cnt Km Kpm)/\Hid (Blk wr w.heap.size #[addF km,j09 km ko,.int .i64 tk,.bool lst,.bool hr,av] 139)) (λiv _=>n.kids.length-(intOf iv).toNat)
 case atStart=>exact⟨0,Nat.zero_le _,rfl,⟨_,_,_,_,_,L0.out⟩,BP.out⟩
 clear L0 BP QM0;obtain⟨m,hm,rfl,hLD,BPM⟩:=hrel
 obtain⟨had,fq,cnt,Km,Kpm,hld⟩:=hLD.out
 have LD:=Hid.mk' hld
 clear hLD hld;by_cases hlt:m<n.kids.length
 rotate_left 1
 ·
  have hme:m=n.kids.length:=by omega
  subst hme
  have hR:Hid (all=.ok Km):=by show _=_;rw[LD.out.ck,List.drop_length];rfl
  go_wp2_with fail;go_ret;exact j13.good hR.out LD.out.tw LD.out.p LD.out.kr LD.out.lo
 obtain⟨cq,cn,bc,hxc,hci,hvc,hcc,hfc,hnc⟩:=HV.out.kidAt HFIT.out (j:=m) (c:=8) (by rw[HKD.out];simp[shp,hlt])
 have h28:=jeq hcc
 obtain⟨a,an,ba,hx0,hac,hva,hca,hfa,hba⟩:=hvc.kidAt hfc (j:=0) (c:=1) (by rw[h28];simp[shp])
 have hae:=j1q hca
 have haN:a<G.T.nodes.length:=by omega
 have aI:(a:Int)<(G.T.nodes.length:Int):=by omega
 have hl1:cn.kids.length=1:=by have h1:=hvc.len;rw[h28] at h1;simpa[shp] using h1.symm
 have l0N:0<cn.kids.length:=by omega
 have l0I:(0:Int)<(cn.kids.length:Int):=by omega
 obtain⟨nb2,no2,t9,c9c,en2,hnb2,f0,f1,f2,f3,eck,_⟩:=Pd.node hG hvc.at_
 have enn:nb=nb2/\no=no2:=by rw[en1] at en2;simpa using en2
 obtain⟨rfl,rfl⟩:=enn
 obtain⟨fb,fo,rfl,_,hfb,pp⟩:=j05 eck hx0
 have pp:G.w0.cell? ⟨fb,fo,none⟩=some (.int .i64 (a:Int)):=by simpa using pp
 obtain⟨kb2,ko3,rfl,_,hkb2,pq⟩:=j05 EK.out hxc
 have hts:cn.text.size<=maxLen:=by have:=(hG.k.1.2 cn (List.mem_of_getElem? hvc.at_)).1;unfold maxLen;omega
 have cI:(cq:Int)<(G.T.nodes.length:Int):=by omega
 have mI:(m:Int)<(n.kids.length:Int):=by omega
 have hfk:¬fb=G.kb:=by have:=hG.kb;omega
 have v1:=(LD.out.p.bl.cell (p:=⟨kb2,ko3+m,none⟩) hkb2).trans pq
 have x1:wr.cell? ⟨G.c,1,none⟩=some (.slice (some ⟨nb,no,none⟩) G.T.nodes.length G.d1):=by rw[<-en1];exact(LD.out.p.bx.cell 1).trans rfl
 have q0:=(LD.out.p.bl.cell (p:=⟨nb,no+cq*4,none⟩) hnb).trans f0
 have q1:=(LD.out.p.bl.cell (p:=⟨nb,no+cq*4+1,none⟩) hnb).trans f1
 have q2:=(LD.out.p.bl.cell (p:=⟨nb,no+cq*4+2,none⟩) hnb).trans f2
 have q3:=(LD.out.p.bl.cell (p:=⟨nb,no+cq*4+3,none⟩) hnb).trans f3
 have HDR:Hid (n.kids.drop m=(cq:Int) :: n.kids.drop (m+1)):=by show _=_;rw[List.drop_eq_getElem_cons hlt];congr 1;exact(List.getElem?_eq_some_iff.1 hxc).2
 have HND:Hid (nd G.T (cq:Int)=cn):=j0j hvc.at_
 have HK0:Hid (kid cn 0=(a:Int)):=by show _=_;simp[kid,hx0]
 have HVA:=Hid.mk' hva
 have HFA:Hid (FitL (j0e G.T) (okN G.T) an.kids ba a):=hfa
 have PP:=Hid.mk' pp
 have HL1:=Hid.mk' hl1
 have hbn:Below wr.heap.size wr (wr.alloc (.cells #[.int .i64 cn.kind,.string cn.text,.int .i64 cn.num,.slice (some ⟨fb,fo,none⟩) cn.kids.length c9c] 73)):=j00 (Below.refl _ _) _
 have BN:Hid (Blk (wr.alloc (.cells #[.int .i64 cn.kind,.string cn.text,.int .i64 cn.num,.slice (some ⟨fb,fo,none⟩) cn.kids.length c9c] 73)) wr.heap.size #[.int .i64 cn.kind,.string cn.text,.int .i64 cn.num,.slice (some ⟨fb,fo,none⟩) cn.kids.length c9c] 73):=Blk.new wr #[.int .i64 cn.kind,.string cn.text,.int .i64 cn.num,.slice (some ⟨fb,fo,none⟩) cn.kids.length c9c] 73
 have PA:=Hid.mk' (LD.out.p.later hbn)
 have XA:=Hid.mk' (LD.out.x.later hbn)
 have QA:=Hid.mk' (LD.out.q.later hbn)
 have TA:=Hid.mk' (LD.out.tw.trans (Tw.of hbn))
 have BPA:=Hid.mk' (BPM.out.later hbn)
 have hbw:w.heap.size<wr.heap.size:=BPM.out.lt
 have hqw:w.heap.size+1<wr.heap.size:=LD.out.q.lt
 have hnk:¬wr.heap.size=G.kb:=by have:=LD.out.p.kl;omega
 clear hxc hvc hcc hfc hx0 hva hca hfa pp pq f0 f1 f2 f3 eck hbn en2 hl1 h28;go_wp2_with fail;clear v1 x1 q0 q1 q2 q3;generalize wr.alloc (.cells #[.int .i64 cn.kind,.string cn.text,.int .i64 cn.num,.slice (some ⟨fb,fo,none⟩) cn.kids.length c9c] 73)=wa at PA XA QA TA BPA BN ⊢
 have hwa:w.heap.size<wa.heap.size:=BPA.out.lt
 have hwa1:wr.heap.size<wa.heap.size:=BN.out.lt
 have hcall:=Hid.mk' (hE md env km ko gg bs av lst hr tk a ba an Kpm Km wa.drew (by omega) HVA.out HFA.out hae (PA.out.later (j02 (Below.refl _ _))) ((XA.out.later (j02 (Below.refl _ _))).mono (by omega)) LD.out.kr)
 have hS:Hid (∀X,Tw G.kb G.kb (wa) X->X.cell? ⟨wr.heap.size,3,none⟩=some (.slice (some ⟨fb,fo,none⟩) cn.kids.length c9c)/\X.cell? ⟨fb,fo,none⟩=some (.int .i64 (a:Int))/\X.cell? ⟨w.heap.size,0,none⟩=some (addF km)/\X.cell? ⟨w.heap.size,1,none⟩=some (j09 km ko)/\X.cell? ⟨w.heap.size,2,none⟩=some (.int .i64 tk)/\X.cell? ⟨w.heap.size,3,none⟩=some (.bool lst)/\X.cell? ⟨w.heap.size,4,none⟩=some (.bool hr)/\X.cell? ⟨w.heap.size,5,none⟩=some (av)):=λX hX=>⟨(hX.cell hwa1 hnk hnk).trans ((BN.out.cell 3).trans rfl),(hX.cell (Nat.lt_of_lt_of_le hfb PA.out.bl.size) hfk hfk).trans ((PA.out.bl.cell (p:=⟨fb,fo,none⟩) hfb).trans PP.out),(hX.cell hwa hwk hwk).trans ((BPA.out.cell 0).trans rfl),(hX.cell hwa hwk hwk).trans ((BPA.out.cell 1).trans rfl),(hX.cell hwa hwk hwk).trans ((BPA.out.cell 2).trans rfl),(hX.cell hwa hwk hwk).trans ((BPA.out.cell 3).trans rfl),(hX.cell hwa hwk hwk).trans ((BPA.out.cell 4).trans rfl),(hX.cell hwa hwk hwk).trans ((BPA.out.cell 5).trans rfl)⟩
 refine wp_region_held_drew (S:=λX=>X.cell? ⟨wr.heap.size,3,none⟩=some (.slice (some ⟨fb,fo,none⟩) cn.kids.length c9c)/\X.cell? ⟨fb,fo,none⟩=some (.int .i64 (a:Int))/\X.cell? ⟨w.heap.size,0,none⟩=some (addF km)/\X.cell? ⟨w.heap.size,1,none⟩=some (j09 km ko)/\X.cell? ⟨w.heap.size,2,none⟩=some (.int .i64 tk)/\X.cell? ⟨w.heap.size,3,none⟩=some (.bool lst)/\X.cell? ⟨w.heap.size,4,none⟩=some (.bool hr)/\X.cell? ⟨w.heap.size,5,none⟩=some (av)) (by kernel_rfl) ?_ (λhHeld=>?_)
 ·
  exact hS.out _ (Tw.of (j02 (Below.refl _ _)))
 refine wpr 0 37 ?_;simp only[zs];refine wpr 1 38 ?_;simp only[zs];refine wpr 2 39 ?_;simp only[zs];refine wpr 3 40 ?_;simp only[zs];refine wpr 4 41 ?_;simp only[zs];refine wpr 5 42 ?_;simp only[zs];refine wpAnyH_ready (rs:=[6]) (by kernel_rfl) (by simp) ?_
 refine AllReadyH.cons rfl (λKQ hK=>?_) AllReadyH.nil
 go_simp;refine hcall.out.mono ?_
 rintro e w2 hSy
 clear hcall;cases hr0:ckE (Dp G) G.T ah md env N Km (a:Int) with
 | error q =>
  obtain⟨c,nq⟩:=q
  rw[hr0] at hSy
  obtain⟨rfl,ht⟩:=hSy
  have hR:Hid (all=.error (c,nq)):=by show _=_;rw[LD.out.ck,HDR.out,j63,HND.out,HK0.out,hr0]
  have T2:Hid (Tw G.kb G.kb wa w2):=Tw.trans (Tw.of (j02 (Below.refl _ _))) ht
  clear ht hr0;refine hK.out _ _ (hS.out _ T2.out) (λhHeld=>?_)
  clear hK KQ;try simp only[zs]
  refine wpr 7 11 ?_;simp only[zs];refine wpAnyH_done (by kernel_rfl) ?_ _
  clear hHeld hS;go_wp2_with fail;go_ret;exact j13.bad hR.out (TA.out.trans T2.out)
 | ok q =>
  obtain⟨v,K1⟩:=q
  rw[hr0] at hSy
  obtain⟨rfl,ht,Kp1,hp1,hk1,hlo⟩:=hSy
  have T2:Hid (Tw G.kb G.kb wa w2):=Tw.trans (Tw.of (j02 (Below.refl _ _))) ht
  have hva1:Hid (Kp1 a=v):=(hk1 a haN (by rw[j0j HVA.out.at_];exact hae)).trans (j4i (Dp G) G.T ah md env N ba a Km v K1 HVA.out.ok (by rw[j0t HVA.out.at_];exact HFA.out) hr0).1
  have HP0:Hid (all=ckCn (Dp G) G.T (ckE (Dp G) G.T ah md env N) (n.kids.drop (m+1)) had (cq:Int) cn.text v K1):=by show _=_;rw[LD.out.ck,HDR.out,j63,HND.out,HK0.out,hr0]
  have P2:=Hid.mk' hp1
  have K2:=Hid.mk' hk1
  have LO2:Hid (∀j,j<nx->Kp1 j=Kp j):=λj hj=>(hlo j (by omega)).trans (LD.out.lo j hj)
  have BP2:=Hid.mk' (BPA.out.tw T2.out hwk hwk)
  have BN2:=Hid.mk' (BN.out.tw T2.out hnk hnk)
  have X2:=Hid.mk' (XA.out.tw T2.out λj hj=>hlo j (by omega))
  have T3:=Hid.mk' (TA.out.trans T2.out)
  have Q2:Hid (QM w2 (w.heap.size+1) cnt fq):=QA.out.same (T2.out.block _ QA.out.lt hmk hmk)
  clear ht hr0 hp1 hk1 hlo;refine hK.out _ _ (hS.out _ T2.out) (λhHeld=>?_)
  clear hK KQ;try simp only[zs]
  refine wpr 7 11 ?_;simp only[zs];refine wpAnyH_done (by kernel_rfl) ?_ _
  clear hHeld hS;clear T2 PA XA QA TA BPA BN hwa hwa1;have n1:w2.cell? ⟨wr.heap.size,1,none⟩=some (.string cn.text):=(BN2.out.cell 1).trans rfl
  have hdc:=Hid.mk' (j29 hG P2.out 1 cn.text hts)
  go_wp2_with fail;refine hdc.out.mono ?_
  rintro e w5 ⟨rfl,hb5⟩
  clear hdc n1;have P5:=Hid.mk' (P2.out.later hb5)
  have X5:=Hid.mk' (X2.out.later hb5)
  have BP5:=Hid.mk' (BP2.out.later hb5)
  have BN5:=Hid.mk' (BN2.out.later hb5)
  have Q5:=Hid.mk' (Q2.out.later hb5)
  have T5:=Hid.mk' (T3.out.trans (Tw.of hb5))
  clear P2 X2 BP2 BN2 Q2 T3 hb5;obtain⟨dk,hdk⟩:∃k,Hid (Dp G 1 cn.text=k):=⟨_,rfl⟩
  rw[hdk.out]
  have n1:w5.cell? ⟨wr.heap.size,1,none⟩=some (.string cn.text):=(BN5.out.cell 1).trans rfl
  have hlk:=Q5.out.look cn.text hts
  obtain⟨tb,htb⟩:∃b,Hid ((fq cn.text).isSome=b):=⟨_,rfl⟩
  obtain⟨tv,htv⟩:∃b,Hid ((fq cn.text).getD 0=b):=⟨_,rfl⟩
  rw[htb.out,htv.out] at hlk
  have HIN:Hid (inL cn.text had=tb):=by show _=_;rw[<-LD.out.hf,htb.out]
  by_cases h0:dk=0
  ·
   subst h0
   have hR:Hid (all=.error (3,(cq:Int))):=by show _=_;rw[HP0.out];unfold ckCn;rw[hdk.out,if_pos rfl]
   have e1:decR 0=(0,3):=rfl
   rw[e1]
   go_wp2_with fail;go_ret;exact j13.bad hR.out T5.out
  have e1:decR dk=(dk,0):=by simp[decR,h0]
  rw[e1]
  cases tb
  rotate_left 1
  ·
   have hR:Hid (all=.error (2,(cq:Int))):=by show _=_;rw[HP0.out];unfold ckCn;rw[hdk.out,if_neg h0,if_pos HIN.out]
   clear e1 h0;go_wp2_with fail;go_ret;exact j13.bad hR.out T5.out
  have y2:w5.cell? ⟨G.c,2,none⟩=some (.slice (some ⟨G.kb,0,none⟩) G.T.nodes.length G.T.nodes.length):=(P5.out.bx.cell 2).trans rfl
  have n3:w5.cell? ⟨wr.heap.size,3,none⟩=some (.slice (some ⟨fb,fo,none⟩) cn.kids.length c9c):=(BN5.out.cell 3).trans rfl
  have ya:w5.cell? ⟨fb,fo,none⟩=some (.int .i64 (a:Int)):=(P5.out.bl.cell (p:=⟨fb,fo,none⟩) hfb).trans PP.out
  have yk:w5.cell? ⟨G.kb,a,none⟩=some (.int .i64 v):=by rw[<-hva1.out];exact P5.out.kc a haN
  by_cases hkv:dk=v
  rotate_left 1
  ·
   have tkv:(dk != v)=true:=by simp[hkv]
   have hR:Hid (all=.error (4,(cq:Int))):=by show _=_;rw[HP0.out];unfold ckCn;rw[hdk.out,if_neg h0,if_neg (by rw[HIN.out];simp),if_neg hkv]
   clear e1 h0 hkv;go_wp2_with fail;go_quiet (fail)
   go_wp2_with fail;go_ret;exact j13.bad hR.out (T5.out.trans (Tw.of (j06 (Below.refl _ _) _)))
  have tkv:(dk != v)=false:=by simp[hkv]
  have HP1:Hid (all=j18 (Dp G) G.T (ckE (Dp G) G.T ah md env N) (n.kids.drop (m+1)) (had++[cn.text]) K1):=by show _=_;rw[HP0.out];unfold ckCn;rw[hdk.out,if_neg h0,if_neg (by rw[HIN.out];simp),if_pos hkv]
  clear e1 h0 hkv HP0 hdk;go_wp2_with fail;go_quiet (fail)
  have P6:=Hid.mk' (P5.out.later (j06 (Below.refl _ _) nq))
  have X6:=Hid.mk' (X5.out.later (j06 (Below.refl _ _) nq))
  have BP6:=Hid.mk' (BP5.out.later (j06 (Below.refl _ _) nq))
  have BN6:=Hid.mk' (BN5.out.later (j06 (Below.refl _ _) nq))
  have Q6:=Hid.mk' (Q5.out.later (j06 (Below.refl _ _) nq))
  have T6:=Hid.mk' (T5.out.trans (Tw.of (j06 (Below.refl _ _) nq):Tw G.kb G.kb w5 (w5.drewN nq)))
  generalize w5.drewN nq=X at P6 X6 BP6 BN6 Q6 T6 ⊢
  clear P5 X5 BP5 BN5 Q5 T5 n1 n3 y2 ya yk tkv hlk htb htv;have n1:X.cell? ⟨wr.heap.size,1,none⟩=some (.string cn.text):=(BN6.out.cell 1).trans rfl
  obtain⟨w8,hrun,hq8,ht8⟩:=Q6.out.put (by have:=LD.out.cm;unfold maxLen;omega) cn.text hts (cq:Int)
  have P8:=Hid.mk' (P6.out.turned ht8 hm0 hmc hmt hmk)
  have X8:=Hid.mk' (X6.out.off (Tw.turned (p:=w.heap.size+1) ht8) hbs2.out hav2.out)
  have BP8:=Hid.mk' (BP6.out.tw (Tw.turned (p:=w.heap.size+1) ht8) (by omega) (by omega))
  have T8:Hid (Tw G.kb G.kb w w8):=((T6.out.more (w.heap.size+1)).trans (Tw.turned ht8)).less (by omega)
  have HN:Hid (LdC G w w8 ah km ko gg bs md av env nx (w.heap.size+1) (m+1) Kp (ckE (Dp G) G.T ah md env N) all (n.kids.drop (m+1)) (had++[cn.text]) (j39 fq cn.text (cq:Int)) (cnt+1) K1 Kp1):=⟨HP1.out,hq8,by have:=LD.out.cm;omega,λs=>j7s fq cn.text (cq:Int) LD.out.hf s,P8.out,K2.out,LO2.out,X8.out,T8.out⟩
  clear hq8 ht8;go_wp2_with fail;go_roundw
  case rel=>exact⟨m+1,by omega,by go_num,⟨_,_,_,_,_,HN.out⟩,BP8.out⟩
  case measure=>simp[intOf];omega
end
end
section
open Go.RowKit Go.Maps Go.WideMaps
theorem jkh {k:Int} (h:j1c 4 k):k=29:=by
 unfold j1c at h
 simp only[show¬(4:Int)=10 by omega,if_false] at h
 have h:=h.1
 unfold cls at h
 repeat (split at h<;>try omega)
theorem jl4 {k:Int} (h:j1c 5 k):k=30:=by
 unfold j1c at h
 simp only[show¬(5:Int)=10 by omega,if_false] at h
 have h:=h.1
 unfold cls at h
 repeat (split at h<;>try omega)
theorem jh9 {t:ByteArray} {L:List ByteArray} (h:inL t L=false) (n:Nat):inL t (L.take n)=false:=by
 unfold inL at h ⊢
 rw[List.any_eq_false] at h ⊢
 exact λx hx=>h x (List.mem_of_mem_take hx)
theorem ji8 {f:Nm} {names:List ByteArray} {L0 j:Nat} {t:ByteArray} {kd:Int} (hl:names.length=j) (h:∀s,(f s).getD 0=29 ↔ inL s (names.take L0)=true) (hn:inL t names=false) (hk:(kd=29/\j+1<=L0)\/(kd=30/\L0<=j)):∀s,(j39 f t kd s).getD 0=29 ↔ inL s ((names++[t]).take L0)=true:=by
 intro s
 unfold j39
 rcases hk with ⟨rfl,hj⟩|⟨rfl,hj⟩
 ·
  rw[List.take_of_length_le (by simp;omega),jbd]
  have h1:=h s
  rw[List.take_of_length_le (by omega)] at h1
  by_cases e:s=t
  ·
   rw[if_pos e];simp[e]
  rw[if_neg e]
  have:decide (t=s)=false:=by simp;exact λq=>e q.symm
  rw[this,Bool.or_false];exact h1
 rw[List.take_append_of_le_length (by omega)]
 by_cases e:s=t
 ·
  rw[if_pos e,e,jh9 hn];simp
 rw[if_neg e];exact h s
def jk9 (r:Ck (List ByteArray)) (n:Nat) (g:List ByteArray->KM->Ck KM) (K:KM):Ck KM:=match r with | .error e=> .error e | .ok all=>g (all.take n) K
section
variable {G:Pd} {w w':World} {ah:List Int} {Kp Kp' K:KM} {km ko mb nn:Nat} {gg:Nm} {bs:List Nat} {md:Md} {av:Value} {env:Env} {nx:Nat} {lst hr:Bool} {tk:Int}
structure LdN (G:Pd) (w0 w:World) (ah:List Int) (km ko:Nat) (gg:Nm) (bs:List Nat) (md:Md) (av:Value) (env:Env) (nx mp j L0:Nat) (Kp:KM) (all:Ck (List ByteArray)) (AB:List Int) (names:List ByteArray) (f:Nm) (cnt:Nat):Prop where
 ck:all=j24 (Dp G) G.T (AB.drop j) names
 nl:names.length=j
 q:QM w mp cnt f
 cm:cnt<=j
 hf:∀s,(f s).isSome=inL s names
 h29:∀s,(f s).getD 0=29 ↔ inL s (names.take L0)=true
 p:Pv G w ah Kp
 x:Px G w km ko gg bs md av env Kp nx
 tw:Tw G.kb G.kb w0 w
theorem jdh (hG:G.Ok) {f:Nat} (hS:StP G ah f) {i:Nat} {n:Nd} (hv:VN G.T i n) (hfit:FitL (j0e G.T) (okN G.T) n.kids nx i) (hif:i<=f) (hkd:n.kind=18) (htk:Hid (tk=(if md.fn=true then 33 else 34)/\hr=md.hears)) (h:Pv G w ah Kp) (hp:Px G w km ko gg bs md av env Kp nx) (hkr:KR G.T Kp K) :
  Calls Tryz.prog 113 #[.pointer (some ⟨G.c,0,none⟩),.int .i64 (i:Int),.agg #[addF km,j09 km ko,.int .i64 tk,.bool lst,.bool hr,av]] w λe w'=>j13 G w ah nx Kp (ckEa (Dp G) G.T K (i:Int) λwth K=>ckSs (ckS (Dp G) G.T ah G.T.nodes.length f {md with each:=true,wth:=wth}) false (nd G.T (kid (nd G.T (i:Int)) 2)).kids env K) e w':=by
 obtain⟨nb,no,s9,c9,en1,hnb,e0,e1,e2,e3,ekids,hcap⟩:=Pd.node hG hv.at_
 have hiN:i<G.T.nodes.length:=(List.getElem?_eq_some_iff.1 hv.at_).1
 have iI:(i:Int)<(G.T.nodes.length:Int):=by omega
 have hn4:G.T.nodes.length<=4000:=hG.tr.1
 have hle:=hfit.le
 have hl3:n.kids.length=3:=by have h1:=hv.len;rw[hkd] at h1;simpa[shp] using h1.symm
 obtain⟨la,na,b0,hx0,hai,hva,hca,hfa,hnb0⟩:=hv.kidAt hfit (j:=0) (c:=4) (by rw[hkd];simp[shp])
 obtain⟨lb,nb_,b1_,hx1,hbi,hvb,hcb,hfb_,hnb1⟩:=hv.kidAt hfit (j:=1) (c:=5) (by rw[hkd];simp[shp])
 obtain⟨q,qn,bq,hx2,hqi,hvq,hcq,hfq,hnbq⟩:=hv.kidAt hfit (j:=2) (c:=3) (by rw[hkd];simp[shp])
 obtain⟨fb,fo,rfl,_,hfb,pp0⟩:=j05 ekids hx0
 obtain⟨fb1,fo1,ef1,_,_,pp1⟩:=j05 ekids hx1
 obtain⟨rfl,rfl⟩:fb=fb1/\fo=fo1:=by cases ef1;exact⟨rfl,rfl⟩
 obtain⟨fb2,fo2,ef2,_,_,pp2⟩:=j05 ekids hx2
 obtain⟨rfl,rfl⟩:fb=fb2/\fo=fo2:=by cases ef2;exact⟨rfl,rfl⟩
 have hka:=jkh hca
 have hkb:=jl4 hcb
 have hAl:na.kids.length<=1048576:=(hG.k.1.2 na (List.mem_of_getElem? hva.at_)).2
 have hBl:nb_.kids.length<=1048576:=(hG.k.1.2 nb_ (List.mem_of_getElem? hvb.at_)).2
 have hsl:∀W,(Instr.slice 26 (.slice (some ⟨fb,fo,none⟩) n.kids.length c9) none (some (.int .i64 2)) none).run Tryz.prog W=.ok (.slice (some ⟨fb,fo,none⟩) 2 c9) W:=j2k 26 Tryz.htI2 j6w (some ⟨fb,fo,none⟩) n.kids.length c9 2 (by omega) hcap
 obtain⟨A,hA⟩:∃L,Hid (na.kids=L):=⟨_,rfl⟩
 obtain⟨B,hB⟩:∃L,Hid (nb_.kids=L):=⟨_,rfl⟩
 obtain⟨g,hg⟩:∃g,Hid ((λ(wth:List ByteArray) (K:KM)=>ckSs (ckS (Dp G) G.T ah G.T.nodes.length f {md with each:=true,wth:=wth}) false (nd G.T (kid (nd G.T (i:Int)) 2)).kids env K)=g):=⟨_,rfl⟩
 rw[hg.out]
 have HG:Hid (∀wth K,g wth K=ckSs (ckS (Dp G) G.T ah G.T.nodes.length f {md with each:=true,wth:=wth}) false qn.kids env K):=by intro wth K;rw[<-hg.out];simp only;rw[j0j hv.at_,show kid n 2=(q:Int) by simp[kid,hx2],j0j hvq.at_]
 obtain⟨res,hres⟩:∃r,Hid (j24 (Dp G) G.T (A++B) []=r):=⟨_,rfl⟩
 have HB0:Hid (ckEa (Dp G) G.T K (i:Int) g=jk9 res A.length g K):=by show _=_;unfold ckEa;rw[j0j hv.at_,show kid n 0=(la:Int) by simp[kid,hx0],show kid n 1=(lb:Int) by simp[kid,hx1],j0j hva.at_,j0j hvb.at_,hA.out,hB.out,hres.out];rfl
 have c1:Below w.heap.size w (w.alloc (.cells #[addF km,j09 km ko,.int .i64 tk,.bool lst,.bool hr,av] 139)):=j00 (Below.refl _ _) _
 have c2:Below w.heap.size w ((w.alloc (.cells #[addF km,j09 km ko,.int .i64 tk,.bool lst,.bool hr,av] 139)).alloc (.map #[] 0)):=j00 c1 _
 have x1:(w.alloc (.cells #[addF km,j09 km ko,.int .i64 tk,.bool lst,.bool hr,av] 139)).cell? ⟨G.c,1,none⟩=some (.slice (some ⟨nb,no,none⟩) G.T.nodes.length G.d1):=by rw[<-en1];exact((h.later c1).bx.cell 1).trans rfl
 have q3:=((h.later c1).bl.cell (p:=⟨nb,no+i*4+3,none⟩) hnb).trans e3
 have bp0:Blk ((w.alloc (.cells #[addF km,j09 km ko,.int .i64 tk,.bool lst,.bool hr,av] 139)).alloc (.map #[] 0)) w.heap.size #[addF km,j09 km ko,.int .i64 tk,.bool lst,.bool hr,av] 139:=Blk.alloc (Blk.new w #[addF km,j09 km ko,.int .i64 tk,.bool lst,.bool hr,av] 139) _
 have z5:((w.alloc (.cells #[addF km,j09 km ko,.int .i64 tk,.bool lst,.bool hr,av] 139)).alloc (.map #[] 0)).cell? ⟨w.heap.size,5,none⟩=some av:=(bp0.cell 5).trans rfl
 have zf:=bp0.frozen 5
 have d1_:Below w.heap.size w (w.alloc (.cells #[addF km,j09 km ko,.int .i64 tk,.bool lst,.bool hr,.map (some (w.heap.size+1))] 139)):=j00 (Below.refl _ _) _
 have d2_:Below w.heap.size w ((w.alloc (.cells #[addF km,j09 km ko,.int .i64 tk,.bool lst,.bool hr,.map (some (w.heap.size+1))] 139)).alloc (.map #[] 0)):=j00 d1_ _
 have BP:Hid (Blk ((w.alloc (.cells #[addF km,j09 km ko,.int .i64 tk,.bool lst,.bool hr,.map (some (w.heap.size+1))] 139)).alloc (.map #[] 0)) w.heap.size #[addF km,j09 km ko,.int .i64 tk,.bool lst,.bool hr,.map (some (w.heap.size+1))] 139):=Blk.alloc (Blk.new w #[addF km,j09 km ko,.int .i64 tk,.bool lst,.bool hr,.map (some (w.heap.size+1))] 139) _
 have hwk:¬w.heap.size=G.kb:=by have:=h.kl;omega
 have hwc:¬w.heap.size=G.c:=by have:=h.bx.lt;omega
 have hwt:¬w.heap.size=G.bt:=by obtain⟨m,_,q⟩:=h.tp;have:=q.lt;omega
 have hw0:G.w0.heap.size<=w.heap.size:=h.bl.size
 have hmk:¬w.heap.size+1=G.kb:=by have:=h.kl;omega
 have hmc:¬w.heap.size+1=G.c:=by have:=h.bx.lt;omega
 have hmt:¬w.heap.size+1=G.bt:=by obtain⟨m,_,q⟩:=h.tp;have:=q.lt;omega
 have hm0:G.w0.heap.size<=w.heap.size+1:=by omega
 have hck:¬G.c=G.kb:=λe=>hG.n1 e.symm
 have hcm:¬G.c=w.heap.size+1:=by omega
 have hnk:¬nb=G.kb:=by have:=hG.kb;omega
 have hnm:¬nb=w.heap.size+1:=by omega
 have hfk:¬fb=G.kb:=by have:=hG.kb;omega
 have hbs0:Hid (∀b∈bs,b<w.heap.size):=hp.sc.lt
 have hav0:Hid (∀ba,av=.map (some ba)->ba<w.heap.size):=by
  intro ba hba
  rcases hp.am with ⟨_,h2,_⟩|⟨_,ba',na,fa,h2,h3,_⟩
  ·
   rw[h2] at hba;cases hba
  rw[h2] at hba;cases hba;exact h3.lt
 have Q3:QM ((w.alloc (.cells #[addF km,j09 km ko,.int .i64 tk,.bool lst,.bool hr,.map (some (w.heap.size+1))] 139)).alloc (.map #[] 0)) (w.heap.size+1) 0 (λ_=>none):=by
  have h:=QM.made (w.alloc (.cells #[addF km,j09 km ko,.int .i64 tk,.bool lst,.bool hr,.map (some (w.heap.size+1))] 139))
  have e:(w.alloc (.cells #[addF km,j09 km ko,.int .i64 tk,.bool lst,.bool hr,.map (some (w.heap.size+1))] 139)).heap.size=w.heap.size+1:=by simp
  rw[e] at h;exact h
 have P3:=h.later d2_
 have X3:=hp.later d2_
 have HAL:Hid (A.length<=1048576):=by show _<=_;rw[<-hA.out];exact hAl
 have L0:Hid (LdN G w ((w.alloc (.cells #[addF km,j09 km ko,.int .i64 tk,.bool lst,.bool hr,.map (some (w.heap.size+1))] 139)).alloc (.map #[] 0)) ah km ko gg bs md av env nx (w.heap.size+1) 0 A.length Kp res (A++B) [] (λ_=>none) 0):=⟨by rw[List.drop_zero];exact hres.out.symm,rfl,Q3,Nat.le_refl _,λs=>rfl,λs=>by simp[inL],P3,X3,Tw.of d2_⟩
 have HL:Hid (∀o:Nat,o<2->∃(ln:Nat) (lnd:Nd) (off:Nat) (kdl:Int) (b:Nat),n.kids[o]?=some (ln:Int)/\VN G.T ln lnd/\lnd.kind=kdl/\(∀m:Nat,m<lnd.kids.length->(shp lnd.kind lnd.kids.length)[m]?=some 6)/\off=(if o=0 then 0 else A.length)/\(if o+1=1 then A.length else A.length+B.length)=off+lnd.kids.length/\(∀m:Nat,m<lnd.kids.length->(A++B)[off+m]?=lnd.kids[m]?)/\((kdl=29/\off+lnd.kids.length<=A.length)\/(kdl=30/\A.length=off))/\ln<G.T.nodes.length/\lnd.kids.length<=1048576/\FitL (j0e G.T) (okN G.T) lnd.kids b ln):=by
  intro o ho
  rcases o with _|_|o
  ·
   refine⟨la,na,0,29,b0,hx0,hva,hka,λm hm=>?_,rfl,by simp[hA.out],λm hm=>?_,Or.inl ⟨rfl,by simp[hA.out]⟩,by omega,hAl,hfa⟩
   ·
    rw[hka];simp only[shp]
    rcases m with _|m
    ·
     rfl
    simp[List.getElem?_replicate];omega
   rw[hA.out,Nat.zero_add,List.getElem?_append_left (by rw[<-hA.out];exact hm)]
  ·
   refine⟨lb,nb_,A.length,30,b1_,hx1,hvb,hkb,λm hm=>?_,rfl,by simp[hB.out],λm hm=>?_,Or.inr ⟨rfl,rfl⟩,by omega,hBl,hfb_⟩
   ·
    rw[hkb];simp[shp,List.getElem?_replicate];omega
   rw[hB.out,List.getElem?_append_right (by omega)];congr 1;omega
  omega
 have EK:=Hid.mk' ekids
 have HKR:=Hid.mk' hkr
 have HVQ:=Hid.mk' hvq
 have HFQ:Hid (FitL (j0e G.T) (okN G.T) qn.kids bq q):=hfq
 have HCQ:=Hid.mk' (j34 hcq)
 have PQ:=Hid.mk' pp2
 have HTK:=htk
 have HL3:=Hid.mk' hl3
 have hmm:=j6i
 clear h hp c1 c2 e0 e1 e2 e3 ekids hfit hv hkr hkd hcap bp0 hx0 hx1 hx2 hva hvb hvq hca hcb hcq hfa hfb_ hfq pp0 pp1 pp2 ef1 ef2 d1_ d2_ P3 X3 Q3 hka hkb hl3 hAl hBl htk hres;go_enter Tryz.func113,Tryz.ntmps113
 go_wp2_with fail;clear x1 q3 z5 zf hmm;go_loopw [30] (λiv wr=>∃o:Nat,o<=2/\iv=.int .i64 o/\Hid (∃names f cnt,LdN G w wr ah km ko gg bs md av env nx (w.heap.size+1) (if o=0 then 0 else if o=1 then A.length else A.length+B.length) A.length Kp res (A++B) names f cnt)/\Hid (Blk wr w.heap.size #[addF km,j09 km ko,.int .i64 tk,.bool lst,.bool hr,.map (some (w.heap.size+1))] 139)) (λiv _=>2-(intOf iv).toNat)
 case atStart=>exact⟨0,Nat.zero_le _,rfl,⟨_,_,_,L0.out⟩,BP.out⟩
 clear L0 BP;obtain⟨o,ho,rfl,hLD,BPM⟩:=hrel
 obtain⟨names,fq,cnt,hld⟩:=hLD.out
 have LD:=Hid.mk' hld
 clear hLD hld;by_cases hlt:o<2
 rotate_left 1
 ·
  skip
  have ho2:o=2:=by omega
  subst ho2
  have hck2:=LD.out.ck
  rw[if_neg (by omega),if_neg (by omega),show(A++B).drop (A.length+B.length)=[] by rw[<-List.length_append,List.drop_length]] at hck2
  have HC2:Hid (res=.ok names):=hck2
  have HR0:Hid (ckEa (Dp G) G.T K (i:Int) g=ckSs (ckS (Dp G) G.T ah G.T.nodes.length f {md with each:=true,wth:=names.take A.length}) false qn.kids env K):=by show _=_;rw[HB0.out,HC2.out];simp only[jk9];rw[HG.out]
  have l2I:(2:Int)<(n.kids.length:Int):=by have:=HL3.out;omega
  have l2N:2<n.kids.length:=by have:=HL3.out;omega
  clear hck2;go_wp2_with fail;have hwr:w.heap.size<wr.heap.size:=BPM.out.lt
  have X9:Hid (Px G wr.drew km ko gg bs {md with each:=true,wth:=names.take A.length} (.map (some (w.heap.size+1))) env Kp nx):=by
   have x:=LD.out.x.later (j02 (Below.refl _ _))
   exact⟨x.sc,x.ap,x.er,Or.inr ⟨rfl,_,_,_,rfl,LD.out.q.later (j02 (Below.refl _ _)),hmk,LD.out.h29⟩⟩
  have hblk:=Hid.mk' (j3o (lst:=lst) (hr:=hr) (tk:=tk) (md:={md with each:=true,wth:=names.take A.length}) hG hS HVQ.out HCQ.out HFQ.out (by omega) false ⟨HTK.out.1,HTK.out.2⟩ (LD.out.p.later (j02 (Below.refl _ _))) (X9.out.mono hnbq) HKR.out)
  have hS:Hid (∀X,Tw G.kb G.kb (wr) X->X.cell? ⟨fb,fo+2,none⟩=some (.int .i64 (q:Int))/\X.cell? ⟨w.heap.size,0,none⟩=some (addF km)/\X.cell? ⟨w.heap.size,1,none⟩=some (j09 km ko)/\X.cell? ⟨w.heap.size,2,none⟩=some (.int .i64 tk)/\X.cell? ⟨w.heap.size,3,none⟩=some (.bool lst)/\X.cell? ⟨w.heap.size,4,none⟩=some (.bool hr)/\X.cell? ⟨w.heap.size,5,none⟩=some (.map (some (w.heap.size+1)))):=λX hX=>⟨(hX.cell (Nat.lt_of_lt_of_le hfb LD.out.p.bl.size) hfk hfk).trans ((LD.out.p.bl.cell (p:=⟨fb,fo+2,none⟩) hfb).trans PQ.out),(hX.cell hwr hwk hwk).trans ((BPM.out.cell 0).trans rfl),(hX.cell hwr hwk hwk).trans ((BPM.out.cell 1).trans rfl),(hX.cell hwr hwk hwk).trans ((BPM.out.cell 2).trans rfl),(hX.cell hwr hwk hwk).trans ((BPM.out.cell 3).trans rfl),(hX.cell hwr hwk hwk).trans ((BPM.out.cell 4).trans rfl),(hX.cell hwr hwk hwk).trans ((BPM.out.cell 5).trans rfl)⟩
  refine wp_region_held_drew (S:=λX=>X.cell? ⟨fb,fo+2,none⟩=some (.int .i64 (q:Int))/\X.cell? ⟨w.heap.size,0,none⟩=some (addF km)/\X.cell? ⟨w.heap.size,1,none⟩=some (j09 km ko)/\X.cell? ⟨w.heap.size,2,none⟩=some (.int .i64 tk)/\X.cell? ⟨w.heap.size,3,none⟩=some (.bool lst)/\X.cell? ⟨w.heap.size,4,none⟩=some (.bool hr)/\X.cell? ⟨w.heap.size,5,none⟩=some (.map (some (w.heap.size+1)))) (by kernel_rfl) ?_ (λhHeld=>?_)
  ·
   exact hS.out _ (Tw.of (j02 (Below.refl _ _)))
  refine wpr 0 91 ?_;simp only[zs];refine wpr 1 92 ?_;simp only[zs];refine wpr 2 93 ?_;simp only[zs];refine wpr 3 94 ?_;simp only[zs];refine wpr 4 95 ?_;simp only[zs];refine wpAnyH_ready (rs:=[5]) (by kernel_rfl) (by simp) ?_
  refine AllReadyH.cons rfl (λKQ hK=>?_) AllReadyH.nil
  go_simp;refine hblk.out.mono ?_
  rintro e w7 hSB
  clear hblk;cases hr1:ckSs (ckS (Dp G) G.T ah G.T.nodes.length f {md with each:=true,wth:=names.take A.length}) false qn.kids env K with
  | error q9 =>
   obtain⟨c,nq⟩:=q9
   rw[hr1] at hSB
   obtain⟨rfl,ht⟩:=hSB
   have hR:Hid (ckEa (Dp G) G.T K (i:Int) g=.error (c,nq)):=by show _=_;rw[HR0.out,hr1]
   have T8:Hid (Tw G.kb G.kb wr w7):=Tw.trans (Tw.of (j02 (Below.refl _ _))) ht
   have T9:=Hid.mk' (LD.out.tw.trans T8.out)
   clear ht hr1;refine hK.out _ _ (hS.out _ T8.out) (λhHeld=>?_)
   clear hK KQ;try simp only[zs]
   refine wpr 6 6 ?_;simp only[zs];refine wpAnyH_done (by kernel_rfl) ?_ _
   clear hHeld hS;go_wp2_with fail;go_ret;exact j13.bad hR.out T9.out
  | ok K7 =>
   rw[hr1] at hSB
   obtain⟨rfl,ht,Kp7,hp7,hk7,hl7⟩:=hSB
   have hR:Hid (ckEa (Dp G) G.T K (i:Int) g=.ok K7):=by show _=_;rw[HR0.out,hr1]
   have T8:Hid (Tw G.kb G.kb wr w7):=Tw.trans (Tw.of (j02 (Below.refl _ _))) ht
   have T9:=Hid.mk' (LD.out.tw.trans T8.out)
   have P8:=Hid.mk' hp7
   have K8:=Hid.mk' hk7
   have L8:Hid (∀j,j<nx->Kp7 j=Kp j):=λj hj=>hl7 j (by omega)
   clear ht hr1 hp7 hk7 hl7;refine hK.out _ _ (hS.out _ T8.out) (λhHeld=>?_)
   clear hK KQ;try simp only[zs]
   refine wpr 6 6 ?_;simp only[zs];refine wpAnyH_done (by kernel_rfl) ?_ _
   clear hHeld hS;go_wp2_with fail;go_ret;exact j13.good hR.out T9.out P8.out K8.out L8.out
 obtain⟨ln,lnd,off,kdl,bl_,hxo,hvl,hkl,hsh,hoff,hnext,hat,hcase,hlN,hll,hfl⟩:=HL.out o hlt
 obtain⟨fbo,foo,efo,_,_,ppo⟩:=j05 EK.out hxo
 obtain⟨rfl,rfl⟩:fb=fbo/\fo=foo:=by cases efo;exact⟨rfl,rfl⟩
 obtain⟨nb2,no2,s8,c8,en2,hnb2,f0,f1,f2,f3,elk,_⟩:=Pd.node hG hvl.at_
 have enn:nb=nb2/\no=no2:=by rw[en1] at en2;simpa using en2
 obtain⟨rfl,rfl⟩:=enn
 have hoff2:(if o=0 then 0 else if o=1 then A.length else A.length+B.length)=off:=by
  rw[hoff]
  by_cases e:o=0
  ·
   rw[if_pos e,if_pos e]
  rw[if_neg e,if_neg e,if_pos (by omega)]
 have hnext2:(if o+1=0 then 0 else if o+1=1 then A.length else A.length+B.length)=off+lnd.kids.length:=by rw[if_neg (by omega)];exact hnext
 have LD1:Hid (LdN G w wr ah km ko gg bs md av env nx (w.heap.size+1) (off+0) A.length Kp res (A++B) names fq cnt):=by have h1:=LD.out;rw[hoff2] at h1;exact h1
 have HNX:=Hid.mk' hnext2
 have HAT:=Hid.mk' hat
 have HCS:=Hid.mk' hcase
 have HSH:=Hid.mk' hsh
 have HVL:=Hid.mk' hvl
 have ELK:=Hid.mk' elk
 have HKL:=Hid.mk' hkl
 have HFL:Hid (FitL (j0e G.T) (okN G.T) lnd.kids bl_ ln):=hfl
 have F0:Hid (G.w0.cell? ⟨nb,no+ln*4,none⟩=some (.int .i64 lnd.kind)):=f0
 have v1:=(LD.out.p.bl.cell (p:=⟨fb,fo+o,none⟩) hfb).trans ppo
 have v2:=(LD.out.p.bl.cell (p:=⟨nb,no+ln*4+3,none⟩) hnb).trans f3
 have x1:wr.cell? ⟨G.c,1,none⟩=some (.slice (some ⟨nb,no,none⟩) G.T.nodes.length G.d1):=by rw[<-en1];exact(LD.out.p.bx.cell 1).trans rfl
 have oI:(o:Int)<((2:Nat):Int):=by omega
 have oI2:(o:Int)<2:=by omega
 have lI:(ln:Int)<(G.T.nodes.length:Int):=by omega
 have hoI:decide ((o:Int)<2)=true:=by simp;omega
 have HLL:=Hid.mk' hll
 clear hxo hvl hkl hsh hoff hnext hat hcase en2 f0 f1 f2 f3 elk efo ppo LD hoff2 hnext2 hfl hll;go_wp2_with fail;clear v1 v2 x1;have BPI:=BPM
 go_loopw [43] (λjv wr=>∃m:Nat,m<=lnd.kids.length/\jv=.int .i64 m/\Hid (∃names f cnt,LdN G w wr ah km ko gg bs md av env nx (w.heap.size+1) (off+m) A.length Kp res (A++B) names f cnt)/\Hid (Blk wr w.heap.size #[addF km,j09 km ko,.int .i64 tk,.bool lst,.bool hr,.map (some (w.heap.size+1))] 139)) (λjv _=>lnd.kids.length-(intOf jv).toNat)
 case atStart=>exact⟨0,Nat.zero_le _,rfl,⟨_,_,_,LD1.out⟩,BPI.out⟩
 clear LD1 BPI BPM;obtain⟨m,hm,rfl,hLD,BPM⟩:=hrel
 obtain⟨names,fq,cnt,hld⟩:=hLD.out
 have LD:=Hid.mk' hld
 clear hLD hld;by_cases hml:m<lnd.kids.length
 rotate_left 1
 ·
  have hme:m=lnd.kids.length:=by omega
  subst hme
  have HNL:Hid (∃names f cnt,LdN G w wr ah km ko gg bs md av env nx (w.heap.size+1) (if o+1=0 then 0 else if o+1=1 then A.length else A.length+B.length) A.length Kp res (A++B) names f cnt):=⟨_,_,_,by rw[HNX.out];exact LD.out⟩
  clear LD;go_wp2_with fail;go_roundw
  case rel=>exact⟨o+1,by omega,by go_num,HNL.out,BPM.out⟩
  case measure=>simp[intOf];omega
 obtain⟨qm,mq,bm,hxm,hqm,hvm,_,_,_⟩:=HVL.out.kidAt HFL.out (j:=m) (c:=6) (HSH.out m hml)
 obtain⟨lb2,lo2,rfl,_,hlb2,ppm⟩:=j05 ELK.out hxm
 obtain⟨nb2,no2,t9,d9,en2,hnb2,f0,f1,f2,f3,_,_⟩:=Pd.node hG hvm.at_
 have enn:nb=nb2/\no=no2:=by rw[en1] at en2;simpa using en2
 obtain⟨rfl,rfl⟩:=enn
 have hts:mq.text.size<=maxLen:=by have:=(hG.k.1.2 mq (List.mem_of_getElem? hvm.at_)).1;unfold maxLen;omega
 have qI:(qm:Int)<(G.T.nodes.length:Int):=by omega
 have mI:(m:Int)<(lnd.kids.length:Int):=by omega
 have hab:(A++B)[off+m]?=some (qm:Int):=by rw[HAT.out m hml,hxm]
 have HDR:Hid ((A++B).drop (off+m)=(qm:Int) :: (A++B).drop (off+m+1)):=by
  show _=_
  rw[List.drop_eq_getElem_cons (List.getElem?_eq_some_iff.1 hab).1];congr 1;exact(List.getElem?_eq_some_iff.1 hab).2
 have HND:Hid (nd G.T (qm:Int)=mq):=j0j hvm.at_
 have v1:=(LD.out.p.bl.cell (p:=⟨lb2,lo2+m,none⟩) hlb2).trans ppm
 have v2:=(LD.out.p.bl.cell (p:=⟨nb,no+qm*4+1,none⟩) hnb).trans f1
 have x1:wr.cell? ⟨G.c,1,none⟩=some (.slice (some ⟨nb,no,none⟩) G.T.nodes.length G.d1):=by rw[<-en1];exact(LD.out.p.bx.cell 1).trans rfl
 have hdc:=Hid.mk' (j29 hG LD.out.p 1 mq.text hts)
 clear hxm hvm ppm f0 f1 f2 f3 en2 hab;go_wp2_with fail;refine hdc.out.mono ?_
 rintro e w5 ⟨rfl,hb5⟩
 clear hdc v1 v2 x1;have P5:=Hid.mk' (LD.out.p.later hb5)
 have X5:=Hid.mk' (LD.out.x.later hb5)
 have BP5:=Hid.mk' (BPM.out.later hb5)
 have Q5:=Hid.mk' (LD.out.q.later hb5)
 have T5:=Hid.mk' (LD.out.tw.trans (Tw.of hb5))
 clear hb5;obtain⟨dk,hdk⟩:∃k,Hid (Dp G 1 mq.text=k):=⟨_,rfl⟩
 rw[hdk.out]
 have HCK:Hid (res=if dk=0 then .error (3,(qm:Int)) else if inL mq.text names=true then .error (2,(qm:Int)) else j24 (Dp G) G.T ((A++B).drop (off+m+1)) (names++[mq.text])):=by show _=_;rw[LD.out.ck,HDR.out,j24,HND.out,hdk.out]
 by_cases h0:dk=0
 ·
  subst h0
  have hR:Hid (ckEa (Dp G) G.T K (i:Int) g=.error (3,(qm:Int))):=by show _=_;rw[HB0.out,HCK.out,if_pos rfl];rfl
  have e1:decR 0=(0,3):=rfl
  rw[e1]
  go_wp2_with fail;go_ret;exact j13.bad hR.out T5.out
 have HCK2:Hid (res=if inL mq.text names=true then .error (2,(qm:Int)) else j24 (Dp G) G.T ((A++B).drop (off+m+1)) (names++[mq.text])):=by show _=_;rw[HCK.out,if_neg h0]
 have e1:decR dk=(dk,0):=by simp[decR,h0]
 rw[e1]
 have hlk:=Q5.out.look mq.text hts
 obtain⟨tb,htb⟩:∃b,Hid ((fq mq.text).isSome=b):=⟨_,rfl⟩
 obtain⟨tv,htv⟩:∃b,Hid ((fq mq.text).getD 0=b):=⟨_,rfl⟩
 rw[htb.out,htv.out] at hlk
 have HIN:Hid (inL mq.text names=tb):=by show _=_;rw[<-LD.out.hf,htb.out]
 have p5:w5.cell? ⟨w.heap.size,5,none⟩=some (.map (some (w.heap.size+1))):=(BP5.out.cell 5).trans rfl
 clear h0 e1 HCK hdk;cases tb
 rotate_left 1
 ·
  have hR:Hid (ckEa (Dp G) G.T K (i:Int) g=.error (2,(qm:Int))):=by show _=_;rw[HB0.out,HCK2.out,if_pos HIN.out];rfl
  go_wp2_with fail;go_ret;exact j13.bad hR.out T5.out
 have HCK3:Hid (res=j24 (Dp G) G.T ((A++B).drop (off+m+1)) (names++[mq.text])):=by show _=_;rw[HCK2.out,if_neg (by rw[HIN.out];simp)]
 clear HCK2;go_wp2_with fail;clear hlk p5;obtain⟨w8,hrun,hq8,ht8⟩:=(Q5.out.later (j02 (Below.refl _ _))).put (by have h1:=LD.out.cm;have h2:=LD.out.nl;have h3:=HCS.out;have h4:=HLL.out;have h5:=HAL.out;unfold maxLen;omega) mq.text hts lnd.kind
 have T58:Hid (Tw G.kb (w.heap.size+1) w5 w8):=Tw.trans (Tw.of (j02 (Below.refl _ _))) (Tw.turned ht8)
 have hw5:w.heap.size<w5.heap.size:=BP5.out.lt
 have P8:=Hid.mk' ((P5.out.later (j02 (Below.refl _ _))).turned ht8 hm0 hmc hmt hmk)
 have X8:=Hid.mk' ((X5.out.later (j02 (Below.refl _ _))).off (Tw.turned (p:=w.heap.size+1) ht8) (λb hb=>by have:=hbs0.out b hb;omega) (λba hba=>by have:=hav0.out ba hba;omega))
 have BP8:=Hid.mk' (BP5.out.tw T58.out hwk (by omega))
 have T8:Hid (Tw G.kb G.kb w w8):=((T5.out.more (w.heap.size+1)).trans T58.out).less (by omega)
 have HN:Hid (LdN G w w8 ah km ko gg bs md av env nx (w.heap.size+1) (off+m+1) A.length Kp res (A++B) (names++[mq.text]) (j39 fq mq.text lnd.kind) (cnt+1)):=⟨HCK3.out,by rw[List.length_append];simp;exact LD.out.nl,hq8,by have:=LD.out.cm;omega,λs=>j7s fq mq.text lnd.kind LD.out.hf s,ji8 LD.out.nl LD.out.h29 HIN.out (by have h1:=HCS.out;have h2:=HKL.out;rw[h2];omega),P8.out,X8.out,T8.out⟩
 clear hq8 ht8;have hS:Hid (∀X,Tw G.kb (w.heap.size+1) (w5) X->X.cell? ⟨w.heap.size,5,none⟩=some (.map (some (w.heap.size+1)))/\X.cell? ⟨G.c,1,none⟩=some (.slice (some ⟨nb,no,none⟩) G.T.nodes.length G.d1)/\X.cell? ⟨nb,no+ln*4,none⟩=some (.int .i64 lnd.kind)):=λX hX=>⟨(hX.cell hw5 hwk (by omega)).trans ((BP5.out.cell 5).trans rfl),(hX.cell P5.out.bx.lt hck hcm).trans (by rw[<-en1];exact(P5.out.bx.cell 1).trans rfl),(hX.cell (Nat.lt_of_lt_of_le hnb P5.out.bl.size) hnk hnm).trans ((P5.out.bl.cell (p:=⟨nb,no+ln*4,none⟩) hnb).trans F0.out)⟩
 refine wp_region_held_drew (S:=λX=>X.cell? ⟨w.heap.size,5,none⟩=some (.map (some (w.heap.size+1)))/\X.cell? ⟨G.c,1,none⟩=some (.slice (some ⟨nb,no,none⟩) G.T.nodes.length G.d1)/\X.cell? ⟨nb,no+ln*4,none⟩=some (.int .i64 lnd.kind)) (by kernel_rfl) ?_ (λhHeld=>?_)
 ·
  exact hS.out _ (Tw.of (j02 (Below.refl _ _)))
 refine wpr 0 78 ?_;simp only[zs];refine wpr 1 79 ?_;simp only[zs];refine wpr 2 80 ?_;simp only[zs];refine wpr 3 81 ?_;simp only[zs];refine wpr 4 82 ?_;simp only[zs];refine wpr 5 83 ?_;simp only[zs];refine wpr 6 84 ?_;simp only[zs];refine wpr 7 85 ?_;simp only[zs];refine wpr 8 86 ?_;simp only[zs];refine wpr 9 87 ?_;simp only[zs];refine wpr 10 88 ?_;simp only[zs];refine wpAnyH_ready (rs:=[11]) (by kernel_rfl) (by simp) ?_
 refine AllReadyH.cons rfl (λKQ hK=>?_) AllReadyH.nil
 go_simp;refine hK.out _ _ (hS.out _ T58.out) (λhHeld=>?_)
 clear hK KQ;try simp only[zs]
 refine wpAnyH_done (by kernel_rfl) ?_ _
 clear hHeld hS;have hll2:=HLL.out
 go_wp2_with fail;go_roundw
 case rel=>exact⟨m+1,by omega,by go_num,⟨_,_,_,HN.out⟩,BP8.out⟩
 case measure=>simp[intOf];omega
end
end
section
open Go.RowKit Go.Maps Go.WideMaps
section
variable {G:Pd} {w w' w'':World} {ah:List Int} {Kp Kp' K:KM} {km ko mb nn:Nat} {gg:Nm} {bs:List Nat} {md:Md} {av:Value} {env:Env} {nx:Nat} {lst hr:Bool} {tk:Int}
theorem j21.pre {i:Nat} {r:Ck (Env×KM)} {e:Ending} (h:j21 G w' ah km ko mb bs md av nx i Kp r e w'') (ht:Tw G.kb mb w w'):j21 G w ah km ko mb bs md av nx i Kp r e w'':=by
 unfold j21 at h ⊢
 split at h
 ·
  exact⟨h.1,ht.trans h.2⟩
 obtain⟨h1,h2,h3⟩:=h
 exact⟨h1,ht.trans h2,h3⟩
theorem j21.ret {i:Nat} {r:Ck (Env×KM)} {e:Ending} (h:j21 G w ah km ko mb bs md av nx i Kp r e w'):∃v,e=.returned v:=by
 unfold j21 at h
 split at h
 ·
  exact⟨_,h.1⟩
 exact⟨_,h.1⟩
def jjl (env:Env) (r:Ck (Int×KM)):Ck (Env×KM):=match r with | .error q=> .error q | .ok (_,K1)=> .ok (env,K1)
theorem j49.stm {i:Nat} {r:Ck (Int×KM)} {e:Ending} (h:j49 G w ah nx i Kp r e w') (hp:Px G w km ko gg bs md av env Kp nx) (hl:Lx G w km ko mb nn gg bs av) (hn:nn<=nx) (hi:nx<=i) (hE:¬isE (nd G.T (i:Int)).kind):j21 G w ah km ko mb bs md av nx i Kp (jjl env r) e w':=by
 unfold j49 at h
 unfold j21 jjl
 cases r with
 | error q=>exact⟨h.1,h.2.more mb⟩
 | ok q =>
  obtain⟨v,K1⟩:=q
  obtain⟨h1,h2,Kp1,h3,h4,h5⟩:=h
  have h6:∀j,j<nx->upd Kp1 (i:Int) v j=Kp j:=λj hj=>(j5n hi v j hj).trans (h5 j hj)
  exact⟨h1,h2.more mb,_,gg,nn,h3,h4.other hE v,h6,(hp.tw h2 h6).mono (by omega),hl.tw hp.ap h2,by omega⟩
def jii (env:Env) (s:ByteArray) (i:Int) (r:Ck (List Int×KM)):Ck (Env×KM):=match r with | .error q=> .error q | .ok (ks,K1)=>if (look env s).isSome=true then .error (2,i) else .ok (env++[(s,ks[0]?.getD 0)],K1)
theorem j4h.stm {i:Nat} {s:ByteArray} {r:Ck (List Int×KM)} {e:Ending} (h:j4h G w ah km ko mb nn bs md av env nx i Kp s r e w') (hn:nn<=nx) (hi:nx<=i) (hE:¬isE (nd G.T (i:Int)).kind):j21 G w ah km ko mb bs md av nx i Kp (jii env s (i:Int) r) e w':=by
 unfold j4h at h
 unfold jii
 cases r with
 | error q=>exact⟨h.1,h.2.more mb⟩
 | ok q =>
  obtain⟨ks,K1⟩:=q
  obtain⟨w1,Kp1,h1,h2,h3,h4,h5⟩:=h
  unfold j6p at h5
  simp only
  by_cases hl:(look env s).isSome=true
  ·
   rw[if_pos hl] at h5 ⊢
   exact⟨h5.1,(h1.more mb).trans (Tw.of h5.2)⟩
  rw[if_neg hl] at h5 ⊢
  obtain⟨g1,g2,g3,gg',g4,g5⟩:=h5
  exact⟨g1,(h1.more mb).trans g2,_,gg',nn+1,g3,h3.other hE _,λj hj=>(j5n hi _ j hj).trans (h4 j hj),g4,g5,by omega⟩
theorem jfh (hG:G.Ok) (ha:AhOk G.T ah) {f:Nat} (hS:StP G ah f):StP G ah (f+1):=by
 intro md env km ko mb nn gg bs av lst hr tk i nx n Kp K w hi hv hfit hk hnn htk h hp hlx hkr
 have hE:=jbo hG ha G.T.nodes.length
 obtain⟨nb,no,s9,c9,en1,hnb,e0,e1,e2,e3,ekids,hcap⟩:=Pd.node hG hv.at_
 have hiN:i<G.T.nodes.length:=(List.getElem?_eq_some_iff.1 hv.at_).1
 have iI:(i:Int)<(G.T.nodes.length:Int):=by omega
 have hn4:G.T.nodes.length<=4000:=hG.tr.1
 have hle:=hfit.le
 have hs:n.text.size<=maxLen:=by have:=(hG.k.1.2 n (List.mem_of_getElem? hv.at_)).1;unfold maxLen;omega
 have hln:=hv.len
 have b1:Below w.heap.size w (w.alloc (.cells #[addF km,j09 km ko,.int .i64 tk,.bool lst,.bool hr,av] 139)):=j00 (Below.refl _ _) _
 have x1:(w.alloc (.cells #[addF km,j09 km ko,.int .i64 tk,.bool lst,.bool hr,av] 139)).cell? ⟨G.c,1,none⟩=some (.slice (some ⟨nb,no,none⟩) G.T.nodes.length G.d1):=by rw[<-en1];exact((h.later b1).bx.cell 1).trans rfl
 have q0:=((h.later b1).bl.cell (p:=⟨nb,no+i*4,none⟩) hnb).trans e0
 have bp:=Blk.new w #[addF km,j09 km ko,.int .i64 tk,.bool lst,.bool hr,av] 139
 have p0:_=some (addF km):=(bp.cell 0).trans rfl
 have p1:_=some (j09 km ko):=(bp.cell 1).trans rfl
 have p2:_=some (Value.int .i64 tk):=(bp.cell 2).trans rfl
 have p3:_=some (Value.bool lst):=(bp.cell 3).trans rfl
 have p4:_=some (Value.bool hr):=(bp.cell 4).trans rfl
 have p5:_=some (av):=(bp.cell 5).trans rfl
 have BP:=Hid.mk' bp
 have hal:=j7w (km:=km) (ko:=ko) (tk:=tk) (lst:=lst) (hr:=hr) (hp.later b1).am n.kind (λ_=>htk.out)
 have HND:Hid (nd G.T (i:Int)=n):=j0j hv.at_
 have HEN:Hid (¬isE (nd G.T (i:Int)).kind):=by show¬_;rw[j0j hv.at_];unfold isE;omega
 obtain⟨kd,hkd⟩:∃k,Hid (n.kind=k):=⟨_,rfl⟩
 rw[hkd.out] at q0 hal hk hln
 have HLN:=Hid.mk' hln
 have HK:=Hid.mk' hk
 have H1:=Hid.mk' (h.later b1)
 have X1:=Hid.mk' (hp.later b1)
 have L1:=Hid.mk' (hlx.later b1)
 have T1:Hid (Tw G.kb mb w (w.alloc (.cells #[addF km,j09 km ko,.int .i64 tk,.bool lst,.bool hr,av] 139))):=Tw.of b1
 have HV:=Hid.mk' hv
 have HF:Hid (FitL (j0e G.T) (okN G.T) n.kids nx i):=hfit
 have HKR:=Hid.mk' hkr
 have HE:=Hid.mk' hE
 have HNN:=Hid.mk' hnn
 clear h hp hlx b1 bp e0 e1 e2 e3 ekids hv hfit hkr en1 hnb hcap hln hk hE hnn;go_enter Tryz.func85,Tryz.ntmps85
 go_wp2_with fail;refine hal.mono ?_
 rintro e w2 ⟨rfl,hb2⟩
 clear hal x1 q0 p0 p1 p2 p3 p4 p5;have H2:=Hid.mk' (H1.out.later hb2)
 have X2:=Hid.mk' (X1.out.later hb2)
 have L2:=Hid.mk' (L1.out.later hb2)
 have T2:Hid (Tw G.kb mb w w2):=T1.out.trans (Tw.of hb2)
 have BP2:=Hid.mk' (BP.out.later hb2)
 clear H1 X1 L1 T1 BP hb2;have hst:Hid (stands md kd lst=alw md kd lst):=(jcc (by have:=HK.out;omega)).symm
 obtain⟨al,hal⟩:∃b,Hid (alw md kd lst=b):=⟨_,rfl⟩
 rw[hal.out]
 cases al
 ·
  have hR:Hid (ckS (Dp G) G.T ah G.T.nodes.length (f+1) md env K (i:Int) lst=.error (5,(i:Int))):=by show _=_;rw[j4n,HND.out,hkd.out,if_pos (by rw[hst.out];exact hal.out)]
  go_wp2_with fail;go_ret;exact j21.bad hR.out T2.out
 have hst2:Hid (stands md (nd G.T (i:Int)).kind lst=true):=by show _=_;rw[HND.out,hkd.out,hst.out];exact hal.out
 have hR0:Hid (ckS (Dp G) G.T ah G.T.nodes.length (f+1) md env K (i:Int) lst=ckS' (Dp G) G.T ah G.T.nodes.length f md env K (i:Int)):=by show _=_;rw[j4n,if_neg (by rw[hst2.out];simp)]
 clear hst hal;have p0:_=some (addF km):=(BP2.out.cell 0).trans rfl
 have p1:_=some (j09 km ko):=(BP2.out.cell 1).trans rfl
 have p2:_=some (Value.int .i64 tk):=(BP2.out.cell 2).trans rfl
 have p3:_=some (Value.bool lst):=(BP2.out.cell 3).trans rfl
 have p4:_=some (Value.bool hr):=(BP2.out.cell 4).trans rfl
 have p5:_=some (av):=(BP2.out.cell 5).trans rfl
 by_cases hq:kd=16
 ·
  have hR:Hid (ckS (Dp G) G.T ah G.T.nodes.length (f+1) md env K (i:Int) lst=j2f env (ckBr (Dp G) G.T ah md env G.T.nodes.length K (i:Int) (if n.kind=16 then 4 else 1) λb K=>ckSs (ckS (Dp G) G.T ah G.T.nodes.length f md) false (nd G.T b).kids env K)):=by
   have h1:=hR0.out
   unfold ckS' at h1
   rw[HND.out,hkd.out] at h1
   rw[hq] at h1
   simp only[Int.reduceEq,if_true,if_false,or_self,or_false,false_or] at h1
   show _=_
   rw[h1]
   rw[hkd.out,hq];rfl
  have hcall:=j75 (lst:=lst) (hr:=hr) (tk:=tk) hG HE.out hS HV.out HF.out (by omega) (by omega) (by rw[hkd.out];omega) htk H2.out X2.out HKR.out
  have t11:(kd ==11)=false:=by have:=HK.out;simp;omega
  have t16:(kd ==16)=true:=by simp[hq]
  clear hq hR0;go_wp2_with fail;refine hcall.mono ?_
  intro e w3 hS3
  have hT:j21 G w ah km ko mb bs md av nx i Kp (ckS (Dp G) G.T ah G.T.nodes.length (f+1) md env K (i:Int) lst) e w3:=by rw[hR.out];exact(j13.stm hS3 X2.out L2.out HNN.out hle).pre T2.out
  clear hcall;obtain⟨v,rfl⟩:=hT.ret
  have HT:=Hid.mk' hT
  clear hT;go_wp2_with fail;go_ret;exact HT.out
 by_cases hq:kd=17
 ·
  have hR:Hid (ckS (Dp G) G.T ah G.T.nodes.length (f+1) md env K (i:Int) lst=j2f env (ckBr (Dp G) G.T ah md env G.T.nodes.length K (i:Int) (if n.kind=16 then 4 else 1) λb K=>ckSs (ckS (Dp G) G.T ah G.T.nodes.length f md) false (nd G.T b).kids env K)):=by
   have h1:=hR0.out
   unfold ckS' at h1
   rw[HND.out,hkd.out] at h1
   rw[hq] at h1
   simp only[Int.reduceEq,if_true,if_false,or_self,or_false,false_or] at h1
   show _=_
   rw[h1]
   rw[hkd.out,hq];rfl
  have hcall:=j75 (lst:=lst) (hr:=hr) (tk:=tk) hG HE.out hS HV.out HF.out (by omega) (by omega) (by rw[hkd.out];omega) htk H2.out X2.out HKR.out
  have t11:(kd ==11)=false:=by have:=HK.out;simp;omega
  have t16:(kd ==16)=false:=by have:=HK.out;simp;omega
  have t17:(kd ==17)=true:=by simp[hq]
  clear hq hR0;go_wp2_with fail;refine hcall.mono ?_
  intro e w3 hS3
  have hT:j21 G w ah km ko mb bs md av nx i Kp (ckS (Dp G) G.T ah G.T.nodes.length (f+1) md env K (i:Int) lst) e w3:=by rw[hR.out];exact(j13.stm hS3 X2.out L2.out HNN.out hle).pre T2.out
  clear hcall;obtain⟨v,rfl⟩:=hT.ret
  have HT:=Hid.mk' hT
  clear hT;go_wp2_with fail;go_ret;exact HT.out
 by_cases hq:kd=18
 ·
  have hR:Hid (ckS (Dp G) G.T ah G.T.nodes.length (f+1) md env K (i:Int) lst=j2f env (ckEa (Dp G) G.T K (i:Int) λwth K=>ckSs (ckS (Dp G) G.T ah G.T.nodes.length f {md with each:=true,wth:=wth}) false (nd G.T (kid (nd G.T (i:Int)) 2)).kids env K)):=by
   have h1:=hR0.out
   unfold ckS' at h1
   rw[HND.out,hkd.out] at h1
   rw[hq] at h1
   simp only[Int.reduceEq,if_true,if_false,or_self,or_false,false_or] at h1
   show _=_
   rw[h1]
   first|(rw[HND.out];done)|(rw[HND.out];rfl)
  have hcall:=jdh (lst:=lst) (hr:=hr) (tk:=tk) hG hS HV.out HF.out (by omega) (by rw[hkd.out];exact hq) htk H2.out X2.out HKR.out
  have t11:(kd ==11)=false:=by have:=HK.out;simp;omega
  have t16:(kd ==16)=false:=by have:=HK.out;simp;omega
  have t17:(kd ==17)=false:=by have:=HK.out;simp;omega
  have t18:(kd ==18)=true:=by simp[hq]
  clear hq hR0;go_wp2_with fail;refine hcall.mono ?_
  intro e w3 hS3
  have hT:j21 G w ah km ko mb bs md av nx i Kp (ckS (Dp G) G.T ah G.T.nodes.length (f+1) md env K (i:Int) lst) e w3:=by rw[hR.out];exact(j13.stm hS3 X2.out L2.out HNN.out hle).pre T2.out
  clear hcall;obtain⟨v,rfl⟩:=hT.ret
  have HT:=Hid.mk' hT
  clear hT;go_wp2_with fail;go_ret;exact HT.out
 by_cases hq:kd=20
 ·
  have hR:Hid (ckS (Dp G) G.T ah G.T.nodes.length (f+1) md env K (i:Int) lst=j2f env (ckHe (Dp G) G.T env K (i:Int) λenv K=>ckSs (ckS (Dp G) G.T ah G.T.nodes.length f {md with hears:=true}) false (nd G.T (kid (nd G.T (i:Int)) 1)).kids env K)):=by
   have h1:=hR0.out
   unfold ckS' at h1
   rw[HND.out,hkd.out] at h1
   rw[hq] at h1
   simp only[Int.reduceEq,if_true,if_false,or_self,or_false,false_or] at h1
   show _=_
   rw[h1]
   first|(rw[HND.out];done)|(rw[HND.out];rfl)
  have hcall:=jdl (lst:=lst) (hr:=hr) (tk:=tk) hG hS HV.out HF.out (by omega) (by rw[hkd.out];exact hq) htk H2.out X2.out HKR.out
  have t11:(kd ==11)=false:=by have:=HK.out;simp;omega
  have t16:(kd ==16)=false:=by have:=HK.out;simp;omega
  have t17:(kd ==17)=false:=by have:=HK.out;simp;omega
  have t18:(kd ==18)=false:=by have:=HK.out;simp;omega
  have t20:(kd ==20)=true:=by simp[hq]
  clear hq hR0;go_wp2_with fail;refine hcall.mono ?_
  intro e w3 hS3
  have hT:j21 G w ah km ko mb bs md av nx i Kp (ckS (Dp G) G.T ah G.T.nodes.length (f+1) md env K (i:Int) lst) e w3:=by rw[hR.out];exact(j13.stm hS3 X2.out L2.out HNN.out hle).pre T2.out
  clear hcall;obtain⟨v,rfl⟩:=hT.ret
  have HT:=Hid.mk' hT
  clear hT;go_wp2_with fail;go_ret;exact HT.out
 by_cases hq:kd=21
 ·
  have hR:Hid (ckS (Dp G) G.T ah G.T.nodes.length (f+1) md env K (i:Int) lst=j2f env (j18 (Dp G) G.T (ckE (Dp G) G.T ah md env G.T.nodes.length) n.kids [] K)):=by
   have h1:=hR0.out
   unfold ckS' at h1
   rw[HND.out,hkd.out] at h1
   rw[hq] at h1
   simp only[Int.reduceEq,if_true,if_false,or_self,or_false,false_or] at h1
   show _=_
   rw[h1]
  have hcall:=jc0 (lst:=lst) (hr:=hr) (tk:=tk) hG HE.out HV.out HF.out (by omega) (by rw[hkd.out];exact hq) H2.out X2.out HKR.out
  have t11:(kd ==11)=false:=by have:=HK.out;simp;omega
  have t16:(kd ==16)=false:=by have:=HK.out;simp;omega
  have t17:(kd ==17)=false:=by have:=HK.out;simp;omega
  have t18:(kd ==18)=false:=by have:=HK.out;simp;omega
  have t20:(kd ==20)=false:=by have:=HK.out;simp;omega
  have t21:(kd ==21)=true:=by simp[hq]
  clear hq hR0;go_wp2_with fail;refine hcall.mono ?_
  intro e w3 hS3
  have hT:j21 G w ah km ko mb bs md av nx i Kp (ckS (Dp G) G.T ah G.T.nodes.length (f+1) md env K (i:Int) lst) e w3:=by rw[hR.out];exact(j13.stm hS3 X2.out L2.out HNN.out hle).pre T2.out
  clear hcall;obtain⟨v,rfl⟩:=hT.ret
  have HT:=Hid.mk' hT
  clear hT;go_wp2_with fail;go_ret;exact HT.out
 have t11:(kd ==11)=false:=by have:=HK.out;simp;omega
 have t16:(kd ==16)=false:=by have:=HK.out;simp;omega
 have t17:(kd ==17)=false:=by have:=HK.out;simp;omega
 have t18:(kd ==18)=false:=by have:=HK.out;simp;omega
 have t20:(kd ==20)=false:=by have:=HK.out;simp;omega
 have t21:(kd ==21)=false:=by have:=HK.out;simp;omega
 by_cases hq:kd=12
 ·
  have h1:n.kids.length=1:=by have h1:=HLN.out;rw[hq] at h1;simpa[shp] using h1.symm
  have hR:Hid (ckS (Dp G) G.T ah G.T.nodes.length (f+1) md env K (i:Int) lst=jii env n.text (i:Int) (ckL (ckE (Dp G) G.T ah md env G.T.nodes.length) n.kids K)):=by
   show _=_
   rw[jia (by rw[HND.out,hkd.out];exact hq) (by rw[HND.out];exact h1) hst2.out,HND.out];rfl
  have hcall:=jf6 (lst:=lst) (hr:=hr) (tk:=tk) hG HE.out HV.out HF.out (by omega) (by rw[hkd.out];exact hq) (by unfold maxLen;have:=HNN.out;omega) hs H2.out X2.out L2.out HKR.out
  clear hq hR0 h1;go_wp2_with fail;refine hcall.mono ?_
  intro e w3 hS3
  have hT:j21 G w ah km ko mb bs md av nx i Kp (ckS (Dp G) G.T ah G.T.nodes.length (f+1) md env K (i:Int) lst) e w3:=by rw[hR.out];exact(j4h.stm hS3 HNN.out hle HEN.out).pre T2.out
  clear hcall;obtain⟨v,rfl⟩:=hT.ret
  have HT:=Hid.mk' hT
  clear hT;go_wp2_with fail;go_ret;exact HT.out
 have hR:Hid (ckS (Dp G) G.T ah G.T.nodes.length (f+1) md env K (i:Int) lst=jjl env (plR (Dp G) G.T ah md env G.T.nodes.length n K (i:Int))):=by
  have h2:=HK.out
  by_cases h3:kd=22\/kd=24
  ·
   have h1:n.kids.length=0:=by have h1:=HLN.out;rcases h3 with e|e<;>(rw[e] at h1;simpa[shp] using h1.symm)
   show _=_
   rw[jfl (by rw[HND.out,hkd.out];exact h3) (by rw[HND.out];exact h1) hst2.out,HND.out];rfl
  have h4:kd=13\/kd=14\/kd=15\/kd=19\/kd=23\/kd=25\/kd=26:=by omega
  have h1:n.kids.length=1:=by have h1:=HLN.out;rcases h4 with e|e|e|e|e|e|e<;>(rw[e] at h1;simpa[shp] using h1.symm)
  show _=_
  rw[je3 (by rw[HND.out,hkd.out];exact h4) (by rw[HND.out];exact h1) hst2.out,HND.out];rfl
 have hcall:=j95 (lst:=lst) (hr:=hr) (tk:=tk) hG ha HE.out HV.out HF.out (by omega) (by have:=HK.out;rw[hkd.out];unfold isP;omega) (by rw[hkd.out];exact hq) hs H2.out X2.out HKR.out
 clear hq hR0;go_wp2_with fail;refine hcall.mono ?_
 intro e w3 hS3
 have hT:j21 G w ah km ko mb bs md av nx i Kp (ckS (Dp G) G.T ah G.T.nodes.length (f+1) md env K (i:Int) lst) e w3:=by rw[hR.out];exact(j49.stm hS3 X2.out L2.out HNN.out hle HEN.out).pre T2.out
 clear hcall;obtain⟨v,rfl⟩:=hT.ret
 have HT:=Hid.mk' hT
 clear hT;go_wp2_with fail;go_ret;exact HT.out
theorem jea (hG:G.Ok) (ha:AhOk G.T ah):∀f,StP G ah f
 | 0=>λ_ _ _ _ _ _ _ _ _ _ _ _ _ _ _ _ _ _ hi=>absurd hi (Nat.not_lt_zero _)
 | f+1=>jfh hG ha (jea hG ha f)
end
end
end Go.Proofs.YtjbbagcpcepkoaaGreatDoor
