import Derived.Test.YtjbbagcpcepkoaaGreatDoorSf15
namespace Go.Proofs.YtjbbagcpcepkoaaGreatDoor
set_option maxRecDepth 100000
set_option maxHeartbeats 64000000
open Go.RowKit
set_option linter.unusedVariables false
set_option linter.unusedSimpArgs false
theorem VN.kidAt {T:Tre} {i:Nat} {n:Nd} {nx:Nat} (h:VN T i n) (hf:FitL (j0e T) (okN T) n.kids nx i) {j:Nat} {c:Int} (hc:(shp n.kind n.kids.length)[j]?=some c):∃(k:Nat) (m:Nd) (b:Nat),n.kids[j]?=some (k:Int)/\k<i/\VN T k m/\j1c c m.kind/\FitL (j0e T) (okN T) m.kids b k/\nx<=b:=by
 have hj:j<n.kids.length:=by rw[<-h.len];exact(List.getElem?_eq_some_iff.1 hc).1
 obtain⟨x,hx⟩:∃x,n.kids[j]?=some x:=⟨n.kids[j],by simp[hj]⟩
 obtain⟨k,b,rfl,hok,hfk,hab,hlt⟩:=hf.mem x (List.mem_of_getElem? hx)
 have hok2:=hok
 obtain⟨m,hm,_⟩:=hok2
 rw[j0t hm] at hfk
 have hv:VN T k m:=⟨hm,hok,b,hfk⟩
 have h3:=h.cls hx hc
 rw[j0j hm] at h3
 exact⟨k,m,b,hx,hlt,hv,h3,hfk,hab⟩
theorem jco {K:Nat->List Int} {ok:Nat->Prop} {ks:List Int} {a e:Nat} (h:FitL K ok ks a e) {x y:Nat} (hx:ks[0]?=some (x:Int)) (hy:ks[1]?=some (y:Int)):∃b,FitL K ok (K y) b y/\a+1<=b:=by
 cases h with
 | nil=>simp at hx
 | cons _ k ks' _ h1 h2 h3 h4 =>
  cases h4 with
  | nil=>simp at hy
  | cons _ k2 ks2 _ g1 g2 g3 g4 =>
   simp at hy
   have:k2=y:=by omega
   subst this
   exact⟨k+1,g3,by omega⟩
theorem j34 {k:Int} (h:j1c 3 k):k=27:=by
 unfold j1c at h
 simp only[show¬(3:Int)=10 by omega,if_false] at h
 have h:=h.1
 unfold cls at h
 repeat (split at h<;>try omega)
theorem jeq {k:Int} (h:j1c 8 k):k=28:=by
 unfold j1c at h
 simp only[show¬(8:Int)=10 by omega,if_false] at h
 have h:=h.1
 unfold cls at h
 repeat (split at h<;>try omega)
theorem jif {k:Int} (h:j1c 2 k):12<=k/\k<=26:=by
 unfold j1c at h
 simp only[show¬(2:Int)=10 by omega,if_false] at h
 have h:=h.1
 unfold cls at h
 repeat (split at h<;>try omega)
section
variable {G:Gd} {w w':World} {top:Int} {env:Env} {md:Md} {last:Int} {K:KM} {sn sk sw:Option Addr} {cn ck cw:Nat}
theorem j3b.pre {w0:World} {r:Ck (Env×KM)} {e:Ending} (h:j3b G w top md last r e w') (ht:Tw G.p G.kb w0 w):j3b G w0 top md last r e w':=⟨h.1,ht.trans h.2⟩
def StS (G:Gd) (top:Int) (tp:Nat) (last:Int) (fn:Bool) (f:Nat):Prop :=
 ∀(md:Md),md.fn=fn->md.wth.length<=1048576->(md.each=false->md.wth=[])->∀(i:Nat) (n:Nd) (nx:Nat) (env:Env) (K:KM) (w:World) (sn:Option Addr) (cn:Nat) (sk:Option Addr) (ck:Nat) (sw:Option Addr) (cw:Nat),i<f->VN G.T i n->FitL (j0e G.T) (okN G.T) n.kids nx i->(12<=n.kind/\n.kind<=26)->(i:Int)<=last->env.length<=nx->Lv G w top env md last K sn cn sk ck sw cw->
  Calls Tryz.prog 75 #[.pointer (some ⟨G.p,0,none⟩),.int .i64 (i:Int)] w λe w'=>j3b G w top md last (ckS (Dg G) G.T (G.T.tops.take tp) G.T.nodes.length f md env K (i:Int) (md.fn&&((i:Int) ==last))) e w'
theorem j3v {T:Tre} {b:Nat} {bn:Nd} {nb:Nat} {fn:Bool} (hv:VN T b bn) (hf:FitL (j0e T) (okN T) bn.kids nb b) {m i:Nat} (hi:bn.kids[m]?=some (i:Int)) (hb:(b:Int)<last):(i:Int)<=last/\(false&&(bn.kids.drop (m+1)).isEmpty)=(fn&&((i:Int) ==last)):=by
 obtain⟨k,_,e,_,_,_,hlt⟩:=hf.mem _ (List.mem_of_getElem? hi)
 have e:i=k:=by omega
 refine⟨by omega,?_⟩
 have:((i:Int) ==last)=false:=by simp;omega
 rw[this];simp
theorem j8a (hG:G.Ok) {tp f:Nat} {fn:Bool} (hS:StS G top tp last fn f) (md:Md) (hfn:md.fn=fn) (hw:md.wth.length<=1048576) (hmw:md.each=false->md.wth=[]) {own:Bool} {b:Nat} {bn:Nd} (hvb:VN G.T b bn) (hb27:bn.kind=27) {nb:Nat} (hfb:FitL (j0e G.T) (okN G.T) bn.kids nb b) (hbf:b<=f) (hfl:∀(m i:Nat),bn.kids[m]?=some (i:Int)->(i:Int)<=last/\(own&&(bn.kids.drop (m+1)).isEmpty)=(md.fn&&((i:Int) ==last)))
  (s1 s2:Option Addr) (c1 c2:Nat) (more:Env) (hm1:Strs G.p G.kb w s1 (more.map (·.1))) (hm2:Nums G.p G.kb w s2 (more.map (·.2))) (henv:env.length+more.length<=nb) (h:Lv G w top env md last K sn cn sk ck sw cw) :
  Calls Tryz.prog 54 #[.pointer (some ⟨G.p,0,none⟩),.int .i64 (b:Int),.slice s1 more.length c1,.slice s2 more.length c2] w λe w'=>j2n G w top env md last (ckSs (ckS (Dg G) G.T (G.T.tops.take tp) G.T.nodes.length f md) own bn.kids (env++more) K) e w':=by
 refine jf3 hG hvb hfb (λm i a env K w sn cn sk ck sw cw hi hfi hea hl=>?_) (λenv K i l env' K' hg=>jhu _ _ hg) s1 s2 c1 c2 more hm1 hm2 henv h
 obtain⟨k,mm,e,hlt,hvk⟩:=hvb.kid (List.mem_of_getElem? hi)
 have e:i=k:=by omega
 subst e
 have hj:=(List.getElem?_eq_some_iff.1 hi).1
 have hc:=hvb.cls hi (c:=2) (by rw[hb27];simp[shp,hj])
 rw[j0j hvk.at_] at hc
 rw[j0t hvk.at_] at hfi
 have hf2:=hfl m i hi
 rw[hf2.2]
 exact hS md hfn hw hmw i mm a env K w sn cn sk ck sw cw (by omega) hvk hfi (jif hc) hf2.1 hea hl
theorem jhb (hG:G.Ok) {tp f:Nat} {fn:Bool} (htp:top=(tp:Int)) (hle:tp<=G.T.tops.length) (hS:StS G top tp last fn f):StS G top tp last fn (f+1):=by
 intro md hfn hw hmw i n nx env K w sn cn sk ck sw cw hi hv hfit hk hil hel h
 have hfl:=hfit.le
 have hiN:i<G.T.nodes.length:=(List.getElem?_eq_some_iff.1 hv.at_).1
 have hnl:G.T.nodes.length<=4000:=hG.tr.1
 have hE:=jbe hG htp hle hw (env:=env) (last:=last) (by omega) G.T.nodes.length
 obtain⟨nb,no,s9,c9,en1,hnb,e0,e1,e2,e3,ekids⟩:=hG.node hv.at_
 have iI:(i:Int)<(G.T.nodes.length:Int):=by omega
 have HV:=Hid.mk' hv
 have HF:Hid (FitL (j0e G.T) (okN G.T) n.kids nx i):=hfit
 have HK:Hid (Els 1 cInt G.w0 G.B0 s9 n.kids):=ekids
 have H:=Hid.mk' h
 obtain⟨kd,hkd⟩:∃k,Hid (n.kind=k):=⟨_,rfl⟩
 rw[hkd.out] at e0 hk
 have HEN:=Hid.mk' en1
 have E0:=Hid.mk' e0
 have E1:=Hid.mk' e1
 have E2:=Hid.mk' e2
 have E3:=Hid.mk' e3
 clear h e0 e1 e2 e3 ekids hv hfit en1;go_enter Tryz.func75,Tryz.ntmps75
 go_wp2_with fail;refine(jcj hG H.out HV.out.at_).mono ?_
 rintro e w2 ⟨rfl,hb2⟩
 have H2:=Hid.mk' (H.out.later hb2)
 have T2:Hid (Tw G.p G.kb w w2):=Tw.of hb2
 obtain⟨sb,hsb⟩:∃s,Hid (stands md n.kind (md.fn&&((i:Int) ==last))=s):=⟨_,rfl⟩
 rw[hsb.out]
 clear hb2 H;cases sb
 ·
  have hEr:Hid (ckS (Dg G) G.T (G.T.tops.take tp) G.T.nodes.length (f+1) md env K (i:Int) (md.fn&&((i:Int) ==last))=.error (5,(i:Int))):=by show _=_;rw[j4n,j0j HV.out.at_,if_pos hsb.out]
  go_wp2_with fail;refine(j0f hG H2.out 5 (i:Int) (by omega)).mono ?_
  rintro e w3 ⟨rfl,hd,ht⟩
  go_wp2_with fail;refine bq (.tuple #[]) ?_
  exact j3b.bad hEr.out hd (T2.out.trans ht)
 have hst:Hid (stands md n.kind (md.fn&&((i:Int) ==last))=true):=hsb
 have hC1:Hid (ckS (Dg G) G.T (G.T.tops.take tp) G.T.nodes.length (f+1) md env K (i:Int) (md.fn&&((i:Int) ==last))=ckS' (Dg G) G.T (G.T.tops.take tp) G.T.nodes.length f md env K (i:Int)):=by show _=_;rw[j4n,j0j HV.out.at_,if_neg (by rw[hsb.out];simp)]
 have x3:w2.cell? ⟨G.p,3,none⟩=some (.slice (some ⟨nb,no,none⟩) G.T.nodes.length G.d1):=by rw[<-HEN.out];exact(H2.out.bx.cell 3).trans rfl
 have q0:=(H2.out.bl.cell (p:=⟨nb,no+i*4,none⟩) hnb).trans E0.out
 have q1:=(H2.out.bl.cell (p:=⟨nb,no+i*4+1,none⟩) hnb).trans E1.out
 have q2:=(H2.out.bl.cell (p:=⟨nb,no+i*4+2,none⟩) hnb).trans E2.out
 have q3:=(H2.out.bl.cell (p:=⟨nb,no+i*4+3,none⟩) hnb).trans E3.out
 have bz:Below w2.heap.size w2 (w2.alloc (.cells #[.int .i64 kd,.string n.text,.int .i64 n.num,.slice s9 n.kids.length c9] 73)):=j00 (Below.refl _ _) _
 have H1:Hid (Lv G (w2.alloc (.cells #[.int .i64 kd,.string n.text,.int .i64 n.num,.slice s9 n.kids.length c9] 73)) top env md last K sn cn sk ck sw cw):=H2.out.later bz
 have T1:Hid (Tw G.p G.kb w (w2.alloc (.cells #[.int .i64 kd,.string n.text,.int .i64 n.num,.slice s9 n.kids.length c9] 73))):=T2.out.trans (Tw.of bz)
 have kk5:=Blk.new w2 #[.int .i64 kd,.string n.text,.int .i64 n.num,.slice s9 n.kids.length c9] 73
 have HK2:=Hid.mk' kk5
 obtain⟨z0,z1,z2,z3,z4⟩:=Blk.four' kk5
 clear bz hsb H2 T2 E0 E1 E2 E3 HEN;have hc:kd=12\/kd=13\/kd=14\/kd=15\/kd=16\/kd=17\/kd=18\/kd=19\/kd=20\/kd=21\/kd=22\/kd=23\/kd=24\/kd=25\/kd=26:=by omega
 rcases hc with rfl|rfl|rfl|rfl|rfl|rfl|rfl|rfl|rfl|rfl|rfl|rfl|rfl|rfl|rfl
 ·
  obtain⟨a,an,b0,hx0,hai,hva,hca,_,_⟩:=HV.out.kidAt HF.out (j:=0) (c:=1) (by rw[hkd.out];rfl)
  have hae:=j1q hca
  have haN:a<G.T.nodes.length:=(List.getElem?_eq_some_iff.1 hva.at_).1
  have HC:Hid (ckS (Dg G) G.T (G.T.tops.take tp) G.T.nodes.length (f+1) md env K (i:Int) (md.fn&&((i:Int) ==last))=ckLt (Dg G) G.T (G.T.tops.take tp) md env G.T.nodes.length K (i:Int)):=by
   show _=_
   rw[hC1.out]
   unfold ckS'
   rw[j0j HV.out.at_,hkd.out]
   simp only[Int.reduceEq,if_true,if_false,or_self,or_false,false_or,true_or,or_true]
  go_wp2_with fail;refine(jij hG hE hw HV.out hx0 hva hae haN hkd.out (by omega) H1.out).mono ?_
  rintro e w5 hS5
  have hq:=hS5
  rw[<-HC.out] at hq
  obtain⟨⟨rfl,_⟩,_⟩:=hS5
  have HQ:=Hid.mk' (hq.pre T1.out)
  clear hq;go_wp2_with fail;refine bq (.tuple #[]) ?_
  exact HQ.out
 ·
  obtain⟨a,an,b0,hx0,hai,hva,hca,_,_⟩:=HV.out.kidAt HF.out (j:=0) (c:=1) (by rw[hkd.out];rfl)
  have hae:=j1q hca
  have haN:a<G.T.nodes.length:=(List.getElem?_eq_some_iff.1 hva.at_).1
  have HC:Hid (ckS (Dg G) G.T (G.T.tops.take tp) G.T.nodes.length (f+1) md env K (i:Int) (md.fn&&((i:Int) ==last))=j2f env (ckSt (Dg G) G.T (G.T.tops.take tp) md env G.T.nodes.length K (i:Int))):=by
   show _=_
   rw[hC1.out]
   unfold ckS'
   rw[j0j HV.out.at_,hkd.out]
   simp only[Int.reduceEq,if_true,if_false,or_self,or_false,false_or,true_or,or_true]
  go_wp2_with fail;refine(jej hG hE hw HV.out hx0 hva hae haN hkd.out (by omega) H1.out).mono ?_
  rintro e w5 hS5
  have hq:=hS5.s
  rw[<-HC.out] at hq
  obtain⟨⟨rfl,_⟩,_⟩:=hS5
  have HQ:=Hid.mk' (hq.pre T1.out)
  clear hq;go_wp2_with fail;refine bq (.tuple #[]) ?_
  exact HQ.out
 ·
  obtain⟨a,an,b0,hx0,hai,hva,hca,_,_⟩:=HV.out.kidAt HF.out (j:=0) (c:=1) (by rw[hkd.out];rfl)
  have hae:=j1q hca
  have haN:a<G.T.nodes.length:=(List.getElem?_eq_some_iff.1 hva.at_).1
  have HC:Hid (ckS (Dg G) G.T (G.T.tops.take tp) G.T.nodes.length (f+1) md env K (i:Int) (md.fn&&((i:Int) ==last))=j2f env (ckP (Dg G) G.T (G.T.tops.take tp) md env G.T.nodes.length K (i:Int) 1)):=by
   show _=_
   rw[hC1.out]
   unfold ckS'
   rw[j0j HV.out.at_,hkd.out]
   simp only[Int.reduceEq,if_true,if_false,or_self,or_false,false_or,true_or,or_true]
  go_wp2_with fail;refine(j57 hG hE hw HV.out hx0 hva hae haN 1 H1.out).mono ?_
  rintro e w5 hS5
  have hq:=hS5.s
  rw[<-HC.out] at hq
  obtain⟨⟨rfl,_⟩,_⟩:=hS5
  have HQ:=Hid.mk' (hq.pre T1.out)
  clear hq;go_wp2_with fail;refine bq (.tuple #[]) ?_
  exact HQ.out
 ·
  obtain⟨a,an,b0,hx0,hai,hva,hca,_,_⟩:=HV.out.kidAt HF.out (j:=0) (c:=1) (by rw[hkd.out];rfl)
  have hae:=j1q hca
  have haN:a<G.T.nodes.length:=(List.getElem?_eq_some_iff.1 hva.at_).1
  have HC:Hid (ckS (Dg G) G.T (G.T.tops.take tp) G.T.nodes.length (f+1) md env K (i:Int) (md.fn&&((i:Int) ==last))=j2f env (ckP (Dg G) G.T (G.T.tops.take tp) md env G.T.nodes.length K (i:Int) 2)):=by
   show _=_
   rw[hC1.out]
   unfold ckS'
   rw[j0j HV.out.at_,hkd.out]
   simp only[Int.reduceEq,if_true,if_false,or_self,or_false,false_or,true_or,or_true]
  go_wp2_with fail;refine(j57 hG hE hw HV.out hx0 hva hae haN 2 H1.out).mono ?_
  rintro e w5 hS5
  have hq:=hS5.s
  rw[<-HC.out] at hq
  obtain⟨⟨rfl,_⟩,_⟩:=hS5
  have HQ:=Hid.mk' (hq.pre T1.out)
  clear hq;go_wp2_with fail;refine bq (.tuple #[]) ?_
  exact HQ.out
 ·
  have hlen:=HV.out.len
  rw[hkd.out] at hlen
  have hkn:Hid (n.kids.length=2\/n.kids.length=3):=by
   show n.kids.length=2\/n.kids.length=3
   simp only[shp] at hlen
   simp at hlen
   split at hlen<;>simp at hlen<;>omega
  obtain⟨a,an,b0,hx0,hai,hva,hca,_,_⟩:=HV.out.kidAt HF.out (j:=0) (c:=1) (by rw[hkd.out];have hj:=hkn.out;rcases hj with hj|hj<;>rw[hj]<;>rfl)
  have hae:=j1q hca
  have haN:a<G.T.nodes.length:=(List.getElem?_eq_some_iff.1 hva.at_).1
  have HC:Hid (ckS (Dg G) G.T (G.T.tops.take tp) G.T.nodes.length (f+1) md env K (i:Int) (md.fn&&((i:Int) ==last))=j2f env (ckBr (Dg G) G.T (G.T.tops.take tp) md env G.T.nodes.length K (i:Int) 4 (λb K=>ckSs (ckS (Dg G) G.T (G.T.tops.take tp) G.T.nodes.length f md) false (nd G.T b).kids env K))):=by
   show _=_
   rw[hC1.out]
   unfold ckS'
   rw[j0j HV.out.at_,hkd.out]
   simp only[Int.reduceEq,if_true,if_false,or_self,or_false,false_or,true_or,or_true]
  have hcl:∀j,1<=j->j<n.kids.length->∃(b:Nat) (bn:Nd),n.kids[j]?=some (b:Int)/\VN G.T b bn/\bn.kind=27/\(∃nb,(b<i/\nx<=nb)/\FitL (j0e G.T) (okN G.T) bn.kids nb b):=by
   intro j h1 h2
   obtain⟨b,bn,nb,hx,hbi,hvb,hcb,hfb,hnb⟩:=HV.out.kidAt HF.out (j:=j) (c:=3) (by
    rw[hkd.out]
    rcases hkn.out with hj|hj<;>rw[hj] at h2 ⊢
    ·
     have:j=1:=by omega
     subst this;rfl
    have:j=1\/j=2:=by omega
    rcases this with rfl|rfl<;>rfl)
   exact⟨b,bn,hx,hvb,j34 hcb,nb,⟨hbi,hnb⟩,hfb⟩
  have hg:BlkS G top env md last (λb K=>ckSs (ckS (Dg G) G.T (G.T.tops.take tp) G.T.nodes.length f md) false (nd G.T b).kids env K) (λb=>∃nb bn,G.T.nodes[b]?=some bn/\(b<i/\nx<=nb)/\FitL (j0e G.T) (okN G.T) bn.kids nb b):=by
   rintro b bn K w sn cn sk ck sw cw ⟨nb,bn2,hat,⟨hbi,hnb⟩,hfb⟩ hvb h27 hl
   rw[hvb.at_] at hat
   cases hat
   have:=j8a hG hS md hfn hw hmw hvb h27 hfb (by omega) (λm i' hi'=>j3v (last:=last) hvb hfb hi' (by omega)) none none 0 0 [] (Or.inl rfl) (Or.inl rfl) (by simp;omega) hl
   rw[List.append_nil] at this
   simp only[j0j hvb.at_]
   exact this
  go_wp2_with fail;refine(j8c hG hE hw HV.out hx0 hva hae haN 4 hg (λj h1 h2=>by obtain⟨b,bn,hx,hvb,h27,nb,h3,h4⟩:=hcl j h1 h2;exact⟨b,bn,hx,hvb,h27,nb,bn,hvb.at_,h3,h4⟩) H1.out).mono ?_
  rintro e w5 hS5
  have hq:=hS5.s
  rw[<-HC.out] at hq
  obtain⟨⟨rfl,_⟩,_⟩:=hS5
  have HQ:=Hid.mk' (hq.pre T1.out)
  clear hq;go_wp2_with fail;refine bq (.tuple #[]) ?_
  exact HQ.out
 ·
  have hlen:=HV.out.len
  rw[hkd.out] at hlen
  have hkn:Hid (n.kids.length=2):=by
   show n.kids.length=2
   simp only[shp] at hlen
   simp at hlen
   omega
  obtain⟨a,an,b0,hx0,hai,hva,hca,_,_⟩:=HV.out.kidAt HF.out (j:=0) (c:=1) (by rw[hkd.out];rw[hkn.out];rfl)
  have hae:=j1q hca
  have haN:a<G.T.nodes.length:=(List.getElem?_eq_some_iff.1 hva.at_).1
  have HC:Hid (ckS (Dg G) G.T (G.T.tops.take tp) G.T.nodes.length (f+1) md env K (i:Int) (md.fn&&((i:Int) ==last))=j2f env (ckBr (Dg G) G.T (G.T.tops.take tp) md env G.T.nodes.length K (i:Int) 1 (λb K=>ckSs (ckS (Dg G) G.T (G.T.tops.take tp) G.T.nodes.length f md) false (nd G.T b).kids env K))):=by
   show _=_
   rw[hC1.out]
   unfold ckS'
   rw[j0j HV.out.at_,hkd.out]
   simp only[Int.reduceEq,if_true,if_false,or_self,or_false,false_or,true_or,or_true]
  have hcl:∀j,1<=j->j<n.kids.length->∃(b:Nat) (bn:Nd),n.kids[j]?=some (b:Int)/\VN G.T b bn/\bn.kind=27/\(∃nb,(b<i/\nx<=nb)/\FitL (j0e G.T) (okN G.T) bn.kids nb b):=by
   intro j h1 h2
   obtain⟨b,bn,nb,hx,hbi,hvb,hcb,hfb,hnb⟩:=HV.out.kidAt HF.out (j:=j) (c:=3) (by
    rw[hkd.out]
    rw[hkn.out] at h2 ⊢
    have:j=1:=by omega
    subst this;rfl)
   exact⟨b,bn,hx,hvb,j34 hcb,nb,⟨hbi,hnb⟩,hfb⟩
  have hg:BlkS G top env md last (λb K=>ckSs (ckS (Dg G) G.T (G.T.tops.take tp) G.T.nodes.length f md) false (nd G.T b).kids env K) (λb=>∃nb bn,G.T.nodes[b]?=some bn/\(b<i/\nx<=nb)/\FitL (j0e G.T) (okN G.T) bn.kids nb b):=by
   rintro b bn K w sn cn sk ck sw cw ⟨nb,bn2,hat,⟨hbi,hnb⟩,hfb⟩ hvb h27 hl
   rw[hvb.at_] at hat
   cases hat
   have:=j8a hG hS md hfn hw hmw hvb h27 hfb (by omega) (λm i' hi'=>j3v (last:=last) hvb hfb hi' (by omega)) none none 0 0 [] (Or.inl rfl) (Or.inl rfl) (by simp;omega) hl
   rw[List.append_nil] at this
   simp only[j0j hvb.at_]
   exact this
  go_wp2_with fail;refine(j8c hG hE hw HV.out hx0 hva hae haN 1 hg (λj h1 h2=>by obtain⟨b,bn,hx,hvb,h27,nb,h3,h4⟩:=hcl j h1 h2;exact⟨b,bn,hx,hvb,h27,nb,bn,hvb.at_,h3,h4⟩) H1.out).mono ?_
  rintro e w5 hS5
  have hq:=hS5.s
  rw[<-HC.out] at hq
  obtain⟨⟨rfl,_⟩,_⟩:=hS5
  have HQ:=Hid.mk' (hq.pre T1.out)
  clear hq;go_wp2_with fail;refine bq (.tuple #[]) ?_
  exact HQ.out
 ·
  have hst2:=hst.out
  rw[hkd.out] at hst2
  obtain⟨hfn0,he,hh⟩:md.fn=false/\md.each=false/\md.hears=false:=by
   simp only[stands] at hst2
   simp at hst2
   exact hst2
  obtain⟨a,an,na,hx0,hai,hva,hca,hfa,hna⟩:=HV.out.kidAt HF.out (j:=0) (c:=4) (by rw[hkd.out];rfl)
  obtain⟨c,en,nc,hx1,hci,hvc,hcc,hfc,hnc⟩:=HV.out.kidAt HF.out (j:=1) (c:=5) (by rw[hkd.out];rfl)
  obtain⟨b,bn,nb,hx2,hbi,hvb,hcb,hfb,hnb⟩:=HV.out.kidAt HF.out (j:=2) (c:=3) (by rw[hkd.out];rfl)
  have HC:Hid (ckS (Dg G) G.T (G.T.tops.take tp) G.T.nodes.length (f+1) md env K (i:Int) (md.fn&&((i:Int) ==last))=j2f env (ckEa (Dg G) G.T K (i:Int) (λwth K=>ckSs (ckS (Dg G) G.T (G.T.tops.take tp) G.T.nodes.length f {md with each:=true,wth:=wth}) false bn.kids env K))):=by
   show _=_
   rw[hC1.out]
   unfold ckS'
   rw[j0j HV.out.at_,hkd.out]
   simp only[Int.reduceEq,if_true,if_false,or_self,or_false,false_or,true_or,or_true]
   rw[show kid n 2=(b:Int) by simp[kid,hx2],j0j hvb.at_]
  have hN:∀x∈an.kids++en.kids,∃(k:Nat) (m:Nd),x=k/\VN G.T k m:=by
   intro x hx
   rcases List.mem_append.1 hx with hx|hx
   ·
    obtain⟨k,m,e,_,hv⟩:=hva.kid hx;exact⟨k,m,e,hv⟩
   obtain⟨k,m,e,_,hv⟩:=hvc.kid hx;exact⟨k,m,e,hv⟩
  go_wp2_with fail;refine(jf9 hG HV.out hx0 hva hx1 hvc hx2 hN he hh (hmw he) (g:=λwth K=>ckSs (ckS (Dg G) G.T (G.T.tops.take tp) G.T.nodes.length f {md with each:=true,wth:=wth}) false bn.kids env K) (λR s cs w hR hl=>by
   have:=j8a hG hS {md with each:=true,wth:=R} hfn hR (λh=>by cases h) hvb (j34 hcb) hfb (by omega) (λm i' hi'=>j3v (last:=last) hvb hfb hi' (by omega)) none none 0 0 [] (Or.inl rfl) (Or.inl rfl) (by simp;omega) hl
   rw[List.append_nil] at this
   exact this) H1.out).mono ?_
  rintro e w5 hS5
  have hq:=hS5.s
  rw[<-HC.out] at hq
  obtain⟨⟨rfl,_⟩,_⟩:=hS5
  have HQ:=Hid.mk' (hq.pre T1.out)
  clear hq;go_wp2_with fail;refine bq (.tuple #[]) ?_
  exact HQ.out
 ·
  obtain⟨a,an,b0,hx0,hai,hva,hca,_,_⟩:=HV.out.kidAt HF.out (j:=0) (c:=1) (by rw[hkd.out];rfl)
  have hae:=j1q hca
  have haN:a<G.T.nodes.length:=(List.getElem?_eq_some_iff.1 hva.at_).1
  have HC:Hid (ckS (Dg G) G.T (G.T.tops.take tp) G.T.nodes.length (f+1) md env K (i:Int) (md.fn&&((i:Int) ==last))=j2f env (ckP (Dg G) G.T (G.T.tops.take tp) md env G.T.nodes.length K (i:Int) 3)):=by
   show _=_
   rw[hC1.out]
   unfold ckS'
   rw[j0j HV.out.at_,hkd.out]
   simp only[Int.reduceEq,if_true,if_false,or_self,or_false,false_or,true_or,or_true]
  go_wp2_with fail;refine(j57 hG hE hw HV.out hx0 hva hae haN 3 H1.out).mono ?_
  rintro e w5 hS5
  have hq:=hS5.s
  rw[<-HC.out] at hq
  obtain⟨⟨rfl,_⟩,_⟩:=hS5
  have HQ:=Hid.mk' (hq.pre T1.out)
  clear hq;go_wp2_with fail;refine bq (.tuple #[]) ?_
  exact HQ.out
 ·
  have hst2:=hst.out
  rw[hkd.out] at hst2
  obtain⟨hfn0,he,hh⟩:md.fn=false/\md.each=false/\md.hears=false:=by
   simp only[stands] at hst2
   simp at hst2
   exact hst2
  obtain⟨a,an,na,hx0,hai,hva,hca,hfa,hna⟩:=HV.out.kidAt HF.out (j:=0) (c:=6) (by rw[hkd.out];rfl)
  obtain⟨b,bn,nb,hx1,hbi,hvb,hcb,hfb,hnb⟩:=HV.out.kidAt HF.out (j:=1) (c:=3) (by rw[hkd.out];rfl)
  clear hfb hnb;obtain⟨nb,hfb,hnb1⟩:=jco HF.out hx0 hx1
  rw[j0t hvb.at_] at hfb
  have HC:Hid (ckS (Dg G) G.T (G.T.tops.take tp) G.T.nodes.length (f+1) md env K (i:Int) (md.fn&&((i:Int) ==last))=j2f env (ckHe (Dg G) G.T env K (i:Int) (λenv K=>ckSs (ckS (Dg G) G.T (G.T.tops.take tp) G.T.nodes.length f {md with hears:=true}) false bn.kids env K))):=by
   show _=_
   rw[hC1.out]
   unfold ckS'
   rw[j0j HV.out.at_,hkd.out]
   simp only[Int.reduceEq,if_true,if_false,or_self,or_false,false_or,true_or,or_true]
   rw[show kid n 1=(b:Int) by simp[kid,hx1],j0j hvb.at_]
  go_wp2_with fail;refine(jh3 hG HV.out hx0 hva hx1 (by omega) he hh (g:=λenv K=>ckSs (ckS (Dg G) G.T (G.T.tops.take tp) G.T.nodes.length f {md with hears:=true}) false bn.kids env K) (λs1 s2 c1 c2 k w h1 h2 hl=>by
   have:=j8a hG hS {md with hears:=true} hfn hw hmw hvb (j34 hcb) hfb (by omega) (λm i' hi'=>j3v (last:=last) hvb hfb hi' (by omega)) s1 s2 c1 c2 [(an.text,k)] h1 h2 (by simp;omega) hl
   exact this) H1.out).mono ?_
  rintro e w5 hS5
  have hq:=hS5.s
  rw[<-HC.out] at hq
  obtain⟨⟨rfl,_⟩,_⟩:=hS5
  have HQ:=Hid.mk' (hq.pre T1.out)
  clear hq;go_wp2_with fail;refine bq (.tuple #[]) ?_
  exact HQ.out
 ·
  have HC:Hid (ckS (Dg G) G.T (G.T.tops.take tp) G.T.nodes.length (f+1) md env K (i:Int) (md.fn&&((i:Int) ==last))=j2f env (j18 (Dg G) G.T (ckE (Dg G) G.T (G.T.tops.take tp) md env G.T.nodes.length) n.kids [] K)):=by
   show _=_
   rw[hC1.out]
   unfold ckS'
   rw[j0j HV.out.at_,hkd.out]
   simp only[Int.reduceEq,if_true,if_false,or_self,or_false,false_or,true_or,or_true]
  have hNc:∀x∈n.kids,∃(k:Nat) (m:Nd) (a:Nat) (an:Nd),x=k/\k<i/\VN G.T k m/\m.kids[0]?=some (a:Int)/\a<k/\VN G.T a an/\isE an.kind:=by
   intro x hx
   obtain⟨j,hj,rfl⟩:=List.getElem_of_mem hx
   obtain⟨k,m,nk,hxk,hki,hvk,hck,hfk,_⟩:=HV.out.kidAt HF.out (j:=j) (c:=8) (by rw[hkd.out];simp[shp,hj])
   have h28:m.kind=28:=jeq hck
   obtain⟨a,an,na,hxa,hak,hva,hca,_,_⟩:=hvk.kidAt hfk (j:=0) (c:=1) (by rw[h28];rfl)
   rw[List.getElem?_eq_getElem hj] at hxk
   exact⟨k,m,a,an,by simpa using hxk,hki,hvk,hxa,hak,hva,j1q hca⟩
  go_wp2_with fail;refine(jd9 hG hE HV.out (by omega) hNc H1.out).mono ?_
  rintro e w5 hS5
  have hq:=hS5.s
  rw[<-HC.out] at hq
  obtain⟨⟨rfl,_⟩,_⟩:=hS5
  have HQ:=Hid.mk' (hq.pre T1.out)
  clear hq;go_wp2_with fail;refine bq (.tuple #[]) ?_
  exact HQ.out
 ·
  have HC:Hid (ckS (Dg G) G.T (G.T.tops.take tp) G.T.nodes.length (f+1) md env K (i:Int) (md.fn&&((i:Int) ==last))=.ok (env,K)):=by
   show _=_
   rw[hC1.out]
   unfold ckS'
   rw[j0j HV.out.at_,hkd.out]
   simp only[Int.reduceEq,if_true,if_false,or_self,or_false,false_or,true_or,or_true]
  go_wp2_with fail;refine bq (.tuple #[]) ?_
  exact j3b.good HC.out ⟨_,_,_,_,_,_,H1.out⟩ T1.out
 ·
  obtain⟨a,an,b0,hx0,hai,hva,hca,_,_⟩:=HV.out.kidAt HF.out (j:=0) (c:=1) (by rw[hkd.out];rfl)
  have hae:=j1q hca
  have haN:a<G.T.nodes.length:=(List.getElem?_eq_some_iff.1 hva.at_).1
  have HC:Hid (ckS (Dg G) G.T (G.T.tops.take tp) G.T.nodes.length (f+1) md env K (i:Int) (md.fn&&((i:Int) ==last))=j2f env (ckP (Dg G) G.T (G.T.tops.take tp) md env G.T.nodes.length K (i:Int) 1)):=by
   show _=_
   rw[hC1.out]
   unfold ckS'
   rw[j0j HV.out.at_,hkd.out]
   simp only[Int.reduceEq,if_true,if_false,or_self,or_false,false_or,true_or,or_true]
  go_wp2_with fail;refine(j57 hG hE hw HV.out hx0 hva hae haN 1 H1.out).mono ?_
  rintro e w5 hS5
  have hq:=hS5.s
  rw[<-HC.out] at hq
  obtain⟨⟨rfl,_⟩,_⟩:=hS5
  have HQ:=Hid.mk' (hq.pre T1.out)
  clear hq;go_wp2_with fail;refine bq (.tuple #[]) ?_
  exact HQ.out
 ·
  have HC:Hid (ckS (Dg G) G.T (G.T.tops.take tp) G.T.nodes.length (f+1) md env K (i:Int) (md.fn&&((i:Int) ==last))=if Dg G 1 n.text=0 then .error (3,(i:Int)) else .ok (env,K)):=by
   show _=_
   rw[hC1.out]
   unfold ckS'
   rw[j0j HV.out.at_,hkd.out]
   simp only[Int.reduceEq,if_true,if_false,or_self,or_false,false_or,true_or,or_true]
  go_wp2_with fail;refine(j40 hG H1.out 1 n.text).mono ?_
  rintro e w5 ⟨rfl,hb5⟩
  have H5:=Hid.mk' (H1.out.later hb5)
  have T5:=Hid.mk' (T1.out.trans (Tw.of hb5))
  obtain⟨dk,hdk⟩:∃k,Hid (Dg G 1 n.text=k):=⟨_,rfl⟩
  rw[show dkL (j19 G.A G.B G.C 1) n.text=dk from hdk.out]
  rw[hdk.out] at HC
  clear hb5;by_cases h0:dk=0
  ·
   subst h0
   have hEr:Hid (ckS (Dg G) G.T (G.T.tops.take tp) G.T.nodes.length (f+1) md env K (i:Int) (md.fn&&((i:Int) ==last))=.error (3,(i:Int))):=by rw[HC.out];rfl
   go_wp2_with fail;refine(j0f hG H5.out 3 (i:Int) (by omega)).mono ?_
   rintro e w6 ⟨rfl,hd,ht⟩
   go_wp2_with fail;refine bq (.tuple #[]) ?_
   exact j3b.bad hEr.out hd (T5.out.trans ht)
  have t0:(dk ==0)=false:=by simp[h0]
  have hEr:Hid (ckS (Dg G) G.T (G.T.tops.take tp) G.T.nodes.length (f+1) md env K (i:Int) (md.fn&&((i:Int) ==last))=.ok (env,K)):=by rw[HC.out,if_neg h0];rfl
  go_wp2_with fail;refine bq (.tuple #[]) ?_
  exact j3b.good hEr.out ⟨_,_,_,_,_,_,H5.out⟩ T5.out
 ·
  obtain⟨a,an,b0,hx0,hai,hva,hca,_,_⟩:=HV.out.kidAt HF.out (j:=0) (c:=10) (by rw[hkd.out];rfl)
  have hae:isE an.kind:=by unfold j1c at hca;simp at hca;unfold isE;omega
  have haN:a<G.T.nodes.length:=(List.getElem?_eq_some_iff.1 hva.at_).1
  have HC:Hid (ckS (Dg G) G.T (G.T.tops.take tp) G.T.nodes.length (f+1) md env K (i:Int) (md.fn&&((i:Int) ==last))=j2f env (ckX (Dg G) G.T (G.T.tops.take tp) md env G.T.nodes.length K (i:Int))):=by
   show _=_
   rw[hC1.out]
   unfold ckS'
   rw[j0j HV.out.at_,hkd.out]
   simp only[Int.reduceEq,if_true,if_false,or_self,or_false,false_or,true_or,or_true]
  have hX:Hid (ckX (Dg G) G.T (G.T.tops.take tp) md env G.T.nodes.length K (i:Int)=match ckE (Dg G) G.T (G.T.tops.take tp) md env G.T.nodes.length K (a:Int) with | .error e=> .error e | .ok (k,K1)=> .ok K1):=by
   show _=_
   unfold ckX
   rw[j0j HV.out.at_,show kid n 0=(a:Int) by simp[kid,hx0]]
   all_goals rfl
  obtain⟨fb,fo,hs9,_,hfb,p00⟩:=j05 HK.out hx0
  rw[hs9] at kk5 H1 T1 HK2
  have l0I:(0:Int)<(n.kids.length:Int):=by have:=(List.getElem?_eq_some_iff.1 hx0).1;omega
  rw[Nat.add_zero] at p00
  have v0:=(H1.out.bl.cell (p:=⟨fb,fo,none⟩) hfb).trans p00
  obtain⟨z0,z1,z2,z3,z4⟩:=Blk.four' HK2.out
  go_wp2_with fail;refine(hE a an K _ sn cn sk ck sw cw haN hva hae H1.out).mono ?_
  rintro e w5 hS5
  have T5:=Hid.mk' (T1.out.trans hS5.2)
  cases hr:ckE (Dg G) G.T (G.T.tops.take tp) md env G.T.nodes.length K (a:Int) with
  | error q =>
   obtain⟨c,nq⟩:=q
   rw[hr] at hS5
   obtain⟨⟨rfl,hd⟩,_⟩:=hS5
   have hEr:Hid (ckS (Dg G) G.T (G.T.tops.take tp) G.T.nodes.length (f+1) md env K (i:Int) (md.fn&&((i:Int) ==last))=.error (c,nq)):=by rw[HC.out,hX.out,hr];rfl
   have HD:=Hid.mk' hd
   clear hd;go_wp2_with fail;refine bq (.tuple #[]) ?_
   exact j3b.bad hEr.out HD.out T5.out
  | ok q =>
   obtain⟨k,K1⟩:=q
   rw[hr] at hS5
   obtain⟨⟨rfl,hl⟩,_⟩:=hS5
   have hEr:Hid (ckS (Dg G) G.T (G.T.tops.take tp) G.T.nodes.length (f+1) md env K (i:Int) (md.fn&&((i:Int) ==last))=.ok (env,K1)):=by rw[HC.out,hX.out,hr];rfl
   have HL:=Hid.mk' hl
   clear hl;go_wp2_with fail;refine bq (.tuple #[]) ?_
   exact j3b.good hEr.out ⟨_,_,_,_,_,_,HL.out⟩ T5.out
 obtain⟨a,an,b0,hx0,hai,hva,hca,_,_⟩:=HV.out.kidAt HF.out (j:=0) (c:=1) (by rw[hkd.out];rfl)
 have hae:=j1q hca
 have haN:a<G.T.nodes.length:=(List.getElem?_eq_some_iff.1 hva.at_).1
 have HC:Hid (ckS (Dg G) G.T (G.T.tops.take tp) G.T.nodes.length (f+1) md env K (i:Int) (md.fn&&((i:Int) ==last))=j2f env (ckX (Dg G) G.T (G.T.tops.take tp) md env G.T.nodes.length K (i:Int))):=by
  show _=_
  rw[hC1.out]
  unfold ckS'
  rw[j0j HV.out.at_,hkd.out]
  simp only[Int.reduceEq,if_true,if_false,or_self,or_false,false_or,true_or,or_true]
 have hX:Hid (ckX (Dg G) G.T (G.T.tops.take tp) md env G.T.nodes.length K (i:Int)=match ckE (Dg G) G.T (G.T.tops.take tp) md env G.T.nodes.length K (a:Int) with | .error e=> .error e | .ok (k,K1)=> .ok K1):=by
  show _=_
  unfold ckX
  rw[j0j HV.out.at_,show kid n 0=(a:Int) by simp[kid,hx0]]
  all_goals rfl
 obtain⟨fb,fo,hs9,_,hfb,p00⟩:=j05 HK.out hx0
 rw[hs9] at kk5 H1 T1 HK2
 have l0I:(0:Int)<(n.kids.length:Int):=by have:=(List.getElem?_eq_some_iff.1 hx0).1;omega
 rw[Nat.add_zero] at p00
 have v0:=(H1.out.bl.cell (p:=⟨fb,fo,none⟩) hfb).trans p00
 obtain⟨z0,z1,z2,z3,z4⟩:=Blk.four' HK2.out
 go_wp2_with fail;refine(hE a an K _ sn cn sk ck sw cw haN hva hae H1.out).mono ?_
 rintro e w5 hS5
 have T5:=Hid.mk' (T1.out.trans hS5.2)
 cases hr:ckE (Dg G) G.T (G.T.tops.take tp) md env G.T.nodes.length K (a:Int) with
 | error q =>
  obtain⟨c,nq⟩:=q
  rw[hr] at hS5
  obtain⟨⟨rfl,hd⟩,_⟩:=hS5
  have hEr:Hid (ckS (Dg G) G.T (G.T.tops.take tp) G.T.nodes.length (f+1) md env K (i:Int) (md.fn&&((i:Int) ==last))=.error (c,nq)):=by rw[HC.out,hX.out,hr];rfl
  have HD:=Hid.mk' hd
  clear hd;go_wp2_with fail;refine bq (.tuple #[]) ?_
  exact j3b.bad hEr.out HD.out T5.out
 | ok q =>
  obtain⟨k,K1⟩:=q
  rw[hr] at hS5
  obtain⟨⟨rfl,hl⟩,_⟩:=hS5
  have hEr:Hid (ckS (Dg G) G.T (G.T.tops.take tp) G.T.nodes.length (f+1) md env K (i:Int) (md.fn&&((i:Int) ==last))=.ok (env,K1)):=by rw[HC.out,hX.out,hr];rfl
  have HL:=Hid.mk' hl
  clear hl;go_wp2_with fail;refine bq (.tuple #[]) ?_
  exact j3b.good hEr.out ⟨_,_,_,_,_,_,HL.out⟩ T5.out
theorem ja8 (hG:G.Ok) {tp:Nat} {fn:Bool} (htp:top=(tp:Int)) (hle:tp<=G.T.tops.length):∀f,StS G top tp last fn f
 | 0=>λmd _ _ _ i n nx env K w sn cn sk ck sw cw hi _ _ _ _ _ _=>absurd hi (Nat.not_lt_zero _)
 | f+1=>jhb hG htp hle (ja8 hG htp hle f)
end
end Go.Proofs.YtjbbagcpcepkoaaGreatDoor
