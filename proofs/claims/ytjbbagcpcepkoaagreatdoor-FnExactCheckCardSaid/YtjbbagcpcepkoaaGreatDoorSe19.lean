import Derived.Test.YtjbbagcpcepkoaaGreatDoorSe18
namespace Go.Proofs.YtjbbagcpcepkoaaGreatDoor
set_option maxRecDepth 100000
set_option maxHeartbeats 64000000
set_option linter.unusedVariables false
set_option linter.unusedSimpArgs false
section
open Go.RowKit Go.Maps Go.WideMaps Go.ChangeShapes Go.WideShapes Go.MapKept Go.ChangeMaps Go.WideElems
section
variable {G:Pd} {w w':World} {ah:List Int} {Kp Kp':KM} {km ko mb n:Nat} {gg:Nm} {bs:List Nat} {md:Md} {av:Value} {env:Env} {nx:Nat} {lst hr:Bool} {tk:Int}
abbrev errV (c n:Int):Value:=.iface 64 (.agg #[.int .i64 c,.int .i64 n])
structure Lx (G:Pd) (w:World) (km ko mb n:Nat) (gg:Nm) (bs:List Nat) (av:Value):Prop where
 ex:∃(f g:Nm) (v:Value) (br:List Nat),Blk w km #[.map (some mb)] 91/\QM w mb n f/\Blk w ko #[v] 134/\Sc w v g br/\gg=orN f g/\bs=km :: mb :: ko :: br/\(¬km=mb/\¬ko=mb)/\∀b∈br,¬b=mb
 ge:G.w0.heap.size<=mb
 nc:¬mb=G.c
 nt:¬mb=G.bt
 nk:¬mb=G.kb
 am:∀ba,av=.map (some ba)->¬ba=mb
theorem Tw.turned {p mb:Nat} (h:w.mapTurned w' mb):Tw p mb w w':=by
 obtain⟨es,cl,es',cl',h1,rfl⟩:=h
 refine⟨rfl,rfl,rfl,by simp[setBlock],λk h1 h2 h3=>?_⟩
 simp[setBlock,Ne.symm h3]
theorem Pv.turned (h:Pv G w ah Kp) {mb:Nat} (ht:w.mapTurned w' mb) (h0:G.w0.heap.size<=mb) (hc:¬mb=G.c) (hb:¬mb=G.bt) (hk:¬mb=G.kb):Pv G w' ah Kp:=by
 have tw:Tw mb mb w w':=Tw.turned ht
 obtain⟨m,h1,h2⟩:=h.tp
 refine⟨?_,Nat.lt_of_lt_of_le h.kl tw.size,λj hj=>(tw.cell (o:=j) h.kl (Ne.symm hk) (Ne.symm hk)).trans (h.kc j hj),λj=>(ht.frozen _).trans (h.kf j),⟨m,h1,h2.same (tw.block _ h2.lt (Ne.symm hb) (Ne.symm hb))⟩,tw.below h.bl h.bl.size h0 h0⟩
 have:=h.bx
 unfold Blk at this ⊢
 rw[tw.block _ h.bx.lt (Ne.symm hc) (Ne.symm hc)]
 exact this
theorem Pv.put (hG:G.Ok) (h:Pv G w ah Kp) {i:Nat} (hi:i<G.T.nodes.length) (k:Int):Pv G (w.setCell ⟨G.kb,i,none⟩ (.int .i64 k)) ah (upd Kp (i:Int) k):=by
 have tw:Tw G.kb G.kb w (w.setCell ⟨G.kb,i,none⟩ (.int .i64 k)):=Tw.set _ _ _ _ _
 obtain⟨m,h1,h2⟩:=h.tp
 refine⟨h.bx.other (λe=>hG.n1 e.symm) _ _,by simpa using h.kl,λj hj=>?_,λj=>(World.frozen?_setCell _ _ _ _).trans (h.kf j),⟨m,h1,h2.same (tw.block _ h2.lt hG.n3 hG.n3)⟩,tw.below h.bl h.bl.size hG.kb hG.kb⟩
 by_cases e:j=i
 ·
  subst e
  rw[show upd Kp (j:Int) k j=k by simp[upd]]
  exact World.cell?_setCell_same _ _ _ (h.kc j hj)
 rw[show upd Kp (i:Int) k j=Kp j by unfold upd;rw[if_neg (by omega)]]
 exact(World.cell?_setCell_other _ _ _ _ (λq=>e (by simp at q<;>omega))).trans (h.kc j hj)
theorem AskM.one (h:AskM G w md av) (hs:∀ba,av=.map (some ba)->ba<w.heap.size->¬ba=G.kb->w'.heap[ba]?=w.heap[ba]?):AskM G w' md av:=by
 rcases h with h|⟨h1,ba,na,fa,h2,h3,h4,h5⟩
 ·
  exact Or.inl h
 exact Or.inr ⟨h1,ba,na,fa,h2,h3.same (hs ba h2 h3.lt h4),h4,h5⟩
theorem Lx.later (h:Lx G w km ko mb n gg bs av) (hb:Below w.heap.size w w'):Lx G w' km ko mb n gg bs av:=by
 obtain⟨f,g,v,br,h1,h2,h3,h4,h5⟩:=h.ex
 exact⟨⟨f,g,v,br,h1.later hb,h2.later hb,h3.later hb,h4.later hb,h5⟩,h.ge,h.nc,h.nt,h.nk,h.am⟩
theorem Px.put (h:Px G w km ko gg bs md av env Kp nx) (hl:Lx G w km ko mb n gg bs av) {f g:Nm} {v:Value} {br:List Nat} (h1:Blk w km #[.map (some mb)] 91) (h3:Blk w ko #[v] 134) (h4:Sc w v g br) (hgg:gg=orN f g) (hbs:bs=km :: mb :: ko :: br) (e1:¬km=mb) (e2:¬ko=mb) (e3:∀b∈br,¬b=mb) (ht:Tw G.kb mb w w') {i:Nat} (hnx:nx<=i) (s:ByteArray) (k:Int) (hq:QM w' mb (n+1) (j36 f s i)) :
  ∃gg',Px G w' km ko gg' bs md av (env++[(s,k)]) (upd Kp (i:Int) k) (i+1)/\Lx G w' km ko mb (n+1) gg' bs av:=by
 subst hgg hbs
 have k1:Blk w' km #[.map (some mb)] 91:=by
  unfold Blk;rw[ht.block km h1.lt (h.ap km (by simp)) e1];exact h1
 have k3:Blk w' ko #[v] 134:=by
  unfold Blk;rw[ht.block ko h3.lt (h.ap ko (by simp)) e2];exact h3
 have k4:Sc w' v g br:=h4.same λb hb=>ht.block b (h4.lt b hb) (h.ap b (by simp[hb])) (e3 b hb)
 refine⟨orN (j36 f s i) g,⟨Sc.cons km mb (n+1) ko v _ g br k1 hq k3 k4,h.ap,λt=>?_,h.am.one λba hba hlt hk=>ht.block ba hlt hk (hl.am ba hba)⟩,⟨⟨_,g,v,br,k1,hq,k3,k4,rfl,rfl,⟨e1,e2⟩,e3⟩,hl.ge,hl.nc,hl.nt,hl.nk,hl.am⟩⟩
 have her:=h.er t
 by_cases e:s=t
 ·
  subst e
  rw[jdc]
  exact⟨i,by simp[orN,j36],by omega,by simp[upd]⟩
 rw[j9b env k e]
 have hg:orN (j36 f s i) g t=orN f g t:=by
  have:j36 f s i t=f t:=by unfold j36;rw[if_neg (λq=>e q.symm)]
  unfold orN;rw[this]
 rw[hg]
 unfold jfd at her ⊢
 cases hlk:look env t with
 | none=>rw[hlk] at her;exact her
 | some k' =>
  rw[hlk] at her
  obtain⟨j,q1,q2,q3⟩:=her
  exact⟨j,q1,by omega,by rw[<-q3];unfold upd;rw[if_neg (by omega)]⟩
def j70 (G:Pd) (w:World) (ah:List Int) (km ko mb n:Nat) (bs:List Nat) (md:Md) (av:Value) (env:Env) (Kp:KM) (s:ByteArray) (i:Nat) (k:Int) (e:Ending) (w':World):Prop :=
 if (look env s).isSome=true then e=.returned (errV 2 i)/\Below w.heap.size w w'
 else e=.returned .nilIface/\Tw G.kb mb w w'/\Pv G w' ah (upd Kp (i:Int) k)/\∃gg',Px G w' km ko gg' bs md av (env++[(s,k)]) (upd Kp (i:Int) k) (i+1)/\Lx G w' km ko mb (n+1) gg' bs av
theorem j6y (hG:G.Ok) (h:Pv G w ah Kp) (hp:Px G w km ko gg bs md av env Kp nx) (hl:Lx G w km ko mb n gg bs av) (hn:n<maxLen) {i:Nat} {m:Nd} (hm:G.T.nodes[i]?=some m) (hnx:nx<=i) (k:Int) (hs:m.text.size<=maxLen) :
  Calls Tryz.prog 67 #[.pointer (some ⟨G.c,0,none⟩),.int .i64 (i:Int),.int .i64 k,.agg #[addF km,j09 km ko,.int .i64 tk,.bool lst,.bool hr,av]] w λe w'=>j70 G w ah km ko mb n bs md av env Kp m.text i k e w':=by
 have b1:Below w.heap.size w (w.alloc (.cells #[addF km,j09 km ko,.int .i64 tk,.bool lst,.bool hr,av] 139)):=j00 (Below.refl _ _) _
 have kp:=Blk.new w #[addF km,j09 km ko,.int .i64 tk,.bool lst,.bool hr,av] 139
 have KP:=Hid.mk' kp
 have H1:=Hid.mk' (h.later b1)
 have P1:=Hid.mk' (hp.later b1)
 have L1:=Hid.mk' (hl.later b1)
 have B1:=Hid.mk' b1
 obtain⟨nb,no,s9,c9,en1,hnb,e0,e1,e2,e3,ekids⟩:=Pd.node hG hm
 have hiN:i<G.T.nodes.length:=(List.getElem?_eq_some_iff.1 hm).1
 have iI:(i:Int)<(G.T.nodes.length:Int):=by omega
 have hn4:G.T.nodes.length<=4000:=hG.tr.1
 have x1:(w.alloc (.cells #[addF km,j09 km ko,.int .i64 tk,.bool lst,.bool hr,av] 139)).cell? ⟨G.c,1,none⟩=some (.slice (some ⟨nb,no,none⟩) G.T.nodes.length G.d1):=by rw[<-en1];exact(H1.out.bx.cell 1).trans rfl
 have q1:=(H1.out.bl.cell (p:=⟨nb,no+i*4+1,none⟩) hnb).trans e1
 have p0:_=some (addF km):=(kp.cell 0).trans rfl
 have p1:_=some (j09 km ko):=(kp.cell 1).trans rfl
 have hseen:=je5 P1.out.sc m.text hs km ko rfl
 have her:=Hid.mk' (P1.out.er m.text)
 clear h hp hl b1 e0 e1 e2 e3 ekids kp;cases hlk:look env m.text with
 | some k0 =>
  have hq0:=her.out
  rw[hlk] at hq0
  obtain⟨j,ej,_,_⟩:=hq0
  rw[ej] at hseen
  have hR:Hid ((look env m.text).isSome=true):=by show _=_;rw[hlk];rfl
  clear hlk her ej;go_enter Tryz.func67,Tryz.ntmps67
  go_wp2_with fail;refine hseen.mono ?_
  rintro e w2 ⟨rfl,hq⟩
  rw[hq]
  go_wp2_with fail;go_ret;unfold j70
  rw[if_pos hR.out]
  exact⟨rfl,B1.out⟩
 | none =>
  have hq0:=her.out
  rw[hlk] at hq0
  have hq0:gg m.text=none:=hq0
  rw[hq0] at hseen
  have hR:Hid (¬(look env m.text).isSome=true):=by show¬_;rw[hlk];simp
  clear hlk her hq0;obtain⟨f0,g0,v0,br0,a1,a2,a3,a4,a5,a6,⟨a7,a8⟩,a9⟩:=L1.out.ex
  have hadd:=jm7 a1 a2 hn m.text hs (i:Int)
  have A3:=Hid.mk' a3
  have A1:=Hid.mk' a1
  have A4:=Hid.mk' a4
  have A5:=Hid.mk' a5
  have A6:=Hid.mk' a6
  have A7:=Hid.mk' a7
  have A8:=Hid.mk' a8
  have A9:=Hid.mk' a9
  clear a1 a2 a3 a4 a5 a6 a7 a8 a9;go_enter Tryz.func67,Tryz.ntmps67
  go_wp2_with fail;refine hseen.mono ?_
  rintro e w2 ⟨rfl,hq⟩
  rw[hq]
  clear hseen;go_wp2_with fail;refine hadd.mono ?_
  rintro e w3 ⟨rfl,hqm,htn⟩
  have H3:=H1.out.turned htn L1.out.ge L1.out.nc L1.out.nt L1.out.nk
  have y2:w3.cell? ⟨G.c,2,none⟩=some (.slice (some ⟨G.kb,0,none⟩) G.T.nodes.length G.T.nodes.length):=(H3.bx.cell 2).trans rfl
  have yk:=H3.kc i hiN
  have yf:=H3.kf i
  have H4:=Hid.mk' (H3.put hG hiN k)
  have tw3:Tw G.kb mb (w.alloc (.cells #[addF km,j09 km ko,.int .i64 tk,.bool lst,.bool hr,av] 139)) w3:=Tw.turned htn
  have tw4:Tw G.kb mb (w.alloc (.cells #[addF km,j09 km ko,.int .i64 tk,.bool lst,.bool hr,av] 139)) (w3.setCell ⟨G.kb,i,none⟩ (.int .i64 k)):=tw3.trans (Tw.set _ _ _ _ _)
  have T4:=Hid.mk' ((Tw.of B1.out:Tw G.kb mb _ _).trans tw4)
  have q4:QM (w3.setCell ⟨G.kb,i,none⟩ (.int .i64 k)) mb (n+1) (j36 f0 m.text i):=hqm.same ((Tw.set G.kb G.kb w3 i (.int .i64 k)).block mb hqm.lt L1.out.nk L1.out.nk)
  have P4:=Hid.mk' (P1.out.put L1.out A1.out A3.out A4.out A5.out A6.out A7.out A8.out A9.out tw4 hnx m.text k q4)
  clear H3 tw3 tw4 q4 hqm htn hadd x1 q1 p0 p1;go_wp2_with fail;go_ret;unfold j70
  rw[if_neg hR.out]
  exact⟨rfl,T4.out,H4.out,P4.out⟩
end
end
section
open Go.RowKit Go.Maps Go.WideMaps
section
variable {G:Pd} {w w':World} {ah:List Int} {Kp Kp':KM}
structure AhOk (T:Tre) (ah:List Int):Prop where
 uq:∀a∈ah,∀b∈ah,(nd T a).text=(nd T b).text->a=b
 top:∀t∈ah,∃(k:Nat) (m:Nd),t=(k:Int)/\VN T k m/\0<m.kids.length
theorem jgh {T:Tre} (h:AhOk T ah) (s:ByteArray):fnOf T ah s=match topN T ah s with|none=>none|some t=>if (nd T t).kind=33 then some t else none:=by
 unfold fnOf topN
 cases ht:ah.find? (λt=>decide ((nd T t).text=s)) with
 | none =>
  rw[List.find?_eq_none] at ht ⊢
  intro x hx
  have:=ht x hx
  simp at this ⊢
  intro _;exact this
 | some t =>
  have h1:=List.mem_of_find?_eq_some ht
  have h2:(nd T t).text=s:=by have:=List.find?_some ht;simpa using this
  by_cases hk:(nd T t).kind=33
  ·
   simp only[hk,if_true]
   cases hf:ah.find? (λt=>decide ((nd T t).kind=33/\(nd T t).text=s)) with
   | none =>
    rw[List.find?_eq_none] at hf
    have:=hf t h1
    simp[hk,h2] at this
   | some u =>
    have u1:=List.mem_of_find?_eq_some hf
    have u2:(nd T u).kind=33/\(nd T u).text=s:=by have:=List.find?_some hf;simpa using this
    rw[h.uq u u1 t h1 (by rw[u2.2,h2])]
  simp only[hk,if_false]
  rw[List.find?_eq_none]
  intro x hx
  simp
  intro k1 k2
  exact hk (by rw[<-h.uq x hx t h1 (by rw[k2,h2])];exact k1)
theorem jg0 {T:Tre} {s:ByteArray} {t:Int} (h:topN T ah s=some t):t∈ah:=List.mem_of_find?_eq_some h
def j48 (T:Tre) (ah:List Int) (Kp:KM) (n:Nd):Except Int Int:=j2n T ah n (n.kids.map λx=>Kp x.toNat)
theorem jer {T:Tre} {n:Nd} {t:Int} (h:fnOf T ah n.text=some t) (hl:n.kids.length+1=(nd T t).kids.length) :
  ((∀j,j<n.kids.length->Kp (kid n j).toNat=(nd T (kid (nd T t) j)).num)->j48 T ah Kp n=.ok (nd T t).num)/\
  (∀j,j<n.kids.length->¬Kp (kid n j).toNat=(nd T (kid (nd T t) j)).num->j48 T ah Kp n=.error 4):=by
 have hL:j48 T ah Kp n=if ((nd T t).kids.take n.kids.length).map (λp=>(nd T p).num)=n.kids.map (λx=>Kp x.toNat) then .ok (nd T t).num else .error 4:=by
  unfold j48 j2n;rw[h];simp only;rw[if_pos hl]
 constructor
 ·
  intro ha
  rw[hL,if_pos]
  apply List.ext_getElem
  ·
   simp;omega
  intro j h1 h2
  have hj:j<n.kids.length:=by simpa using h2
  have hj2:j<(nd T t).kids.length:=by omega
  have:=ha j hj
  simp only[kid,List.getElem?_eq_getElem hj,List.getElem?_eq_getElem hj2,Option.getD_some] at this
  simp[this]
 intro j hj hne
 rw[hL,if_neg]
 intro he
 apply hne
 have hj2:j<(nd T t).kids.length:=by omega
 have:=congrArg (λl=>l[j]?) he
 simp[hj,hj2] at this
 simp only[kid,List.getElem?_eq_getElem hj,List.getElem?_eq_getElem hj2,Option.getD_some]
 exact this.symm
theorem jdr (hG:G.Ok) (ha:AhOk G.T ah) (h:Pv G w ah Kp) (n:Nd) (s9:Option Addr) (c9:Nat) (hk:Els 1 cInt G.w0 G.B0 s9 n.kids) (hkn:∀x∈n.kids,∃k:Nat,x=(k:Int)/\k<G.T.nodes.length) (hkl:n.kids.length<=1048576) (hs:n.text.size<=maxLen) :
  Calls Tryz.prog 147 #[.pointer (some ⟨G.c,0,none⟩),.agg #[.int .i64 n.kind,.string n.text,.int .i64 n.num,.slice s9 n.kids.length c9]] w λe w'=>e=.returned (.tuple #[.int .i64 (prE (j48 G.T ah Kp n)).1,.int .i64 (prE (j48 G.T ah Kp n)).2])/\Below w.heap.size w w':=by
 have b1:Below w.heap.size w (w.alloc (.cells #[.int .i64 n.kind,.string n.text,.int .i64 n.num,.slice s9 n.kids.length c9] 73)):=j00 (Below.refl _ _) _
 have kn:=Blk.new w #[.int .i64 n.kind,.string n.text,.int .i64 n.num,.slice s9 n.kids.length c9] 73
 have H1:=Hid.mk' (h.later b1)
 have B1:=Hid.mk' b1
 have KN:=Hid.mk' kn
 obtain⟨z0,z1,z2,z3,z4⟩:=Blk.four' kn
 obtain⟨nt,hnt,hqt⟩:=H1.out.tp
 have x3:(w.alloc (.cells #[.int .i64 n.kind,.string n.text,.int .i64 n.num,.slice s9 n.kids.length c9] 73)).cell? ⟨G.c,3,none⟩=some (.map (some G.bt)):=(H1.out.bx.cell 3).trans rfl
 have hlk:∀q,_:=λq=>(hqt.later (j06 (Below.refl _ _) q)).look n.text hs
 have hF:=jgh ha n.text
 have hn4:G.T.nodes.length<=4000:=hG.tr.1
 clear h b1 kn hnt hqt;cases htp:topN G.T ah n.text with
 | none =>
  rw[htp] at hF
  have hR:Hid (prE (j48 G.T ah Kp n)=(0,3)):=by
   show _=_
   unfold j48 j2n;rw[hF];rfl
  simp only[htp] at hlk
  clear htp hF;go_enter Tryz.func147,Tryz.ntmps147
  go_wp2_with fail;go_quiet (fail)
  go_wp2_with fail;refine bq (.tuple #[.int .i64 0,.int .i64 3]) ?_
  rw[hR.out]
  exact⟨rfl,j06 B1.out _⟩
 | some t =>
  obtain⟨k,m,rfl,hvm,hm0⟩:=ha.top t (jg0 htp)
  have hnk:nd G.T (k:Int)=m:=j0q hvm.at_
  rw[htp] at hF
  simp only[hnk] at hF
  simp only[htp,Option.getD_some,Option.isSome_some] at hlk
  obtain⟨nb,no,t9,d9,en1,hnb,e0,e1,e2,e3,ekids,hcap⟩:=Pd.node hG hvm.at_
  have hkN:k<G.T.nodes.length:=(List.getElem?_eq_some_iff.1 hvm.at_).1
  have kI:(k:Int)<(G.T.nodes.length:Int):=by omega
  obtain⟨P,hP⟩:∃P,Hid (m.kids.length=P+1):=⟨m.kids.length-1,by show _=_;omega⟩
  obtain⟨x0,hx0⟩:=j0p hm0
  obtain⟨tb,tof,rfl,_,htb,_⟩:=j05 ekids hx0
  have hml:m.kids.length<=1048576:=(hG.k.1.2 m (List.mem_of_getElem? hvm.at_)).2
  have EK:=Hid.mk' ekids
  have HV:=Hid.mk' hvm
  have HNK:=Hid.mk' hnk
  have HQ0:=Hid.mk' (⟨hnb,e0,e1,e2,e3⟩:_/\_/\_/\_/\_)
  have HKE:=Hid.mk' hk
  have HKN:=Hid.mk' hkn
  clear htp ekids hvm hnk hx0 e0 e1 e2 e3 hk hkn;go_enter Tryz.func147,Tryz.ntmps147
  go_wp2_with fail;go_quiet (fail)
  have H2:=Hid.mk' (H1.out.later (j06 (Below.refl _ _) nq))
  have B2:Hid (Below w.heap.size w ((w.alloc (.cells #[.int .i64 n.kind,.string n.text,.int .i64 n.num,.slice s9 n.kids.length c9] 73)).drewN nq)):=j06 B1.out nq
  have K2:=Hid.mk' (KN.out.later (j06 (Below.refl _ _) nq))
  generalize (w.alloc (.cells #[.int .i64 n.kind,.string n.text,.int .i64 n.num,.slice s9 n.kids.length c9] 73)).drewN nq=X at H2 B2 K2 ⊢
  clear z0 z1 z2 z3 z4 x3 hlk H1 B1 KN;obtain⟨z0,z1,z2,z3,z4⟩:=Blk.four' K2.out
  have x1:X.cell? ⟨G.c,1,none⟩=some (.slice (some ⟨nb,no,none⟩) G.T.nodes.length G.d1):=by rw[<-en1];exact(H2.out.bx.cell 1).trans rfl
  have q0:=(H2.out.bl.cell (p:=⟨nb,no+k*4,none⟩) HQ0.out.1).trans HQ0.out.2.1
  have q1:=(H2.out.bl.cell (p:=⟨nb,no+k*4+1,none⟩) HQ0.out.1).trans HQ0.out.2.2.1
  have q2:=(H2.out.bl.cell (p:=⟨nb,no+k*4+2,none⟩) HQ0.out.1).trans HQ0.out.2.2.2.1
  have q3:=(H2.out.bl.cell (p:=⟨nb,no+k*4+3,none⟩) HQ0.out.1).trans HQ0.out.2.2.2.2
  by_cases h33:m.kind=33
  rotate_left 1
  ·
   have tk:(m.kind != 33)=true:=by simp[h33]
   have hR:Hid (prE (j48 G.T ah Kp n)=(0,3)):=by
    show _=_
    unfold j48 j2n;rw[hF,if_neg h33];rfl
   clear hF h33;go_wp2_with fail;refine bq (.tuple #[.int .i64 0,.int .i64 3]) ?_
   rw[hR.out]
   exact⟨rfl,B2.out⟩
  have tk:(m.kind != 33)=false:=by simp[h33]
  rw[if_pos h33] at hF
  have HF:=Hid.mk' hF
  have tw:IntKind.i64.wrap ((m.kids.length:Int)-1)=(P:Int):=by have:=hP.out;rw[IntKind.wrap_i64];omega
  have s1:=j2j 26 Tryz.htI2 j79 (some ⟨tb,tof,none⟩) m.kids.length d9 P (by have:=hP.out;omega) hcap
  have B3:Hid (Below X.heap.size X (X.alloc (.cells #[.int .i64 m.kind,.string m.text,.int .i64 m.num,.slice (some ⟨tb,tof,none⟩) m.kids.length d9] 73))):=j00 (Below.refl _ _) _
  have K3:=Hid.mk' (K2.out.later B3.out)
  have H3:=Hid.mk' (H2.out.later B3.out)
  have M3:=Hid.mk' (Blk.new X #[.int .i64 m.kind,.string m.text,.int .i64 m.num,.slice (some ⟨tb,tof,none⟩) m.kids.length d9] 73)
  obtain⟨y0,y1,y2,y3,y4⟩:=Blk.four' M3.out
  have z3':_=some (Value.slice s9 n.kids.length c9):=(K3.out.cell 3).trans rfl
  have hfX:w.heap.size<X.heap.size:=K2.out.lt
  clear hF h33 z4;by_cases hlen:n.kids.length=P
  rotate_left 1
  ·
   have tl:((n.kids.length:Int) != (P:Int))=true:=by simp;omega
   have hR:Hid (prE (j48 G.T ah Kp n)=(0,6)):=by
    show _=_
    unfold j48 j2n;rw[HF.out];simp only;rw[HNK.out,if_neg (by have:=hP.out;omega)];rfl
   go_wp2_with fail;refine bq (.tuple #[.int .i64 0,.int .i64 6]) ?_
   rw[hR.out]
   exact⟨rfl,j01 B2.out B3.out⟩
  have tl:((n.kids.length:Int) != (P:Int))=false:=by simp;omega
  have hall:=jer (Kp:=Kp) HF.out (by have:=hP.out;rw[HNK.out];omega)
  rw[HNK.out] at hall
  have HALL:=Hid.mk' hall
  have HL:=Hid.mk' hlen
  clear hall hlen;have L3:Hid (Below w.heap.size w (X.alloc (.cells #[.int .i64 m.kind,.string m.text,.int .i64 m.num,.slice (some ⟨tb,tof,none⟩) m.kids.length d9] 73))):=j01 B2.out B3.out
  have hq1:(X.alloc (.cells #[.int .i64 m.kind,.string m.text,.int .i64 m.num,.slice (some ⟨tb,tof,none⟩) m.kids.length d9] 73)).heap.size=X.heap.size+1:=by simp
  have X1:Hid ((X.alloc (.cells #[.int .i64 m.kind,.string m.text,.int .i64 m.num,.slice (some ⟨tb,tof,none⟩) m.kids.length d9] 73)).cell? ⟨G.c,1,none⟩=some (.slice (some ⟨nb,no,none⟩) G.T.nodes.length G.d1)):=by show _=_;rw[<-en1];exact(H3.out.bx.cell 1).trans rfl
  have SZ:=Hid.mk' hq1
  clear hq1;go_wp2_with fail;clear q0 q1 q2 q3 x1 z0 z1 z2 z3 H2 B2 K2 y3 z3';go_loopw [58] (λiv wr=>∃i:Nat,i<=n.kids.length/\iv=.int .i64 i/\Hid (∀j,j<i->Kp (kid n j).toNat=(nd G.T (kid m j)).num)/\Hid (Below (X.alloc (.cells #[.int .i64 m.kind,.string m.text,.int .i64 m.num,.slice (some ⟨tb,tof,none⟩) m.kids.length d9] 73)).heap.size (X.alloc (.cells #[.int .i64 m.kind,.string m.text,.int .i64 m.num,.slice (some ⟨tb,tof,none⟩) m.kids.length d9] 73)) wr)) (λiv _=>n.kids.length-(intOf iv).toNat)
  case atStart=>exact⟨0,Nat.zero_le _,rfl,λj hj=>absurd hj (Nat.not_lt_zero _),Below.refl _ _⟩
  obtain⟨i,hi,rfl,hin,hb⟩:=hrel
  have H4:=Hid.mk' (H3.out.later hb.out)
  by_cases hlt:i<n.kids.length
  ·
   obtain⟨x,hx⟩:=j0p hlt
   obtain⟨a,rfl,haN⟩:=HKN.out x (List.mem_of_getElem? hx)
   obtain⟨fb,fo,rfl,_,hfb,pp⟩:=j05 HKE.out hx
   have hiP:i<m.kids.length:=by have h1:=HL.out;have h2:=hP.out;omega
   obtain⟨y,hy⟩:=j0p hiP
   obtain⟨b,pn,rfl,_,hvb⟩:=HV.out.kid (List.mem_of_getElem? hy)
   obtain⟨tb2,tof2,etb,_,htb2,pp2⟩:=j05 EK.out hy
   simp only[Option.some.injEq,Addr.mk.injEq,and_true] at etb
   obtain⟨rfl,rfl⟩:=etb
   obtain⟨nb2,no2,t8,d8,en2,hnb2,f0,f1,f2,f3,_⟩:=Pd.node hG hvb.at_
   have enn:nb=nb2/\no=no2:=by rw[en1] at en2;simpa using en2
   obtain⟨rfl,rfl⟩:=enn
   have hbN:b<G.T.nodes.length:=(List.getElem?_eq_some_iff.1 hvb.at_).1
   have v1:=(H4.out.bl.cell (p:=⟨fb,fo+i,none⟩) hfb).trans pp
   have v2:=(H4.out.bl.cell (p:=⟨tb,tof+i,none⟩) htb2).trans pp2
   have v3:=(H4.out.bl.cell (p:=⟨nb,no+b*4+2,none⟩) hnb2).trans f2
   have v4:=H4.out.kc a haN
   have v5:wr.cell? ⟨G.c,1,none⟩=some (.slice (some ⟨nb,no,none⟩) G.T.nodes.length G.d1):=by rw[<-en1];exact(H4.out.bx.cell 1).trans rfl
   have v6:wr.cell? ⟨G.c,2,none⟩=some (.slice (some ⟨G.kb,0,none⟩) G.T.nodes.length G.T.nodes.length):=(H4.out.bx.cell 2).trans rfl
   have iI:(i:Int)<(n.kids.length:Int):=by omega
   have iP:(i:Int)<(P:Int):=by have h1:=HL.out;omega
   have aI:(a:Int)<(G.T.nodes.length:Int):=by omega
   have bI:(b:Int)<(G.T.nodes.length:Int):=by omega
   have HKA:Hid (kid n i=(a:Int)):=by show _=_;simp[kid,hx]
   have HKB:Hid ((nd G.T (kid m i))=pn):=by show _=_;rw[show kid m i=(b:Int) by simp[kid,hy]];exact j0q hvb.at_
   obtain⟨ka,hka⟩:∃k,Hid (Kp a=k):=⟨_,rfl⟩
   rw[hka.out] at v4
   have HLT:=Hid.mk' hlt
   clear hx hy pp pp2 f0 f1 f2 f3 hvb en2 hiP;by_cases he:ka=pn.num
   ·
    have te:(ka != pn.num)=false:=by simp[he]
    have HE:Hid (Kp (kid n i).toNat=(nd G.T (kid m i)).num):=by show _=_;rw[HKA.out,HKB.out,Int.toNat_natCast,hka.out,he]
    clear he;go_wp2_with fail;go_quiet (fail)
    go_wp2_with fail;go_roundw
    case rel=>exact⟨i+1,by omega,by go_num,(λj hj=>by
     by_cases e:j=i
     ·
      subst e;exact HE.out
     exact hin.out j (by omega)),j06 hb.out _⟩
    case measure=>simp[intOf];omega
   have te:(ka != pn.num)=true:=by simp[he]
   have hR:Hid (prE (j48 G.T ah Kp n)=(0,4)):=by
    show _=_
    rw[HALL.out.2 i hlt (by rw[HKA.out,HKB.out,Int.toNat_natCast,hka.out];exact he)];rfl
   clear he;go_wp2_with fail;go_quiet (fail)
   go_wp2_with fail;refine bq (.tuple #[.int .i64 0,.int .i64 4]) ?_
   rw[hR.out]
   exact⟨rfl,j06 (j01 L3.out hb.out) _⟩
  have hin':i=n.kids.length:=by omega
  subst hin'
  have hR:Hid (prE (j48 G.T ah Kp n)=(m.num,0)):=by
   show _=_
   rw[HALL.out.1 hin.out];rfl
  have y2':=((M3.out.later hb.out).cell 2).trans rfl
  go_wp2_with fail;refine bq (.tuple #[.int .i64 m.num,.int .i64 0]) ?_
  rw[hR.out]
  exact⟨rfl,j01 L3.out hb.out⟩
end
end
section
open Go.RowKit
def sm (k:Int):Int:=if k=1 then 1 else 0
theorem j9e (k:Int):okB (zk k) (sm k) 0 0=decide (1<=k/\k<=4):=by
 by_cases h:1<=k/\k<=4
 ·
  have:k=1\/k=2\/k=3\/k=4:=by omega
  rcases this with rfl|rfl|rfl|rfl<;>decide
 simp[okB,zk,h]
theorem jbr (op k l:Int):(j1u op (zk k) (sm k) 0 0 (zk l) (sm l) 0 0).1.1=opK op k l:=by
 unfold j1u opK
 rw[j9e,j9e]
 by_cases hkl:k=l
 ·
  subst hkl
  by_cases h:1<=k/\k<=4
  ·
   have hk:k=1\/k=2\/k=3\/k=4:=by omega
   rcases hk with rfl|rfl|rfl|rfl
   ·
    simp[zk,sm,j2i,iV,bV,zV]
    repeat' (first|(split<;>try omega)|omega|simp_all)
   ·
    simp[zk,sm,j2q,rV,bV,zV]
    repeat' (first|(split<;>try omega)|omega|simp_all)
   ·
    simp[zk,sm,j29,pV,bV,zV]
    repeat' (first|(split<;>try omega)|omega|simp_all)
   simp[zk,sm,j2x,bV,zV]
   repeat' (first|(split<;>try omega)|omega|simp_all)
  have h1:¬k=1:=by omega
  have h2:¬k=2:=by omega
  have h3:¬k=3:=by omega
  have h4:¬k=4:=by omega
  simp[h,h1,h2,h3,h4,zV]
 rw[if_neg hkl]
 have hz:¬(decide (1<=k/\k<=4)=true/\decide (1<=l/\l<=4)=true/\zk k=zk l):=by
  rintro⟨h1,h2,h3⟩
  simp only[decide_eq_true_eq] at h1 h2
  unfold zk at h3
  rw[if_pos h1,if_pos h2] at h3
  exact hkl h3
 rw[if_neg hz]
 all_goals rfl
theorem j7u (op k:Int):(j15 op (zk k) (sm k) 0 0).1.1=j3s op k:=by
 unfold j15 j3s
 rw[j9e]
 by_cases h:1<=k/\k<=4
 ·
  have hk:k=1\/k=2\/k=3\/k=4:=by omega
  rcases hk with rfl|rfl|rfl|rfl
  ·
   simp[zk,sm,j1v,iV,rV,zV]
   repeat' (first|(split<;>try omega)|omega|simp_all)
  ·
   simp[zk,sm,j1m,rV,zV]
   repeat' (first|(split<;>try omega)|omega|simp_all)
  ·
   simp[zk,sm,j1j,pV,rV,zV]
   repeat' (first|(split<;>try omega)|omega|simp_all)
  simp[zk,sm,j1l,bV,zV]
  repeat' (first|(split<;>try omega)|omega|simp_all)
 have h1:¬k=1:=by omega
 have h2:¬k=2:=by omega
 have h3:¬k=3:=by omega
 have h4:¬k=4:=by omega
 simp[h,h1,h2,h3,h4,zV]
theorem j7p (k l:Int):pk (j2w (zk k) (sm k) 0 0 (zk l) (sm l) 0 0)=j2h k l:=by
 have e:j2w (zk k) (sm k) 0 0 (zk l) (sm l) 0 0=decide (k=2/\l=2):=by
  unfold j2w
  rw[j9e,j9e]
  by_cases h:k=2/\l=2
  ·
   obtain⟨rfl,rfl⟩:=h;decide
  rw[Bool.eq_iff_iff]
  simp only[Bool.and_eq_true,decide_eq_true_eq,beq_iff_eq,zk]
  constructor
  ·
   rintro⟨⟨⟨h1,h2⟩,h3⟩,h4⟩
   rw[if_pos h1] at h3
   rw[if_pos h2] at h4
   exact⟨h3,h4⟩
  intro q;exact absurd q h
 rw[e]
 unfold pk j2h
 by_cases h:k=2/\l=2<;>simp[h]
theorem j3d {ops:Array Oper} {rest:List Oper} {o:Oper} {a:Act} {w:World} {Q:Exit->Act->World->Prop} (hg:o.guard=none) (x y:Operand) (ho:o.op=.store 200 x y) (k:Nat) (cells c0:Array Value) (hx:a.eval x=.pointer (some ⟨k,0,none⟩)) (hy:a.eval y=.agg cells) (hB:Blk w k c0 200) (hs:cells.size=4) (h0:c0.size=4) (h1:cells.all (·.oneCell')=true)
  (hK:∀w',Blk w' k cells 200->(∀B W,Below B W w->B<=k->Below B W w')->wpList Tryz.prog ops Q rest (a.put o.dst undef) w'):wpList Tryz.prog ops Q (o :: rest) a w :=
 wpList_store_row hg 200 x y ho k cells hx hy 200 c0 hB (by rw[Tryz.infoV9s,hs]) (by rw[hs,h0]) h1 (hK _ (setRow_heap _ _ _ _ _ _ hB) (λB W h1 h2=>below_setRow h1 h2 _))
theorem j9y (k:Int) (w:World) :
  Calls Tryz.prog 179 #[.int .i64 k] w λe w'=>e=.returned (.agg #[.int .i64 (zk k),.int .i64 0,.float .f64 0,.float .f64 0])/\Below w.heap.size w w':=by
 by_cases h1:k<1
 ·
  have E:Hid (0=zk k):=by simp[Hid,zk];omega
  go_enter Tryz.func179,Tryz.ntmps179
  go_wp2
  refine bq (.agg #[.int .i64 0,.int .i64 0,.float .f64 0,.float .f64 0]) ⟨j5p E.out,?_⟩
  exact blq
 by_cases h2:4<k
 ·
  have t2:decide (k<=4)=false:=by simp;omega
  have t1:decide (1<=k)=true:=by simp;omega
  have E:Hid (0=zk k):=by simp[Hid,zk];omega
  clear h1 h2;go_enter Tryz.func179,Tryz.ntmps179
  go_wp2
  refine bq (.agg #[.int .i64 0,.int .i64 0,.float .f64 0,.float .f64 0]) ⟨j5p E.out,?_⟩
  exact blq
 have t2:decide (k<=4)=true:=by simp;omega
 have t1:decide (1<=k)=true:=by simp;omega
 have E:Hid (k=zk k):=by simp[Hid,zk];omega
 clear h1 h2;go_enter Tryz.func179,Tryz.ntmps179
 go_wp2
 refine bq (.agg #[.int .i64 k,.int .i64 0,.float .f64 0,.float .f64 0]) ⟨j5p E.out,?_⟩
 exact blq
theorem j26 (k:Int) (w:World) :
  Calls Tryz.prog 167 #[.int .i64 k] w λe w'=>e=.returned (.agg #[.int .i64 (zk k),.int .i64 (sm k),.float .f64 0,.float .f64 0])/\Below w.heap.size w w':=by
 by_cases h1:k=1
 ·
  subst h1
  go_enter Tryz.func167,Tryz.ntmps167
  go_wp2_with fail;refine(j2o 1 _).mono ?_
  rintro e w2 ⟨rfl,rfl⟩
  go_wp2_with fail;refine bq (.agg #[.int .i64 1,.int .i64 1,.float .f64 0,.float .f64 0]) ⟨rfl,?_⟩
  exact blq
 have t1:(k ==1)=false:=by simp[h1]
 have E:Hid (sm k=0):=by show _=_;unfold sm;rw[if_neg h1]
 clear h1;go_enter Tryz.func167,Tryz.ntmps167
 go_wp2_with fail;refine(j9y k _).mono ?_
 rintro e w2 ⟨rfl,hb⟩
 have KZ:Hid (Blk w2 w.heap.size #[.int .i64 0,.int .i64 0,.float .f64 0,.float .f64 0] 200):=(Blk.new w _ _).later hb
 have B2:Hid (Below w.heap.size w w2):=j01 (j00 (Below.refl _ _) _) hb
 clear hb;go_wp2_with (refine j3d rfl (.tmp 2) (.tmp 7) rfl w.heap.size #[.int .i64 (zk k),.int .i64 0,.float .f64 0,.float .f64 0] _ rfl rfl KZ.out rfl rfl (by simp[Value.oneCell']) ?_;intro w3 hB3 hb3)
 have B3:Hid (Below w.heap.size w w3):=hb3 _ _ B2.out (Nat.le_refl _)
 obtain⟨z0,z1,z2,z3,z4⟩:=Blk.four' hB3
 clear hb3 B2 KZ;go_wp2_with fail;refine bodyPost_ret (v:=.agg #[.int .i64 (zk k),.int .i64 0,.float .f64 0,.float .f64 0]) (by simp[results,Tryz.results167,go_sem,z0,z1,z2,z3]) rfl ?_
 rw[E.out]
 exact⟨rfl,B3.out⟩
end
section
open Go.RowKit
section
variable {G:Pd} {w w':World} {ah:List Int} {Kp Kp':KM}
theorem j25 {a b c:World} (h1:Below a.heap.size a b) (h2:Below b.heap.size b c):Below a.heap.size a c:=j01 h1 h2
theorem jfa (hG:G.Ok) (h:Pv G w ah Kp) (n:Nd) (hk9:n.kind=9) (c9:Nat) {fb fo a:Nat} (hfb:fb<G.w0.heap.size) (pp:G.w0.cell? ⟨fb,fo,none⟩=some (.int .i64 (a:Int))) (ha:a<G.T.nodes.length) (hkl:0<n.kids.length) :
  Calls Tryz.prog 148 #[.pointer (some ⟨G.c,0,none⟩),.agg #[.int .i64 n.kind,.string n.text,.int .i64 n.num,.slice (some ⟨fb,fo,none⟩) n.kids.length c9]] w λe w'=>e=.returned (.tuple #[.int .i64 (prE (kdOr (j3s n.num (Kp a)))).1,.int .i64 (prE (kdOr (j3s n.num (Kp a)))).2])/\Below w.heap.size w w':=by
 obtain⟨ka,hka⟩:∃k,Hid (Kp a=k):=⟨_,rfl⟩
 have b1:Below w.heap.size w ((w.alloc (.cells #[.int .i64 n.kind,.string n.text,.int .i64 n.num,.slice (some ⟨fb,fo,none⟩) n.kids.length c9] 73)).alloc (.cells #[.int .i64 0,.int .i64 0,.float .f64 0,.float .f64 0] 200)):=j00 (j00 (Below.refl _ _) _) _
 have KN:=Hid.mk' (Blk.alloc (Blk.new w #[.int .i64 n.kind,.string n.text,.int .i64 n.num,.slice (some ⟨fb,fo,none⟩) n.kids.length c9] 73) (.cells #[.int .i64 0,.int .i64 0,.float .f64 0,.float .f64 0] 200))
 have K6:=Hid.mk' (Blk.new' (n:=w.heap.size+1) (w.alloc (.cells #[.int .i64 n.kind,.string n.text,.int .i64 n.num,.slice (some ⟨fb,fo,none⟩) n.kids.length c9] 73)) #[.int .i64 0,.int .i64 0,.float .f64 0,.float .f64 0] 200 (by simp))
 have H1:=Hid.mk' (h.later b1)
 have B1:=Hid.mk' b1
 have aI:(a:Int)<(G.T.nodes.length:Int):=by omega
 have l0I:(0:Int)<(n.kids.length:Int):=by omega
 have HK9:=Hid.mk' hk9
 have HD:Hid (G.c<w.heap.size/\G.kb<w.heap.size/\fb<w.heap.size):=⟨h.bx.lt,h.kl,Nat.lt_of_lt_of_le hfb h.bl.size⟩
 clear h b1 hk9;go_enter Tryz.func148,Tryz.ntmps148
 go_wp2_with fail;generalize (w.alloc (.cells #[.int .i64 n.kind,.string n.text,.int .i64 n.num,.slice (some ⟨fb,fo,none⟩) n.kids.length c9] 73)).alloc (.cells #[.int .i64 0,.int .i64 0,.float .f64 0,.float .f64 0] 200)=wr at KN K6 H1 B1 ⊢
 have hsn:=KN.out.lt
 have hsk:=H1.out.kl
 have hsc:=H1.out.bx.lt
 have hsf:fb<wr.heap.size:=Nat.lt_of_lt_of_le hfb H1.out.bl.size
 have c2:wr.cell? ⟨G.c,2,none⟩=some (.slice (some ⟨G.kb,0,none⟩) G.T.nodes.length G.T.nodes.length):=(H1.out.bx.cell 2).trans rfl
 have n3:wr.cell? ⟨w.heap.size,3,none⟩=some (.slice (some ⟨fb,fo,none⟩) n.kids.length c9):=(KN.out.cell 3).trans rfl
 have n2:wr.cell? ⟨w.heap.size,2,none⟩=some (.int .i64 n.num):=(KN.out.cell 2).trans rfl
 have k0:wr.cell? ⟨fb,fo,none⟩=some (.int .i64 (a:Int)):=(H1.out.bl.cell (p:=⟨fb,fo,none⟩) hfb).trans pp
 have kk:wr.cell? ⟨G.kb,a,none⟩=some (.int .i64 ka):=by rw[<-hka.out];exact H1.out.kc a ha
 have hS:Hid (∀X,Below wr.heap.size wr X->X.cell? ⟨G.c,2,none⟩=some (.slice (some ⟨G.kb,0,none⟩) G.T.nodes.length G.T.nodes.length)/\X.cell? ⟨w.heap.size,3,none⟩=some (.slice (some ⟨fb,fo,none⟩) n.kids.length c9)/\X.cell? ⟨fb,fo,none⟩=some (.int .i64 (a:Int))/\X.cell? ⟨G.kb,a,none⟩=some (.int .i64 ka)):=λX hX=>⟨(hX.cell (p:=⟨G.c,2,none⟩) hsc).trans c2,(hX.cell (p:=⟨w.heap.size,3,none⟩) hsn).trans n3,(hX.cell (p:=⟨fb,fo,none⟩) hsf).trans k0,(hX.cell (p:=⟨G.kb,a,none⟩) hsk).trans kk⟩
 refine wp_region_held_drew (S:=λX=>X.cell? ⟨G.c,2,none⟩=some (.slice (some ⟨G.kb,0,none⟩) G.T.nodes.length G.T.nodes.length)/\X.cell? ⟨w.heap.size,3,none⟩=some (.slice (some ⟨fb,fo,none⟩) n.kids.length c9)/\X.cell? ⟨fb,fo,none⟩=some (.int .i64 (a:Int))/\X.cell? ⟨G.kb,a,none⟩=some (.int .i64 ka)) (by kernel_rfl) ?_ (λhHeld=>?_)
 ·
  exact hS.out _ (j02 (Below.refl _ _))
 have BX:Hid (Below wr.heap.size wr wr.drew):=j02 (Below.refl _ _)
 refine wpr 0 8 ?_;simp only[zs];refine wpr 1 9 ?_;simp only[zs];refine wpr 2 10 ?_;simp only[zs];refine wpr 3 11 ?_;simp only[zs];refine wpr 4 12 ?_;simp only[zs];refine wpr 5 13 ?_;simp only[zs];refine wpr 6 14 ?_;simp only[zs];refine wpr 7 15 ?_;simp only[zs];refine wpr 8 16 ?_;simp only[zs];refine wpr 9 17 ?_;simp only[zs];refine wpAnyH_ready (rs:=[10,11]) (by kernel_rfl) (by simp) ?_
 refine AllReadyH.cons rfl (λK hK=>?_) ?_
 ·
  skip
  go_simp;refine(j26 ka _).mono ?_
  rintro z g1 ⟨rfl,hb⟩
  have BX:Hid (Below wr.heap.size wr g1):=j01 BX.out hb
  clear hb;refine hK.out _ _ (hS.out _ BX.out) (λhHeld=>?_)
  clear hK K;try simp only[zs]
  refine wpy 11 λK hK=>?_
  refine j1w rfl (d0:=some 7) rfl rfl ?_
  intro kz g2 KZ0 hk hb
  have hwk:Hid (wr.heap.size<=kz):=by have:=BX.out.size;show _<=_;omega
  have KZ:Hid (Blk g2 kz #[.int .i64 0,.int .i64 0,.float .f64 0,.float .f64 0] 200):=KZ0
  have BX:Hid (Below wr.heap.size wr g2):=j01 BX.out hb
  clear KZ0 hk hb;refine hK.out _ _ (hS.out _ BX.out) (λhHeld=>?_)
  clear hK K;try simp only[zs]
  refine wpy 12 λK hK=>?_
  refine j1x rfl rfl (.tmp 7) (.tmp 18) rfl kz #[.int .i64 (zk ka),.int .i64 (sm ka),.float .f64 0,.float .f64 0] rfl rfl KZ.out rfl (by simp[Value.oneCell']) ?_
  intro Z KV0 hb
  have BX:Hid (Below wr.heap.size wr Z):=hb _ _ BX.out hwk.out
  have KV:Hid (Blk Z kz #[.int .i64 (zk ka),.int .i64 (sm ka),.float .f64 0,.float .f64 0] 200):=KV0
  clear KV0 hb KZ;refine hK.out _ _ (hS.out _ BX.out) (λhHeld=>?_)
  clear hK K;try simp only[zs]
  refine wpAnyH_done (by kernel_rfl) ?_ _
  clear hHeld hS;have hkz:Hid (w.heap.size+1<kz):=Nat.lt_of_lt_of_le K6.out.lt hwk.out
  have H6:=Hid.mk' (H1.out.later BX.out)
  have K7:=Hid.mk' (KN.out.later BX.out)
  have K8:=Hid.mk' (K6.out.later BX.out)
  have B8:Hid (Below w.heap.size w Z):=j25 B1.out BX.out
  clear c2 n3 n2 k0 kk hsn hsk hsc hsf H1 KN K6 B1 BX;have q0:Z.cell? ⟨w.heap.size,0,none⟩=some (.int .i64 n.kind):=(K7.out.cell 0).trans rfl
  have q2:Z.cell? ⟨w.heap.size,2,none⟩=some (.int .i64 n.num):=(K7.out.cell 2).trans rfl
  obtain⟨v0,v1,v2,v3,v4⟩:=Blk.four' KV.out
  have t8:(n.kind ==8)=false:=by simp[HK9.out]
  have t9:(n.kind ==9)=true:=by simp[HK9.out]
  go_wp2_with fail;refine(j61 n.num (zk ka) (sm ka) 0 0 _ (by decide) (by decide)).mono ?_
  rintro e w5 ⟨ek,ei,ex,ey,rfl,hV,hb5⟩
  have hek:ek=j3s n.num ka:=hV.1.trans (j7u n.num ka)
  have K9:=Hid.mk' (K8.out.later hb5)
  have B9:Hid (Below w.heap.size w w5):=j25 B8.out hb5
  clear hV hb5 q0 q2 v0 v1 v2 v3 v4 H6 K7 K8 B8 KV;by_cases h0:ek=0
  ·
   have t0:(ek ==0)=true:=by simp[h0]
   have hR:Hid (prE (kdOr (j3s n.num ka))=(0,4)):=by show _=_;rw[<-hek,h0];rfl
   clear h0 hek;go_wp2_with (refine j3d rfl (.tmp 6) (.tmp 48) rfl (w.heap.size+1) #[.int .i64 ek,.int .i64 ei,.float .f64 ex,.float .f64 ey] _ rfl rfl K9.out rfl rfl (by simp[Value.oneCell']) ?_;intro w6 hB6 hb6;have B6:Hid (Below w.heap.size w w6):=hb6 _ _ B9.out (Nat.le_succ _);obtain⟨r0,r1,r2,r3,r4⟩:=Blk.four' hB6)
   refine bq (.tuple #[.int .i64 0,.int .i64 4]) ?_
   rw[hka.out,hR.out]
   exact⟨rfl,B6.out⟩
  have t0:(ek ==0)=false:=by simp[h0]
  have hR:Hid (prE (kdOr (j3s n.num ka))=(ek,0)):=by show _=_;rw[<-hek];unfold kdOr;rw[if_neg h0];rfl
  clear h0 hek;go_wp2_with (refine j3d rfl (.tmp 6) (.tmp 48) rfl (w.heap.size+1) #[.int .i64 ek,.int .i64 ei,.float .f64 ex,.float .f64 ey] _ rfl rfl K9.out rfl rfl (by simp[Value.oneCell']) ?_;intro w6 hB6 hb6;have B6:Hid (Below w.heap.size w w6):=hb6 _ _ B9.out (Nat.le_succ _);obtain⟨r0,r1,r2,r3,r4⟩:=Blk.four' hB6)
  refine bq (.tuple #[.int .i64 ek,.int .i64 0]) ?_
  rw[hka.out,hR.out]
  exact⟨rfl,B6.out⟩
 refine AllReadyH.cons rfl (λK hK=>?_) AllReadyH.nil
 refine j1w rfl (d0:=some 7) rfl rfl ?_
 intro kz g1 KZ0 hk hb
 have hwk:Hid (wr.heap.size<=kz):=by have:=BX.out.size;show _<=_;omega
 have KZ:Hid (Blk g1 kz #[.int .i64 0,.int .i64 0,.float .f64 0,.float .f64 0] 200):=KZ0
 have BX:Hid (Below wr.heap.size wr g1):=j01 BX.out hb
 clear KZ0 hk hb;refine hK.out _ _ (hS.out _ BX.out) (λhHeld=>?_)
 clear hK K;try simp only[zs]
 refine wpy 10 λK hK=>?_
 go_simp;refine(j26 ka _).mono ?_
 rintro z g2 ⟨rfl,hb⟩
 have BX:Hid (Below wr.heap.size wr g2):=j01 BX.out hb
 have KZ:Hid (Blk g2 kz #[.int .i64 0,.int .i64 0,.float .f64 0,.float .f64 0] 200):=KZ.out.later hb
 clear hb;refine hK.out _ _ (hS.out _ BX.out) (λhHeld=>?_)
 clear hK K;try simp only[zs]
 refine wpy 12 λK hK=>?_
 refine j1x rfl rfl (.tmp 7) (.tmp 18) rfl kz #[.int .i64 (zk ka),.int .i64 (sm ka),.float .f64 0,.float .f64 0] rfl rfl KZ.out rfl (by simp[Value.oneCell']) ?_
 intro Z KV0 hb
 have BX:Hid (Below wr.heap.size wr Z):=hb _ _ BX.out hwk.out
 have KV:Hid (Blk Z kz #[.int .i64 (zk ka),.int .i64 (sm ka),.float .f64 0,.float .f64 0] 200):=KV0
 clear KV0 hb KZ;refine hK.out _ _ (hS.out _ BX.out) (λhHeld=>?_)
 clear hK K;try simp only[zs]
 refine wpAnyH_done (by kernel_rfl) ?_ _
 clear hHeld hS;have hkz:Hid (w.heap.size+1<kz):=Nat.lt_of_lt_of_le K6.out.lt hwk.out
 have H6:=Hid.mk' (H1.out.later BX.out)
 have K7:=Hid.mk' (KN.out.later BX.out)
 have K8:=Hid.mk' (K6.out.later BX.out)
 have B8:Hid (Below w.heap.size w Z):=j25 B1.out BX.out
 clear c2 n3 n2 k0 kk hsn hsk hsc hsf H1 KN K6 B1 BX;have q0:Z.cell? ⟨w.heap.size,0,none⟩=some (.int .i64 n.kind):=(K7.out.cell 0).trans rfl
 have q2:Z.cell? ⟨w.heap.size,2,none⟩=some (.int .i64 n.num):=(K7.out.cell 2).trans rfl
 obtain⟨v0,v1,v2,v3,v4⟩:=Blk.four' KV.out
 have t8:(n.kind ==8)=false:=by simp[HK9.out]
 have t9:(n.kind ==9)=true:=by simp[HK9.out]
 go_wp2_with fail;refine(j61 n.num (zk ka) (sm ka) 0 0 _ (by decide) (by decide)).mono ?_
 rintro e w5 ⟨ek,ei,ex,ey,rfl,hV,hb5⟩
 have hek:ek=j3s n.num ka:=hV.1.trans (j7u n.num ka)
 have K9:=Hid.mk' (K8.out.later hb5)
 have B9:Hid (Below w.heap.size w w5):=j25 B8.out hb5
 clear hV hb5 q0 q2 v0 v1 v2 v3 v4 H6 K7 K8 B8 KV;by_cases h0:ek=0
 ·
  have t0:(ek ==0)=true:=by simp[h0]
  have hR:Hid (prE (kdOr (j3s n.num ka))=(0,4)):=by show _=_;rw[<-hek,h0];rfl
  clear h0 hek;go_wp2_with (refine j3d rfl (.tmp 6) (.tmp 48) rfl (w.heap.size+1) #[.int .i64 ek,.int .i64 ei,.float .f64 ex,.float .f64 ey] _ rfl rfl K9.out rfl rfl (by simp[Value.oneCell']) ?_;intro w6 hB6 hb6;have B6:Hid (Below w.heap.size w w6):=hb6 _ _ B9.out (Nat.le_succ _);obtain⟨r0,r1,r2,r3,r4⟩:=Blk.four' hB6)
  refine bq (.tuple #[.int .i64 0,.int .i64 4]) ?_
  rw[hka.out,hR.out]
  exact⟨rfl,B6.out⟩
 have t0:(ek ==0)=false:=by simp[h0]
 have hR:Hid (prE (kdOr (j3s n.num ka))=(ek,0)):=by show _=_;rw[<-hek];unfold kdOr;rw[if_neg h0];rfl
 clear h0 hek;go_wp2_with (refine j3d rfl (.tmp 6) (.tmp 48) rfl (w.heap.size+1) #[.int .i64 ek,.int .i64 ei,.float .f64 ex,.float .f64 ey] _ rfl rfl K9.out rfl rfl (by simp[Value.oneCell']) ?_;intro w6 hB6 hb6;have B6:Hid (Below w.heap.size w w6):=hb6 _ _ B9.out (Nat.le_succ _);obtain⟨r0,r1,r2,r3,r4⟩:=Blk.four' hB6)
 refine bq (.tuple #[.int .i64 ek,.int .i64 0]) ?_
 rw[hka.out,hR.out]
 exact⟨rfl,B6.out⟩
end
end
section
open Go.RowKit
section
variable {G:Pd} {w w':World} {ah:List Int} {Kp Kp':KM}
theorem j5e {ops:Array Oper} {o:Oper} {a:Act} {w:World} {K:Act->World->Prop} {Q:Exit->Act->World->Prop} {E:Prop} (hg:o.guard=none) (hd:o.dst=none) (x y:Operand) (ho:o.op=.store 200 x y) (k:Nat) (cells:Array Value) (hx:a.eval x=.pointer (some ⟨k,0,none⟩)) (hy:a.eval y=.agg cells) (hB:Blk w k #[.int .i64 0,.int .i64 0,.float .f64 0,.float .f64 0] 200) (hs:cells.size=4) (h1:cells.all (·.oneCell')=true)
  (hK:∀w',Blk w' k cells 200->(∀B W,Below B W w->B<=k->Below B W w')->Tw k k w w'->K (a.put none undef) w') :
  if Region.wanted o (yielded ops a.tmps)=true then Oper.wp Tryz.prog o a w K Q else E:=by
 have hw:Region.wanted o (yielded ops a.tmps)=true:=by simp[Region.wanted,hg]
 rw[if_pos hw]
 exact wp_store_row 200 x y ho k cells hx hy 200 _ hB (by rw[Tryz.infoV9s,hs]) (by rw[hs];rfl) h1 (by rw[hd];exact hK _ (setRow_heap _ _ _ _ _ _ hB) (λB W h1 h2=>below_setRow h1 h2 _) ⟨rfl,rfl,rfl,by simp,λq _ h2 _=>setRow_other _ _ _ _ h2⟩)
theorem jjw (hG:G.Ok) (h:Pv G w ah Kp) (n:Nd) (hk9:n.kind=8) (c9:Nat) {fb fo a:Nat} (hfb:fb<G.w0.heap.size) (pp:G.w0.cell? ⟨fb,fo,none⟩=some (.int .i64 (a:Int))) (ha:a<G.T.nodes.length) {b:Nat} (pp2:G.w0.cell? ⟨fb,fo+1,none⟩=some (.int .i64 (b:Int))) (hb2:b<G.T.nodes.length) (hkl:1<n.kids.length) :
  Calls Tryz.prog 148 #[.pointer (some ⟨G.c,0,none⟩),.agg #[.int .i64 n.kind,.string n.text,.int .i64 n.num,.slice (some ⟨fb,fo,none⟩) n.kids.length c9]] w λe w'=>e=.returned (.tuple #[.int .i64 (prE (kdOr (opK n.num (Kp a) (Kp b)))).1,.int .i64 (prE (kdOr (opK n.num (Kp a) (Kp b)))).2])/\Below w.heap.size w w':=by
 obtain⟨kb,hkb⟩:∃k,Hid (Kp b=k):=⟨_,rfl⟩
 have bI:(b:Int)<(G.T.nodes.length:Int):=by omega
 have l1I:(1:Int)<(n.kids.length:Int):=by omega
 have l0N:0<n.kids.length:=by omega
 obtain⟨ka,hka⟩:∃k,Hid (Kp a=k):=⟨_,rfl⟩
 have b1:Below w.heap.size w ((w.alloc (.cells #[.int .i64 n.kind,.string n.text,.int .i64 n.num,.slice (some ⟨fb,fo,none⟩) n.kids.length c9] 73)).alloc (.cells #[.int .i64 0,.int .i64 0,.float .f64 0,.float .f64 0] 200)):=j00 (j00 (Below.refl _ _) _) _
 have KN:=Hid.mk' (Blk.alloc (Blk.new w #[.int .i64 n.kind,.string n.text,.int .i64 n.num,.slice (some ⟨fb,fo,none⟩) n.kids.length c9] 73) (.cells #[.int .i64 0,.int .i64 0,.float .f64 0,.float .f64 0] 200))
 have K6:=Hid.mk' (Blk.new' (n:=w.heap.size+1) (w.alloc (.cells #[.int .i64 n.kind,.string n.text,.int .i64 n.num,.slice (some ⟨fb,fo,none⟩) n.kids.length c9] 73)) #[.int .i64 0,.int .i64 0,.float .f64 0,.float .f64 0] 200 (by simp))
 have H1:=Hid.mk' (h.later b1)
 have B1:=Hid.mk' b1
 have aI:(a:Int)<(G.T.nodes.length:Int):=by omega
 have l0I:(0:Int)<(n.kids.length:Int):=by omega
 have HK9:=Hid.mk' hk9
 have HD:Hid (G.c<w.heap.size/\G.kb<w.heap.size/\fb<w.heap.size):=⟨h.bx.lt,h.kl,Nat.lt_of_lt_of_le hfb h.bl.size⟩
 clear h b1 hk9;go_enter Tryz.func148,Tryz.ntmps148
 go_wp2_with fail;generalize (w.alloc (.cells #[.int .i64 n.kind,.string n.text,.int .i64 n.num,.slice (some ⟨fb,fo,none⟩) n.kids.length c9] 73)).alloc (.cells #[.int .i64 0,.int .i64 0,.float .f64 0,.float .f64 0] 200)=wr at KN K6 H1 B1 ⊢
 have hsn:=KN.out.lt
 have hsk:=H1.out.kl
 have hsc:=H1.out.bx.lt
 have hsf:fb<wr.heap.size:=Nat.lt_of_lt_of_le hfb H1.out.bl.size
 have c2:wr.cell? ⟨G.c,2,none⟩=some (.slice (some ⟨G.kb,0,none⟩) G.T.nodes.length G.T.nodes.length):=(H1.out.bx.cell 2).trans rfl
 have n3:wr.cell? ⟨w.heap.size,3,none⟩=some (.slice (some ⟨fb,fo,none⟩) n.kids.length c9):=(KN.out.cell 3).trans rfl
 have n2:wr.cell? ⟨w.heap.size,2,none⟩=some (.int .i64 n.num):=(KN.out.cell 2).trans rfl
 have k0:wr.cell? ⟨fb,fo,none⟩=some (.int .i64 (a:Int)):=(H1.out.bl.cell (p:=⟨fb,fo,none⟩) hfb).trans pp
 have kk:wr.cell? ⟨G.kb,a,none⟩=some (.int .i64 ka):=by rw[<-hka.out];exact H1.out.kc a ha
 have hS:Hid (∀X,Below wr.heap.size wr X->X.cell? ⟨G.c,2,none⟩=some (.slice (some ⟨G.kb,0,none⟩) G.T.nodes.length G.T.nodes.length)/\X.cell? ⟨w.heap.size,3,none⟩=some (.slice (some ⟨fb,fo,none⟩) n.kids.length c9)/\X.cell? ⟨fb,fo,none⟩=some (.int .i64 (a:Int))/\X.cell? ⟨G.kb,a,none⟩=some (.int .i64 ka)):=λX hX=>⟨(hX.cell (p:=⟨G.c,2,none⟩) hsc).trans c2,(hX.cell (p:=⟨w.heap.size,3,none⟩) hsn).trans n3,(hX.cell (p:=⟨fb,fo,none⟩) hsf).trans k0,(hX.cell (p:=⟨G.kb,a,none⟩) hsk).trans kk⟩
 refine wp_region_held_drew (S:=λX=>X.cell? ⟨G.c,2,none⟩=some (.slice (some ⟨G.kb,0,none⟩) G.T.nodes.length G.T.nodes.length)/\X.cell? ⟨w.heap.size,3,none⟩=some (.slice (some ⟨fb,fo,none⟩) n.kids.length c9)/\X.cell? ⟨fb,fo,none⟩=some (.int .i64 (a:Int))/\X.cell? ⟨G.kb,a,none⟩=some (.int .i64 ka)) (by kernel_rfl) ?_ (λhHeld=>?_)
 ·
  exact hS.out _ (j02 (Below.refl _ _))
 have BX:Hid (Below wr.heap.size wr wr.drew):=j02 (Below.refl _ _)
 refine wpr 0 8 ?_;simp only[zs];refine wpr 1 9 ?_;simp only[zs];refine wpr 2 10 ?_;simp only[zs];refine wpr 3 11 ?_;simp only[zs];refine wpr 4 12 ?_;simp only[zs];refine wpr 5 13 ?_;simp only[zs];refine wpr 6 14 ?_;simp only[zs];refine wpr 7 15 ?_;simp only[zs];refine wpr 8 16 ?_;simp only[zs];refine wpr 9 17 ?_;simp only[zs];refine wpAnyH_ready (rs:=[10,11]) (by kernel_rfl) (by simp) ?_
 refine AllReadyH.cons rfl (λK hK=>?_) ?_
 ·
  skip
  go_simp;refine(j26 ka _).mono ?_
  rintro z g1 ⟨rfl,hb⟩
  have BX:Hid (Below wr.heap.size wr g1):=j01 BX.out hb
  clear hb;refine hK.out _ _ (hS.out _ BX.out) (λhHeld=>?_)
  clear hK K;try simp only[zs]
  refine wpy 11 λK hK=>?_
  refine j1w rfl (d0:=some 7) rfl rfl ?_
  intro kz g2 KZ0 hk hb
  have hwk:Hid (wr.heap.size<=kz):=by have:=BX.out.size;show _<=_;omega
  have KZ:Hid (Blk g2 kz #[.int .i64 0,.int .i64 0,.float .f64 0,.float .f64 0] 200):=KZ0
  have BX:Hid (Below wr.heap.size wr g2):=j01 BX.out hb
  clear KZ0 hk hb;refine hK.out _ _ (hS.out _ BX.out) (λhHeld=>?_)
  clear hK K;try simp only[zs]
  refine wpy 12 λK hK=>?_
  refine j1x rfl rfl (.tmp 7) (.tmp 18) rfl kz #[.int .i64 (zk ka),.int .i64 (sm ka),.float .f64 0,.float .f64 0] rfl rfl KZ.out rfl (by simp[Value.oneCell']) ?_
  intro Z KV0 hb
  have BX:Hid (Below wr.heap.size wr Z):=hb _ _ BX.out hwk.out
  have KV:Hid (Blk Z kz #[.int .i64 (zk ka),.int .i64 (sm ka),.float .f64 0,.float .f64 0] 200):=KV0
  clear KV0 hb KZ;refine hK.out _ _ (hS.out _ BX.out) (λhHeld=>?_)
  clear hK K;try simp only[zs]
  refine wpAnyH_done (by kernel_rfl) ?_ _
  clear hHeld hS;have hkz:Hid (w.heap.size+1<kz):=Nat.lt_of_lt_of_le K6.out.lt hwk.out
  have H6:=Hid.mk' (H1.out.later BX.out)
  have K7:=Hid.mk' (KN.out.later BX.out)
  have K8:=Hid.mk' (K6.out.later BX.out)
  have B8:Hid (Below w.heap.size w Z):=j25 B1.out BX.out
  clear c2 n3 n2 k0 kk hsn hsk hsc hsf H1 KN K6 B1 BX;have q0:Z.cell? ⟨w.heap.size,0,none⟩=some (.int .i64 n.kind):=(K7.out.cell 0).trans rfl
  have t8:(n.kind ==8)=true:=by simp[HK9.out]
  have e5:Z.cell? ⟨G.kb,b,none⟩=some (.int .i64 kb):=by rw[<-hkb.out];exact H6.out.kc b hb2
  have f0:Z.cell? ⟨G.c,2,none⟩=some (.slice (some ⟨G.kb,0,none⟩) G.T.nodes.length G.T.nodes.length):=(H6.out.bx.cell 2).trans rfl
  have f1:Z.cell? ⟨w.heap.size,3,none⟩=some (.slice (some ⟨fb,fo,none⟩) n.kids.length c9):=(K7.out.cell 3).trans rfl
  have f2:Z.cell? ⟨fb,fo+1,none⟩=some (.int .i64 (b:Int)):=(H6.out.bl.cell (p:=⟨fb,fo+1,none⟩) hfb).trans pp2
  have f3:Z.cell? ⟨G.kb,b,none⟩=some (.int .i64 kb):=e5
  have f4:Z.cell? ⟨kz,0,none⟩=some (.int .i64 (zk ka)):=(KV.out.cell 0).trans rfl
  have f5:Z.cell? ⟨kz,1,none⟩=some (.int .i64 (sm ka)):=(KV.out.cell 1).trans rfl
  have f6:Z.cell? ⟨kz,2,none⟩=some (.float .f64 0):=(KV.out.cell 2).trans rfl
  have f7:Z.cell? ⟨kz,3,none⟩=some (.float .f64 0):=(KV.out.cell 3).trans rfl
  have f8:Z.cell? ⟨w.heap.size,2,none⟩=some (.int .i64 n.num):=(K7.out.cell 2).trans rfl
  have hS2:Hid (∀X,Tw (w.heap.size+1) (w.heap.size+1) Z X->X.cell? ⟨G.c,2,none⟩=some (.slice (some ⟨G.kb,0,none⟩) G.T.nodes.length G.T.nodes.length)/\X.cell? ⟨w.heap.size,3,none⟩=some (.slice (some ⟨fb,fo,none⟩) n.kids.length c9)/\X.cell? ⟨fb,fo+1,none⟩=some (.int .i64 (b:Int))/\X.cell? ⟨G.kb,b,none⟩=some (.int .i64 kb)/\X.cell? ⟨kz,0,none⟩=some (.int .i64 (zk ka))/\X.cell? ⟨kz,1,none⟩=some (.int .i64 (sm ka))/\X.cell? ⟨kz,2,none⟩=some (.float .f64 0)/\X.cell? ⟨kz,3,none⟩=some (.float .f64 0)/\X.cell? ⟨w.heap.size,2,none⟩=some (.int .i64 n.num)):=λX hX=>⟨(hX.cell H6.out.bx.lt (by have:=HD.out.1;omega) (by have:=HD.out.1;omega)).trans f0,(hX.cell K7.out.lt (by omega) (by omega)).trans f1,(hX.cell (Nat.lt_of_lt_of_le hfb H6.out.bl.size) (by have:=HD.out.2.2;omega) (by have:=HD.out.2.2;omega)).trans f2,(hX.cell H6.out.kl (by have:=HD.out.2.1;omega) (by have:=HD.out.2.1;omega)).trans f3,(hX.cell KV.out.lt (by have:=hkz.out;omega) (by have:=hkz.out;omega)).trans f4,(hX.cell KV.out.lt (by have:=hkz.out;omega) (by have:=hkz.out;omega)).trans f5,(hX.cell KV.out.lt (by have:=hkz.out;omega) (by have:=hkz.out;omega)).trans f6,(hX.cell KV.out.lt (by have:=hkz.out;omega) (by have:=hkz.out;omega)).trans f7,(hX.cell K7.out.lt (by omega) (by omega)).trans f8⟩
  clear e5 f0 f1 f2 f3 f4 f5 f6 f7 f8;go_wp2_with fail;clear q0;refine wp_region_held_drew (S:=λX=>X.cell? ⟨G.c,2,none⟩=some (.slice (some ⟨G.kb,0,none⟩) G.T.nodes.length G.T.nodes.length)/\X.cell? ⟨w.heap.size,3,none⟩=some (.slice (some ⟨fb,fo,none⟩) n.kids.length c9)/\X.cell? ⟨fb,fo+1,none⟩=some (.int .i64 (b:Int))/\X.cell? ⟨G.kb,b,none⟩=some (.int .i64 kb)/\X.cell? ⟨kz,0,none⟩=some (.int .i64 (zk ka))/\X.cell? ⟨kz,1,none⟩=some (.int .i64 (sm ka))/\X.cell? ⟨kz,2,none⟩=some (.float .f64 0)/\X.cell? ⟨kz,3,none⟩=some (.float .f64 0)/\X.cell? ⟨w.heap.size,2,none⟩=some (.int .i64 n.num)) (by kernel_rfl) ?_ (λhHeld=>?_)
  ·
   exact hS2.out _ (Tw.of (j02 (Below.refl _ _)))
  have BY:Hid (Below Z.heap.size Z Z.drew):=j02 (Below.refl _ _)
  refine wpr 0 24 ?_;simp only[zs];refine wpr 1 25 ?_;simp only[zs];refine wpr 2 26 ?_;simp only[zs];refine wpr 3 27 ?_;simp only[zs];refine wpr 4 28 ?_;simp only[zs];refine wpr 5 29 ?_;simp only[zs];refine wpr 6 30 ?_;simp only[zs];refine wpr 7 31 ?_;simp only[zs];refine wpr 8 32 ?_;simp only[zs];refine wpr 9 33 ?_;simp only[zs];refine wpr 10 34 ?_;simp only[zs];refine wpr 11 35 ?_
  simp only[zs];refine wpr 12 36 ?_;simp only[zs];refine wpy 13 λK hK=>?_
  go_simp;refine(j26 kb _).mono ?_
  rintro z g3 ⟨rfl,hb⟩
  have BY:Hid (Below Z.heap.size Z g3):=j01 BY.out hb
  clear hb;refine hK.out _ _ (hS2.out _ (Tw.of BY.out)) (λhHeld=>?_)
  clear hK K;try simp only[zs]
  refine wpy 14 λK hK=>?_
  go_simp;refine(j7t n.num (zk ka) (sm ka) 0 0 (zk kb) (sm kb) 0 0 _).mono ?_
  rintro z g4 ⟨ek,ei,ex,ey,rfl,hV,hb⟩
  have hek:Hid (ek=opK n.num ka kb):=hV.1.trans (jbr n.num ka kb)
  clear hV;have BY:Hid (Below Z.heap.size Z g4):=j01 BY.out hb
  clear hb;refine hK.out _ _ (hS2.out _ (Tw.of BY.out)) (λhHeld=>?_)
  clear hK K;try simp only[zs]
  refine wpr 15 23 ?_;simp only[zs];refine wpr 16 39 ?_;simp only[zs];refine wpr 17 40 ?_;simp only[zs];have K9:=Hid.mk' (K8.out.later BY.out)
  have B9:Hid (Below w.heap.size w g4):=j25 B8.out BY.out
  refine wpy 18 λK hK=>?_
  refine j5e rfl rfl (.tmp 6) (.tmp 39) rfl (w.heap.size+1) #[.int .i64 ek,.int .i64 ei,.float .f64 ex,.float .f64 ey] rfl rfl K9.out rfl (by simp[Value.oneCell']) ?_
  intro w6 hB60 hb6 ht6
  have B6:Hid (Below w.heap.size w w6):=hb6 _ _ B9.out (Nat.le_succ _)
  have hB6:=Hid.mk' hB60
  refine hK.out _ _ (hS2.out _ ((Tw.of BY.out).trans ht6)) (λhHeld=>?_)
  clear hK K hb6 ht6 hB60;try simp only[zs]
  refine wpAnyH_done (by kernel_rfl) ?_ _
  clear hHeld hS2 BY K9 B9 H6 K7 K8 B8 KV;obtain⟨r0,r1,r2,r3,r4⟩:=Blk.four' hB6.out
  by_cases h0:ek=0
  ·
   have t0:(ek ==0)=true:=by simp[h0]
   have hR:Hid (prE (kdOr (opK n.num ka kb))=(0,4)):=by show _=_;rw[<-hek.out,h0];rfl
   clear h0 hek;go_wp2_with fail;refine bq (.tuple #[.int .i64 0,.int .i64 4]) ?_
   rw[hka.out,hkb.out,hR.out]
   exact⟨rfl,B6.out⟩
  have t0:(ek ==0)=false:=by simp[h0]
  have hR:Hid (prE (kdOr (opK n.num ka kb))=(ek,0)):=by show _=_;rw[<-hek.out];unfold kdOr;rw[if_neg h0];rfl
  clear h0 hek;go_wp2_with fail;refine bq (.tuple #[.int .i64 ek,.int .i64 0]) ?_
  rw[hka.out,hkb.out,hR.out]
  exact⟨rfl,B6.out⟩
 refine AllReadyH.cons rfl (λK hK=>?_) AllReadyH.nil
 refine j1w rfl (d0:=some 7) rfl rfl ?_
 intro kz g1 KZ0 hk hb
 have hwk:Hid (wr.heap.size<=kz):=by have:=BX.out.size;show _<=_;omega
 have KZ:Hid (Blk g1 kz #[.int .i64 0,.int .i64 0,.float .f64 0,.float .f64 0] 200):=KZ0
 have BX:Hid (Below wr.heap.size wr g1):=j01 BX.out hb
 clear KZ0 hk hb;refine hK.out _ _ (hS.out _ BX.out) (λhHeld=>?_)
 clear hK K;try simp only[zs]
 refine wpy 10 λK hK=>?_
 go_simp;refine(j26 ka _).mono ?_
 rintro z g2 ⟨rfl,hb⟩
 have BX:Hid (Below wr.heap.size wr g2):=j01 BX.out hb
 have KZ:Hid (Blk g2 kz #[.int .i64 0,.int .i64 0,.float .f64 0,.float .f64 0] 200):=KZ.out.later hb
 clear hb;refine hK.out _ _ (hS.out _ BX.out) (λhHeld=>?_)
 clear hK K;try simp only[zs]
 refine wpy 12 λK hK=>?_
 refine j1x rfl rfl (.tmp 7) (.tmp 18) rfl kz #[.int .i64 (zk ka),.int .i64 (sm ka),.float .f64 0,.float .f64 0] rfl rfl KZ.out rfl (by simp[Value.oneCell']) ?_
 intro Z KV0 hb
 have BX:Hid (Below wr.heap.size wr Z):=hb _ _ BX.out hwk.out
 have KV:Hid (Blk Z kz #[.int .i64 (zk ka),.int .i64 (sm ka),.float .f64 0,.float .f64 0] 200):=KV0
 clear KV0 hb KZ;refine hK.out _ _ (hS.out _ BX.out) (λhHeld=>?_)
 clear hK K;try simp only[zs]
 refine wpAnyH_done (by kernel_rfl) ?_ _
 clear hHeld hS;have hkz:Hid (w.heap.size+1<kz):=Nat.lt_of_lt_of_le K6.out.lt hwk.out
 have H6:=Hid.mk' (H1.out.later BX.out)
 have K7:=Hid.mk' (KN.out.later BX.out)
 have K8:=Hid.mk' (K6.out.later BX.out)
 have B8:Hid (Below w.heap.size w Z):=j25 B1.out BX.out
 clear c2 n3 n2 k0 kk hsn hsk hsc hsf H1 KN K6 B1 BX;have q0:Z.cell? ⟨w.heap.size,0,none⟩=some (.int .i64 n.kind):=(K7.out.cell 0).trans rfl
 have t8:(n.kind ==8)=true:=by simp[HK9.out]
 have e5:Z.cell? ⟨G.kb,b,none⟩=some (.int .i64 kb):=by rw[<-hkb.out];exact H6.out.kc b hb2
 have f0:Z.cell? ⟨G.c,2,none⟩=some (.slice (some ⟨G.kb,0,none⟩) G.T.nodes.length G.T.nodes.length):=(H6.out.bx.cell 2).trans rfl
 have f1:Z.cell? ⟨w.heap.size,3,none⟩=some (.slice (some ⟨fb,fo,none⟩) n.kids.length c9):=(K7.out.cell 3).trans rfl
 have f2:Z.cell? ⟨fb,fo+1,none⟩=some (.int .i64 (b:Int)):=(H6.out.bl.cell (p:=⟨fb,fo+1,none⟩) hfb).trans pp2
 have f3:Z.cell? ⟨G.kb,b,none⟩=some (.int .i64 kb):=e5
 have f4:Z.cell? ⟨kz,0,none⟩=some (.int .i64 (zk ka)):=(KV.out.cell 0).trans rfl
 have f5:Z.cell? ⟨kz,1,none⟩=some (.int .i64 (sm ka)):=(KV.out.cell 1).trans rfl
 have f6:Z.cell? ⟨kz,2,none⟩=some (.float .f64 0):=(KV.out.cell 2).trans rfl
 have f7:Z.cell? ⟨kz,3,none⟩=some (.float .f64 0):=(KV.out.cell 3).trans rfl
 have f8:Z.cell? ⟨w.heap.size,2,none⟩=some (.int .i64 n.num):=(K7.out.cell 2).trans rfl
 have hS2:Hid (∀X,Tw (w.heap.size+1) (w.heap.size+1) Z X->X.cell? ⟨G.c,2,none⟩=some (.slice (some ⟨G.kb,0,none⟩) G.T.nodes.length G.T.nodes.length)/\X.cell? ⟨w.heap.size,3,none⟩=some (.slice (some ⟨fb,fo,none⟩) n.kids.length c9)/\X.cell? ⟨fb,fo+1,none⟩=some (.int .i64 (b:Int))/\X.cell? ⟨G.kb,b,none⟩=some (.int .i64 kb)/\X.cell? ⟨kz,0,none⟩=some (.int .i64 (zk ka))/\X.cell? ⟨kz,1,none⟩=some (.int .i64 (sm ka))/\X.cell? ⟨kz,2,none⟩=some (.float .f64 0)/\X.cell? ⟨kz,3,none⟩=some (.float .f64 0)/\X.cell? ⟨w.heap.size,2,none⟩=some (.int .i64 n.num)):=λX hX=>⟨(hX.cell H6.out.bx.lt (by have:=HD.out.1;omega) (by have:=HD.out.1;omega)).trans f0,(hX.cell K7.out.lt (by omega) (by omega)).trans f1,(hX.cell (Nat.lt_of_lt_of_le hfb H6.out.bl.size) (by have:=HD.out.2.2;omega) (by have:=HD.out.2.2;omega)).trans f2,(hX.cell H6.out.kl (by have:=HD.out.2.1;omega) (by have:=HD.out.2.1;omega)).trans f3,(hX.cell KV.out.lt (by have:=hkz.out;omega) (by have:=hkz.out;omega)).trans f4,(hX.cell KV.out.lt (by have:=hkz.out;omega) (by have:=hkz.out;omega)).trans f5,(hX.cell KV.out.lt (by have:=hkz.out;omega) (by have:=hkz.out;omega)).trans f6,(hX.cell KV.out.lt (by have:=hkz.out;omega) (by have:=hkz.out;omega)).trans f7,(hX.cell K7.out.lt (by omega) (by omega)).trans f8⟩
 clear e5 f0 f1 f2 f3 f4 f5 f6 f7 f8;go_wp2_with fail;clear q0;refine wp_region_held_drew (S:=λX=>X.cell? ⟨G.c,2,none⟩=some (.slice (some ⟨G.kb,0,none⟩) G.T.nodes.length G.T.nodes.length)/\X.cell? ⟨w.heap.size,3,none⟩=some (.slice (some ⟨fb,fo,none⟩) n.kids.length c9)/\X.cell? ⟨fb,fo+1,none⟩=some (.int .i64 (b:Int))/\X.cell? ⟨G.kb,b,none⟩=some (.int .i64 kb)/\X.cell? ⟨kz,0,none⟩=some (.int .i64 (zk ka))/\X.cell? ⟨kz,1,none⟩=some (.int .i64 (sm ka))/\X.cell? ⟨kz,2,none⟩=some (.float .f64 0)/\X.cell? ⟨kz,3,none⟩=some (.float .f64 0)/\X.cell? ⟨w.heap.size,2,none⟩=some (.int .i64 n.num)) (by kernel_rfl) ?_ (λhHeld=>?_)
 ·
  exact hS2.out _ (Tw.of (j02 (Below.refl _ _)))
 have BY:Hid (Below Z.heap.size Z Z.drew):=j02 (Below.refl _ _)
 refine wpr 0 24 ?_;simp only[zs];refine wpr 1 25 ?_;simp only[zs];refine wpr 2 26 ?_;simp only[zs];refine wpr 3 27 ?_;simp only[zs];refine wpr 4 28 ?_;simp only[zs];refine wpr 5 29 ?_;simp only[zs];refine wpr 6 30 ?_;simp only[zs];refine wpr 7 31 ?_;simp only[zs];refine wpr 8 32 ?_;simp only[zs];refine wpr 9 33 ?_;simp only[zs];refine wpr 10 34 ?_;simp only[zs];refine wpr 11 35 ?_
 simp only[zs];refine wpr 12 36 ?_;simp only[zs];refine wpy 13 λK hK=>?_
 go_simp;refine(j26 kb _).mono ?_
 rintro z g3 ⟨rfl,hb⟩
 have BY:Hid (Below Z.heap.size Z g3):=j01 BY.out hb
 clear hb;refine hK.out _ _ (hS2.out _ (Tw.of BY.out)) (λhHeld=>?_)
 clear hK K;try simp only[zs]
 refine wpy 14 λK hK=>?_
 go_simp;refine(j7t n.num (zk ka) (sm ka) 0 0 (zk kb) (sm kb) 0 0 _).mono ?_
 rintro z g4 ⟨ek,ei,ex,ey,rfl,hV,hb⟩
 have hek:Hid (ek=opK n.num ka kb):=hV.1.trans (jbr n.num ka kb)
 clear hV;have BY:Hid (Below Z.heap.size Z g4):=j01 BY.out hb
 clear hb;refine hK.out _ _ (hS2.out _ (Tw.of BY.out)) (λhHeld=>?_)
 clear hK K;try simp only[zs]
 refine wpr 15 23 ?_;simp only[zs];refine wpr 16 39 ?_;simp only[zs];refine wpr 17 40 ?_;simp only[zs];have K9:=Hid.mk' (K8.out.later BY.out)
 have B9:Hid (Below w.heap.size w g4):=j25 B8.out BY.out
 refine wpy 18 λK hK=>?_
 refine j5e rfl rfl (.tmp 6) (.tmp 39) rfl (w.heap.size+1) #[.int .i64 ek,.int .i64 ei,.float .f64 ex,.float .f64 ey] rfl rfl K9.out rfl (by simp[Value.oneCell']) ?_
 intro w6 hB60 hb6 ht6
 have B6:Hid (Below w.heap.size w w6):=hb6 _ _ B9.out (Nat.le_succ _)
 have hB6:=Hid.mk' hB60
 refine hK.out _ _ (hS2.out _ ((Tw.of BY.out).trans ht6)) (λhHeld=>?_)
 clear hK K hb6 ht6 hB60;try simp only[zs]
 refine wpAnyH_done (by kernel_rfl) ?_ _
 clear hHeld hS2 BY K9 B9 H6 K7 K8 B8 KV;obtain⟨r0,r1,r2,r3,r4⟩:=Blk.four' hB6.out
 by_cases h0:ek=0
 ·
  have t0:(ek ==0)=true:=by simp[h0]
  have hR:Hid (prE (kdOr (opK n.num ka kb))=(0,4)):=by show _=_;rw[<-hek.out,h0];rfl
  clear h0 hek;go_wp2_with fail;refine bq (.tuple #[.int .i64 0,.int .i64 4]) ?_
  rw[hka.out,hkb.out,hR.out]
  exact⟨rfl,B6.out⟩
 have t0:(ek ==0)=false:=by simp[h0]
 have hR:Hid (prE (kdOr (opK n.num ka kb))=(ek,0)):=by show _=_;rw[<-hek.out];unfold kdOr;rw[if_neg h0];rfl
 clear h0 hek;go_wp2_with fail;refine bq (.tuple #[.int .i64 ek,.int .i64 0]) ?_
 rw[hka.out,hkb.out,hR.out]
 exact⟨rfl,B6.out⟩
end
end
end Go.Proofs.YtjbbagcpcepkoaaGreatDoor
