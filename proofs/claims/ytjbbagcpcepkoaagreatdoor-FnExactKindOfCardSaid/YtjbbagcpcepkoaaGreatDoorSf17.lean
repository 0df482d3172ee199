import Derived.Test.YtjbbagcpcepkoaaGreatDoorSf16
import Derived.Deep.OwnRows
namespace Go.Proofs.YtjbbagcpcepkoaaGreatDoor
set_option maxRecDepth 100000
set_option maxHeartbeats 64000000
set_option linter.unusedVariables false
set_option linter.unusedSimpArgs false
section
open Go.RowKit
theorem FitL.last {K:Nat->List Int} {ok:Nat->Prop} {ks:List Int} {a e:Nat} (h:FitL K ok ks a e) {x:Int} (hx:ks.getLast?=some x):∀(m i:Nat),ks[m]?=some (i:Int)->(i:Int)<=x/\(ks.drop (m+1)).isEmpty=((i:Int) ==x):=by
 induction h with
 | nil nx=>simp at hx
 | cons nx k ks e h1 h2 h3 h4 _ ih =>
  intro m i hi
  cases ks with
  | nil =>
   simp at hx
   cases m with
   | zero=>simp at hi;subst hx;simp;omega
   | succ m=>simp at hi
  | cons y ks =>
   have hx2:(y :: ks).getLast?=some x:=by rw[<-hx];simp
   have hge:(k:Int)<x:=by
    obtain⟨j,b,e1,_,_,e2,_⟩:=h4.mem x (List.mem_of_getLast? hx2)
    obtain⟨j',b',e1',_,hf,e2',_⟩:=h4.mem x (List.mem_of_getLast? hx2)
    have:=hf.le
    omega
   cases m with
   | zero =>
    simp at hi
    have:((i:Int) ==x)=false:=by simp;omega
    rw[this]
    refine⟨by omega,by simp⟩
   | succ m =>
    have:=ih hx2 m i (by simpa using hi)
    simpa using this
theorem jhs {l:List Int} {x:Int} (h:l.getLast?=some x):l.dropLast++[x]=l:=by
 have hn:l ≠ []:=by rintro rfl;simp at h
 have e:l.getLast hn=x:=by
  rw[List.getLast?_eq_some_getLast hn] at h
  exact Option.some.inj h
 rw[<-e];exact List.dropLast_concat_getLast hn
theorem jja (env:Env) (s:ByteArray):inL s (env.map (·.1))=(look env s).isSome:=by
 unfold inL look
 rw[Option.isSome_map,List.isSome_find?,List.any_reverse,List.any_map]
 all_goals rfl
section
variable {G:Gd} {w w':World} {top:Int} {env:Env} {md:Md} {last:Int} {K:KM} {sn sk sw:Option Addr} {cn ck cw:Nat} {a b c d e:Value} {fn:Bool}
theorem Lz.put2 (hG:G.Ok) (h:Lz G w top a b c d e fn last K) (o:Nat) (v:Value) {top':Int} {a' b' c' d' e':Value} {fn':Bool} {last':Int} (hs:(lz G top a b c d e fn last).setIfInBounds o v=lz G top' a' b' c' d' e' fn' last'):Lz G (w.setCell ⟨G.p,o,none⟩ v) top' a' b' c' d' e' fn' last' K:=by
 have e:¬G.p=G.kb:=λq=>hG.ne q.symm
 refine⟨?_,by simpa using h.kl,λj hj=>?_,λj=>(World.frozen?_setCell _ _ _ _).trans (h.kf j),h.bl.setCell hG.p _⟩
 ·
  have:=h.bx.set o v
  rw[hs] at this
  exact this
 refine(World.cell?_setCell_other _ _ _ _ (λq=>?_)).trans (h.kc j hj)
 simp at q<;>exact e q.1.symm
theorem Lz.set5 (hG:G.Ok) (h:Lz G w top a b c d e fn last K) (v:Int):Lz G (w.setCell ⟨G.p,5,none⟩ (.int .i64 v)) v a b c d e fn last K:=h.put2 hG 5 _ rfl
theorem Lz.set11 (hG:G.Ok) (h:Lz G w top a b c d e fn last K) (v:Bool):Lz G (w.setCell ⟨G.p,11,none⟩ (.bool v)) top a b c d e v last K:=h.put2 hG 11 _ rfl
theorem Lz.set12 (hG:G.Ok) (h:Lz G w top a b c d e fn last K) (v:Int):Lz G (w.setCell ⟨G.p,12,none⟩ (.int .i64 v)) top a b c d e fn v K:=h.put2 hG 12 _ rfl
theorem Lz.low {B:Nat} (h:Lz G w top a b c d e fn last K) (hb:Below B w w') (hp:G.p<B) (hk:G.kb<B) (h0:G.w0.heap.size<=B):Lz G w' top a b c d e fn last K :=
 ⟨by unfold Blk;rw[hb.block G.p hp];exact h.bx,Nat.lt_of_lt_of_le h.kl hb.size,λj hj=>(hb.cell (p:=⟨G.kb,j,none⟩) hk).trans (h.kc j hj),λj=>(hb.frozen (p:=⟨G.kb,j,none⟩) hk).trans (h.kf j),h.bl.trans (hb.mono h0)⟩
theorem jhp (hG:G.Ok) (h:Lz G w top a b c d e fn last K) (cc nn:Int) (hc:¬cc=0) :
  Calls Tryz.prog 52 #[.pointer (some ⟨G.p,0,none⟩),.int .i64 cc,.int .i64 nn] w λe w'=>e=.returned (.int .i64 0)/\Dd G w' cc nn/\Tw G.p G.kb w w':=by
 have x13:w.cell? ⟨G.p,13,none⟩=some (.int .i64 0):=(h.bx.cell 13).trans rfl
 have x14:w.cell? ⟨G.p,14,none⟩=some (.int .i64 (-1)):=(h.bx.cell 14).trans rfl
 have y13:=h.bx.frozen 13
 have y14:=h.bx.frozen 14
 have hw0:=h.bl.size
 have hD:Hid (Dd G ((w.setCell ⟨G.p,13,none⟩ (.int .i64 cc)).setCell ⟨G.p,14,none⟩ (.int .i64 nn)) cc nn):=by
  refine⟨⟨_,?_,(h.bx.set 13 _).set 14 _,?_,?_,?_⟩,hc,(h.bl.setCell hG.p _).setCell hG.p _⟩<;>simp[lz]
 have hT:Hid (Tw G.p G.kb w ((w.setCell ⟨G.p,13,none⟩ (.int .i64 cc)).setCell ⟨G.p,14,none⟩ (.int .i64 nn))):=(Tw.set _ _ _ _ _).trans (Tw.set _ _ _ _ _)
 clear h hw0;go_enter Tryz.func52,Tryz.ntmps52
 go_wp2_with fail;go_ret;exact⟨rfl,hD.out,hT.out⟩
def Lt (G:Gd) (w:World) (K:KM):Prop:=∃top a b sw cw fn last,Lz G w top a b (.bool false) (.bool false) (.slice sw 0 cw) fn last K
def j53 (G:Gd) (w:World) (r:Ck KM) (e:Ending) (w':World):Prop :=
 (e=.returned (.tuple #[])/\match r with
 | .error (c,n)=>Dd G w' c n
 | .ok K'=>Lt G w' K')/\Tw G.p G.kb w w'
theorem j53.bad {c n:Int} {r:Ck KM} (hr:r=.error (c,n)) (hd:Dd G w' c n) (ht:Tw G.p G.kb w w'):j53 G w r (.returned (.tuple #[])) w':=by subst hr;exact⟨⟨rfl,hd⟩,ht⟩
theorem j53.good {K':KM} {r:Ck KM} (hr:r=.ok K') (hl:Lt G w' K') (ht:Tw G.p G.kb w w'):j53 G w r (.returned (.tuple #[])) w':=by subst hr;exact⟨⟨rfl,hl⟩,ht⟩
theorem jiz (hG:G.Ok) {k t:Nat} {n:Nd} (hkt:G.T.tops[k]?=some (t:Int)) (hv:VN G.T t n) {nx:Nat} (hfit:FitL (j0e G.T) (okN G.T) n.kids nx t) (hcl:n.kind=33\/n.kind=34) (h:Lz G w top a b (.bool false) (.bool false) (.slice sw 0 cw) fn last K) :
  Calls Tryz.prog 35 #[.pointer (some ⟨G.p,0,none⟩),.int .i64 (k:Int)] w λe w'=>j53 G w (j1x (Dg G) G.T G.T.nodes.length (G.T.tops.take k) K (t:Int)) e w':=by
 have HT:Hid (InT w G.B0 G.n1 G.n2 G.T):=hG.t.later h.bl
 have HTV:Hid (∀x∈G.T.tops,∃(m:Nat) (mn:Nd),x=m/\G.T.nodes[m]?=some mn):=λx hx=>by
  obtain⟨j,hj,rfl⟩:=List.getElem_of_mem hx
  obtain⟨m,n,e1,e2,_⟩:=hG.tr.2.2 j _ (List.getElem?_eq_getElem hj)
  exact⟨m,n,e1,e2⟩
 have hnl:G.T.nodes.length<=4000:=hG.tr.1
 have htl:G.T.tops.length<=1048576:=hG.k.2
 have hkl:k<G.T.tops.length:=(List.getElem?_eq_some_iff.1 hkt).1
 have htN:t<G.T.nodes.length:=(List.getElem?_eq_some_iff.1 hv.at_).1
 have hnk:n.kids.length<=4000:=by have:=hfit.len;omega
 have hlen:=hv.len
 have hP:0<n.kids.length:=by
  rcases hcl with h33|h34
  ·
   rw[h33] at hlen;simp[shp] at hlen;omega
  rw[h34] at hlen;simp[shp] at hlen;omega
 have hpar:Hid (∀j,j+1<n.kids.length->(shp n.kind n.kids.length)[j]?=some 7):=λj hj=>by
  rcases hcl with h33|h34
  ·
   rw[h33,show shp 33 n.kids.length=List.replicate (n.kids.length-1) 7++[3] by simp[shp],List.getElem?_append_left (by simp;omega),List.getElem?_replicate,if_pos (by omega)]
  rw[h34] at hlen;simp[shp] at hlen;omega
 have hblk:Hid ((shp n.kind n.kids.length)[n.kids.length-1]?=some 3):=by
  rcases hcl with h33|h34
  ·
   rw[h33,show shp 33 n.kids.length=List.replicate (n.kids.length-1) 7++[3] by simp[shp]]
   show _=_
   rw[List.getElem?_append_right (by simp)]
   simp
  rw[h34] at hlen
  have e:n.kids.length=1:=by simp[shp] at hlen;omega
  rw[h34,e];rfl
 obtain⟨nb,no,s9,c9,en1,hnb,e0,e1,e2,e3,ekids⟩:=hG.node hv.at_
 obtain⟨tb,tof,en2,_,htb,pt⟩:=j05 hG.t.t hkt
 obtain⟨P,hPe⟩:∃P,n.kids.length=P+1:=⟨n.kids.length-1,by omega⟩
 rw[hPe] at e3 hnk
 have HPE:Hid (n.kids.length=P+1):=hPe
 clear hPe hP;have x3:w.cell? ⟨G.p,3,none⟩=some (.slice (some ⟨nb,no,none⟩) G.T.nodes.length G.d1):=by rw[<-en1];exact(h.bx.cell 3).trans rfl
 have x4:w.cell? ⟨G.p,4,none⟩=some (.slice (some ⟨tb,tof,none⟩) G.T.tops.length G.d2):=by rw[<-en2];exact(h.bx.cell 4).trans rfl
 have x5:w.cell? ⟨G.p,5,none⟩=some (.int .i64 top):=(h.bx.cell 5).trans rfl
 have x6:w.cell? ⟨G.p,6,none⟩=some a:=(h.bx.cell 6).trans rfl
 have x7:w.cell? ⟨G.p,7,none⟩=some b:=(h.bx.cell 7).trans rfl
 have y5:=h.bx.frozen 5
 have y6:=h.bx.frozen 6
 have y7:=h.bx.frozen 7
 have q0:=(h.bl.cell (p:=⟨nb,no+t*4,none⟩) hnb).trans e0
 have q1:=(h.bl.cell (p:=⟨nb,no+t*4+1,none⟩) hnb).trans e1
 have q2:=(h.bl.cell (p:=⟨nb,no+t*4+2,none⟩) hnb).trans e2
 have q3:=(h.bl.cell (p:=⟨nb,no+t*4+3,none⟩) hnb).trans e3
 have q4:=(h.bl.cell (p:=⟨tb,tof+k,none⟩) htb).trans pt
 have tI:(t:Int)<(G.T.nodes.length:Int):=by omega
 have kI:(k:Int)<(G.T.tops.length:Int):=by omega
 have hp0:G.p<w.heap.size:=h.bx.lt
 have hk0:G.kb<w.heap.size:=h.kl
 have ht:=((Tw.set G.p G.kb w 5 (.int .i64 (k:Int))).trans (Tw.set G.p G.kb _ 6 (.slice none 0 0))).trans (Tw.set G.p G.kb _ 7 (.slice none 0 0))
 have bz:Below (((w.setCell ⟨G.p,5,none⟩ (.int .i64 (k:Int))).setCell ⟨G.p,6,none⟩ (.slice none 0 0)).setCell ⟨G.p,7,none⟩ (.slice none 0 0)).heap.size (((w.setCell ⟨G.p,5,none⟩ (.int .i64 (k:Int))).setCell ⟨G.p,6,none⟩ (.slice none 0 0)).setCell ⟨G.p,7,none⟩ (.slice none 0 0)) ((((w.setCell ⟨G.p,5,none⟩ (.int .i64 (k:Int))).setCell ⟨G.p,6,none⟩ (.slice none 0 0)).setCell ⟨G.p,7,none⟩ (.slice none 0 0)).alloc (.cells #[.int .i64 n.kind,.string n.text,.int .i64 n.num,.slice s9 (P+1) c9] 73)):=j00 (Below.refl _ _) _
 have HZ1:=Hid.mk' ((((h.set5 hG (k:Int)).set6 hG (.slice none 0 0)).set7 hG (.slice none 0 0)).later bz)
 have K51:=Hid.mk' (Blk.new' (n:=w.heap.size) (((w.setCell ⟨G.p,5,none⟩ (.int .i64 (k:Int))).setCell ⟨G.p,6,none⟩ (.slice none 0 0)).setCell ⟨G.p,7,none⟩ (.slice none 0 0)) #[.int .i64 n.kind,.string n.text,.int .i64 n.num,.slice s9 (P+1) c9] 73 (by simp))
 have T1:=Hid.mk' (ht.trans (Tw.of bz))
 have HV:=Hid.mk' hv
 have HF:Hid (FitL (j0e G.T) (okN G.T) n.kids nx t):=hfit
 have HK:Hid (Els 1 cInt G.w0 G.B0 s9 n.kids):=ekids
 have HEN:Hid (G.n1=some ⟨nb,no,none⟩):=en1
 have HEN2:Hid (G.n2=some ⟨tb,tof,none⟩):=en2
 obtain⟨fb,hfb⟩:∃fb,(n.kind ==33)=fb:=⟨_,rfl⟩
 have HFB:Hid (decide (n.kind=33)=fb):=hfb
 obtain⟨iS,hiS,hzS,hsS,hbS⟩:=info_parts Tryz.infoS
 obtain⟨iI',hiI,hzI,hsI,hbI⟩:=info_parts Tryz.infoI
 obtain⟨X1,hX1⟩:∃X,((((w.setCell ⟨G.p,5,none⟩ (.int .i64 (k:Int))).setCell ⟨G.p,6,none⟩ (.slice none 0 0)).setCell ⟨G.p,7,none⟩ (.slice none 0 0)).alloc (.cells #[.int .i64 n.kind,.string n.text,.int .i64 n.num,.slice s9 (P+1) c9] 73))=X:=⟨_,rfl⟩
 rw[hX1] at HZ1 K51 T1
 clear h e0 e1 e2 e3 ekids hv hfit hkt en1 en2 pt bz ht hlen HT;go_enter Tryz.func35,Tryz.ntmps35
 go_wp2_with fail;clear x3 x4 x5 x6 x7 y5 y6 y7 q0 q1 q2 q3 q4 hX1 hfb;go_loopw [6] (λkv wr=>∃m:Nat,m<=k/\kv=.int .i64 m/\Hid (((G.T.tops.take k).any λa=>decide ((nd G.T a).text=n.text))=(((G.T.tops.take k).drop m).any λa=>decide ((nd G.T a).text=n.text)))/\Hid (Below X1.heap.size X1 wr)) (λkv _=>k-(intOf kv).toNat)
 case atStart=>exact⟨0,Nat.zero_le _,rfl,rfl,Below.refl _ _⟩
 obtain⟨m,hm,rfl,hA,hb⟩:=hrel
 have HZ:=Hid.mk' (HZ1.out.later hb.out)
 have Kn:=Hid.mk' (K51.out.later hb.out)
 have Tn:=Hid.mk' (T1.out.trans (Tw.of hb.out))
 obtain⟨z0,z1,z2,z3,z4⟩:=Blk.four' Kn.out
 by_cases hlt:m<k
 ·
  obtain⟨x,hxj⟩:=j0q (L:=G.T.tops) (k:=m) (by omega)
  obtain⟨tb2,tof2,ef,_,_,p00⟩:=j05 hG.t.t hxj
  obtain⟨rfl,rfl⟩:tb2=tb/\tof2=tof:=by rw[HEN2.out] at ef;cases ef;exact⟨rfl,rfl⟩
  obtain⟨xm,xn,rfl,hxn⟩:=HTV.out x (List.mem_of_getElem? hxj)
  obtain⟨nb2,no2,sx,cx,ef2,_,f0,f1,_,_,_⟩:=hG.node hxn
  obtain⟨rfl,rfl⟩:nb2=nb/\no2=no:=by rw[HEN.out] at ef2;cases ef2;exact⟨rfl,rfl⟩
  have x3:wr.cell? ⟨G.p,3,none⟩=some (.slice (some ⟨nb2,no2,none⟩) G.T.nodes.length G.d1):=by rw[<-HEN.out];exact(HZ.out.bx.cell 3).trans rfl
  have x4:wr.cell? ⟨G.p,4,none⟩=some (.slice (some ⟨tb2,tof2,none⟩) G.T.tops.length G.d2):=by rw[<-HEN2.out];exact(HZ.out.bx.cell 4).trans rfl
  have q4:=(HZ.out.bl.cell (p:=⟨tb2,tof2+m,none⟩) htb).trans p00
  have q1:=(HZ.out.bl.cell (p:=⟨nb2,no2+xm*4+1,none⟩) hnb).trans f1
  have mI:(m:Int)<(G.T.tops.length:Int):=by omega
  have xI:(xm:Int)<(G.T.nodes.length:Int):=by have:=(List.getElem?_eq_some_iff.1 hxn).1;omega
  have t0:decide ((m:Int)<(k:Int))=true:=by simp;omega
  have hdr:Hid ((G.T.tops.take k).drop m=(xm:Int) :: (G.T.tops.take k).drop (m+1)):=by
   show _=_
   have hjl:m<(G.T.tops.take k).length:=by simp;omega
   rw[List.drop_eq_getElem_cons hjl]
   congr 1
   rw[List.getElem_take]
   exact(List.getElem?_eq_some_iff.1 hxj).2
  have HX:Hid (nd G.T (xm:Int)=xn):=j0j hxn
  clear hxj hxn p00 f0 f1 ef ef2;by_cases htx:xn.text=n.text
  ·
   have hxx:(xn.text.toList ==n.text.toList)=true:=j2l htx
   have hEr:Hid (j1x (Dg G) G.T G.T.nodes.length (G.T.tops.take k) K (t:Int)=.error (2,(t:Int))):=by
    show _=_
    unfold j1x
    simp only
    rw[j0j HV.out.at_,if_pos]
    rw[hA.out,hdr.out]
    simp[HX.out,htx]
   go_wp2_with fail;go_quiet (fail)
   rename_i nq
   go_wp2_with fail;refine(jhp hG (HZ.out.later (j06 (Below.refl _ _) nq)) 2 (t:Int) (by omega)).mono ?_
   rintro e w4 ⟨rfl,hd,ht⟩
   go_wp2_with fail;refine bq (.tuple #[]) ?_
   exact j53.bad hEr.out hd (Tn.out.trans ((Tw.of (j06 (Below.refl _ _) nq)).trans ht))
  have hxx:(xn.text.toList ==n.text.toList)=false:=j35 htx
  have hA2:Hid (((G.T.tops.take k).any λa=>decide ((nd G.T a).text=n.text))=(((G.T.tops.take k).drop (m+1)).any λa=>decide ((nd G.T a).text=n.text))):=by
   rw[hA.out,hdr.out];simp[Hid,HX.out,htx]
  go_wp2_with fail;go_quiet (fail)
  rename_i nq
  go_wp2_with fail;go_roundw
  case rel=>exact⟨m+1,by omega,by go_num,hA2,hb.out.trans (j06 (Below.refl _ _) nq |>.mono hb.out.size)⟩
  case measure=>simp[intOf];omega
 have hmm:k=m:=by omega
 subst hmm
 have t0:decide ((k:Int)<(k:Int))=false:=by simp
 have hno:Hid (((G.T.tops.take k).any λa=>decide ((nd G.T a).text=n.text))=false):=by rw[hA.out,List.drop_eq_nil_of_le (by simp;omega)];rfl
 have hCC:Hid (j1x (Dg G) G.T G.T.nodes.length (G.T.tops.take k) K (t:Int)=match j5i G.T n.kids.dropLast [] with | .error e=> .error e | .ok env=>match ckSs (ckS (Dg G) G.T (G.T.tops.take k) G.T.nodes.length G.T.nodes.length ⟨false,[],false,fb⟩) fb (nd G.T (n.kids.getLast?.getD 0)).kids env K with | .error e=> .error e | .ok K1=>if n.kind=33 then j2v G.T (t:Int) K1 else .ok K1):=by
  show _=_
  unfold j1x
  simp only
  rw[j0j HV.out.at_,if_neg (by rw[hno.out];simp),HFB.out]
  all_goals rfl
 have x11:wr.cell? ⟨G.p,11,none⟩=some (.bool fn):=(HZ.out.bx.cell 11).trans rfl
 have y11:=HZ.out.bx.frozen 11
 have hfb:(n.kind ==33)=fb:=HFB.out
 have ht:=Tw.set G.p G.kb wr 11 (.bool fb)
 have HZ2:=Hid.mk' (HZ.out.set11 hG fb)
 have K52:=Hid.mk' (Kn.out.tw ht (by omega) (by omega))
 have T2:=Hid.mk' (Tn.out.trans ht)
 obtain⟨X2,hX2⟩:∃X,(wr.setCell ⟨G.p,11,none⟩ (.bool fb))=X:=⟨_,rfl⟩
 rw[hX2] at HZ2 K52 T2
 clear ht HZ Kn Tn HZ1 K51 T1 hb hA hno;have hX2s:w.heap.size<X2.heap.size:=K52.out.lt
 have hpB:G.p<X2.heap.size:=HZ2.out.bx.lt
 have hkB:G.kb<X2.heap.size:=HZ2.out.kl
 have h0B:G.w0.heap.size<=X2.heap.size:=HZ2.out.bl.size
 have bb:Below X2.heap.size X2 ((X2.alloc (.cells #[] 9)).alloc (.cells #[] 3)):=j00 (j00 (Below.refl _ _) _) _
 have hRa:=((Rs.nil X2).ins [] [] (j00 (Below.refl _ _) _) (jen X2)).ins [rS (.slice (some ⟨X2.heap.size,0,none⟩) 0 0) []] [] (j00 (Below.refl _ _) _) (jdt _)
 have hsz:(X2.alloc (.cells #[] 9)).heap.size=X2.heap.size+1:=by simp
 rw[hsz] at hRa
 have HR0:Hid (Rs ((X2.alloc (.cells #[] 9)).alloc (.cells #[] 3)) X2.heap.size ((X2.alloc (.cells #[] 9)).alloc (.cells #[] 3)) [rS (.slice (some ⟨X2.heap.size,0,none⟩) 0 0) [],rI (.slice (some ⟨X2.heap.size+1,0,none⟩) 0 0) []]):=Rs.start hRa.o hRa.s
 have HZ3:=Hid.mk' (HZ2.out.later bb)
 have K53:=Hid.mk' (K52.out.later bb)
 have T3:=Hid.mk' (T2.out.trans (Tw.of bb))
 clear bb hRa hsz HZ2 K52 T2;go_wp2_with fail;clear z0 z1 z2 z3 z4 x11 y11 hX2 hfb;go_loopw [7,8,9] (λv7 v8 kv wr=>∃(m:Nat) (s7:Option Addr) (c7:Nat) (s8:Option Addr) (c8:Nat) (NL:List ByteArray) (KL:List Int) (en:Env),m<=P/\kv=.int .i64 m/\v7=.slice s7 NL.length c7/\v8=.slice s8 KL.length c8/\Hid (en.length=m)/\Hid (NL=en.map (·.1))/\Hid (KL=en.map (·.2))/\Hid (j5i G.T n.kids.dropLast []=j5i G.T (n.kids.dropLast.drop m) en)/\Hid (Rs wr X2.heap.size wr [rS (.slice s7 NL.length c7) NL,rI (.slice s8 KL.length c8) KL])/\Hid (Lz G wr (k:Int) (.slice none 0 0) (.slice none 0 0) (.bool false) (.bool false) (.slice sw 0 cw) fb last K)/\Hid (Blk wr w.heap.size #[.int .i64 n.kind,.string n.text,.int .i64 n.num,.slice s9 (P+1) c9] 73)/\Hid (Tw G.p G.kb w wr)) (λ_ _ kv _=>P-(intOf kv).toNat)
 case atStart=>exact⟨0,_,_,_,_,[],[],[],Nat.zero_le _,rfl,rfl,rfl,rfl,rfl,rfl,by rw[List.drop_zero];rfl,HR0,HZ3,K53,T3⟩
 clear HR0 HZ3 K53 T3;rename_i wr0 _ _ _ _ _
 obtain⟨m,s7,c7,s8,c8,NL,KL,en,hm,rfl,rfl,rfl,hen,hNL,hKL,hCp,HR,HZ,HKn,HT⟩:=hrel
 obtain⟨z0,z1,z2,z3',z4⟩:=Blk.four' HKn.out
 have hwr:G.w0.heap.size<=wr.heap.size:=HZ.out.bl.size
 have hpr:G.p<wr.heap.size:=HZ.out.bx.lt
 have hkr:w.heap.size<wr.heap.size:=HKn.out.lt
 have hnr:nb<wr.heap.size:=by omega
 have X3:Hid (wr.cell? ⟨G.p,3,none⟩=some (.slice (some ⟨nb,no,none⟩) G.T.nodes.length G.d1)):=by rw[<-HEN.out];exact(HZ.out.bx.cell 3).trans rfl
 have hz:Hid (∀ob:Obj,(λW=>Below wr.heap.size wr W) ((wr.alloc ob).drew)):=λob=>j02 (j00 (Below.refl _ _) _)
 have hnl2:NL.length<=4000:=by have h1:=hen.out;have h2:=hNL.out;rw[h2];simp;omega
 have hkl2:KL.length<=4000:=by have h1:=hen.out;have h2:=hKL.out;rw[h2];simp;omega
 by_cases hlt:m<P
 ·
  obtain⟨x,xn,xb,hxm,hxt,hvx,hcx,hfx,_⟩:=HV.out.kidAt HF.out (j:=m) (c:=7) (hpar.out m (by rw[HPE.out];omega))
  obtain⟨fb2,fo,hs9,_,hfb2,p00⟩:=j05 HK.out hxm
  obtain⟨nb2,no2,sx,cx,en2,_,f0,f1,f2,f3,fkids⟩:=hG.node hvx.at_
  obtain⟨rfl,rfl⟩:nb2=nb/\no2=no:=by rw[HEN.out] at en2;cases en2;exact⟨rfl,rfl⟩
  have z3:=z3'
  rw[hs9] at z3
  have X4:=Hid.mk' z3
  have X5:=Hid.mk' ((HZ.out.bl.cell (p:=⟨fb2,fo+m,none⟩) hfb2).trans p00)
  have Y0:=Hid.mk' ((HZ.out.bl.cell (p:=⟨nb2,no2+x*4,none⟩) hnb).trans f0)
  have Y1:=Hid.mk' ((HZ.out.bl.cell (p:=⟨nb2,no2+x*4+1,none⟩) hnb).trans f1)
  have Y2:=Hid.mk' ((HZ.out.bl.cell (p:=⟨nb2,no2+x*4+2,none⟩) hnb).trans f2)
  have Y3:=Hid.mk' ((HZ.out.bl.cell (p:=⟨nb2,no2+x*4+3,none⟩) hnb).trans f3)
  have HX:Hid (nd G.T (x:Int)=xn):=j0j hvx.at_
  have HSF:Hid (s9=some ⟨fb2,fo,none⟩):=hs9
  have HP00:=Hid.mk' p00
  have hdr:Hid (n.kids.dropLast.drop m=(x:Int) :: n.kids.dropLast.drop (m+1)):=by
   have hml:m<n.kids.dropLast.length:=by rw[List.length_dropLast,HPE.out];omega
   show _=_
   rw[List.drop_eq_getElem_cons hml]
   congr 1
   rw[List.getElem_dropLast]
   exact(List.getElem?_eq_some_iff.1 hxm).2
  have mP:(m:Int)<((P+1:Nat):Int):=by omega
  have mP2:(m:Int)<(P:Int)+1:=by omega
  have t2:decide ((m:Int)+1<((P+1:Nat):Int))=true:=by simp;omega
  have t3:decide ((m:Int)<(P:Int))=true:=by simp;omega
  have t4:decide ((m:Int)+1<(P:Int)+1)=true:=by simp;omega
  have xI:(x:Int)<(G.T.nodes.length:Int):=by have:=(List.getElem?_eq_some_iff.1 hvx.at_).1;omega
  have hfr:fb2<wr.heap.size:=by omega
  clear hxm hvx hcx hfx f0 f1 f2 f3 fkids en2 p00 z3' hs9;go_wp2_with fail;clear z0 z1 z2 z3 z4;refine wp_region_held_drew (S:=(λW=>Below wr.heap.size wr W)) (by kernel_rfl) ?_ (λhHeld=>?_)
  ·
   exact j02 (Below.refl _ _)
  refine wpr 0 81 ?_;simp only[zs];refine wpr 1 82 ?_;simp only[zs];refine wpr 2 83 ?_;simp only[zs];refine wpr 3 84 ?_;simp only[zs];refine wpq (v:=?_) 4 85 rfl rfl ?_ ?_
  rotate_left 1
  ·
   intro w hSw;(try dsimp only at hSw);have x3:=lowc hSw X3.out hpr;go_simp<;>with_reducible rfl
  simp only[zs];refine wpr 5 86 ?_;simp only[zs];refine wpq (v:=?_) 6 87 rfl rfl ?_ ?_
  rotate_left 1
  ·
   intro w hSw;(try dsimp only at hSw);have x3:=lowc hSw X4.out hkr;go_simp<;>with_reducible rfl
  simp only[zs];refine wpr 7 88 ?_;simp only[zs];refine wpr 8 89 ?_;simp only[zs];refine wpq (v:=?_) 9 90 rfl rfl ?_ ?_
  rotate_left 1
  ·
   intro w hSw;(try dsimp only at hSw);have x3:=lowc hSw X5.out hfr;go_simp<;>with_reducible rfl
  simp only[zs];refine wpr 10 91 ?_;simp only[zs];refine wpq (v:=?_) 11 92 rfl rfl ?_ ?_
  rotate_left 1
  ·
   intro w hSw;(try dsimp only at hSw);have x0:=lowc hSw Y0.out hnr;have x1:=lowc hSw Y1.out hnr;have x2:=lowc hSw Y2.out hnr;have x3:=lowc hSw Y3.out hnr;go_simp<;>with_reducible rfl
  simp only[zs];refine wpy 12 λK hK=>?_
  go_simp;refine hK.out _ _ ?_ (λhHeld=>?_)
  ·
   exact hz.out _
  clear hK K;try simp only[zs]
  refine wpy 13 λK hK=>?_
  go_simp;refine hK.out _ _ ?_ (λhHeld=>?_)
  ·
   exact hz.out _
  clear hK K;try simp only[zs]
  refine wpAnyH_done (by kernel_rfl) ?_ _
  have BZ:=Hid.mk' (hz.out (.cells #[.int .i64 xn.kind,.string xn.text,.int .i64 xn.num,.slice sx xn.kids.length cx] 73))
  have Z5:=Hid.mk' (HZ.out.later BZ.out)
  have K55:=Hid.mk' (HKn.out.later BZ.out)
  have KX5:Hid (Blk ((wr.alloc (.cells #[.int .i64 xn.kind,.string xn.text,.int .i64 xn.num,.slice sx xn.kids.length cx] 73)).drew) wr.heap.size #[.int .i64 xn.kind,.string xn.text,.int .i64 xn.num,.slice sx xn.kids.length cx] 73):=Blk.new wr _ _
  have R5a:=HR.out.ins [rS (.slice s7 NL.length c7) NL,rI (.slice s8 KL.length c8) KL] [] BZ.out (r:=rB wr.heap.size 73 [.int .i64 xn.kind,.string xn.text,.int .i64 xn.num,.slice sx xn.kids.length cx]) (jhq KX5.out (Nat.le_refl _))
  have R5:Hid (Rs ((wr.alloc (.cells #[.int .i64 xn.kind,.string xn.text,.int .i64 xn.num,.slice sx xn.kids.length cx] 73)).drew) X2.heap.size ((wr.alloc (.cells #[.int .i64 xn.kind,.string xn.text,.int .i64 xn.num,.slice sx xn.kids.length cx] 73)).drew) [rS (.slice s7 NL.length c7) NL,rI (.slice s8 KL.length c8) KL,rB wr.heap.size 73 [.int .i64 xn.kind,.string xn.text,.int .i64 xn.num,.slice sx xn.kids.length cx]]):=Rs.start R5a.o R5a.s
  clear R5a;have T5:=Hid.mk' (HT.out.trans (Tw.of BZ.out))
  obtain⟨X,hX⟩:∃X,(wr.alloc (.cells #[.int .i64 xn.kind,.string xn.text,.int .i64 xn.num,.slice sx xn.kids.length cx] 73)).drew=X:=⟨_,rfl⟩
  rw[hX] at Z5 K55 KX5 R5 T5 ⊢
  obtain⟨kx,hkx⟩:∃k,wr.heap.size=k:=⟨_,rfl⟩
  rw[hkx] at KX5 hpr hkr R5 ⊢
  clear hHeld hz BZ hX hkx X3 X4 X5 Y0 Y1 Y2 Y3 HZ HKn HR HT hwr hfr hnr;obtain⟨z0,z1,z2,z3,z4⟩:=Blk.four' KX5.out
  obtain⟨u0,u1,u2,u3',u4⟩:=Blk.four' K55.out
  have u3:=u3'
  rw[HSF.out] at u3
  have v0:=(Z5.out.bl.cell (p:=⟨fb2,fo+m,none⟩) hfb2).trans HP00.out
  clear u3';go_wp2_with fail;refine(j3t G.p G.kb s7 c7 NL xn.text _ (OS.strs2 (j7g (R5.out.at [] [_,_])) rfl hpB hkB) (by omega)).mono ?_
  rintro e w6 ⟨rfl,hq⟩
  rw[hq]
  clear hq w6;have hlk:Hid ((look en xn.text).isSome=inL xn.text NL):=by show _=_;rw[<-jja,hNL.out]
  cases hi:inL xn.text NL
  ·
   have hCp2:Hid (j5i G.T n.kids.dropLast []=j5i G.T (n.kids.dropLast.drop (m+1)) (en++[(xn.text,xn.num)])):=by rw[hCp.out,hdr.out];simp[Hid,j5i,HX.out,hlk.out,hi]
   have hen2:Hid ((en++[(xn.text,xn.num)]).length=m+1):=by show _=_;simp[hen.out]
   obtain⟨en2,hE2⟩:∃e,Hid (en++[(xn.text,xn.num)]=e):=⟨_,rfl⟩
   obtain⟨NL2,hN2⟩:∃L,Hid (NL++[xn.text]=L):=⟨_,rfl⟩
   obtain⟨KL2,hK2⟩:∃L,Hid (KL++[xn.num]=L):=⟨_,rfl⟩
   have hNL2:Hid (NL2=en2.map (·.1)):=by show _=_;rw[<-hN2.out,<-hE2.out,hNL.out];simp
   have hKL2:Hid (KL2=en2.map (·.2)):=by show _=_;rw[<-hK2.out,<-hE2.out,hKL.out];simp
   rw[hE2.out] at hCp2 hen2
   have b6:Below X.heap.size X (X.alloc (.cells #[.string xn.text] 9)):=j00 (Below.refl _ _) _
   have hR6:Hid (Rs (X.alloc (.cells #[.string xn.text] 9)) X2.heap.size (X.alloc (.cells #[.string xn.text] 9)) ([]++rS (.slice s7 NL.length c7) NL :: [rI (.slice s8 KL.length c8) KL,rB kx 73 [.int .i64 xn.kind,.string xn.text,.int .i64 xn.num,.slice sx xn.kids.length cx]])):=Rs.start (R5.out.o.later b6) (Nat.le_trans R5.out.s b6.size)
   have Z6:=Hid.mk' (Z5.out.later b6)
   have K56:=Hid.mk' (K55.out.later b6)
   have T6:=Hid.mk' (T5.out.trans (Tw.of b6))
   clear b6 Z5 K55 KX5 R5 T5 hi hlk hCp u0 u1 u2 u3 u4 v0;go_wp2_with (at_builtin;refine j37 [] [rI (.slice s8 KL.length c8) KL,rB kx 73 [.int .i64 xn.kind,.string xn.text,.int .i64 xn.num,.slice sx xn.kids.length cx]] hR6.out rfl _ _ 53 16 rfl Tryz.underlying53 hiS hzS hsS hbS rfl (Nat.succ_pos _) rfl (some ⟨X.heap.size,0,none⟩) 1 1 [.string xn.text] rfl rfl (srcB (Blk.new X #[.string xn.text] 9)) (λu hu=>by simp at hu;subst hu;rfl) (by show _<=_;simp[rS,rI];unfold maxLen;omega) (by simp[rS,rI];omega) NL2.length (by rw[<-hN2.out];simp[rS]) (λv=>rS v NL2) (λ_=>by rw[<-hN2.out];simp[rS]) ?_)
   intro s7' c7' w7 hR7
   have b7:Below w7.heap.size w7 (w7.alloc (.cells #[.int .i64 xn.num] 3)):=j00 (Below.refl _ _) _
   have Z7:=Hid.mk' ((Z6.out.low hR7.l hpB hkB h0B).later b7)
   have K57:=Hid.mk' ((hR7.blk K56.out (by omega)).later b7)
   have T7:=Hid.mk' ((T6.out.low hR7.l (by omega)).trans (Tw.of b7))
   have KX7:=hR7.box [rS (.slice s7' NL2.length c7') NL2,rI (.slice s8 KL.length c8) KL] []
   have hR8:Hid (Rs (w7.alloc (.cells #[.int .i64 xn.num] 3)) X2.heap.size (w7.alloc (.cells #[.int .i64 xn.num] 3)) ([rS (.slice s7' NL2.length c7') NL2]++rI (.slice s8 KL.length c8) KL :: [rB kx 73 [.int .i64 xn.kind,.string xn.text,.int .i64 xn.num,.slice sx xn.kids.length cx]])):=Rs.start (hR7.o.later b7) (Nat.le_trans hR7.s b7.size)
   clear hR6 Z6 K56 T6 z0 z1 z2 z3 z4 hR7 b7;obtain⟨z0,z1,z2,z3,z4⟩:=Blk.four' KX7
   clear KX7;go_wp2_with (at_builtin;refine j37 [rS (.slice s7' NL2.length c7') NL2] [rB kx 73 [.int .i64 xn.kind,.string xn.text,.int .i64 xn.num,.slice sx xn.kids.length cx]] hR8.out rfl _ _ 26 8 rfl Tryz.underlying26 hiI hzI hsI hbI rfl (Nat.succ_pos _) rfl (some ⟨w7.heap.size,0,none⟩) 1 1 [.int .i64 xn.num] rfl rfl (srcB (Blk.new w7 #[.int .i64 xn.num] 3)) (λu hu=>by simp at hu;subst hu;rfl) (by show _<=_;simp[rS,rI];unfold maxLen;omega) (by simp[rS,rI];omega) KL2.length (by rw[<-hK2.out];simp[rI]) (λv=>rI v KL2) (λ_=>by rw[<-hK2.out];simp[rI]) ?_)
   intro s8' c8' w8 hR9
   have Z8:=Hid.mk' (Z7.out.low hR9.l hpB hkB h0B)
   have K58:Hid (Blk w8 w.heap.size #[.int .i64 n.kind,.string n.text,.int .i64 n.num,.slice s9 (P+1) c9] 73):=hR9.blk K57.out (by omega)
   have T8:=Hid.mk' (T7.out.low hR9.l (by omega))
   have hR10:=Rs.less [rS (.slice s7' NL2.length c7') NL2,rI (.slice s8' KL2.length c8') KL2] [] hR9
   have HR8:Hid (Rs w8 X2.heap.size w8 [rS (.slice s7' NL2.length c7') NL2,rI (.slice s8' KL2.length c8') KL2]):=Rs.start hR10.o hR10.s
   clear hR8 hR9 hR10 Z7 K57 T7 z0 z1 z2 z3 z4 hN2 hK2 hE2;go_wp2_with fail;go_roundw
   case rel=>exact⟨m+1,s7',c7',s8',c8',NL2,KL2,en2,by omega,by go_num,rfl,rfl,hen2,hNL2,hKL2,hCp2,HR8,Z8,K58,T8⟩
   case measure=>simp[intOf];omega
  have hEr:Hid (j1x (Dg G) G.T G.T.nodes.length (G.T.tops.take k) K (t:Int)=.error (2,(x:Int))):=by rw[hCC.out,hCp.out,hdr.out];simp[Hid,j5i,HX.out,hlk.out,hi]
  clear hi hlk;go_wp2_with fail;refine(jhp hG Z5.out 2 (x:Int) (by omega)).mono ?_
  rintro e w7 ⟨rfl,hd,ht⟩
  go_wp2_with fail;refine bq (.tuple #[]) ?_
  exact j53.bad hEr.out hd (T5.out.trans ht)
 have hmm:P=m:=by omega
 subst hmm
 have t2:decide ((P:Int)+1<((P+1:Nat):Int))=false:=by simp
 have t3:decide ((P:Int)<(P:Int))=false:=by simp
 have t4:decide ((P:Int)+1<(P:Int)+1)=false:=by simp
 obtain⟨b,bn,bb0,hxb,hbt,hvb,hcb,_,_⟩:=HV.out.kidAt HF.out (j:=P) (c:=3) (by have:=hblk.out;rw[HPE.out] at this ⊢;simpa using this)
 have HGL:Hid (n.kids.getLast?=some (b:Int)):=by show _=_;rw[List.getLast?_eq_getElem?,HPE.out];simpa using hxb
 obtain⟨mm,g1,g2⟩:=FitL.split (A:=n.kids.dropLast) (B:=[(b:Int)]) (by rw[jhs HGL.out];exact HF.out)
 obtain⟨b',eb,_,hfb3,_⟩:=g2.head
 obtain rfl:b'=b:=by omega
 rw[j0t hvb.at_] at hfb3
 have hg1:=g1.len
 rw[List.length_dropLast,HPE.out] at hg1
 have hnen:Hid (en.length<=mm):=by have:=hen.out;show _<=_;omega
 have HFB2:Hid (FitL (j0e G.T) (okN G.T) bn.kids mm b'):=hfb3
 have HVB:=Hid.mk' hvb
 have HB27:Hid (bn.kind=27):=j34 hcb
 have hbN:b'<G.T.nodes.length:=(List.getElem?_eq_some_iff.1 hvb.at_).1
 obtain⟨fb2,fo,hs9,_,hfb2,p00⟩:=j05 HK.out hxb
 obtain⟨nb2,no2,sb,cb,en2,_,f0,f1,f2,f3,fkids⟩:=hG.node hvb.at_
 obtain⟨rfl,rfl⟩:nb2=nb/\no2=no:=by rw[HEN.out] at en2;cases en2;exact⟨rfl,rfl⟩
 have hC3:Hid (j1x (Dg G) G.T G.T.nodes.length (G.T.tops.take k) K (t:Int)=match ckSs (ckS (Dg G) G.T (G.T.tops.take k) G.T.nodes.length G.T.nodes.length ⟨false,[],false,fb⟩) fb bn.kids en K with | .error e=> .error e | .ok K1=>if n.kind=33 then j2v G.T (t:Int) K1 else .ok K1):=by
  rw[hCC.out,hCp.out,List.drop_eq_nil_of_le (by rw[List.length_dropLast,HPE.out];omega),HGL.out]
  show _=_
  simp only[j5i,Option.getD_some]
  rw[j0j hvb.at_]
 obtain⟨lb,hlb⟩:∃l,Hid (bn.kids.length=l):=⟨_,rfl⟩
 rw[hlb.out] at f3
 have z3:=z3'
 rw[hs9] at z3
 have X4:=Hid.mk' z3
 have X5:=Hid.mk' ((HZ.out.bl.cell (p:=⟨fb2,fo+P,none⟩) hfb2).trans p00)
 have Y0:=Hid.mk' ((HZ.out.bl.cell (p:=⟨nb2,no2+b'*4,none⟩) hnb).trans f0)
 have Y1:=Hid.mk' ((HZ.out.bl.cell (p:=⟨nb2,no2+b'*4+1,none⟩) hnb).trans f1)
 have Y2:=Hid.mk' ((HZ.out.bl.cell (p:=⟨nb2,no2+b'*4+2,none⟩) hnb).trans f2)
 have Y3:=Hid.mk' ((HZ.out.bl.cell (p:=⟨nb2,no2+b'*4+3,none⟩) hnb).trans f3)
 have HSF:Hid (s9=some ⟨fb2,fo,none⟩):=hs9
 have HP00:=Hid.mk' p00
 have HBK:Hid (Els 1 cInt G.w0 G.B0 sb bn.kids):=fkids
 have PI:(P:Int)<((P+1:Nat):Int):=by omega
 have PI2:(P:Int)<(P:Int)+1:=by omega
 have P0I:(0:Int)<=(P:Int):=by omega
 have hwP:IntKind.i64.wrap (P:Int)=(P:Int):=by rw[IntKind.wrap_i64];omega
 have bI:(b':Int)<(G.T.nodes.length:Int):=by omega
 have hfr:fb2<wr.heap.size:=by omega
 clear hxb hvb hcb g1 g2 eb hfb3 f0 f1 f2 f3 fkids en2 p00 z3' hs9 hg1 hCC hCp;go_wp2_with fail;clear z0 z1 z2 z3 z4;refine wp_region_held_drew (S:=(λW=>Below wr.heap.size wr W)) (by kernel_rfl) ?_ (λhHeld=>?_)
 ·
  exact j02 (Below.refl _ _)
 refine wpr 0 114 ?_;simp only[zs];refine wpr 1 115 ?_;simp only[zs];refine wpr 2 116 ?_;simp only[zs];refine wpr 3 117 ?_;simp only[zs];refine wpq (v:=?_) 4 118 rfl rfl ?_ ?_
 rotate_left 1
 ·
  intro w hSw;(try dsimp only at hSw);have x3:=lowc hSw X3.out hpr;go_simp<;>with_reducible rfl
 simp only[zs];refine wpr 5 119 ?_;simp only[zs];refine wpq (v:=?_) 6 120 rfl rfl ?_ ?_
 rotate_left 1
 ·
  intro w hSw;(try dsimp only at hSw);have x3:=lowc hSw X4.out hkr;go_simp<;>with_reducible rfl
 simp only[zs];refine wpr 7 121 ?_;simp only[zs];refine wpq (v:=?_) 8 122 rfl rfl ?_ ?_
 rotate_left 1
 ·
  intro w hSw;(try dsimp only at hSw);have x3:=lowc hSw X4.out hkr;go_simp<;>with_reducible rfl
 simp only[zs];refine wpr 9 123 ?_;simp only[zs];refine wpr 10 124 ?_;simp only[zs];refine wpr 11 125 ?_;simp only[zs];refine wpq (v:=?_) 12 126 rfl rfl ?_ ?_
 rotate_left 1
 ·
  intro w hSw;(try dsimp only at hSw);have x3:=lowc hSw X5.out hfr;go_simp<;>with_reducible rfl
 simp only[zs];refine wpr 13 127 ?_;simp only[zs];refine wpq (v:=?_) 14 128 rfl rfl ?_ ?_
 rotate_left 1
 ·
  intro w hSw;(try dsimp only at hSw);have x0:=lowc hSw Y0.out hnr;have x1:=lowc hSw Y1.out hnr;have x2:=lowc hSw Y2.out hnr;have x3:=lowc hSw Y3.out hnr;go_simp<;>with_reducible rfl
 simp only[zs];refine wpy 15 λK hK=>?_
 go_simp;refine hK.out _ _ ?_ (λhHeld=>?_)
 ·
  exact hz.out _
 clear hK K;try simp only[zs]
 refine wpy 16 λK hK=>?_
 go_simp;refine hK.out _ _ ?_ (λhHeld=>?_)
 ·
  exact hz.out _
 clear hK K;try simp only[zs]
 refine wpAnyH_done (by kernel_rfl) ?_ _
 have BZ:=Hid.mk' (hz.out (.cells #[.int .i64 bn.kind,.string bn.text,.int .i64 bn.num,.slice sb lb cb] 73))
 have Z5:=Hid.mk' (HZ.out.later BZ.out)
 have K55:=Hid.mk' (HKn.out.later BZ.out)
 have KB5:Hid (Blk ((wr.alloc (.cells #[.int .i64 bn.kind,.string bn.text,.int .i64 bn.num,.slice sb lb cb] 73)).drew) wr.heap.size #[.int .i64 bn.kind,.string bn.text,.int .i64 bn.num,.slice sb lb cb] 73):=Blk.new wr _ _
 have S5:=Hid.mk' (OS.later (j7g (HR.out.at [] [_])) BZ.out)
 have I5:=Hid.mk' (OI.later (jcn (HR.out.at [_] [])) BZ.out)
 have T5:=Hid.mk' (HT.out.trans (Tw.of BZ.out))
 obtain⟨X,hX⟩:∃X,(wr.alloc (.cells #[.int .i64 bn.kind,.string bn.text,.int .i64 bn.num,.slice sb lb cb] 73)).drew=X:=⟨_,rfl⟩
 rw[hX] at Z5 K55 KB5 S5 I5 T5 ⊢
 obtain⟨kx,hkx⟩:∃k,wr.heap.size=k:=⟨_,rfl⟩
 rw[hkx] at KB5 hpr hkr ⊢
 have hkk:G.kb<kx:=by rw[<-hkx];exact HZ.out.kl
 clear hHeld hz BZ hX hkx X3 X4 X5 Y0 Y1 Y2 Y3 HZ HKn HR HT hwr hfr hnr t2 t3 t4;obtain⟨z0,z1,z2,z3,z4⟩:=Blk.four' KB5.out
 have x12:X.cell? ⟨G.p,12,none⟩=some (.int .i64 last):=(Z5.out.bx.cell 12).trans rfl
 have y12:=Z5.out.bx.frozen 12
 have eN:NL.length=en.length:=by have:=hNL.out;rw[this];simp
 have eK:KL.length=en.length:=by have:=hKL.out;rw[this];simp
 have HEN3:Hid (NL.length=en.length/\KL.length=en.length):=⟨eN,eK⟩
 clear eN eK;cases lb with
 | zero =>
  have hkn:Hid (bn.kids=[]):=List.eq_nil_of_length_eq_zero hlb.out
  have ht:=Tw.set G.p G.kb X 12 (.int .i64 (-1))
  have HLV:Hid (Lv G (X.setCell ⟨G.p,12,none⟩ (.int .i64 (-1))) (k:Int) [] ⟨false,[],false,fb⟩ (-1) K none 0 none 0 sw cw):=Lz.lv (m:=0) (Z5.out.set12 hG (-1)) rfl (Or.inl rfl) (Or.inl rfl) (Or.inl rfl)
  have T4:=Hid.mk' (T5.out.trans ht)
  have K54:=Hid.mk' (K55.out.tw ht (by omega) (by omega))
  clear z0 z1 z2 z3 z4;obtain⟨z0,z1,z2,z3,z4⟩:=Blk.four' (KB5.out.tw ht (by omega) (by omega))
  have HN1:Hid (Strs G.p G.kb (X.setCell ⟨G.p,12,none⟩ (.int .i64 (-1))) s7 (en.map (·.1))):=by rw[<-hNL.out];exact(OS.tw S5.out ht hpB hkB).strs2 rfl hpB hkB
  have HN2:Hid (Nums G.p G.kb (X.setCell ⟨G.p,12,none⟩ (.int .i64 (-1))) s8 (en.map (·.2))):=by rw[<-hKL.out];exact(OI.tw I5.out ht hpB hkB).nums2 rfl hpB hkB
  obtain⟨u0,u1,u2,u3',u4⟩:=Blk.four' K54.out
  have u3:=u3'
  rw[HSF.out] at u3
  have v0:=(HLV.out.bl.cell (p:=⟨fb2,fo+P,none⟩) hfb2).trans HP00.out
  obtain⟨X6,hX6⟩:∃Y,X.setCell ⟨G.p,12,none⟩ (.int .i64 (-1))=Y:=⟨_,rfl⟩
  rw[hX6] at HLV T4 K54 HN1 HN2 u0 u1 u2 u3 u4 v0 z0 z1 z2 z3 z4
  clear u3' ht Z5 K55 KB5 S5 I5 T5;go_wp2_with fail;clear hX6 x12 y12 u0 u1 u2 u3 u4;rw[HEN3.out.1,HEN3.out.2]
  refine(j8a hG (ja8 hG (top:=(k:Int)) (tp:=k) (last:=(-1)) (fn:=fb) rfl (by omega) G.T.nodes.length) ⟨false,[],false,fb⟩ rfl (by simp) (λ_=>rfl) (own:=fb) HVB.out HB27.out HFB2.out (by omega) (λm i hi=>by rw[hkn.out] at hi;simp at hi) s7 s8 c7 c8 en HN1.out HN2.out (by have:=hnen.out;simp;omega) HLV.out).mono ?_
  rintro e w5 hS5
  have T5:=Hid.mk' (T4.out.trans hS5.2)
  have K55:=Hid.mk' (K54.out.tw hS5.2 (by omega) (by omega))
  cases hr:ckSs (ckS (Dg G) G.T (G.T.tops.take k) G.T.nodes.length G.T.nodes.length ⟨false,[],false,fb⟩) fb bn.kids en K with
  | error q =>
   obtain⟨c,nq⟩:=q
   rw[List.nil_append,hr] at hS5
   obtain⟨⟨rfl,hd⟩,_⟩:=hS5
   have hEr:Hid (j1x (Dg G) G.T G.T.nodes.length (G.T.tops.take k) K (t:Int)=.error (c,nq)):=by rw[hC3.out,hr];rfl
   have y13:=hd.c13
   have tc:(c != 0)=true:=by simp[hd.ne]
   obtain⟨f2,y11⟩:=hd.c11
   have HD:=Hid.mk' hd
   clear hd;clear z0 z1 z2 z3 z4 v0 HLV T4 K54;cases f2
   all_goals
    go_wp2_with fail;refine bq (.tuple #[]) ?_
    exact j53.bad hEr.out HD.out T5.out
  | ok K1 =>
   rw[List.nil_append,hr] at hS5
   obtain⟨⟨rfl,sn2,cn2,sk2,ck2,sw2,cw2,hl⟩,_⟩:=hS5
   have hC4:Hid (j1x (Dg G) G.T G.T.nodes.length (G.T.tops.take k) K (t:Int)=if n.kind=33 then j2v G.T (t:Int) K1 else .ok K1):=by rw[hC3.out,hr];rfl
   have y13:w5.cell? ⟨G.p,13,none⟩=some (.int .i64 0):=(hl.bx.cell 13).trans rfl
   have y11:w5.cell? ⟨G.p,11,none⟩=some (.bool fb):=(hl.bx.cell 11).trans rfl
   have y12:w5.cell? ⟨G.p,12,none⟩=some (.int .i64 (-1)):=(hl.bx.cell 12).trans rfl
   have HLt:Hid (Lt G w5 K1):=⟨_,_,_,_,_,_,_,hl.z⟩
   have HL5:=Hid.mk' hl
   clear hl hr;clear z0 z1 z2 z3 z4 v0 HLV T4 K54;cases hfc:fb
   ·
    have hfc2:=HFB.out
    rw[hfc] at hfc2
    have hEr:Hid (j1x (Dg G) G.T G.T.nodes.length (G.T.tops.take k) K (t:Int)=.ok K1):=by rw[hC4.out,if_neg (by simpa using hfc2)];rfl
    rw[hfc] at y11
    clear hfc hfc2;go_wp2_with fail;refine bq (.tuple #[]) ?_
    exact j53.good hEr.out HLt.out T5.out
   have hfc2:=HFB.out
   rw[hfc] at hfc2
   rw[hfc] at y11
   have hC5:Hid (j1x (Dg G) G.T G.T.nodes.length (G.T.tops.take k) K (t:Int)=j2v G.T (t:Int) K1):=by rw[hC4.out,if_pos (by simpa using hfc2)];rfl
   clear hfc hfc2;have hEr:Hid (j1x (Dg G) G.T G.T.nodes.length (G.T.tops.take k) K (t:Int)=.error (5,(t:Int))):=by
    rw[hC5.out]
    show _=_
    unfold j2v
    rw[j0j HV.out.at_,HGL.out]
    simp only[Option.getD_some]
    rw[j0j HVB.out.at_,hkn.out]
    all_goals rfl
   have x3:w5.cell? ⟨G.p,3,none⟩=some (.slice (some ⟨nb2,no2,none⟩) G.T.nodes.length G.d1):=by rw[<-HEN.out];exact(HL5.out.bx.cell 3).trans rfl
   go_wp2_with fail;go_quiet (fail)
   rename_i nq
   go_wp2_with fail;refine(j0f hG (HL5.out.later (j06 (Below.refl _ _) nq)) 5 (t:Int) (by omega)).mono ?_
   rintro e w6 ⟨rfl,hd,ht⟩
   go_wp2_with fail;refine bq (.tuple #[]) ?_
   exact j53.bad hEr.out hd (T5.out.trans ((Tw.of (j06 (Below.refl _ _) nq)).trans ht))
 | succ Q =>
  obtain⟨x,xn,xb,hxq,hxb2,hvx,_,hfx,_⟩:=HVB.out.kidAt HFB2.out (j:=Q) (c:=2) (by rw[HB27.out,hlb.out];simp[shp])
  obtain⟨gb,go,hsb,_,hgb,g0⟩:=j05 HBK.out hxq
  have hkx:Hid (bn.kids.getLast?=some (x:Int)):=by show _=_;rw[List.getLast?_eq_getElem?,hlb.out];simpa using hxq
  have HVX:=Hid.mk' hvx
  have HFX:Hid (FitL (j0e G.T) (okN G.T) xn.kids xb x):=hfx
  have w0:=((Z5.out.set12 hG (-1)).bl.cell (p:=⟨gb,go+Q,none⟩) hgb).trans g0
  have hsb2:=hsb
  clear z0 z1 z2 z3 z4;obtain⟨z0,z1,z2,z3',z4⟩:=Blk.four' (KB5.out.tw (Tw.set G.p G.kb X 12 (.int .i64 (-1))) (by omega) (by omega))
  have z3:=z3'
  rw[hsb] at z3
  clear z3' hsb2;have hne1:¬gb=G.p:=by have:=hG.p;omega
  have QI:(Q:Int)<((Q+1:Nat):Int):=by omega
  have QI2:(Q:Int)<(Q:Int)+1:=by omega
  have Q0I:(0:Int)<=(Q:Int):=by omega
  have hQl:Q<4000:=by have:=HFB2.out.len;have h2:=hlb.out;omega
  have hwQ:IntKind.i64.wrap (Q:Int)=(Q:Int):=by rw[IntKind.wrap_i64];omega
  have t5:decide (((Q+1:Nat):Int)>0)=true:=by first|(simp;done)|(simp;omega)
  have t6:decide ((Q:Int)+1>0)=true:=by first|(simp;done)|(simp;omega)
  have ht:=(Tw.set G.p G.kb X 12 (.int .i64 (-1))).trans (Tw.set G.p G.kb _ 12 (.int .i64 (x:Int)))
  have HLV:Hid (Lv G ((X.setCell ⟨G.p,12,none⟩ (.int .i64 (-1))).setCell ⟨G.p,12,none⟩ (.int .i64 (x:Int))) (k:Int) [] ⟨false,[],false,fb⟩ (x:Int) K none 0 none 0 sw cw):=Lz.lv (m:=0) ((Z5.out.set12 hG (-1)).set12 hG (x:Int)) rfl (Or.inl rfl) (Or.inl rfl) (Or.inl rfl)
  have T4:=Hid.mk' (T5.out.trans ht)
  have K54:=Hid.mk' (K55.out.tw ht (by omega) (by omega))
  have HN1:Hid (Strs G.p G.kb ((X.setCell ⟨G.p,12,none⟩ (.int .i64 (-1))).setCell ⟨G.p,12,none⟩ (.int .i64 (x:Int))) s7 (en.map (·.1))):=by rw[<-hNL.out];exact(OS.tw S5.out ht hpB hkB).strs2 rfl hpB hkB
  have HN2:Hid (Nums G.p G.kb ((X.setCell ⟨G.p,12,none⟩ (.int .i64 (-1))).setCell ⟨G.p,12,none⟩ (.int .i64 (x:Int))) s8 (en.map (·.2))):=by rw[<-hKL.out];exact(OI.tw I5.out ht hpB hkB).nums2 rfl hpB hkB
  obtain⟨u0,u1,u2,u3',u4⟩:=Blk.four' K54.out
  have u3:=u3'
  rw[HSF.out] at u3
  have v0:=(HLV.out.bl.cell (p:=⟨fb2,fo+P,none⟩) hfb2).trans HP00.out
  obtain⟨X6,hX6⟩:∃Y,(X.setCell ⟨G.p,12,none⟩ (.int .i64 (-1))).setCell ⟨G.p,12,none⟩ (.int .i64 (x:Int))=Y:=⟨_,rfl⟩
  rw[hX6] at HLV T4 K54 HN1 HN2 u0 u1 u2 u3 u4 v0
  clear u3' ht Z5 K55 KB5 S5 I5 T5 hsb hxq hvx hfx g0;go_wp2_with fail;clear hX6 x12 y12 u0 u1 u2 u3 u4 w0;rw[HEN3.out.1,HEN3.out.2]
  refine(j8a hG (ja8 hG (top:=(k:Int)) (tp:=k) (last:=(x:Int)) (fn:=fb) rfl (by omega) G.T.nodes.length) ⟨false,[],false,fb⟩ rfl (by simp) (λ_=>rfl) (own:=fb) HVB.out HB27.out HFB2.out (by omega) (λm i hi=>by have hl:=HFB2.out.last hkx.out m i hi;exact⟨hl.1,by rw[hl.2]⟩) s7 s8 c7 c8 en HN1.out HN2.out (by have:=hnen.out;simp;omega) HLV.out).mono ?_
  rintro e w5 hS5
  have T5:=Hid.mk' (T4.out.trans hS5.2)
  have K55:=Hid.mk' (K54.out.tw hS5.2 (by omega) (by omega))
  cases hr:ckSs (ckS (Dg G) G.T (G.T.tops.take k) G.T.nodes.length G.T.nodes.length ⟨false,[],false,fb⟩) fb bn.kids en K with
  | error q =>
   obtain⟨c,nq⟩:=q
   rw[List.nil_append,hr] at hS5
   obtain⟨⟨rfl,hd⟩,_⟩:=hS5
   have hEr:Hid (j1x (Dg G) G.T G.T.nodes.length (G.T.tops.take k) K (t:Int)=.error (c,nq)):=by rw[hC3.out,hr];rfl
   have y13:=hd.c13
   have tc:(c != 0)=true:=by simp[hd.ne]
   obtain⟨f2,y11⟩:=hd.c11
   have HD:=Hid.mk' hd
   clear hd;clear z0 z1 z2 z3 z4 v0 HLV T4 K54;cases f2
   all_goals
    go_wp2_with fail;refine bq (.tuple #[]) ?_
    exact j53.bad hEr.out HD.out T5.out
  | ok K1 =>
   rw[List.nil_append,hr] at hS5
   obtain⟨⟨rfl,sn2,cn2,sk2,ck2,sw2,cw2,hl⟩,_⟩:=hS5
   have hC4:Hid (j1x (Dg G) G.T G.T.nodes.length (G.T.tops.take k) K (t:Int)=if n.kind=33 then j2v G.T (t:Int) K1 else .ok K1):=by rw[hC3.out,hr];rfl
   have y13:w5.cell? ⟨G.p,13,none⟩=some (.int .i64 0):=(hl.bx.cell 13).trans rfl
   have y11:w5.cell? ⟨G.p,11,none⟩=some (.bool fb):=(hl.bx.cell 11).trans rfl
   have y12:w5.cell? ⟨G.p,12,none⟩=some (.int .i64 (x:Int)):=(hl.bx.cell 12).trans rfl
   have HLt:Hid (Lt G w5 K1):=⟨_,_,_,_,_,_,_,hl.z⟩
   have HL5:=Hid.mk' hl
   clear hl hr;clear z0 z1 z2 z3 z4 v0 HLV T4 K54;cases hfc:fb
   ·
    have hfc2:=HFB.out
    rw[hfc] at hfc2
    have hEr:Hid (j1x (Dg G) G.T G.T.nodes.length (G.T.tops.take k) K (t:Int)=.ok K1):=by rw[hC4.out,if_neg (by simpa using hfc2)];rfl
    rw[hfc] at y11
    clear hfc hfc2;go_wp2_with fail;refine bq (.tuple #[]) ?_
    exact j53.good hEr.out HLt.out T5.out
   have hfc2:=HFB.out
   rw[hfc] at hfc2
   rw[hfc] at y11
   have hC5:Hid (j1x (Dg G) G.T G.T.nodes.length (G.T.tops.take k) K (t:Int)=j2v G.T (t:Int) K1):=by rw[hC4.out,if_pos (by simpa using hfc2)];rfl
   clear hfc hfc2;have hCA:Hid (j1x (Dg G) G.T G.T.nodes.length (G.T.tops.take k) K (t:Int)=if xn.kind=26 then (if K1 (kid xn 0).toNat=n.num then .ok K1 else .error (4,(t:Int))) else .error (5,(t:Int))):=by
    rw[hC5.out]
    show _=_
    unfold j2v
    rw[j0j HV.out.at_,HGL.out]
    simp only[Option.getD_some]
    rw[j0j HVB.out.at_,hkx.out]
    simp only
    rw[j0j HVX.out.at_]
   obtain⟨nb3,no3,sx,cx,ef2,_,f0,_,_,f3,fkids⟩:=hG.node HVX.out.at_
   obtain⟨rfl,rfl⟩:nb3=nb2/\no3=no2:=by rw[HEN.out] at ef2;cases ef2;exact⟨rfl,rfl⟩
   have x3:w5.cell? ⟨G.p,3,none⟩=some (.slice (some ⟨nb3,no3,none⟩) G.T.nodes.length G.d1):=by rw[<-HEN.out];exact(HL5.out.bx.cell 3).trans rfl
   have p0:=(HL5.out.bl.cell (p:=⟨nb3,no3+x*4,none⟩) hnb).trans f0
   have xI:(x:Int)<(G.T.nodes.length:Int):=by have:=(List.getElem?_eq_some_iff.1 HVX.out.at_).1;omega
   have xl:decide ((x:Int)<0)=false:=by simp
   have F3:=Hid.mk' f3
   have FK:Hid (Els 1 cInt G.w0 G.B0 sx xn.kids):=fkids
   clear f0 f3 fkids ef2;by_cases h26:xn.kind=26
   ·
    have t26:(xn.kind != 26)=false:=by simp[h26]
    obtain⟨y,yn,yb,hy0,hyx,hvy,_,_,_⟩:=HVX.out.kidAt HFX.out (j:=0) (c:=1) (by rw[h26];rfl)
    have hCB:Hid (j1x (Dg G) G.T G.T.nodes.length (G.T.tops.take k) K (t:Int)=if K1 y=n.num then .ok K1 else .error (4,(t:Int))):=by rw[hCA.out,if_pos h26,show kid xn 0=(y:Int) by simp[kid,hy0]];rfl
    obtain⟨gb,go,rfl,_,hgb,g0⟩:=j05 FK.out hy0
    rw[Nat.add_zero] at g0
    have P3:=Hid.mk' ((HL5.out.bl.cell (p:=⟨nb3,no3+x*4+3,none⟩) hnb).trans F3.out)
    have P4:=Hid.mk' ((HL5.out.bl.cell (p:=⟨gb,go,none⟩) hgb).trans g0)
    have hyN:y<G.T.nodes.length:=(List.getElem?_eq_some_iff.1 hvy.at_).1
    have P5:=Hid.mk' (HL5.out.kc y hyN)
    have k0I:(0:Int)<(xn.kids.length:Int):=by have:=(List.getElem?_eq_some_iff.1 hy0).1;omega
    have yI:(y:Int)<(G.T.nodes.length:Int):=by omega
    have Q3:=Hid.mk' x3
    have Q12:=Hid.mk' y12
    clear h26 g0 hy0 hvy;go_wp2_with fail;go_quiet (fail)
    rename_i nq
    have B6:Hid (Below w5.heap.size w5 (w5.drewN nq)):=j06 (Below.refl _ _) _
    have H6:=Hid.mk' (HL5.out.later B6.out)
    have HLt6:Hid (Lt G (w5.drewN nq) K1):=⟨_,_,_,_,_,_,_,H6.out.z⟩
    have T6:=Hid.mk' (T5.out.trans (Tw.of B6.out))
    have K56:=Hid.mk' (K55.out.later B6.out)
    have x3b:=(B6.out.cell (p:=⟨G.p,3,none⟩) HL5.out.bx.lt).trans Q3.out
    have x12b:=(B6.out.cell (p:=⟨G.p,12,none⟩) HL5.out.bx.lt).trans Q12.out
    have x15:(w5.drewN nq).cell? ⟨G.p,15,none⟩=some (.slice (some ⟨G.kb,0,none⟩) G.T.nodes.length G.dk):=(H6.out.bx.cell 15).trans rfl
    have hw5:G.w0.heap.size<=w5.heap.size:=HL5.out.bl.size
    have p3b:=(B6.out.cell (p:=⟨nb3,no3+x*4+3,none⟩) (Nat.lt_of_lt_of_le hnb hw5)).trans P3.out
    have p4b:=(B6.out.cell (p:=⟨gb,go,none⟩) (Nat.lt_of_lt_of_le hgb hw5)).trans P4.out
    have p5b:=(B6.out.cell (p:=⟨G.kb,y,none⟩) HL5.out.kl).trans P5.out
    generalize w5.drewN nq=Y at H6 HLt6 T6 K56 x3b x12b x15 p3b p4b p5b ⊢
    clear B6 x3 y11 y12 y13 p0;obtain⟨z0,z1,z2,z3,z4⟩:=Blk.four' K56.out
    go_wp2_with fail;by_cases hk1:K1 y=n.num
    ·
     have tk:(K1 y != n.num)=false:=by simp[hk1]
     have hEr:Hid (j1x (Dg G) G.T G.T.nodes.length (G.T.tops.take k) K (t:Int)=.ok K1):=by rw[hCB.out,if_pos hk1];rfl
     clear hk1;go_quiet (fail)
     go_wp2_with fail;refine bq (.tuple #[]) ?_
     obtain⟨tt,aa,bb,ss,cc,ff,ll,hz2⟩:=HLt6.out
     exact j53.good hEr.out ⟨tt,aa,bb,ss,cc,ff,ll,hz2.later (j06 (Below.refl _ _) _)⟩ (T6.out.trans (Tw.of (j06 (Below.refl _ _) _)))
    have tk:(K1 y != n.num)=true:=by simp[hk1]
    have hEr:Hid (j1x (Dg G) G.T G.T.nodes.length (G.T.tops.take k) K (t:Int)=.error (4,(t:Int))):=by rw[hCB.out,if_neg hk1];rfl
    clear hk1;go_quiet (fail)
    go_wp2_with fail;refine(j0f hG (H6.out.later (j06 (Below.refl _ _) _)) 4 (t:Int) (by omega)).mono ?_
    rintro e w6 ⟨rfl,hd,ht⟩
    go_wp2_with fail;refine bq (.tuple #[]) ?_
    exact j53.bad hEr.out hd (T6.out.trans ((Tw.of (j06 (Below.refl _ _) _)).trans ht))
   have t26:(xn.kind != 26)=true:=by simp[h26]
   have hEr:Hid (j1x (Dg G) G.T G.T.nodes.length (G.T.tops.take k) K (t:Int)=.error (5,(t:Int))):=by rw[hCA.out,if_neg h26];rfl
   clear h26;go_wp2_with fail;go_quiet (fail)
   rename_i nq
   go_wp2_with fail;refine(j0f hG (HL5.out.later (j06 (Below.refl _ _) nq)) 5 (t:Int) (by omega)).mono ?_
   rintro e w6 ⟨rfl,hd,ht⟩
   go_wp2_with fail;refine bq (.tuple #[]) ?_
   exact j53.bad hEr.out hd (T5.out.trans ((Tw.of (j06 (Below.refl _ _) nq)).trans ht))
end
end
section
open Go.RowKit
theorem jl3 {k:Int} (h:j1c 9 k):k=33\/k=34:=by
 unfold j1c at h
 simp only[show¬(9:Int)=10 by omega,if_false] at h
 have h:=h.1
 unfold cls at h
 repeat (split at h<;>try omega)
def LdW (G:Gd) (m:Nat) (w:World):Prop :=
 (∃K nj,Lt G w K/\FitL (j0e G.T) (okN G.T) (G.T.tops.take m) 0 nj/\j2o (Dg G) G.T G.T.nodes.length G.T.tops [] (λ_=>0)=j2o (Dg G) G.T G.T.nodes.length (G.T.tops.drop m) (G.T.tops.take m) K)\/∃c nq,Dd G w c nq/\j2o (Dg G) G.T G.T.nodes.length G.T.tops [] (λ_=>0)=.error (c,nq)
def jli (G:Gd) (w:World) (r:Ck KM):Prop :=
 match r with
 | .error (c,n)=>Dd G w c n
 | .ok K'=>Lt G w K'
theorem LdW.c13 {G:Gd} {m:Nat} {w:World} (h:LdW G m w):(w.cell? ⟨G.p,13,none⟩=some (.int .i64 0)/\∃K nj,Lt G w K/\FitL (j0e G.T) (okN G.T) (G.T.tops.take m) 0 nj/\j2o (Dg G) G.T G.T.nodes.length G.T.tops [] (λ_=>0)=j2o (Dg G) G.T G.T.nodes.length (G.T.tops.drop m) (G.T.tops.take m) K)\/∃c nq,¬c=0/\w.cell? ⟨G.p,13,none⟩=some (.int .i64 c)/\Dd G w c nq/\j2o (Dg G) G.T G.T.nodes.length G.T.tops [] (λ_=>0)=.error (c,nq):=by
 rcases h with ⟨K,nj,⟨top,a,b,sw,cw,fn,last,hz⟩,h2,h3⟩|⟨c,nq,hd,h2⟩
 ·
  exact Or.inl ⟨(hz.bx.cell 13).trans rfl,K,nj,⟨top,a,b,sw,cw,fn,last,hz⟩,h2,h3⟩
 exact Or.inr ⟨c,nq,hd.ne,hd.c13,hd,h2⟩
theorem Lt.later {G:Gd} {w w':World} {K:KM} (h:Lt G w K) (hb:Below w.heap.size w w'):Lt G w' K:=by
 obtain⟨top,a,b,sw,cw,fn,last,hz⟩:=h
 exact⟨top,a,b,sw,cw,fn,last,hz.later hb⟩
theorem Below.tw' {G:Gd} {W w w':World} (h:Below W.heap.size W w) (ht:Tw G.p G.kb w w') (hp:W.heap.size<=G.p) (hq:W.heap.size<=G.kb):Below W.heap.size W w':=ht.below h h.size hp hq
theorem jhj:(Tryz.prog.info? 3).map (λi=>(i.zero,i.size,i.bytes))=some (some (.int .i64 0),1,8):=by kernel_rfl
theorem jg4 (s1 s2 s3 n1 n2:Option Addr) (c1 c2 c3 d1 d2 B0:Nat) (A B C:List (ByteArray×Int)) (T:Tre) (w:World) (hA:j0y w s1 A) (hB:j0y w s2 B) (hC:j0y w s3 C) (hT:InT w B0 n1 n2 T) (hk:kTre T) (hok:okR A B C=true) (htr:treP T) :
  Calls Tryz.prog 20 #[.agg #[.slice s1 A.length c1,.slice s2 B.length c2,.slice s3 C.length c3],.agg #[.slice n1 T.nodes.length d1,.slice n2 T.tops.length d2]] w λe w'=>∃G:Gd,G.Ok/\e=.returned (.pointer (some ⟨G.p,0,none⟩))/\jli G w' (j2o (Dg G) G.T G.T.nodes.length G.T.tops [] (λ_=>0))/\Dg G=(λsort s=>dkL (j19 A B C sort) s)/\G.T=T/\Below w.heap.size w w':=by
 have bz:Below w.heap.size w ((w.alloc (.cells #[.slice s1 A.length c1,.slice s2 B.length c2,.slice s3 C.length c3] 35)).alloc (.cells #[.slice n1 T.nodes.length d1,.slice n2 T.tops.length d2] 39)):=j00 (j00 (Below.refl _ _) _) _
 have hsz:((w.alloc (.cells #[.slice s1 A.length c1,.slice s2 B.length c2,.slice s3 C.length c3] 35)).alloc (.cells #[.slice n1 T.nodes.length d1,.slice n2 T.tops.length d2] 39)).heap.size=w.heap.size+2:=by simp
 have hG:(⟨((w.alloc (.cells #[.slice s1 A.length c1,.slice s2 B.length c2,.slice s3 C.length c3] 35)).alloc (.cells #[.slice n1 T.nodes.length d1,.slice n2 T.tops.length d2] 39)),B0,w.heap.size+1+1+1,w.heap.size+1+1,s1,s2,s3,n1,n2,c1,c2,c3,d1,d2,T.nodes.length,A,B,C,T⟩:Gd).Ok:=⟨hA.later bz,hB.later bz,hC.later bz,hT.later bz,by show((w.alloc (.cells #[.slice s1 A.length c1,.slice s2 B.length c2,.slice s3 C.length c3] 35)).alloc (.cells #[.slice n1 T.nodes.length d1,.slice n2 T.tops.length d2] 39)).heap.size<=w.heap.size+1+1+1;rw[hsz];omega,by show((w.alloc (.cells #[.slice s1 A.length c1,.slice s2 B.length c2,.slice s3 C.length c3] 35)).alloc (.cells #[.slice n1 T.nodes.length d1,.slice n2 T.tops.length d2] 39)).heap.size<=w.heap.size+1+1;rw[hsz];omega,by show¬w.heap.size+1+1=w.heap.size+1+1+1;omega,hk,hok,htr⟩
 have hnl:T.nodes.length<=4000:=htr.1
 have htl:T.tops.length<=1048576:=hk.2
 have kr:=Blk.alloc (Blk.new w #[.slice s1 A.length c1,.slice s2 B.length c2,.slice s3 C.length c3] 35) (.cells #[.slice n1 T.nodes.length d1,.slice n2 T.tops.length d2] 39)
 have kt:=Blk.new' (n:=w.heap.size+1) (w.alloc (.cells #[.slice s1 A.length c1,.slice s2 B.length c2,.slice s3 C.length c3] 35)) #[.slice n1 T.nodes.length d1,.slice n2 T.tops.length d2] 39 (by simp)
 have R0:=Hid.mk' ((kr.cell 0).trans rfl:_=some (Value.slice s1 A.length c1))
 have R1:=Hid.mk' ((kr.cell 1).trans rfl:_=some (Value.slice s2 B.length c2))
 have R2:=Hid.mk' ((kr.cell 2).trans rfl:_=some (Value.slice s3 C.length c3))
 have T0:=Hid.mk' ((kt.cell 0).trans rfl:_=some (Value.slice n1 T.nodes.length d1))
 have T1:=Hid.mk' ((kt.cell 1).trans rfl:_=some (Value.slice n2 T.tops.length d2))
 have hk0:w.heap.size<((w.alloc (.cells #[.slice s1 A.length c1,.slice s2 B.length c2,.slice s3 C.length c3] 35)).alloc (.cells #[.slice n1 T.nodes.length d1,.slice n2 T.tops.length d2] 39)).heap.size:=by rw[hsz];omega
 have hk1:w.heap.size+1<((w.alloc (.cells #[.slice s1 A.length c1,.slice s2 B.length c2,.slice s3 C.length c3] 35)).alloc (.cells #[.slice n1 T.nodes.length d1,.slice n2 T.tops.length d2] 39)).heap.size:=by rw[hsz];omega
 have KT:=Hid.mk' kt
 have HG:=Hid.mk' hG
 have hG2:=Hid.mk' hG
 have BZ:=Hid.mk' bz
 have hmk:∀W,(Instr.makeSlice 26 (.int .i64 (T.nodes.length:Int)) (.int .i64 (T.nodes.length:Int))).run Tryz.prog W=.ok (.slice (some ⟨W.heap.size,0,none⟩) T.nodes.length T.nodes.length) (W.alloc (.cells (madeCells #[.int .i64 0] T.nodes.length) 3)):=λW=>run_make_row' (P:=Tryz.prog) 26 3 (.int .i64 0) 8 Tryz.underlying26 jhj rfl .i64 .i64 T.nodes.length (by omega) (by omega) W
 have hz1:Hid (∀ob:Obj,(λW=>Below ((w.alloc (.cells #[.slice s1 A.length c1,.slice s2 B.length c2,.slice s3 C.length c3] 35)).alloc (.cells #[.slice n1 T.nodes.length d1,.slice n2 T.tops.length d2] 39)).heap.size ((w.alloc (.cells #[.slice s1 A.length c1,.slice s2 B.length c2,.slice s3 C.length c3] 35)).alloc (.cells #[.slice n1 T.nodes.length d1,.slice n2 T.tops.length d2] 39)) W) ((((w.alloc (.cells #[.slice s1 A.length c1,.slice s2 B.length c2,.slice s3 C.length c3] 35)).alloc (.cells #[.slice n1 T.nodes.length d1,.slice n2 T.tops.length d2] 39)).alloc ob).drew)):=λob=>j02 (j00 (Below.refl _ _) _)
 have hz:Hid (∀ob ob2:Obj,(λW=>Below ((w.alloc (.cells #[.slice s1 A.length c1,.slice s2 B.length c2,.slice s3 C.length c3] 35)).alloc (.cells #[.slice n1 T.nodes.length d1,.slice n2 T.tops.length d2] 39)).heap.size ((w.alloc (.cells #[.slice s1 A.length c1,.slice s2 B.length c2,.slice s3 C.length c3] 35)).alloc (.cells #[.slice n1 T.nodes.length d1,.slice n2 T.tops.length d2] 39)) W) (((((w.alloc (.cells #[.slice s1 A.length c1,.slice s2 B.length c2,.slice s3 C.length c3] 35)).alloc (.cells #[.slice n1 T.nodes.length d1,.slice n2 T.tops.length d2] 39)).alloc ob).alloc ob2).drew)):=λob ob2=>j02 (j00 (j00 (Below.refl _ _) _) _)
 clear hA hB hC hT bz kr kt hG hsz;go_enter Tryz.func20,Tryz.ntmps20
 go_wp2_with fail;refine wp_region_held_drew (S:=(λW=>Below ((w.alloc (.cells #[.slice s1 A.length c1,.slice s2 B.length c2,.slice s3 C.length c3] 35)).alloc (.cells #[.slice n1 T.nodes.length d1,.slice n2 T.tops.length d2] 39)).heap.size ((w.alloc (.cells #[.slice s1 A.length c1,.slice s2 B.length c2,.slice s3 C.length c3] 35)).alloc (.cells #[.slice n1 T.nodes.length d1,.slice n2 T.tops.length d2] 39)) W)) (by kernel_rfl) ?_ (λhHeld=>?_)
 ·
  exact j02 (Below.refl _ _)
 refine wpq (v:=?_) 0 7 rfl rfl ?_ ?_
 rotate_left 1
 ·
  intro w hSw;(try dsimp only at hSw);have x0:=lowc hSw R0.out hk0;have x1:=lowc hSw R1.out hk0;have x2:=lowc hSw R2.out hk0;go_simp<;>with_reducible rfl
 simp only[zs];refine wpq (v:=?_) 1 8 rfl rfl ?_ ?_
 rotate_left 1
 ·
  intro w hSw;(try dsimp only at hSw);have x0:=lowc hSw T0.out hk1;have x1:=lowc hSw T1.out hk1;go_simp<;>with_reducible rfl
 simp only[zs];refine wpr 2 9 ?_;simp only[zs];refine wpq (v:=?_) 3 10 rfl rfl ?_ ?_
 rotate_left 1
 ·
  intro w hSw;(try dsimp only at hSw);have x0:=lowc hSw T0.out hk1;go_simp<;>with_reducible rfl
 simp only[zs];refine wpr 4 11 ?_;simp only[zs];refine wpy 5 λK hK=>?_
 go_simp;refine hK.out _ _ ?_ (λhHeld=>?_)
 ·
  exact hz1.out _
 clear hK K;try simp only[zs]
 refine wpr 6 13 ?_;simp only[zs];refine wpy 7 λK hK=>?_
 go_simp;refine hK.out _ _ ?_ (λhHeld=>?_)
 ·
  exact hz.out _ _
 clear hK K;try simp only[zs]
 refine wpr 8 5 ?_;simp only[zs];refine wpAnyH_done (by kernel_rfl) ?_ _
 have KW:Hid (Blk (((((w.alloc (.cells #[.slice s1 A.length c1,.slice s2 B.length c2,.slice s3 C.length c3] 35)).alloc (.cells #[.slice n1 T.nodes.length d1,.slice n2 T.tops.length d2] 39)).alloc (.cells (madeCells #[.int .i64 0] T.nodes.length) 3)).alloc (.cells #[.slice s1 A.length c1,.slice s2 B.length c2,.slice s3 C.length c3,.slice n1 T.nodes.length d1,.slice n2 T.tops.length d2,.int .i64 0,.slice none 0 0,.slice none 0 0,.bool false,.bool false,.slice none 0 0,.bool false,.int .i64 0,.int .i64 0,.int .i64 (-1),.slice (some ⟨w.heap.size+1+1,0,none⟩) T.nodes.length T.nodes.length] 55)).drew) (w.heap.size+1+1+1) (lz (⟨((w.alloc (.cells #[.slice s1 A.length c1,.slice s2 B.length c2,.slice s3 C.length c3] 35)).alloc (.cells #[.slice n1 T.nodes.length d1,.slice n2 T.tops.length d2] 39)),B0,w.heap.size+1+1+1,w.heap.size+1+1,s1,s2,s3,n1,n2,c1,c2,c3,d1,d2,T.nodes.length,A,B,C,T⟩:Gd) 0 (.slice none 0 0) (.slice none 0 0) (.bool false) (.bool false) (.slice none 0 0) false 0) 55):=Blk.new' (n:=w.heap.size+1+1+1) (((w.alloc (.cells #[.slice s1 A.length c1,.slice s2 B.length c2,.slice s3 C.length c3] 35)).alloc (.cells #[.slice n1 T.nodes.length d1,.slice n2 T.tops.length d2] 39)).alloc (.cells (madeCells #[.int .i64 0] T.nodes.length) 3)) #[.slice s1 A.length c1,.slice s2 B.length c2,.slice s3 C.length c3,.slice n1 T.nodes.length d1,.slice n2 T.tops.length d2,.int .i64 0,.slice none 0 0,.slice none 0 0,.bool false,.bool false,.slice none 0 0,.bool false,.int .i64 0,.int .i64 0,.int .i64 (-1),.slice (some ⟨w.heap.size+1+1,0,none⟩) T.nodes.length T.nodes.length] 55 (by simp)
 have KB:Hid (Blk (((((w.alloc (.cells #[.slice s1 A.length c1,.slice s2 B.length c2,.slice s3 C.length c3] 35)).alloc (.cells #[.slice n1 T.nodes.length d1,.slice n2 T.tops.length d2] 39)).alloc (.cells (madeCells #[.int .i64 0] T.nodes.length) 3)).alloc (.cells #[.slice s1 A.length c1,.slice s2 B.length c2,.slice s3 C.length c3,.slice n1 T.nodes.length d1,.slice n2 T.tops.length d2,.int .i64 0,.slice none 0 0,.slice none 0 0,.bool false,.bool false,.slice none 0 0,.bool false,.int .i64 0,.int .i64 0,.int .i64 (-1),.slice (some ⟨w.heap.size+1+1,0,none⟩) T.nodes.length T.nodes.length] 55)).drew) (w.heap.size+1+1) (madeCells #[.int .i64 0] T.nodes.length) 3):=Blk.alloc (Blk.new' (n:=w.heap.size+1+1) ((w.alloc (.cells #[.slice s1 A.length c1,.slice s2 B.length c2,.slice s3 C.length c3] 35)).alloc (.cells #[.slice n1 T.nodes.length d1,.slice n2 T.tops.length d2] 39)) (madeCells #[.int .i64 0] T.nodes.length) 3 (by simp)) (.cells #[.slice s1 A.length c1,.slice s2 B.length c2,.slice s3 C.length c3,.slice n1 T.nodes.length d1,.slice n2 T.tops.length d2,.int .i64 0,.slice none 0 0,.slice none 0 0,.bool false,.bool false,.slice none 0 0,.bool false,.int .i64 0,.int .i64 0,.int .i64 (-1),.slice (some ⟨w.heap.size+1+1,0,none⟩) T.nodes.length T.nodes.length] 55)
 have HZ0:Hid (Lz (⟨((w.alloc (.cells #[.slice s1 A.length c1,.slice s2 B.length c2,.slice s3 C.length c3] 35)).alloc (.cells #[.slice n1 T.nodes.length d1,.slice n2 T.tops.length d2] 39)),B0,w.heap.size+1+1+1,w.heap.size+1+1,s1,s2,s3,n1,n2,c1,c2,c3,d1,d2,T.nodes.length,A,B,C,T⟩:Gd) (((((w.alloc (.cells #[.slice s1 A.length c1,.slice s2 B.length c2,.slice s3 C.length c3] 35)).alloc (.cells #[.slice n1 T.nodes.length d1,.slice n2 T.tops.length d2] 39)).alloc (.cells (madeCells #[.int .i64 0] T.nodes.length) 3)).alloc (.cells #[.slice s1 A.length c1,.slice s2 B.length c2,.slice s3 C.length c3,.slice n1 T.nodes.length d1,.slice n2 T.tops.length d2,.int .i64 0,.slice none 0 0,.slice none 0 0,.bool false,.bool false,.slice none 0 0,.bool false,.int .i64 0,.int .i64 0,.int .i64 (-1),.slice (some ⟨w.heap.size+1+1,0,none⟩) T.nodes.length T.nodes.length] 55)).drew) 0 (.slice none 0 0) (.slice none 0 0) (.bool false) (.bool false) (.slice none 0 0) false 0 (λ_=>0)):=⟨KW.out,KB.out.lt,λj hj=>(KB.out.cell j).trans (by have hj:j<T.nodes.length:=hj;simp[madeCells,hj,Nat.mod_one]),λj=>KB.out.frozen j,hHeld⟩
 have BX:Hid (Below ((w.alloc (.cells #[.slice s1 A.length c1,.slice s2 B.length c2,.slice s3 C.length c3] 35)).alloc (.cells #[.slice n1 T.nodes.length d1,.slice n2 T.tops.length d2] 39)).heap.size ((w.alloc (.cells #[.slice s1 A.length c1,.slice s2 B.length c2,.slice s3 C.length c3] 35)).alloc (.cells #[.slice n1 T.nodes.length d1,.slice n2 T.tops.length d2] 39)) (((((w.alloc (.cells #[.slice s1 A.length c1,.slice s2 B.length c2,.slice s3 C.length c3] 35)).alloc (.cells #[.slice n1 T.nodes.length d1,.slice n2 T.tops.length d2] 39)).alloc (.cells (madeCells #[.int .i64 0] T.nodes.length) 3)).alloc (.cells #[.slice s1 A.length c1,.slice s2 B.length c2,.slice s3 C.length c3,.slice n1 T.nodes.length d1,.slice n2 T.tops.length d2,.int .i64 0,.slice none 0 0,.slice none 0 0,.bool false,.bool false,.slice none 0 0,.bool false,.int .i64 0,.int .i64 0,.int .i64 (-1),.slice (some ⟨w.heap.size+1+1,0,none⟩) T.nodes.length T.nodes.length] 55)).drew)):=hHeld
 obtain⟨X,hX⟩:∃X,((((w.alloc (.cells #[.slice s1 A.length c1,.slice s2 B.length c2,.slice s3 C.length c3] 35)).alloc (.cells #[.slice n1 T.nodes.length d1,.slice n2 T.tops.length d2] 39)).alloc (.cells (madeCells #[.int .i64 0] T.nodes.length) 3)).alloc (.cells #[.slice s1 A.length c1,.slice s2 B.length c2,.slice s3 C.length c3,.slice n1 T.nodes.length d1,.slice n2 T.tops.length d2,.int .i64 0,.slice none 0 0,.slice none 0 0,.bool false,.bool false,.slice none 0 0,.bool false,.int .i64 0,.int .i64 0,.int .i64 (-1),.slice (some ⟨w.heap.size+1+1,0,none⟩) T.nodes.length T.nodes.length] 55)).drew=X:=⟨_,rfl⟩
 rw[hX] at HZ0 BX ⊢
 obtain⟨G,eG⟩:∃G:Gd,(⟨((w.alloc (.cells #[.slice s1 A.length c1,.slice s2 B.length c2,.slice s3 C.length c3] 35)).alloc (.cells #[.slice n1 T.nodes.length d1,.slice n2 T.tops.length d2] 39)),B0,w.heap.size+1+1+1,w.heap.size+1+1,s1,s2,s3,n1,n2,c1,c2,c3,d1,d2,T.nodes.length,A,B,C,T⟩:Gd)=G:=⟨_,rfl⟩
 rw[eG] at HZ0 HG
 have eP:w.heap.size+1+1+1=G.p:=by rw[<-eG]
 have eT:T=G.T:=by rw[<-eG]
 have HD:Hid (Dg G=λsort s=>dkL (j19 A B C sort) s):=by rw[<-eG];rfl
 obtain⟨W,eW⟩:∃W,((w.alloc (.cells #[.slice s1 A.length c1,.slice s2 B.length c2,.slice s3 C.length c3] 35)).alloc (.cells #[.slice n1 T.nodes.length d1,.slice n2 T.tops.length d2] 39))=W:=⟨_,rfl⟩
 rw[eW] at T1 BX BZ hk1
 have HWP:Hid (W.heap.size<=G.p/\W.heap.size<=G.kb):=by rw[<-eW,<-eG];exact⟨hG2.out.p,hG2.out.kb⟩
 rw[eP]
 clear hz hz1 hHeld KW KB hX eG R0 R1 R2 T0 KT hmk hk0 eW eP hG2;subst eT
 go_wp2_with fail;go_loopw [6] (λkv wr=>∃m:Nat,m<=G.T.tops.length/\kv=.int .i64 m/\Hid (LdW G m wr)/\Hid (Below W.heap.size W wr)) (λkv _=>G.T.tops.length-(intOf kv).toNat)
 case atStart=>exact⟨0,Nat.zero_le _,rfl,Or.inl ⟨λ_=>0,0,⟨_,_,_,_,_,_,_,HZ0.out⟩,by rw[List.take_zero];exact FitL.nil 0,by rw[List.take_zero,List.drop_zero]⟩,BX⟩
 clear HZ0 BX;obtain⟨m,hm,rfl,HL,HBW⟩:=hrel
 have x1:=lowc HBW.out T1.out hk1
 by_cases hlt:m<G.T.tops.length
 ·
  have t0:decide ((m:Int)<(G.T.tops.length:Int))=true:=by simp;omega
  rcases HL.out.c13 with ⟨y13,K,nj,hLt,hF,hR⟩|⟨c,nq,hc,y13,hd,hR⟩
  ·
   obtain⟨x,hx⟩:=j0q (L:=G.T.tops) (k:=m) hlt
   obtain⟨t,rfl,hN⟩:=jb9 hx hF HG.out.tr
   have hN2:=hN
   obtain⟨n,hn,hc9,hnj,hok2,hfit⟩:=hN2
   have hF2:=jbb hx hF hN
   have HTA:=Hid.mk' (show∀W',Lt G W' K->_ from λW' (hh:Lt G W' K)=>by obtain⟨top,a,b,sw,cw,fn,last,hz⟩:=hh;exact jiz HG.out hx ⟨hn,hok2,nj,hfit⟩ hfit (jl3 hc9) hz)
   have HLt:=Hid.mk' hLt
   have HR:=Hid.mk' hR
   have hdr:Hid (G.T.tops.drop m=(t:Int) :: G.T.tops.drop (m+1)):=by
    show _=_
    rw[List.drop_eq_getElem_cons hlt]
    congr 1
    exact(List.getElem?_eq_some_iff.1 hx).2
   have htk:Hid (G.T.tops.take (m+1)=G.T.tops.take m++[(t:Int)]):=by show _=_;rw[List.take_add_one,hx];rfl
   have HF2:Hid (FitL (j0e G.T) (okN G.T) (G.T.tops.take (m+1)) 0 (t+1)):=hF2
   clear hx hN hn hc9 hok2 hfit hF2 hLt hR hF;go_wp2_with fail;refine(HTA.out _ HLt.out).mono ?_
   rintro e w5 hS5
   have hL5:Hid (LdW G (m+1) w5):=by
    obtain⟨⟨_,hm5⟩,_⟩:=hS5
    cases hr:j1x (Dg G) G.T G.T.nodes.length (G.T.tops.take m) K (t:Int) with
    | error q =>
     obtain⟨c,nq⟩:=q
     rw[hr] at hm5
     exact Or.inr ⟨c,nq,hm5,by rw[HR.out,hdr.out];simp[j2o,hr]⟩
    | ok K2 =>
     rw[hr] at hm5
     exact Or.inl ⟨K2,t+1,hm5,HF2.out,by rw[HR.out,hdr.out,htk.out];simp[j2o,hr]⟩
   have B5:Hid (Below W.heap.size W w5):=Below.tw' HBW.out hS5.2 HWP.out.1 HWP.out.2
   obtain⟨⟨rfl,_⟩,_⟩:=hS5
   clear x1 y13 HL HBW;go_wp2_with fail;go_roundw
   case rel=>exact⟨m+1,by omega,by go_num,hL5,B5⟩
   case measure=>simp[intOf];omega
  have tc:(c ==0)=false:=by simp[hc]
  clear hc;go_wp2_with fail;go_ret;exact⟨G,HG.out,rfl,by rw[hR];exact hd,HD.out,rfl,BZ.out.trans (HBW.out.mono BZ.out.size)⟩
 have hmm:m=G.T.tops.length:=by omega
 subst hmm
 have t0:decide ((G.T.tops.length:Int)<(G.T.tops.length:Int))=false:=by simp
 go_wp2_with fail;go_ret;refine⟨G,HG.out,rfl,?_,HD.out,rfl,BZ.out.trans (HBW.out.mono BZ.out.size)⟩
 rcases HL.out with ⟨K,nj,hLt,_,hR⟩|⟨c,nq,hd,hR⟩
 ·
  rw[hR,List.drop_length];exact hLt
 rw[hR];exact hd
def chkA (A B C:List (ByteArray×Int)) (T:Tre):Ck KM:=j2o (λsort s=>dkL (j19 A B C sort) s) T T.nodes.length T.tops [] (λ_=>0)
end
end Go.Proofs.YtjbbagcpcepkoaaGreatDoor
