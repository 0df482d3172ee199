import Derived.Test.YtjbbagcpcepkoaaGreatDoorSf17
namespace Go.Proofs.YtjbbagcpcepkoaaGreatDoor
set_option maxRecDepth 100000
set_option maxHeartbeats 64000000
set_option linter.unusedVariables false
set_option linter.unusedSimpArgs false
section
open Go.RowKit Go.Maps Go.WideMaps
theorem jeu (fn:Fn) (first cap:Array Value) (w:World):(Instr.makeFunc fn first cap).run Tryz.prog w=.ok (.func fn first cap) w:=rfl
structure j56 (w w':World) (v:Value) (km mb ko:Nat):Prop where
 k1:Blk w' km #[.map (some mb)] 91
 k2:QM w' mb 0 (λ_=>none)
 k3:Blk w' ko #[v] 134
 o1:w.heap.size<=km
 o2:w.heap.size<=mb
 o3:w.heap.size<=ko
 bl:Below w.heap.size w w'
theorem j6k (a:Addr) (fn:Fn) (x y:Array Value) (m:Mode) (W:World):(store a (.func fn x y) m).run Tryz.prog W=stored Tryz.prog W a (.func fn x y) m:=run_store Tryz.prog W a _ m rfl
theorem j5c (fn:Fn) (cap:Array Value) (v:Value) (hv:v=.func fn #[] cap) (w:World) :
  Calls Tryz.prog 65 #[v] w λe w'=>∃km mb ko,e=.returned (.agg #[addF km,j09 km ko])/\j56 w w' v km mb ko:=by
 have hmf:=jeu
 have hmm:=j6i
 have hst:=j6k
 have k1:Blk ((((w.alloc (.cells #[v] 134)).alloc (.cells #[addF (w.heap.size+1+1+1),j09 (w.heap.size+1+1+1) w.heap.size] 136)).alloc (.map #[] 0)).alloc (.cells #[.map (some (w.heap.size+1+1))] 91)) (w.heap.size+1) #[addF (w.heap.size+1+1+1),j09 (w.heap.size+1+1+1) w.heap.size] 136:=((Blk.new' (n:=w.heap.size+1) (w.alloc (.cells #[v] 134)) #[addF (w.heap.size+1+1+1),j09 (w.heap.size+1+1+1) w.heap.size] 136 (by simp)).later (j00 (j00 (Below.refl _ _) _) _))
 have z0:_=some (addF (w.heap.size+1+1+1)):=(k1.cell 0).trans rfl
 have z1:_=some (j09 (w.heap.size+1+1+1) w.heap.size):=(k1.cell 1).trans rfl
 have HN:Hid (j56 w ((((w.alloc (.cells #[v] 134)).alloc (.cells #[addF (w.heap.size+1+1+1),j09 (w.heap.size+1+1+1) w.heap.size] 136)).alloc (.map #[] 0)).alloc (.cells #[.map (some (w.heap.size+1+1))] 91)) v (w.heap.size+1+1+1) (w.heap.size+1+1) w.heap.size):=by
  refine⟨Blk.new' _ _ _ (by simp),?_,(Blk.new w #[v] 134).later (j00 (j00 (j00 (Below.refl _ _) _) _) _),by omega,by omega,Nat.le_refl _,j00 (j00 (j00 (j00 (Below.refl _ _) _) _) _) _⟩
  have h:=(QM.made ((w.alloc (.cells #[v] 134)).alloc (.cells #[addF (w.heap.size+1+1+1),j09 (w.heap.size+1+1+1) w.heap.size] 136))).later (j00 (Below.refl _ _) (.cells #[.map (some (w.heap.size+1+1))] 91))
  have e:((w.alloc (.cells #[v] 134)).alloc (.cells #[addF (w.heap.size+1+1+1),j09 (w.heap.size+1+1+1) w.heap.size] 136)).heap.size=w.heap.size+1+1:=by simp
  rw[e] at h
  exact h
 subst hv
 clear k1;go_enter Tryz.func65,Tryz.ntmps65
 go_wp2_with fail;refine bodyPost_ret (v:=.agg #[addF (w.heap.size+1+1+1),j09 (w.heap.size+1+1+1) w.heap.size]) (by simp[results,Tryz.results65,go_sem,z0,z1]) rfl ?_
 exact⟨_,_,_,rfl,HN.out⟩
end
section
open Go.RowKit
theorem j5m (k:Int) (w:World) :
  Calls Tryz.prog 58 #[.int .i64 k] w λe w'=>e=.returned (.bool (decide (1<=k)&&decide (k<=4)))/\w'=w:=by
 by_cases h1:1<=k
 ·
  have E:Hid (decide (k<=4)=(decide (1<=k)&&decide (k<=4))):=by simp[Hid,h1]
  go_enter Tryz.func58,Tryz.ntmps58
  go_wp2
  go_ret;exact⟨j17 E.out,rfl⟩
 have E:Hid (false=(decide (1<=k)&&decide (k<=4))):=by simp[Hid,h1]
 go_enter Tryz.func58,Tryz.ntmps58
 go_wp2
 go_ret;exact⟨j17 E.out,rfl⟩
end
section
open Go.RowKit Go.Maps Go.WideMaps
def offT (A B C:List (ByteArray×Int)) (t:Nat):Nat:=if t<=1 then 0 else if t=2 then A.length else if t=3 then A.length+B.length else A.length+B.length+C.length
def plAt (A B C:List (ByteArray×Int)) (i:Nat):Pl :=
 ⟨(dAt (A++B++C) i).1,(dAt (A++B++C) i).2,if i<A.length then 1 else if i<A.length+B.length then 2 else 3,if i<A.length then (i:Int) else if i<A.length+B.length then (i:Int)-A.length else (i:Int)-(A.length+B.length)⟩
def plTo (A B C:List (ByteArray×Int)) (i:Nat):List Pl:=(List.range i).map (plAt A B C)
theorem jec (A B C:List (ByteArray×Int)) (i:Nat):plTo A B C (i+1)=plTo A B C i++[plAt A B C i]:=by simp[plTo,List.range_succ]
theorem jde {t:Nat} (h1:1<=t) (h2:t<=3):t=1\/t=2\/t=3:=by omega
theorem jbc {L M:List (ByteArray×Int)} {k:Nat} (h:k<L.length):dAt (L++M) k=dAt L k:=by
 unfold dAt;rw[List.getElem?_append_left h]
theorem j9f {L M:List (ByteArray×Int)} (k:Nat):dAt (L++M) (L.length+k)=dAt M k:=by
 unfold dAt;rw[List.getElem?_append_right (by omega)];congr 2;congr 1;omega
theorem jgf (A B C:List (ByteArray×Int)) {t:Nat} (h1:1<=t) (h2:t<=3):offT A B C (t+1)=offT A B C t+(j19 A B C (t:Int)).length:=by
 rcases jde h1 h2 with rfl|rfl|rfl<;>simp[offT,j19]
theorem j61 (A B C:List (ByteArray×Int)) {t k:Nat} (h1:1<=t) (h2:t<=3) (hk:k<(j19 A B C (t:Int)).length):offT A B C t+k<(A++B++C).length:=by
 rcases jde h1 h2 with rfl|rfl|rfl<;>simp[offT,j19] at hk ⊢ <;> omega
theorem j3x (A B C:List (ByteArray×Int)) {t k:Nat} (h1:1<=t) (h2:t<=3) (hk:k<(j19 A B C (t:Int)).length):dAt (A++B++C) (offT A B C t+k)=dAt (j19 A B C (t:Int)) k:=by
 rcases jde h1 h2 with rfl|rfl|rfl<;>simp[offT,j19] at hk ⊢
 ·
  exact jbc hk
 ·
  rw[<-List.append_assoc,jbc (by simp;omega),j9f]
 rw[<-List.append_assoc,show A.length+B.length+k=(A++B).length+k by simp,j9f]
theorem j6f (A B C:List (ByteArray×Int)) {t k:Nat} (h1:1<=t) (h2:t<=3) (hk:k<(j19 A B C (t:Int)).length):plAt A B C (offT A B C t+k)=⟨(dAt (j19 A B C (t:Int)) k).1,(dAt (j19 A B C (t:Int)) k).2,t,k⟩:=by
 have e:=j3x A B C h1 h2 hk
 unfold plAt
 rw[e]
 rcases jde h1 h2 with rfl|rfl|rfl<;>simp[offT,j19] at hk ⊢ <;> (try omega)
theorem j55 (A B C:List (ByteArray×Int)) (i:Nat) (s:ByteArray):(plTo A B C i).any (λp=>decide (p.n=s))=true ↔∃j,j<i/\(dAt (A++B++C) j).1=s:=by
 simp[plTo,plAt]
theorem j0y.kept {w w':World} {b o m:Nat} {L:List (ByteArray×Int)} (h:j0y w (some ⟨b,o,none⟩) L) (hg:w.grownBy w' (some m)) (hm:¬b=m):j0y w' (some ⟨b,o,none⟩) L:=by
 rcases h with h0|⟨b',o',e,h1,h2⟩
 ·
  exact Or.inl h0
 simp only[Option.some.injEq,Addr.mk.injEq,and_true] at e
 obtain⟨rfl,rfl⟩:=e
 refine Or.inr ⟨b,o,rfl,Nat.lt_of_lt_of_le h1 hg.size,λj hj=>?_⟩
 exact⟨hg.cell (h2 j hj).1 (by simp;exact hm),hg.cell (h2 j hj).2 (by simp;exact hm)⟩
def Pl.zero:Pl:=⟨ByteArray.empty,0,0,0⟩
theorem jbf:∀(l:List Pl) (D:DataW Value) (k:ByteArray),IsMap D->(∃q:Pl,D.atKey (wkey k) (.held Pl.zero.val)=.held q.val)->∃q:Pl,(j3e l D).atKey (wkey k) (.held Pl.zero.val)=.held q.val
 | [],D,k,h,hq=>hq
 | p :: r,D,k,h,hq=>by
  rw[j3e]
  refine jbf r _ k (h.put _ _) ?_
  by_cases e:k=p.n
  ·
   exact⟨p,by rw[e];exact atKey_put_same h (by trivial) _ _⟩
  obtain⟨q,hq⟩:=hq
  exact⟨q,by rw[atKey_put_other (λe'=>e (j5k e'))];exact hq⟩
theorem jb6 {w:World} {b n:Nat} {l:List Pl} (h:w.ownsMap Tryz.prog 9 j2r b n (j3e l (.map []))) (s:ByteArray) (hs:s.size<=maxLen) :
  ∃q:Pl,(Instr.lookup 87 (.map (some b)) (.string s) true).run Tryz.prog w=.ok (.tuple #[.agg #[.string q.n,.int .i64 q.k,.int .i64 q.s,.int .i64 q.a],.bool (l.any (λp=>decide (p.n=s)))]) w/\.held q.val=(j3e l (.map [])).atKey (wkey s) (.held Pl.zero.val):=by
 obtain⟨v,hrun,hv⟩:=jjh h s hs
 obtain⟨q,hq⟩:=jbf l (.map []) s isMap_empty ⟨Pl.zero,rfl⟩
 have e:v=q.val:=by
  have:DataW.held v=DataW.held q.val:=hv.trans hq
  injection this
 subst e
 exact⟨q,hrun,hq.symm⟩
theorem j74 (s1 s2 s3:Option Addr) (c1 c2 c3:Nat) (A B C:List (ByteArray×Int)) (w:World) (hA:j0y w s1 A) (hB:j0y w s2 B) (hC:j0y w s3 C) (nm:∀i,i<(A++B++C).length->(dAt (A++B++C) i).1.size<=maxLen) (l1:A.length<=1048576) (l2:B.length<=1048576) (l3:C.length<=1048576) :
  Calls Tryz.prog 38 #[.agg #[.slice s1 A.length c1,.slice s2 B.length c2,.slice s3 C.length c3]] w λe w' =>
   (okR A B C=false->e=.returned (.tuple #[.map none,.bool false]))/\(okR A B C=true->∃b n,e=.returned (.tuple #[.map (some b),.bool true])/\w'.ownsMap Tryz.prog 9 j2r b n (j3e (plTo A B C (A++B++C).length) (.map [])))/\Below w.heap.size w w':=by
 have hal:=alloc_old
 have haf:=j04
 have hmm:=@run_makeMap Tryz.prog
 have k0:=Blk.new w #[.slice s1 A.length c1,.slice s2 B.length c2,.slice s3 C.length c3] 35
 go_enter Tryz.func38,Tryz.ntmps38
 go_wp2_with fail;refine(j7a _).mono ?_
 rintro e w1 ⟨rfl,hw1,hb1⟩
 have K1:=k0.later hb1
 have L1:Below w.heap.size w w1:=blq
 obtain⟨bw,hbw⟩:∃b,(w.alloc (.cells #[.slice s1 A.length c1,.slice s2 B.length c2,.slice s3 C.length c3] 35)).heap.size=b:=⟨_,rfl⟩
 rw[hbw] at hw1 ⊢
 have hbw':w.heap.size+1=bw:=by rw[<-hbw];simp
 clear hbw hb1 k0;have K2:=K1.alloc (.map #[] 0)
 have W2:=hw1.alloc (.map #[] 0)
 have L2:=j00 L1 (.map #[] 0)
 have M2:=World.ownsMap_made w1 Tryz.prog 9 j2r
 have hbn:w.heap.size<=w1.heap.size:=L1.size
 have hbn2:bw<w1.heap.size:=hw1.lt
 go_wp2_with fail;obtain⟨bn,hbn0⟩:∃b,b=w1.heap.size:=⟨_,rfl⟩
 rw[<-hbn0] at M2 hbn hbn2 ⊢
 generalize hX:w1.alloc (.map #[] 0)=X at K2 W2 L2 M2 ⊢
 clear hX hw1 L1 K1 hbn0;have hL4:Hid (offT A B C 4=(A++B++C).length):=by simp[Hid,offT];omega
 go_loopw [6] (λsv wr=>∃t:Nat,1<=t/\t<=4/\sv=.int .i64 t/\Hid (∀u:Nat,1<=u->u<t->(j19 A B C (u:Int)).length<=12)/\Hid (∀i,i<offT A B C t->j3s (A++B++C) i)/\Blk wr w.heap.size #[.slice s1 A.length c1,.slice s2 B.length c2,.slice s3 C.length c3] 35/\wr.ownsMap Tryz.prog 9 (unitElem (H:=Unit)) bw 32 (j30 words (.map []))/\wr.ownsMap Tryz.prog 9 j2r bn (offT A B C t) (j3e (plTo A B C (offT A B C t)) (.map []))/\Below w.heap.size w wr) (λsv _=>4-(intOf sv).toNat)
 case atStart=>exact⟨1,by omega,by omega,rfl,λu h1 h2=>absurd h1 (by omega),λi hi=>absurd hi (by simp[offT]),K2,W2,M2,L2⟩
 clear K2 W2 L2 M2;obtain⟨t,t1,t4,rfl,hlens,hall,K,Wd,Nm,Lb⟩:=hrel
 have hO48:offT A B C t<=3145728:=by unfold offT;split;omega;split;omega;split<;>omega
 by_cases t3:t<=3
 ·
  have hltI:(t:Int)<=3:=by omega
  obtain⟨x0,x1,x2,x3⟩:=K.three
  go_wp2_with fail;refine(jb5 s1 s2 s3 c1 c2 c3 A B C t _ (hA.later Lb) (hB.later Lb) (hC.later Lb)).mono ?_
  rintro e w2 ⟨⟨s,c,rfl,hd⟩,hb2⟩
  have hd:=hd.later hb2
  have K:=K.later hb2
  have Wd:=Wd.kept (j1a hb2) (by simp)
  have Nm:=Nm.kept (j1a hb2) (by simp)
  have Lb:=j01 Lb hb2
  clear x0 x1 x2 x3 hb2;obtain⟨P,hP⟩:∃P,Hid (j19 A B C (t:Int)=P):=⟨_,rfl⟩
  have hoff:Hid (∀k,k<P.length->offT A B C t+k<(A++B++C).length/\dAt (A++B++C) (offT A B C t+k)=dAt P k/\plAt A B C (offT A B C t+k)=⟨(dAt P k).1,(dAt P k).2,t,k⟩):=by
   intro k hk
   rw[<-hP.out] at hk ⊢
   exact⟨j61 A B C t1 t3 hk,j3x A B C t1 t3 hk,j6f A B C t1 t3 hk⟩
  have hnext:Hid (offT A B C (t+1)=offT A B C t+P.length):=by rw[<-hP.out];exact jgf A B C t1 t3
  rw[hP.out] at hd ⊢
  by_cases hl12:P.length<=12
  ·
   have u1:decide ((12:Int)<(P.length:Int))=false:=by simp;omega
   go_wp2_with fail;clear u1;obtain⟨O,hO⟩:∃O,Hid (offT A B C t=O):=⟨_,rfl⟩
   rw[hO.out] at Nm hall hoff hnext hO48
   go_loopw [29] (λi wy=>∃k:Nat,k<=P.length/\i=.int .i64 k/\Hid (∀i,i<O+k->j3s (A++B++C) i)/\Blk wy w.heap.size #[.slice s1 A.length c1,.slice s2 B.length c2,.slice s3 C.length c3] 35/\wy.ownsMap Tryz.prog 9 (unitElem (H:=Unit)) bw 32 (j30 words (.map []))/\wy.ownsMap Tryz.prog 9 j2r bn (O+k) (j3e (plTo A B C (O+k)) (.map []))/\j0y wy s P/\Below w.heap.size w wy) (λi _=>P.length-(intOf i).toNat)
   case atStart=>exact⟨0,Nat.zero_le _,rfl,hall,K,Wd,Nm,hd,Lb⟩
   clear hall K Wd Nm hd Lb;obtain⟨k,hk,rfl,hall,K,Wd,Nm,hd,Lb⟩:=hrel
   by_cases hlt:k<P.length
   ·
    obtain⟨b,o,rfl,hp,e1,e2⟩:=hd.get hlt
    obtain⟨f1,f2,f3⟩:=hoff.out k hlt
    have hsz:=nm _ f1
    rw[f2] at hsz
    obtain⟨p,hp0⟩:∃p,Hid (dAt P k=p):=⟨_,rfl⟩
    rw[hp0.out] at e1 e2 hsz
    obtain⟨p1,p2⟩:=p
    have F3:Hid (plAt A B C (O+k)=⟨p1,p2,t,k⟩):=by rw[hp0.out] at f3;exact f3
    have F2:Hid (dAt (A++B++C) (O+k)=(p1,p2)):=by rw[hp0.out] at f2;exact f2
    have F1:Hid (O+k<(A++B++C).length):=f1
    clear f1 f2 f3;have hbad:Hid (¬j3s (A++B++C) (O+k)->okR A B C=false):=by
     intro h
     have h9:okL (A++B++C)=false:=decide_eq_false (λh'=>h (h' _ F1.out))
     unfold okR
     rw[h9,Bool.and_false]
    have hlk:=j9b ((Wd.alloc (.cells #[.string p1,.int .i64 p2] 80)).alloc (.cells #[.string p1,.int .i64 p2,.int .i64 (t:Int),.int .i64 (k:Int)] 124)) p1 hsz
    obtain⟨q,hln,-⟩:=jb6 (((Nm.alloc (.cells #[.string p1,.int .i64 p2] 80)).alloc (.cells #[.string p1,.int .i64 p2,.int .i64 (t:Int),.int .i64 (k:Int)] 124)).alloc (.cells #[] 125)) p1 hsz
    obtain⟨qn,qk,qs,qa⟩:=q
    obtain⟨tw,htw⟩:∃b,Hid ((plTo A B C (O+k)).any (λp=>decide (p.n=p1))=b):=⟨_,rfl⟩
    rw[htw.out] at hln
    have hlk:(Instr.lookup 118 (.map (some bw)) (.string p1) true).run Tryz.prog _=_:=hlk
    cases hw:isW p1
    ·
     rw[hw] at hlk
     cases htw0:tw
     ·
      rw[htw0] at hln
      cases hlet:j1t p1
      ·
       have E:Hid (okR A B C=false):=hbad.out (λg=>by
        have:=g.1
        rw[F2.out] at this
        simp[j1p,hlet] at this)
       go_wp2_with (first|(go_at_call 57;refine(j33 _ _).mono ?_;rintro e w' ⟨rfl,hb0,-⟩;rw[hlet])|(go_at_call 58;refine(j5m _ _).mono ?_;rintro e w' ⟨rfl,rfl⟩;rw[hkd]))
       refine bq (.tuple #[.map none,.bool false]) ⟨λ_=>rfl,(λh=>by rw[E.out] at h;cases h),?_⟩
       exact blq
      cases hkd:(decide (1<=p2)&&decide (p2<=4))
      ·
       have E:Hid (okR A B C=false):=hbad.out (λg=>by
        obtain⟨_,a,b,_⟩:=g
        rw[F2.out] at a b
        simp at hkd
        exact absurd (hkd a) (by omega))
       go_wp2_with (first|(go_at_call 57;refine(j33 _ _).mono ?_;rintro e w' ⟨rfl,-,hpos⟩;obtain⟨pos,rfl⟩:=hpos hlet;rw[hlet])|(go_at_call 58;refine(j5m _ _).mono ?_;rintro e w' ⟨rfl,rfl⟩;rw[hkd]))
       refine bq (.tuple #[.map none,.bool false]) ⟨λ_=>rfl,(λh=>by rw[E.out] at h;cases h),?_⟩
       exact blq
      have hgood:Hid (∀i,i<O+k+1->j3s (A++B++C) i):=by
       intro i hi
       by_cases h:i=O+k
       ·
        subst h
        unfold j3s
        rw[F2.out]
        simp at hkd
        refine⟨by simp[j1p,hlet,hw],hkd.1,hkd.2,λj hj e=>?_⟩
        have:(plTo A B C (O+k)).any (λp=>decide (p.n=p1))=true:=(j55 A B C _ _).2 ⟨j,hj,e⟩
        rw[htw.out,htw0] at this
        cases this
       exact hall.out i (by omega)
      go_wp2_with (first|(go_at_call 57;refine(j33 _ _).mono ?_;rintro e w' ⟨rfl,-,hpos⟩;obtain⟨pos,rfl⟩:=hpos hlet;rw[hlet])|(go_at_call 58;refine(j5m _ _).mono ?_;rintro e w' ⟨rfl,rfl⟩;rw[hkd]))
      have hbb:¬b=bn:=by
       intro e
       obtain⟨es,clock,hb,_⟩:=Nm
       subst e
       simp[World.cell?,hb] at e1
      have N4:=((((Nm.alloc (.cells #[.string p1,.int .i64 p2] 80)).alloc (.cells #[.string p1,.int .i64 p2,.int .i64 (t:Int),.int .i64 (k:Int)] 124)).alloc (.cells #[] 125)).alloc (.cells #[.string qn,.int .i64 qk,.int .i64 qs,.int .i64 qa] 124)).alloc (.stringIter p1 pos)
      have W4:=((((Wd.alloc (.cells #[.string p1,.int .i64 p2] 80)).alloc (.cells #[.string p1,.int .i64 p2,.int .i64 (t:Int),.int .i64 (k:Int)] 124)).alloc (.cells #[] 125)).alloc (.cells #[.string qn,.int .i64 qk,.int .i64 qs,.int .i64 qa] 124)).alloc (.stringIter p1 pos)
      have K4:=((((K.alloc (.cells #[.string p1,.int .i64 p2] 80)).alloc (.cells #[.string p1,.int .i64 p2,.int .i64 (t:Int),.int .i64 (k:Int)] 124)).alloc (.cells #[] 125)).alloc (.cells #[.string qn,.int .i64 qk,.int .i64 qs,.int .i64 qa] 124)).alloc (.stringIter p1 pos)
      have L4:=j00 (j00 (j00 (j00 (j00 Lb (.cells #[.string p1,.int .i64 p2] 80)) (.cells #[.string p1,.int .i64 p2,.int .i64 (t:Int),.int .i64 (k:Int)] 124)) (.cells #[] 125)) (.cells #[.string qn,.int .i64 qk,.int .i64 qs,.int .i64 qa] 124)) (.stringIter p1 pos)
      have D4:=hd.later (j00 (j00 (j00 (j00 (j00 (Below.refl _ wr) (.cells #[.string p1,.int .i64 p2] 80)) (.cells #[.string p1,.int .i64 p2,.int .i64 (t:Int),.int .i64 (k:Int)] 124)) (.cells #[] 125)) (.cells #[.string qn,.int .i64 qk,.int .i64 qs,.int .i64 qa] 124)) (.stringIter p1 pos))
      have hput:Hid ((j3e (plTo A B C (O+k)) (.map [])).put (wkey p1) (.held (.agg #[.string p1,.int .i64 p2,.int .i64 (t:Int),.int .i64 (k:Int)]))=j3e (plTo A B C (O+k+1)) (.map [])):=by
       show _=_
       rw[jec,j85,F3.out];rfl
      refine j7d 87 9 124 skeyed Tryz.underlying87 j2r bn (O+k) _ N4 (by unfold maxLen;omega) _ _ (wkey p1) (keyOf_string_mk Tryz.underlying9 hsz) (.held (.agg #[.string p1,.int .i64 p2,.int .i64 (t:Int),.int .i64 (k:Int)])) [] rfl ?_
      intro w9 N9 hg9
      rw[hput.out] at N9
      have W9:=W4.kept hg9 (by simp;omega)
      have K9:=K4.kept hg9 (by omega)
      have D9:=D4.kept hg9 hbb
      have L9:=L4.grown hg9 L4.size (λj hj=>by simp at hj;omega)
      clear N4 W4 K4 D4 L4 hln hlk Nm Wd K hd Lb hg9 hput;go_wp2_with fail;go_roundw
      case rel=>exact⟨k+1,by omega,by go_num,hgood,K9,W9,N9,D9,L9⟩
      case measure=>simp[intOf];omega
     rw[htw0] at hln
     have E:Hid (okR A B C=false):=hbad.out (λg=>by
      obtain⟨_,_,_,g4⟩:=g
      obtain⟨j,hj,e⟩:=(j55 A B C (O+k) p1).1 (by rw[htw.out,htw0])
      exact g4 j hj (by rw[F2.out];exact e))
     go_wp2_with fail;refine bq (.tuple #[.map none,.bool false]) ⟨λ_=>rfl,(λh=>by rw[E.out] at h;cases h),?_⟩
     exact blq
    rw[hw] at hlk
    have E:Hid (okR A B C=false):=hbad.out (λg=>by
     have:=g.1
     rw[F2.out] at this
     simp[j1p,hw] at this)
    go_wp2_with fail;refine bq (.tuple #[.map none,.bool false]) ⟨λ_=>rfl,(λh=>by rw[E.out] at h;cases h),?_⟩
    exact blq
   have hk':k=P.length:=by omega
   subst hk'
   have hlens':Hid (∀u:Nat,1<=u->u<t+1->(j19 A B C (u:Int)).length<=12):=by
    intro u h1 h2
    by_cases h:u=t
    ·
     subst h;rw[hP.out];exact hl12
    exact hlens.out u h1 (by omega)
   rw[<-hnext.out] at hall Nm
   go_wp2_with fail;go_roundw
   case rel=>exact⟨t+1,by omega,by omega,by go_num,hlens',hall,K,Wd,Nm,Lb⟩
   case measure=>simp[intOf];omega
  have u1:decide ((12:Int)<(P.length:Int))=true:=by simp;omega
  have E:Hid (okR A B C=false):=by
   have:¬(j19 A B C (t:Int)).length<=12:=by rw[hP.out];exact hl12
   apply jeg
   rcases jde t1 t3 with rfl|rfl|rfl<;>simp[j19] at this<;>omega
  go_wp2_with fail;exact bq (.tuple #[.map none,.bool false]) ⟨λ_=>rfl,(λh=>by rw[E.out] at h;cases h),Lb⟩
 have ht:t=4:=by omega
 subst ht
 have E:Hid (okR A B C=true):=by
  have h1:=hlens.out 1 (by omega) (by omega)
  have h2:=hlens.out 2 (by omega) (by omega)
  have h3:=hlens.out 3 (by omega) (by omega)
  have h4:okL (A++B++C)=true:=by
   unfold okL
   simp only[decide_eq_true_eq]
   intro i hi
   exact hall.out i (by rw[hL4.out];exact hi)
  simp[j19] at h1 h2 h3
  simp[Hid,okR,h1,h2,h3]
  simpa using h4
 have Nm':=Nm
 rw[hL4.out] at Nm'
 go_wp2_with fail;exact bq (.tuple #[.map (some bn),.bool true]) ⟨(λh=>by rw[E.out] at h;cases h),λ_=>⟨_,_,rfl,Nm'⟩,Lb⟩
end
section
open Go.RowKit Go.Maps Go.WideMaps
theorem jbg {A B C:List (ByteArray×Int)} (h:okR A B C=true):(A.length<=12/\B.length<=12/\C.length<=12)/\∀i,i<(A++B++C).length->j3s (A++B++C) i:=by
 simp only[okR,okL,Bool.and_eq_true,decide_eq_true_eq] at h
 exact⟨⟨h.1.1.1,h.1.1.2,h.1.2⟩,h.2⟩
theorem jbr {A B C:List (ByteArray×Int)} (h:okR A B C=true) {i j:Nat} (hi:i<(A++B++C).length) (hj:j<(A++B++C).length) (e:(dAt (A++B++C) i).1=(dAt (A++B++C) j).1):i=j:=by
 have g:=(jbg h).2
 rcases Nat.lt_trichotomy i j with h'|h'|h'
 ·
  exact absurd e ((g j hj).2.2.2 i h')
 ·
  exact h'
 exact absurd e.symm ((g i hi).2.2.2 j h')
theorem jg8 {A B C:List (ByteArray×Int)} {j:Nat} (hj:j<(A++B++C).length):∃t k:Nat,1<=t/\t<=3/\k<(j19 A B C (t:Int)).length/\j=offT A B C t+k:=by
 simp at hj
 by_cases h1:j<A.length
 ·
  exact⟨1,j,by omega,by omega,by simpa[j19] using h1,by simp[offT]⟩
 by_cases h2:j<A.length+B.length
 ·
  exact⟨2,j-A.length,by omega,by omega,by simp[j19];omega,by simp[offT];omega⟩
 exact⟨3,j-(A.length+B.length),by omega,by omega,by simp[j19];omega,by simp[offT];omega⟩
def jd3 (A B C:List (ByteArray×Int)) (sort:Int) (s:ByteArray) (r:Int):Prop :=
 (okR A B C=false->r=-1)/\(okR A B C=true->(∃k:Nat,k<(j19 A B C sort).length/\(dAt (j19 A B C sort) k).1=s/\r=k)\/((∀k,k<(j19 A B C sort).length->¬(dAt (j19 A B C sort) k).1=s)/\r=-1))
theorem j90 {A B C:List (ByteArray×Int)} {sort:Int} {k:Nat} (h:k<(j19 A B C sort).length):∃t:Nat,1<=t/\t<=3/\sort=t:=by
 by_cases h1:sort=1
 ·
  exact⟨1,by omega,by omega,h1⟩
 by_cases h2:sort=2
 ·
  exact⟨2,by omega,by omega,h2⟩
 by_cases h3:sort=3
 ·
  exact⟨3,by omega,by omega,h3⟩
 simp[j19,h1,h2,h3] at h
theorem jd3.one {A B C:List (ByteArray×Int)} {sort:Int} {s:ByteArray} {r q:Int} (h:jd3 A B C sort s r) (g:jd3 A B C sort s q):r=q:=by
 cases hk:okR A B C
 ·
  rw[h.1 hk,g.1 hk]
 rcases h.2 hk with ⟨k,k1,k2,rfl⟩|⟨h1,rfl⟩
 ·
  rcases g.2 hk with ⟨m,m1,m2,rfl⟩|⟨g1,rfl⟩
  ·
   obtain⟨t,t1,t2,rfl⟩:=j90 k1
   have:=jbr hk (j61 A B C t1 t2 k1) (j61 A B C t1 t2 m1) (by rw[j3x A B C t1 t2 k1,j3x A B C t1 t2 m1,k2,m2])
   have:k=m:=by omega
   rw[this]
  exact absurd k2 (g1 k k1)
 rcases g.2 hk with ⟨m,m1,m2,rfl⟩|⟨g1,rfl⟩
 ·
  exact absurd m2 (h1 m m1)
 rfl
theorem jgy {A B C:List (ByteArray×Int)} (h:okR A B C=true):((plTo A B C (A++B++C).length).map (·.n)).Nodup:=by
 have e:(plTo A B C (A++B++C).length).map (·.n)=(List.range (A++B++C).length).map (λi=>(dAt (A++B++C) i).1):=by
  simp only[plTo,List.map_map];rfl
 rw[e,List.nodup_iff_pairwise_ne,List.pairwise_map]
 refine List.Pairwise.imp_of_mem ?_ (List.nodup_iff_pairwise_ne.1 List.nodup_range)
 intro a b ha hb hne he
 exact hne (jbr h (List.mem_range.1 ha) (List.mem_range.1 hb) he)
end
section
open Go.RowKit Go.Maps Go.WideMaps
theorem jeh {L:List (ByteArray×Int)} {s:ByteArray} (h:∀k,k<L.length->¬(dAt L k).1=s):dkL L s=0:=by
 unfold dkL
 have:L.find? (λd=>decide (d.1=s))=none:=by
  rw[List.find?_eq_none]
  intro x hx
  obtain⟨k,hk,rfl⟩:=List.getElem_of_mem hx
  have:=h k hk
  simp only[dAt,List.getElem?_eq_getElem hk,Option.getD_some] at this
  simpa using this
 rw[this];rfl
theorem jm5 {L:List (ByteArray×Int)} {s:ByteArray} {k:Nat} (hk:k<L.length) (he:(dAt L k).1=s) (hu:∀j,j<L.length->(dAt L j).1=s->j=k):dkL L s=(dAt L k).2:=by
 unfold dkL
 cases hf:L.find? (λd=>decide (d.1=s)) with
 | none =>
  rw[List.find?_eq_none] at hf
  have:=hf _ (jaz hk)
  simp[he] at this
 | some x =>
  have h1:=List.mem_of_find?_eq_some hf
  have h2:=List.find?_some hf
  obtain⟨j,hj,rfl⟩:=List.getElem_of_mem h1
  have e:dAt L j=L[j]:=by simp[dAt,hj]
  have:j=k:=hu j hj (by rw[e];simpa using h2)
  subst this
  rw[e];rfl
theorem jj7 {A B C:List (ByteArray×Int)} (h:okR A B C=true) {s:ByteArray} {q:Pl} (hq:.held q.val=(j3e (plTo A B C (A++B++C).length) (.map [])).atKey (wkey s) (.held Pl.zero.val)) :
  ((plTo A B C (A++B++C).length).any (λp=>decide (p.n=s))=false->∀sort,dkL (j19 A B C sort) s=0)/\
  ((plTo A B C (A++B++C).length).any (λp=>decide (p.n=s))=true->(¬q.k=0)/\∀sort,dkL (j19 A B C sort) s=if q.s=sort then q.k else 0):=by
 constructor
 ·
  intro hn sort
  refine jeh λk hk e=>?_
  obtain⟨t,t1,t2,rfl⟩:=j90 hk
  have:(plTo A B C (A++B++C).length).any (λp=>decide (p.n=s))=true:=(j55 A B C _ _).2 ⟨_,j61 A B C t1 t2 hk,by rw[j3x A B C t1 t2 hk];exact e⟩
  rw[hn] at this
  cases this
 intro hy
 obtain⟨j,hj,ej⟩:=(j55 A B C _ _).1 hy
 have hm:plAt A B C j∈plTo A B C (A++B++C).length:=by
  simp only[plTo,List.mem_map,List.mem_range]
  exact⟨j,hj,rfl⟩
 have hs:s=(plAt A B C j).n:=ej.symm
 rw[hs,jbq _ _ _ _ isMap_empty hm (jgy h)] at hq
 injection hq with hv
 simp only[Pl.val,Value.agg.injEq] at hv
 have hv':=congrArg Array.toList hv
 simp at hv'
 obtain⟨_,v2,v3,_⟩:=hv'
 obtain⟨t,k,t1,t2,hk,rfl⟩:=jg8 hj
 rw[j6f A B C t1 t2 hk] at v2 v3
 simp only at v2 v3
 rw[v2,v3]
 have hg:=(jbg h).2 _ hj
 rw[j3s,j3x A B C t1 t2 hk] at hg
 refine⟨by omega,λsort=>?_⟩
 by_cases e:(t:Int)=sort
 ·
  subst e
  rw[if_pos rfl]
  refine jm5 hk (by rw[<-j3x A B C t1 t2 hk];exact ej) λm hm e2=>?_
  have h3:=jbr h (j61 A B C t1 t2 hm) (j61 A B C t1 t2 hk) (by rw[j3x A B C t1 t2 hm,e2];exact ej.symm)
  omega
 rw[if_neg e]
 refine jeh λm hm e2=>e ?_
 obtain⟨u,u1,u2,rfl⟩:=j90 hm
 have h3:=jbr h (j61 A B C u1 u2 hm) (j61 A B C t1 t2 hk) (by rw[j3x A B C u1 u2 hm,e2];exact ej.symm)
 have p1:=j6f A B C u1 u2 hm
 rw[h3,j6f A B C t1 t2 hk] at p1
 injection p1
def j47 (w:World) (B:Nat) (cs:List Value) (n:Nd):Prop:=∃s c,cs=[.int .i64 n.kind,.string n.text,.int .i64 n.num,.slice s n.kids.length c]/\Els 1 cInt w B s n.kids/\n.kids.length<=c
theorem j1s:j4f j47:=λ_ _ _ _ _ hk ⟨s,c,e,h,hc⟩=>⟨s,c,e,h.kept j07 hk,hc⟩
theorem j4j:j5d j47:=λ_ _ _ _ _ hB ⟨s,c,e,h,hc⟩=>⟨s,c,e,h.drop j0w hB,hc⟩
theorem j9i {w:World} {B:Nat} {s:Option Addr} {L:List Nd} (h:Els 4 j47 w B s L) {j:Nat} {n:Nd} (ha:L[j]?=some n) :
  ∃b o,s=some ⟨b,o,none⟩/\B<=b/\b<w.heap.size/\∃s' c',w.cell? ⟨b,o+j*4,none⟩=some (.int .i64 n.kind)/\w.cell? ⟨b,o+j*4+1,none⟩=some (.string n.text)/\w.cell? ⟨b,o+j*4+2,none⟩=some (.int .i64 n.num)/\w.cell? ⟨b,o+j*4+3,none⟩=some (.slice s' n.kids.length c')/\Els 1 cInt w B s' n.kids/\n.kids.length<=c':=by
 rcases h with rfl|⟨b,o,rfl,h1,h2,h3,hz⟩
 ·
  simp at ha
 obtain⟨cs,e1,e2,s',c',rfl,e5,e6⟩:=h3 j n ha
 exact⟨b,o,rfl,h1,h2,s',c',e2 0 _ rfl,e2 1 _ rfl,e2 2 _ rfl,e2 3 _ rfl,e5,e6⟩
structure Pd where
 w0:World
 B0:Nat
 n1:Option Addr
 n2:Option Addr
 d1:Nat
 d2:Nat
 T:Tre
 A:List (ByteArray×Int)
 B:List (ByteArray×Int)
 C:List (ByteArray×Int)
 bd:Nat
 nd:Nat
 c:Nat
 kb:Nat
 bt:Nat
structure Pd.Ok (G:Pd):Prop where
 t:InT G.w0 G.B0 G.n1 G.n2 G.T
 cap:Els 4 j47 G.w0 G.B0 G.n1 G.T.nodes
 k:kTre G.T
 tr:treP G.T
 ok:okR G.A G.B G.C=true
 dm:G.w0.ownsMap Tryz.prog 9 j2r G.bd G.nd (j3e (plTo G.A G.B G.C (G.A++G.B++G.C).length) (.map []))
 c:G.w0.heap.size<=G.c
 kb:G.w0.heap.size<=G.kb
 bt:G.w0.heap.size<=G.bt
 n1:¬G.kb=G.c
 n2:¬G.bt=G.c
 n3:¬G.bt=G.kb
def Dp (G:Pd) (sort:Int) (s:ByteArray):Int:=dkL (j19 G.A G.B G.C sort) s
def topN (T:Tre) (ah:List Int):Nm:=λs=>ah.find? λt=>decide ((nd T t).text=s)
structure Pv (G:Pd) (w:World) (ah:List Int) (Kp:KM):Prop where
 bx:Blk w G.c #[.map (some G.bd),.slice G.n1 G.T.nodes.length G.d1,.slice (some ⟨G.kb,0,none⟩) G.T.nodes.length G.T.nodes.length,.map (some G.bt)] 93
 kl:G.kb<w.heap.size
 kc:∀j,j<G.T.nodes.length->w.cell? ⟨G.kb,j,none⟩=some (.int .i64 (Kp j))
 kf:∀j,w.frozen? ⟨G.kb,j,none⟩=false
 tp:∃n,n<=ah.length/\QM w G.bt n (topN G.T ah)
 bl:Below G.w0.heap.size G.w0 w
section
variable {G:Pd} {w w':World} {ah:List Int} {Kp:KM}
theorem Pv.later (h:Pv G w ah Kp) (hb:Below w.heap.size w w'):Pv G w' ah Kp:=by
 obtain⟨n,h1,h2⟩:=h.tp
 exact⟨h.bx.later hb,Nat.lt_of_lt_of_le h.kl hb.size,λj hj=>(hb.cell (p:=⟨G.kb,j,none⟩) h.kl).trans (h.kc j hj),λj=>(hb.frozen (p:=⟨G.kb,j,none⟩) h.kl).trans (h.kf j),⟨n,h1,h2.later hb⟩,j01 h.bl hb⟩
theorem Pd.node (hG:G.Ok) {i:Nat} {n:Nd} (hn:G.T.nodes[i]?=some n):∃(nb no:Nat) (s9:Option Addr) (c9:Nat),G.n1=some ⟨nb,no,none⟩/\nb<G.w0.heap.size/\G.w0.cell? ⟨nb,no+i*4,none⟩=some (.int .i64 n.kind)/\G.w0.cell? ⟨nb,no+i*4+1,none⟩=some (.string n.text)/\G.w0.cell? ⟨nb,no+i*4+2,none⟩=some (.int .i64 n.num)/\G.w0.cell? ⟨nb,no+i*4+3,none⟩=some (.slice s9 n.kids.length c9)/\Els 1 cInt G.w0 G.B0 s9 n.kids/\n.kids.length<=c9:=by
 obtain⟨nb,no,hn1,_,hnb,s9,c9,e0,e1,e2,e3,e4⟩:=j9i hG.cap hn
 exact⟨nb,no,s9,c9,hn1,hnb,e0,e1,e2,e3,e4⟩
def decR (k:Int):Int×Int:=if k=0 then (0,3) else (k,0)
theorem j29 (hG:G.Ok) (h:Pv G w ah Kp) (sort:Int) (s:ByteArray) (hs:s.size<=maxLen) :
  Calls Tryz.prog 131 #[.pointer (some ⟨G.c,0,none⟩),.int .i64 sort,.string s] w λe w'=>e=.returned (.tuple #[.int .i64 (decR (Dp G sort s)).1,.int .i64 (decR (Dp G sort s)).2])/\Below w.heap.size w w':=by
 have x0:w.cell? ⟨G.c,0,none⟩=some (.map (some G.bd)):=(h.bx.cell 0).trans rfl
 have hdm:=hG.dm.kept (j1a h.bl) (by simp)
 obtain⟨q,hlk,hq⟩:=jb6 hdm s hs
 have hd:=jj7 hG.ok hq
 obtain⟨an,han⟩:∃b,(plTo G.A G.B G.C (G.A++G.B++G.C).length).any (λp=>decide (p.n=s))=b:=⟨_,rfl⟩
 rw[han] at hlk hd
 clear h hdm hq han;cases an
 ·
  have hR:Hid (Dp G sort s=0):=hd.1 rfl sort
  clear hd;go_enter Tryz.func131,Tryz.ntmps131
  go_wp2_with fail;refine bq (.tuple #[.int .i64 0,.int .i64 3]) ?_
  rw[hR.out]
  exact⟨rfl,j00 (Below.refl _ _) _⟩
 obtain⟨h0,hk⟩:=hd.2 rfl
 by_cases hqs:q.s=sort
 ·
  have t0:(q.s != sort)=false:=by simp[hqs]
  have hR:Hid (Dp G sort s=q.k):=by show _=_;unfold Dp;rw[hk sort,if_pos hqs]
  clear hd hk hqs;go_enter Tryz.func131,Tryz.ntmps131
  go_wp2_with fail;refine bq (.tuple #[.int .i64 q.k,.int .i64 0]) ?_
  rw[hR.out]
  exact⟨by simp[decR,h0],j00 (Below.refl _ _) _⟩
 have t0:(q.s != sort)=true:=by simp[hqs]
 have hR:Hid (Dp G sort s=0):=by show _=_;unfold Dp;rw[hk sort,if_neg hqs]
 clear hd hk hqs;go_enter Tryz.func131,Tryz.ntmps131
 go_wp2_with fail;refine bq (.tuple #[.int .i64 0,.int .i64 3]) ?_
 rw[hR.out]
 exact⟨rfl,j00 (Below.refl _ _) _⟩
end
end
section
open Go.RowKit Go.Maps Go.WideMaps
def je4 (r:Option Int) (y:Option Int) (Kp:KM) (nx:Nat):Prop:=match r with
 | none=>y=none
 | some k=>∃j:Nat,y=some (j:Int)/\j<nx/\Kp j=k
def AskM (G:Pd) (w:World) (md:Md) (av:Value):Prop:=(md.each=false/\av=.map none/\md.wth=[])\/(md.each=true/\∃(ba na:Nat) (fa:Nm),av=.map (some ba)/\QM w ba na fa/\¬ba=G.kb/\∀s,(fa s).getD 0=29 ↔ inL s md.wth=true)
structure Px (G:Pd) (w:World) (km ko:Nat) (gg:Nm) (bs:List Nat) (md:Md) (av:Value) (env:Env) (Kp:KM) (nx:Nat):Prop where
 sc:Sc w (j09 km ko) gg bs
 ap:∀b∈bs,¬b=G.kb
 er:∀s,je4 (look env s) (gg s) Kp nx
 am:AskM G w md av
section
variable {G:Pd} {w w':World} {ah:List Int} {Kp Kp':KM} {km ko:Nat} {gg:Nm} {bs:List Nat} {md:Md} {av:Value} {env:Env} {nx:Nat} {lst hr:Bool} {tk:Int}
theorem AskM.same (h:AskM G w md av) (hs:∀b,b<w.heap.size->¬b=G.kb->w'.heap[b]?=w.heap[b]?):AskM G w' md av:=by
 rcases h with h|⟨h1,ba,na,fa,h2,h3,h4,h5⟩
 ·
  exact Or.inl h
 exact Or.inr ⟨h1,ba,na,fa,h2,h3.same (hs ba h3.lt h4),h4,h5⟩
theorem Px.tw (h:Px G w km ko gg bs md av env Kp nx) (ht:Tw G.kb G.kb w w') (hk:∀j,j<nx->Kp' j=Kp j):Px G w' km ko gg bs md av env Kp' nx:=by
 have hs:∀b,b<w.heap.size->¬b=G.kb->w'.heap[b]?=w.heap[b]?:=λb h1 h2=>ht.block b h1 h2 h2
 refine⟨h.sc.same λb hb=>hs b (h.sc.lt b hb) (h.ap b hb),h.ap,λs=>?_,h.am.same hs⟩
 have:=h.er s
 unfold je4 at this ⊢
 cases hl:look env s with
 | none=>rw[hl] at this;exact this
 | some k =>
  rw[hl] at this
  obtain⟨j,h1,h2,h3⟩:=this
  exact⟨j,h1,h2,by rw[hk j h2];exact h3⟩
theorem Px.later (h:Px G w km ko gg bs md av env Kp nx) (hb:Below w.heap.size w w'):Px G w' km ko gg bs md av env Kp nx:=h.tw (Tw.of hb) λ_ _=>rfl
theorem Px.mono {nx':Nat} (h:Px G w km ko gg bs md av env Kp nx) (hn:nx<=nx'):Px G w km ko gg bs md av env Kp nx':=by
 refine⟨h.sc,h.ap,λs=>?_,h.am⟩
 have:=h.er s
 unfold je4 at this ⊢
 cases hl:look env s with
 | none=>rw[hl] at this;exact this
 | some k =>
  rw[hl] at this
  obtain⟨j,h1,h2,h3⟩:=this
  exact⟨j,h1,Nat.lt_of_lt_of_le h2 hn,h3⟩
theorem jh1 (s:ByteArray) (w:World) (hs:s.size<=maxLen):(Instr.lookup 91 (.map none) (.string s) false).run Tryz.prog w=.ok (.int .i64 0) w:=by
 simp[Instr.lookup,run_underlying Tryz.underlying91,j6u.check w true (keyOf_string_mk Tryz.underlying9 hs),MapKept.run_findKey (P:=Tryz.prog) (w:=w) (kt:=9) (k:=.string s) (l:=[]) (a:=none) Tryz.underlying9 rfl,jel,Result.andThen]
theorem AskM.run (h:AskM G w md av) (s:ByteArray) (hs:s.size<=maxLen):∃v:Int,(Instr.lookup 91 av (.string s) false).run Tryz.prog w=.ok (.int .i64 v) w/\(v=29 ↔ inL s md.wth=true):=by
 rcases h with ⟨h1,rfl,h2⟩|⟨h1,ba,na,fa,rfl,h3,h4,h5⟩
 ·
  exact⟨0,jh1 s w hs,by rw[h2];simp[inL]⟩
 exact⟨_,h3.look1 s hs,h5 s⟩
def prE (r:Except Int Int):Int×Int:=match r with | .ok k=>(k,0) | .error c=>(0,c)
theorem ja3 (hG:G.Ok) (h:Pv G w ah Kp) (hp:Px G w km ko gg bs md av env Kp nx) (s:ByteArray) (hs:s.size<=maxLen) :
  Calls Tryz.prog 130 #[.pointer (some ⟨G.c,0,none⟩),.string s,.agg #[addF km,j09 km ko,.int .i64 tk,.bool lst,.bool hr,av]] w λe w'=>e=.returned (.tuple #[.int .i64 (prE (j2b (Dp G) md s)).1,.int .i64 (prE (j2b (Dp G) md s)).2])/\Below w.heap.size w w':=by
 have b1:Below w.heap.size w (w.alloc (.cells #[addF km,j09 km ko,.int .i64 tk,.bool lst,.bool hr,av] 139)):=j00 (Below.refl _ _) _
 have kk:=Blk.new w #[addF km,j09 km ko,.int .i64 tk,.bool lst,.bool hr,av] 139
 have KK:=Hid.mk' kk
 have H1:=Hid.mk' (h.later b1)
 have P1:=Hid.mk' (hp.later b1)
 have B1:=Hid.mk' b1
 clear h hp b1;go_enter Tryz.func130,Tryz.ntmps130
 go_wp2_with fail;refine(j29 hG H1.out 1 s hs).mono ?_
 rintro e w2 ⟨rfl,hb2⟩
 have B2:Hid (Below w.heap.size w w2):=B1.out.trans (hb2.mono B1.out.size)
 have z5:w2.cell? ⟨w.heap.size,5,none⟩=some av:=((KK.out.later hb2).cell 5).trans rfl
 obtain⟨v,hrun,hv⟩:=(P1.out.later hb2).am.run s hs
 obtain⟨dk,hdk⟩:∃k,Hid (Dp G 1 s=k):=⟨_,rfl⟩
 rw[hdk.out]
 have hC:Hid (j2b (Dp G) md s=if dk=0 then .error 3 else if inL s md.wth=true then .ok dk else .error 5):=by show _=_;unfold j2b;rw[hdk.out]
 clear hb2 kk KK H1 P1 B1;by_cases h0:dk=0
 ·
  subst h0
  have hR:Hid (prE (j2b (Dp G) md s)=(0,3)):=by rw[hC.out];rfl
  have e1:decR 0=(0,3):=rfl
  rw[e1]
  clear hv;go_wp2_with fail;refine bq (.tuple #[.int .i64 0,.int .i64 3]) ?_
  rw[hR.out]
  exact⟨rfl,B2.out⟩
 have e1:decR dk=(dk,0):=by simp[decR,h0]
 rw[e1]
 cases hi:inL s md.wth
 ·
  have hR:Hid (prE (j2b (Dp G) md s)=(0,5)):=by rw[hC.out,if_neg h0,hi];rfl
  have tv:(v != 29)=true:=by rw[hi] at hv;simp at hv;simp[hv]
  clear hv hi;go_wp2_with fail;refine bq (.tuple #[.int .i64 0,.int .i64 5]) ?_
  rw[hR.out]
  exact⟨rfl,B2.out⟩
 have hR:Hid (prE (j2b (Dp G) md s)=(dk,0)):=by rw[hC.out,if_neg h0,hi];rfl
 have tv:(v != 29)=false:=by rw[hi] at hv;simp at hv;simp[hv]
 clear hv hi;go_wp2_with fail;refine bq (.tuple #[.int .i64 dk,.int .i64 0]) ?_
 rw[hR.out]
 exact⟨rfl,B2.out⟩
end
end
section
open Go.RowKit Go.Maps Go.WideMaps
section
variable {G:Pd} {w w':World} {ah:List Int} {Kp Kp':KM} {km ko:Nat} {gg:Nm} {bs:List Nat} {md:Md} {av:Value} {env:Env} {nx:Nat} {lst hr:Bool} {tk:Int}
def j0v (D:Int->ByteArray->Int) (md:Md) (env:Env) (n:Nd):Except Int Int :=
 if n.kind=4\/n.kind=13 then (match look env n.text with|none=> .error 3|some k=> .ok k)
 else if n.kind=5\/n.kind=14 then j2b D md n.text
 else if n.kind=6\/n.kind=15 then (if D 2 n.text=0 then .error 3 else .ok (D 2 n.text))
 else if n.kind=19 then (if D 3 n.text=0 then .error 3 else .ok (D 3 n.text))
 else (if D 1 n.text=0 then .error 3 else .ok (D 1 n.text))
theorem jag (k:Int):prE (if k=0 then .error 3 else .ok k)=decR k:=by
 unfold prE decR
 by_cases h:k=0<;>simp[h]
theorem j4k (hG:G.Ok) (h:Pv G w ah Kp) (hp:Px G w km ko gg bs md av env Kp nx) (hnx:nx<=G.T.nodes.length) (n:Nd) (s9:Option Addr) (c9:Nat) (hs:n.text.size<=maxLen) :
  Calls Tryz.prog 146 #[.pointer (some ⟨G.c,0,none⟩),.agg #[.int .i64 n.kind,.string n.text,.int .i64 n.num,.slice s9 n.kids.length c9],.agg #[addF km,j09 km ko,.int .i64 tk,.bool lst,.bool hr,av]] w λe w'=>e=.returned (.tuple #[.int .i64 (prE (j0v (Dp G) md env n)).1,.int .i64 (prE (j0v (Dp G) md env n)).2])/\Below w.heap.size w w':=by
 obtain⟨kd,hkd⟩:∃k,Hid (n.kind=k):=⟨_,rfl⟩
 rw[hkd.out]
 have b1:Below w.heap.size w ((w.alloc (.cells #[.int .i64 kd,.string n.text,.int .i64 n.num,.slice s9 n.kids.length c9] 73)).alloc (.cells #[addF km,j09 km ko,.int .i64 tk,.bool lst,.bool hr,av] 139)):=j00 (j00 (Below.refl _ _) _) _
 have kn:=Blk.alloc (Blk.new w #[.int .i64 kd,.string n.text,.int .i64 n.num,.slice s9 n.kids.length c9] 73) (.cells #[addF km,j09 km ko,.int .i64 tk,.bool lst,.bool hr,av] 139)
 have kp:=Blk.new' (n:=w.heap.size+1) (w.alloc (.cells #[.int .i64 kd,.string n.text,.int .i64 n.num,.slice s9 n.kids.length c9] 73)) #[addF km,j09 km ko,.int .i64 tk,.bool lst,.bool hr,av] 139 (by simp)
 have H1:=Hid.mk' (h.later b1)
 have P1:=Hid.mk' (hp.later b1)
 have B1:=Hid.mk' b1
 have hN:Hid (j0v (Dp G) md env n=if kd=4\/kd=13 then (match look env n.text with|none=> .error 3|some k=> .ok k) else if kd=5\/kd=14 then j2b (Dp G) md n.text else if kd=6\/kd=15 then (if Dp G 2 n.text=0 then .error 3 else .ok (Dp G 2 n.text)) else if kd=19 then (if Dp G 3 n.text=0 then .error 3 else .ok (Dp G 3 n.text)) else (if Dp G 1 n.text=0 then .error 3 else .ok (Dp G 1 n.text))):=by show _=_;unfold j0v;rw[hkd.out]
 obtain⟨z0,z1,z2,z3,z4⟩:=Blk.four' kn
 have p0:_=some (addF km):=(kp.cell 0).trans rfl
 have p1:_=some (j09 km ko):=(kp.cell 1).trans rfl
 have p2:_=some (Value.int .i64 tk):=(kp.cell 2).trans rfl
 have p3:_=some (Value.bool lst):=(kp.cell 3).trans rfl
 have p4:_=some (Value.bool hr):=(kp.cell 4).trans rfl
 have p5:_=some av:=(kp.cell 5).trans rfl
 clear h hp b1 kn kp;have hn4:G.T.nodes.length<=4000:=hG.tr.1
 by_cases h4:kd=4\/kd=13
 ·
  have hN2:Hid (j0v (Dp G) md env n=match look env n.text with|none=> .error 3|some k=> .ok k):=by rw[hN.out,if_pos h4];rfl
  have hseen:=jdq P1.out.sc n.text hs km ko rfl
  have her:=P1.out.er n.text
  have x2:((w.alloc (.cells #[.int .i64 kd,.string n.text,.int .i64 n.num,.slice s9 n.kids.length c9] 73)).alloc (.cells #[addF km,j09 km ko,.int .i64 tk,.bool lst,.bool hr,av] 139)).cell? ⟨G.c,2,none⟩=some (.slice (some ⟨G.kb,0,none⟩) G.T.nodes.length G.T.nodes.length):=(H1.out.bx.cell 2).trans rfl
  have h4b:(kd ==4)=true\/((kd ==4)=false/\(kd ==13)=true):=by
   rcases h4 with h|h
   ·
    left;simp[h]
   right;subst h;exact⟨rfl,rfl⟩
  cases hl:look env n.text with
  | none =>
   rw[hl] at her
   have her:gg n.text=none:=her
   rw[her] at hseen
   have hR:Hid (prE (j0v (Dp G) md env n)=(0,3)):=by rw[hN2.out,hl];rfl
   clear h4 hl her hN hN2 hkd;rcases h4b with t4|⟨t4,t13⟩
   all_goals
    go_enter Tryz.func146,Tryz.ntmps146
    go_wp2_with fail;refine hseen.mono ?_
    rintro e w2 ⟨rfl,hq⟩
    rw[hq]
    go_wp2_with fail;refine bq (.tuple #[.int .i64 0,.int .i64 3]) ?_
    rw[hR.out]
    exact⟨rfl,B1.out⟩
  | some k =>
   rw[hl] at her
   obtain⟨j,ej,hj,hjk⟩:=her
   rw[ej] at hseen
   have hR:Hid (prE (j0v (Dp G) md env n)=(k,0)):=by rw[hN2.out,hl];rfl
   have y:((w.alloc (.cells #[.int .i64 kd,.string n.text,.int .i64 n.num,.slice s9 n.kids.length c9] 73)).alloc (.cells #[addF km,j09 km ko,.int .i64 tk,.bool lst,.bool hr,av] 139)).cell? ⟨G.kb,j,none⟩=some (.int .i64 k):=by rw[<-hjk];exact H1.out.kc j (by omega)
   have jI:(j:Int)<(G.T.nodes.length:Int):=by omega
   clear h4 hl ej hN hN2 hkd hjk;rcases h4b with t4|⟨t4,t13⟩
   all_goals
    go_enter Tryz.func146,Tryz.ntmps146
    go_wp2_with fail;refine hseen.mono ?_
    rintro e w2 ⟨rfl,hq⟩
    rw[hq]
    go_wp2_with fail;refine bq (.tuple #[.int .i64 k,.int .i64 0]) ?_
    rw[hR.out]
    exact⟨rfl,B1.out⟩
 by_cases h5:kd=5\/kd=14
 ·
  have hR:Hid (prE (j0v (Dp G) md env n)=prE (j2b (Dp G) md n.text)):=by rw[hN.out,if_neg h4,if_pos h5];rfl
  have t4:(kd ==4)=false:=by simp;omega
  have t13:(kd ==13)=false:=by simp;omega
  have h5b:(kd ==5)=true\/((kd ==5)=false/\(kd ==14)=true):=by
   rcases h5 with h|h
   ·
    left;simp[h]
   right;subst h;exact⟨rfl,rfl⟩
  clear h4 h5 hN hkd;rcases h5b with t5|⟨t5,t14⟩
  all_goals
   go_enter Tryz.func146,Tryz.ntmps146
   go_wp2_with fail;refine(ja3 hG H1.out P1.out n.text hs).mono ?_
   rintro e w2 ⟨rfl,hb2⟩
   go_wp2_with fail;refine bq (.tuple #[.int .i64 (prE (j2b (Dp G) md n.text)).1,.int .i64 (prE (j2b (Dp G) md n.text)).2]) ?_
   rw[hR.out]
   exact⟨rfl,B1.out.trans (hb2.mono B1.out.size)⟩
 by_cases h6:kd=6\/kd=15
 ·
  have hR:Hid (prE (j0v (Dp G) md env n)=decR (Dp G 2 n.text)):=by rw[hN.out,if_neg h4,if_neg h5,if_pos h6,jag];rfl
  have t4:(kd ==4)=false:=by simp;omega
  have t13:(kd ==13)=false:=by simp;omega
  have t5:(kd ==5)=false:=by simp;omega
  have t14:(kd ==14)=false:=by simp;omega
  have h6b:(kd ==6)=true\/((kd ==6)=false/\(kd ==15)=true):=by
   rcases h6 with h|h
   ·
    left;simp[h]
   right;subst h;exact⟨rfl,rfl⟩
  clear h4 h5 h6 hN hkd;rcases h6b with t6|⟨t6,t15⟩
  all_goals
   go_enter Tryz.func146,Tryz.ntmps146
   go_wp2_with fail;refine(j29 hG H1.out 2 n.text hs).mono ?_
   rintro e w2 ⟨rfl,hb2⟩
   go_wp2_with fail;refine bq (.tuple #[.int .i64 (decR (Dp G 2 n.text)).1,.int .i64 (decR (Dp G 2 n.text)).2]) ?_
   rw[hR.out]
   exact⟨rfl,B1.out.trans (hb2.mono B1.out.size)⟩
 by_cases h7:kd=19
 ·
  have hR:Hid (prE (j0v (Dp G) md env n)=decR (Dp G 3 n.text)):=by rw[hN.out,if_neg h4,if_neg h5,if_neg h6,if_pos h7,jag];rfl
  have t4:(kd ==4)=false:=by simp;omega
  have t13:(kd ==13)=false:=by simp;omega
  have t5:(kd ==5)=false:=by simp;omega
  have t14:(kd ==14)=false:=by simp;omega
  have t6:(kd ==6)=false:=by simp;omega
  have t15:(kd ==15)=false:=by simp;omega
  have t19:(kd ==19)=true:=by simp[h7]
  clear h4 h5 h6 h7 hN hkd
  all_goals
   go_enter Tryz.func146,Tryz.ntmps146
   go_wp2_with fail;refine(j29 hG H1.out 3 n.text hs).mono ?_
   rintro e w2 ⟨rfl,hb2⟩
   go_wp2_with fail;refine bq (.tuple #[.int .i64 (decR (Dp G 3 n.text)).1,.int .i64 (decR (Dp G 3 n.text)).2]) ?_
   rw[hR.out]
   exact⟨rfl,B1.out.trans (hb2.mono B1.out.size)⟩
 have hR:Hid (prE (j0v (Dp G) md env n)=decR (Dp G 1 n.text)):=by rw[hN.out,if_neg h4,if_neg h5,if_neg h6,if_neg h7,jag];rfl
 have t4:(kd ==4)=false:=by simp;omega
 have t13:(kd ==13)=false:=by simp;omega
 have t5:(kd ==5)=false:=by simp;omega
 have t14:(kd ==14)=false:=by simp;omega
 have t6:(kd ==6)=false:=by simp;omega
 have t15:(kd ==15)=false:=by simp;omega
 have t19:(kd ==19)=false:=by simp[h7]
 clear h4 h5 h6 h7 hN hkd
 all_goals
  go_enter Tryz.func146,Tryz.ntmps146
  go_wp2_with fail;refine(j29 hG H1.out 1 n.text hs).mono ?_
  rintro e w2 ⟨rfl,hb2⟩
  go_wp2_with fail;refine bq (.tuple #[.int .i64 (decR (Dp G 1 n.text)).1,.int .i64 (decR (Dp G 1 n.text)).2]) ?_
  rw[hR.out]
  exact⟨rfl,B1.out.trans (hb2.mono B1.out.size)⟩
end
end
section
open Go.RowKit Go.Maps Go.WideMaps
section
variable {G:Pd} {w w':World} {ah:List Int} {Kp Kp':KM} {km ko:Nat} {gg:Nm} {bs:List Nat} {md:Md} {av:Value} {env:Env} {nx:Nat} {lst hr:Bool} {tk:Int}
theorem j78 {D:Int->ByteArray->Int} {md:Md} {s:ByteArray} {c:Int} (h:j2b D md s=.error c):c=3\/c=5:=by
 unfold j2b at h
 split at h
 ·
  injection h with h;exact Or.inl h.symm
 split at h
 ·
  cases h
 injection h with h;exact Or.inr h.symm
theorem jdv {D:Int->ByteArray->Int} {md:Md} {env:Env} {n:Nd} {c:Int} (h:j0v D md env n=.error c):c=3\/c=5:=by
 have aux:∀k:Int,(if k=0 then (.error 3:Except Int Int) else .ok k)=.error c->c=3\/c=5:=by
  intro k hk
  split at hk
  ·
   injection hk with hk;exact Or.inl hk.symm
  cases hk
 unfold j0v at h
 split at h
 ·
  split at h
  ·
   injection h with h;exact Or.inl h.symm
  cases h
 split at h
 ·
  exact j78 h
 split at h
 ·
  exact aux _ h
 split at h
 ·
  exact aux _ h
 exact aux _ h
def j0o (r:Except Int Int) (ka:Int):Int:=match r with | .error c=>c | .ok k=>if ka=k then 0 else 4
theorem j3q (hG:G.Ok) (h:Pv G w ah Kp) (hp:Px G w km ko gg bs md av env Kp nx) (hnx:nx<=G.T.nodes.length) (n:Nd) (c9:Nat) {fb fo a:Nat} (hfb:fb<G.w0.heap.size) (pp:G.w0.cell? ⟨fb,fo,none⟩=some (.int .i64 (a:Int))) (ha:a<G.T.nodes.length) (hkl:0<n.kids.length) (hs:n.text.size<=maxLen) :
  Calls Tryz.prog 149 #[.pointer (some ⟨G.c,0,none⟩),.agg #[.int .i64 n.kind,.string n.text,.int .i64 n.num,.slice (some ⟨fb,fo,none⟩) n.kids.length c9],.agg #[addF km,j09 km ko,.int .i64 tk,.bool lst,.bool hr,av]] w λe w'=>e=.returned (.int .i64 (j0o (j0v (Dp G) md env n) (Kp a)))/\Below w.heap.size w w':=by
 have b1:Below w.heap.size w ((w.alloc (.cells #[.int .i64 n.kind,.string n.text,.int .i64 n.num,.slice (some ⟨fb,fo,none⟩) n.kids.length c9] 73)).alloc (.cells #[addF km,j09 km ko,.int .i64 tk,.bool lst,.bool hr,av] 139)):=j00 (j00 (Below.refl _ _) _) _
 have kn:=Blk.alloc (Blk.new w #[.int .i64 n.kind,.string n.text,.int .i64 n.num,.slice (some ⟨fb,fo,none⟩) n.kids.length c9] 73) (.cells #[addF km,j09 km ko,.int .i64 tk,.bool lst,.bool hr,av] 139)
 have kp:=Blk.new' (n:=w.heap.size+1) (w.alloc (.cells #[.int .i64 n.kind,.string n.text,.int .i64 n.num,.slice (some ⟨fb,fo,none⟩) n.kids.length c9] 73)) #[addF km,j09 km ko,.int .i64 tk,.bool lst,.bool hr,av] 139 (by simp)
 have KN:=Hid.mk' kn
 have H1:=Hid.mk' (h.later b1)
 have P1:=Hid.mk' (hp.later b1)
 have B1:=Hid.mk' b1
 obtain⟨z0,z1,z2,z3,z4⟩:=Blk.four' kn
 have p0:_=some (addF km):=(kp.cell 0).trans rfl
 have p1:_=some (j09 km ko):=(kp.cell 1).trans rfl
 have p2:_=some (Value.int .i64 tk):=(kp.cell 2).trans rfl
 have p3:_=some (Value.bool lst):=(kp.cell 3).trans rfl
 have p4:_=some (Value.bool hr):=(kp.cell 4).trans rfl
 have p5:_=some av:=(kp.cell 5).trans rfl
 have aI:(a:Int)<(G.T.nodes.length:Int):=by omega
 have l0I:(0:Int)<(n.kids.length:Int):=by omega
 clear h hp b1 kn kp;go_enter Tryz.func149,Tryz.ntmps149
 go_wp2_with fail;refine(j4k hG H1.out P1.out hnx n _ c9 hs).mono ?_
 rintro e w2 ⟨rfl,hb2⟩
 have B2:Hid (Below w.heap.size w w2):=B1.out.trans (hb2.mono B1.out.size)
 obtain⟨r,hnr⟩:∃r,Hid (j0v (Dp G) md env n=r):=⟨_,rfl⟩
 rw[hnr.out]
 cases r with
 | error c =>
  have e1:prE (.error c)=(0,c):=rfl
  rw[e1]
  have tc:(c ==0)=false:=by have:=jdv hnr.out;simp;omega
  have hR:Hid (j0o (j0v (Dp G) md env n) (Kp a)=c):=by rw[hnr.out];rfl
  clear z0 z1 z2 z3 z4 p0 p1 p2 p3 p4 p5 H1 P1 B1 hb2 KN;go_wp2_with fail;go_quiet (fail)
  go_wp2_with fail;go_ret;rw[hR.out]
  exact⟨rfl,j06 B2.out _⟩
 | ok k =>
  have e1:prE (.ok k)=(k,0):=rfl
  rw[e1]
  have H2:=Hid.mk' (H1.out.later hb2)
  have y2:w2.cell? ⟨G.c,2,none⟩=some (.slice (some ⟨G.kb,0,none⟩) G.T.nodes.length G.T.nodes.length):=(H2.out.bx.cell 2).trans rfl
  have yk:w2.cell? ⟨w.heap.size,3,none⟩=some (.slice (some ⟨fb,fo,none⟩) n.kids.length c9):=((KN.out.later hb2).cell 3).trans rfl
  have y4:w2.cell? ⟨fb,fo,none⟩=some (.int .i64 (a:Int)):=(H2.out.bl.cell (p:=⟨fb,fo,none⟩) hfb).trans pp
  obtain⟨ka,hka⟩:∃k,Hid (Kp a=k):=⟨_,rfl⟩
  have y5:w2.cell? ⟨G.kb,a,none⟩=some (.int .i64 ka):=by rw[<-hka.out];exact H2.out.kc a ha
  clear z0 z1 z2 z3 z4 p0 p1 p2 p3 p4 p5 H1 P1 B1 hb2 KN H2 pp;by_cases hk:ka=k
  ·
   have tc:(ka != k)=false:=by simp[hk]
   have hR:Hid (j0o (j0v (Dp G) md env n) (Kp a)=0):=by rw[hnr.out,hka.out];exact if_pos hk
   clear hk;go_wp2_with fail;go_quiet (fail)
   go_wp2_with fail;go_ret;rw[hR.out]
   exact⟨rfl,j06 B2.out _⟩
  have tc:(ka != k)=true:=by simp[hk]
  have hR:Hid (j0o (j0v (Dp G) md env n) (Kp a)=4):=by rw[hnr.out,hka.out];exact if_neg hk
  clear hk;go_wp2_with fail;go_quiet (fail)
  go_wp2_with fail;go_ret;rw[hR.out]
  exact⟨rfl,j06 B2.out _⟩
end
end
section
open Go.RowKit Go.Maps Go.WideMaps Go.ChangeShapes Go.WideShapes Go.MapKept Go.ChangeMaps Go.WideElems
section
variable {G:Pd} {w w':World} {ah:List Int} {Kp Kp':KM} {km ko mb n:Nat} {gg:Nm} {bs:List Nat} {md:Md} {av:Value} {env:Env} {nx:Nat} {lst hr:Bool} {tk:Int}
abbrev errV (c n:Int):Value:=.iface 64 (.agg #[.int .i64 c,.int .i64 n])
structure Lx (G:Pd) (w:World) (km ko mb n:Nat) (gg:Nm) (bs:List Nat) (av:Value):Prop where
 ex:∃(f g:Nm) (v:Value) (br:List Nat),Blk w km #[.map (some mb)] 91/\QM w mb n f/\Blk w ko #[v] 134/\Sc w v g br/\gg=orN f g/\bs=km :: mb :: ko :: br/\(¬km=mb/\¬ko=mb)/\∀b∈br,¬b=mb
 ge:G.w0.heap.size<=mb
 nc:¬mb=G.c
 nt:¬mb=G.bt
 nk:¬mb=G.kb
 am:∀ba,av=.map (some ba)->¬ba=mb
theorem Tw.turned {p mb:Nat} (h:w.mapTurned w' mb):Tw p mb w w':=by
 obtain⟨es,cl,es',cl',h1,rfl⟩:=h
 refine⟨rfl,rfl,rfl,by simp[setBlock],λk h1 h2 h3=>?_⟩
 simp[setBlock,Ne.symm h3]
theorem Pv.turned (h:Pv G w ah Kp) {mb:Nat} (ht:w.mapTurned w' mb) (h0:G.w0.heap.size<=mb) (hc:¬mb=G.c) (hb:¬mb=G.bt) (hk:¬mb=G.kb):Pv G w' ah Kp:=by
 have tw:Tw mb mb w w':=Tw.turned ht
 obtain⟨m,h1,h2⟩:=h.tp
 refine⟨?_,Nat.lt_of_lt_of_le h.kl tw.size,λj hj=>(tw.cell (o:=j) h.kl (Ne.symm hk) (Ne.symm hk)).trans (h.kc j hj),λj=>(ht.frozen _).trans (h.kf j),⟨m,h1,h2.same (tw.block _ h2.lt (Ne.symm hb) (Ne.symm hb))⟩,tw.below h.bl h.bl.size h0 h0⟩
 have:=h.bx
 unfold Blk at this ⊢
 rw[tw.block _ h.bx.lt (Ne.symm hc) (Ne.symm hc)]
 exact this
theorem Pv.put (hG:G.Ok) (h:Pv G w ah Kp) {i:Nat} (hi:i<G.T.nodes.length) (k:Int):Pv G (w.setCell ⟨G.kb,i,none⟩ (.int .i64 k)) ah (upd Kp (i:Int) k):=by
 have tw:Tw G.kb G.kb w (w.setCell ⟨G.kb,i,none⟩ (.int .i64 k)):=Tw.set _ _ _ _ _
 obtain⟨m,h1,h2⟩:=h.tp
 refine⟨h.bx.other (λe=>hG.n1 e.symm) _ _,by simpa using h.kl,λj hj=>?_,λj=>(World.frozen?_setCell _ _ _ _).trans (h.kf j),⟨m,h1,h2.same (tw.block _ h2.lt hG.n3 hG.n3)⟩,tw.below h.bl h.bl.size hG.kb hG.kb⟩
 by_cases e:j=i
 ·
  subst e
  rw[show upd Kp (j:Int) k j=k by simp[upd]]
  exact World.cell?_setCell_same _ _ _ (h.kc j hj)
 rw[show upd Kp (i:Int) k j=Kp j by unfold upd;rw[if_neg (by omega)]]
 exact(World.cell?_setCell_other _ _ _ _ (λq=>e (by simp at q<;>omega))).trans (h.kc j hj)
theorem AskM.one (h:AskM G w md av) (hs:∀ba,av=.map (some ba)->ba<w.heap.size->¬ba=G.kb->w'.heap[ba]?=w.heap[ba]?):AskM G w' md av:=by
 rcases h with h|⟨h1,ba,na,fa,h2,h3,h4,h5⟩
 ·
  exact Or.inl h
 exact Or.inr ⟨h1,ba,na,fa,h2,h3.same (hs ba h2 h3.lt h4),h4,h5⟩
theorem Lx.later (h:Lx G w km ko mb n gg bs av) (hb:Below w.heap.size w w'):Lx G w' km ko mb n gg bs av:=by
 obtain⟨f,g,v,br,h1,h2,h3,h4,h5⟩:=h.ex
 exact⟨⟨f,g,v,br,h1.later hb,h2.later hb,h3.later hb,h4.later hb,h5⟩,h.ge,h.nc,h.nt,h.nk,h.am⟩
theorem Px.put (h:Px G w km ko gg bs md av env Kp nx) (hl:Lx G w km ko mb n gg bs av) {f g:Nm} {v:Value} {br:List Nat} (h1:Blk w km #[.map (some mb)] 91) (h3:Blk w ko #[v] 134) (h4:Sc w v g br) (hgg:gg=orN f g) (hbs:bs=km :: mb :: ko :: br) (e1:¬km=mb) (e2:¬ko=mb) (e3:∀b∈br,¬b=mb) (ht:Tw G.kb mb w w') {i:Nat} (hnx:nx<=i) (s:ByteArray) (k:Int) (hq:QM w' mb (n+1) (j39 f s i)) :
  ∃gg',Px G w' km ko gg' bs md av (env++[(s,k)]) (upd Kp (i:Int) k) (i+1)/\Lx G w' km ko mb (n+1) gg' bs av:=by
 subst hgg hbs
 have k1:Blk w' km #[.map (some mb)] 91:=by
  unfold Blk;rw[ht.block km h1.lt (h.ap km (by simp)) e1];exact h1
 have k3:Blk w' ko #[v] 134:=by
  unfold Blk;rw[ht.block ko h3.lt (h.ap ko (by simp)) e2];exact h3
 have k4:Sc w' v g br:=h4.same λb hb=>ht.block b (h4.lt b hb) (h.ap b (by simp[hb])) (e3 b hb)
 refine⟨orN (j39 f s i) g,⟨Sc.cons km mb (n+1) ko v _ g br k1 hq k3 k4,h.ap,λt=>?_,h.am.one λba hba hlt hk=>ht.block ba hlt hk (hl.am ba hba)⟩,⟨⟨_,g,v,br,k1,hq,k3,k4,rfl,rfl,⟨e1,e2⟩,e3⟩,hl.ge,hl.nc,hl.nt,hl.nk,hl.am⟩⟩
 have her:=h.er t
 by_cases e:s=t
 ·
  subst e
  rw[jeb]
  exact⟨i,by simp[orN,j39],by omega,by simp[upd]⟩
 rw[j93 env k e]
 have hg:orN (j39 f s i) g t=orN f g t:=by
  have:j39 f s i t=f t:=by unfold j39;rw[if_neg (λq=>e q.symm)]
  unfold orN;rw[this]
 rw[hg]
 unfold je4 at her ⊢
 cases hlk:look env t with
 | none=>rw[hlk] at her;exact her
 | some k' =>
  rw[hlk] at her
  obtain⟨j,q1,q2,q3⟩:=her
  exact⟨j,q1,by omega,by rw[<-q3];unfold upd;rw[if_neg (by omega)]⟩
def j6p (G:Pd) (w:World) (ah:List Int) (km ko mb n:Nat) (bs:List Nat) (md:Md) (av:Value) (env:Env) (Kp:KM) (s:ByteArray) (i:Nat) (k:Int) (e:Ending) (w':World):Prop :=
 if (look env s).isSome=true then e=.returned (errV 2 i)/\Below w.heap.size w w'
 else e=.returned .nilIface/\Tw G.kb mb w w'/\Pv G w' ah (upd Kp (i:Int) k)/\∃gg',Px G w' km ko gg' bs md av (env++[(s,k)]) (upd Kp (i:Int) k) (i+1)/\Lx G w' km ko mb (n+1) gg' bs av
theorem j6x (hG:G.Ok) (h:Pv G w ah Kp) (hp:Px G w km ko gg bs md av env Kp nx) (hl:Lx G w km ko mb n gg bs av) (hn:n<maxLen) {i:Nat} {m:Nd} (hm:G.T.nodes[i]?=some m) (hnx:nx<=i) (k:Int) (hs:m.text.size<=maxLen) :
  Calls Tryz.prog 67 #[.pointer (some ⟨G.c,0,none⟩),.int .i64 (i:Int),.int .i64 k,.agg #[addF km,j09 km ko,.int .i64 tk,.bool lst,.bool hr,av]] w λe w'=>j6p G w ah km ko mb n bs md av env Kp m.text i k e w':=by
 have b1:Below w.heap.size w (w.alloc (.cells #[addF km,j09 km ko,.int .i64 tk,.bool lst,.bool hr,av] 139)):=j00 (Below.refl _ _) _
 have kp:=Blk.new w #[addF km,j09 km ko,.int .i64 tk,.bool lst,.bool hr,av] 139
 have KP:=Hid.mk' kp
 have H1:=Hid.mk' (h.later b1)
 have P1:=Hid.mk' (hp.later b1)
 have L1:=Hid.mk' (hl.later b1)
 have B1:=Hid.mk' b1
 obtain⟨nb,no,s9,c9,en1,hnb,e0,e1,e2,e3,ekids⟩:=Pd.node hG hm
 have hiN:i<G.T.nodes.length:=(List.getElem?_eq_some_iff.1 hm).1
 have iI:(i:Int)<(G.T.nodes.length:Int):=by omega
 have hn4:G.T.nodes.length<=4000:=hG.tr.1
 have x1:(w.alloc (.cells #[addF km,j09 km ko,.int .i64 tk,.bool lst,.bool hr,av] 139)).cell? ⟨G.c,1,none⟩=some (.slice (some ⟨nb,no,none⟩) G.T.nodes.length G.d1):=by rw[<-en1];exact(H1.out.bx.cell 1).trans rfl
 have q1:=(H1.out.bl.cell (p:=⟨nb,no+i*4+1,none⟩) hnb).trans e1
 have p0:_=some (addF km):=(kp.cell 0).trans rfl
 have p1:_=some (j09 km ko):=(kp.cell 1).trans rfl
 have hseen:=jdq P1.out.sc m.text hs km ko rfl
 have her:=Hid.mk' (P1.out.er m.text)
 clear h hp hl b1 e0 e1 e2 e3 ekids kp;cases hlk:look env m.text with
 | some k0 =>
  have hq0:=her.out
  rw[hlk] at hq0
  obtain⟨j,ej,_,_⟩:=hq0
  rw[ej] at hseen
  have hR:Hid ((look env m.text).isSome=true):=by show _=_;rw[hlk];rfl
  clear hlk her ej;go_enter Tryz.func67,Tryz.ntmps67
  go_wp2_with fail;refine hseen.mono ?_
  rintro e w2 ⟨rfl,hq⟩
  rw[hq]
  go_wp2_with fail;go_ret;unfold j6p
  rw[if_pos hR.out]
  exact⟨rfl,B1.out⟩
 | none =>
  have hq0:=her.out
  rw[hlk] at hq0
  have hq0:gg m.text=none:=hq0
  rw[hq0] at hseen
  have hR:Hid (¬(look env m.text).isSome=true):=by show¬_;rw[hlk];simp
  clear hlk her hq0;obtain⟨f0,g0,v0,br0,a1,a2,a3,a4,a5,a6,⟨a7,a8⟩,a9⟩:=L1.out.ex
  have hadd:=jkg a1 a2 hn m.text hs (i:Int)
  have A3:=Hid.mk' a3
  have A1:=Hid.mk' a1
  have A4:=Hid.mk' a4
  have A5:=Hid.mk' a5
  have A6:=Hid.mk' a6
  have A7:=Hid.mk' a7
  have A8:=Hid.mk' a8
  have A9:=Hid.mk' a9
  clear a1 a2 a3 a4 a5 a6 a7 a8 a9;go_enter Tryz.func67,Tryz.ntmps67
  go_wp2_with fail;refine hseen.mono ?_
  rintro e w2 ⟨rfl,hq⟩
  rw[hq]
  clear hseen;go_wp2_with fail;refine hadd.mono ?_
  rintro e w3 ⟨rfl,hqm,htn⟩
  have H3:=H1.out.turned htn L1.out.ge L1.out.nc L1.out.nt L1.out.nk
  have y2:w3.cell? ⟨G.c,2,none⟩=some (.slice (some ⟨G.kb,0,none⟩) G.T.nodes.length G.T.nodes.length):=(H3.bx.cell 2).trans rfl
  have yk:=H3.kc i hiN
  have yf:=H3.kf i
  have H4:=Hid.mk' (H3.put hG hiN k)
  have tw3:Tw G.kb mb (w.alloc (.cells #[addF km,j09 km ko,.int .i64 tk,.bool lst,.bool hr,av] 139)) w3:=Tw.turned htn
  have tw4:Tw G.kb mb (w.alloc (.cells #[addF km,j09 km ko,.int .i64 tk,.bool lst,.bool hr,av] 139)) (w3.setCell ⟨G.kb,i,none⟩ (.int .i64 k)):=tw3.trans (Tw.set _ _ _ _ _)
  have T4:=Hid.mk' ((Tw.of B1.out:Tw G.kb mb _ _).trans tw4)
  have q4:QM (w3.setCell ⟨G.kb,i,none⟩ (.int .i64 k)) mb (n+1) (j39 f0 m.text i):=hqm.same ((Tw.set G.kb G.kb w3 i (.int .i64 k)).block mb hqm.lt L1.out.nk L1.out.nk)
  have P4:=Hid.mk' (P1.out.put L1.out A1.out A3.out A4.out A5.out A6.out A7.out A8.out A9.out tw4 hnx m.text k q4)
  clear H3 tw3 tw4 q4 hqm htn hadd x1 q1 p0 p1;go_wp2_with fail;go_ret;unfold j6p
  rw[if_neg hR.out]
  exact⟨rfl,T4.out,H4.out,P4.out⟩
end
end
section
open Go.RowKit Go.Maps Go.WideMaps
section
variable {G:Pd} {w w':World} {ah:List Int} {Kp Kp':KM}
structure AhOk (T:Tre) (ah:List Int):Prop where
 uq:∀a∈ah,∀b∈ah,(nd T a).text=(nd T b).text->a=b
 top:∀t∈ah,∃(k:Nat) (m:Nd),t=(k:Int)/\VN T k m/\0<m.kids.length
theorem jg7 {T:Tre} (h:AhOk T ah) (s:ByteArray):fnOf T ah s=match topN T ah s with|none=>none|some t=>if (nd T t).kind=33 then some t else none:=by
 unfold fnOf topN
 cases ht:ah.find? (λt=>decide ((nd T t).text=s)) with
 | none =>
  rw[List.find?_eq_none] at ht ⊢
  intro x hx
  have:=ht x hx
  simp at this ⊢
  intro _;exact this
 | some t =>
  have h1:=List.mem_of_find?_eq_some ht
  have h2:(nd T t).text=s:=by have:=List.find?_some ht;simpa using this
  by_cases hk:(nd T t).kind=33
  ·
   simp only[hk,if_true]
   cases hf:ah.find? (λt=>decide ((nd T t).kind=33/\(nd T t).text=s)) with
   | none =>
    rw[List.find?_eq_none] at hf
    have:=hf t h1
    simp[hk,h2] at this
   | some u =>
    have u1:=List.mem_of_find?_eq_some hf
    have u2:(nd T u).kind=33/\(nd T u).text=s:=by have:=List.find?_some hf;simpa using this
    rw[h.uq u u1 t h1 (by rw[u2.2,h2])]
  simp only[hk,if_false]
  rw[List.find?_eq_none]
  intro x hx
  simp
  intro k1 k2
  exact hk (by rw[<-h.uq x hx t h1 (by rw[k2,h2])];exact k1)
theorem jgu {T:Tre} {s:ByteArray} {t:Int} (h:topN T ah s=some t):t∈ah:=List.mem_of_find?_eq_some h
def j4a (T:Tre) (ah:List Int) (Kp:KM) (n:Nd):Except Int Int:=j2m T ah n (n.kids.map λx=>Kp x.toNat)
theorem jd4 {T:Tre} {n:Nd} {t:Int} (h:fnOf T ah n.text=some t) (hl:n.kids.length+1=(nd T t).kids.length) :
  ((∀j,j<n.kids.length->Kp (kid n j).toNat=(nd T (kid (nd T t) j)).num)->j4a T ah Kp n=.ok (nd T t).num)/\
  (∀j,j<n.kids.length->¬Kp (kid n j).toNat=(nd T (kid (nd T t) j)).num->j4a T ah Kp n=.error 4):=by
 have hL:j4a T ah Kp n=if ((nd T t).kids.take n.kids.length).map (λp=>(nd T p).num)=n.kids.map (λx=>Kp x.toNat) then .ok (nd T t).num else .error 4:=by
  unfold j4a j2m;rw[h];simp only;rw[if_pos hl]
 constructor
 ·
  intro ha
  rw[hL,if_pos]
  apply List.ext_getElem
  ·
   simp;omega
  intro j h1 h2
  have hj:j<n.kids.length:=by simpa using h2
  have hj2:j<(nd T t).kids.length:=by omega
  have:=ha j hj
  simp only[kid,List.getElem?_eq_getElem hj,List.getElem?_eq_getElem hj2,Option.getD_some] at this
  simp[this]
 intro j hj hne
 rw[hL,if_neg]
 intro he
 apply hne
 have hj2:j<(nd T t).kids.length:=by omega
 have:=congrArg (λl=>l[j]?) he
 simp[hj,hj2] at this
 simp only[kid,List.getElem?_eq_getElem hj,List.getElem?_eq_getElem hj2,Option.getD_some]
 exact this.symm
theorem jf5 (hG:G.Ok) (ha:AhOk G.T ah) (h:Pv G w ah Kp) (n:Nd) (s9:Option Addr) (c9:Nat) (hk:Els 1 cInt G.w0 G.B0 s9 n.kids) (hkn:∀x∈n.kids,∃k:Nat,x=(k:Int)/\k<G.T.nodes.length) (hkl:n.kids.length<=1048576) (hs:n.text.size<=maxLen) :
  Calls Tryz.prog 147 #[.pointer (some ⟨G.c,0,none⟩),.agg #[.int .i64 n.kind,.string n.text,.int .i64 n.num,.slice s9 n.kids.length c9]] w λe w'=>e=.returned (.tuple #[.int .i64 (prE (j4a G.T ah Kp n)).1,.int .i64 (prE (j4a G.T ah Kp n)).2])/\Below w.heap.size w w':=by
 have b1:Below w.heap.size w (w.alloc (.cells #[.int .i64 n.kind,.string n.text,.int .i64 n.num,.slice s9 n.kids.length c9] 73)):=j00 (Below.refl _ _) _
 have kn:=Blk.new w #[.int .i64 n.kind,.string n.text,.int .i64 n.num,.slice s9 n.kids.length c9] 73
 have H1:=Hid.mk' (h.later b1)
 have B1:=Hid.mk' b1
 have KN:=Hid.mk' kn
 obtain⟨z0,z1,z2,z3,z4⟩:=Blk.four' kn
 obtain⟨nt,hnt,hqt⟩:=H1.out.tp
 have x3:(w.alloc (.cells #[.int .i64 n.kind,.string n.text,.int .i64 n.num,.slice s9 n.kids.length c9] 73)).cell? ⟨G.c,3,none⟩=some (.map (some G.bt)):=(H1.out.bx.cell 3).trans rfl
 have hlk:∀q,_:=λq=>(hqt.later (j06 (Below.refl _ _) q)).look n.text hs
 have hF:=jg7 ha n.text
 have hn4:G.T.nodes.length<=4000:=hG.tr.1
 clear h b1 kn hnt hqt;cases htp:topN G.T ah n.text with
 | none =>
  rw[htp] at hF
  have hR:Hid (prE (j4a G.T ah Kp n)=(0,3)):=by
   show _=_
   unfold j4a j2m;rw[hF];rfl
  simp only[htp] at hlk
  clear htp hF;go_enter Tryz.func147,Tryz.ntmps147
  go_wp2_with fail;go_quiet (fail)
  go_wp2_with fail;refine bq (.tuple #[.int .i64 0,.int .i64 3]) ?_
  rw[hR.out]
  exact⟨rfl,j06 B1.out _⟩
 | some t =>
  obtain⟨k,m,rfl,hvm,hm0⟩:=ha.top t (jgu htp)
  have hnk:nd G.T (k:Int)=m:=j0j hvm.at_
  rw[htp] at hF
  simp only[hnk] at hF
  simp only[htp,Option.getD_some,Option.isSome_some] at hlk
  obtain⟨nb,no,t9,d9,en1,hnb,e0,e1,e2,e3,ekids,hcap⟩:=Pd.node hG hvm.at_
  have hkN:k<G.T.nodes.length:=(List.getElem?_eq_some_iff.1 hvm.at_).1
  have kI:(k:Int)<(G.T.nodes.length:Int):=by omega
  obtain⟨P,hP⟩:∃P,Hid (m.kids.length=P+1):=⟨m.kids.length-1,by show _=_;omega⟩
  obtain⟨x0,hx0⟩:=j0q hm0
  obtain⟨tb,tof,rfl,_,htb,_⟩:=j05 ekids hx0
  have hml:m.kids.length<=1048576:=(hG.k.1.2 m (List.mem_of_getElem? hvm.at_)).2
  have EK:=Hid.mk' ekids
  have HV:=Hid.mk' hvm
  have HNK:=Hid.mk' hnk
  have HQ0:=Hid.mk' (⟨hnb,e0,e1,e2,e3⟩:_/\_/\_/\_/\_)
  have HKE:=Hid.mk' hk
  have HKN:=Hid.mk' hkn
  clear htp ekids hvm hnk hx0 e0 e1 e2 e3 hk hkn;go_enter Tryz.func147,Tryz.ntmps147
  go_wp2_with fail;go_quiet (fail)
  have H2:=Hid.mk' (H1.out.later (j06 (Below.refl _ _) nq))
  have B2:Hid (Below w.heap.size w ((w.alloc (.cells #[.int .i64 n.kind,.string n.text,.int .i64 n.num,.slice s9 n.kids.length c9] 73)).drewN nq)):=j06 B1.out nq
  have K2:=Hid.mk' (KN.out.later (j06 (Below.refl _ _) nq))
  generalize (w.alloc (.cells #[.int .i64 n.kind,.string n.text,.int .i64 n.num,.slice s9 n.kids.length c9] 73)).drewN nq=X at H2 B2 K2 ⊢
  clear z0 z1 z2 z3 z4 x3 hlk H1 B1 KN;obtain⟨z0,z1,z2,z3,z4⟩:=Blk.four' K2.out
  have x1:X.cell? ⟨G.c,1,none⟩=some (.slice (some ⟨nb,no,none⟩) G.T.nodes.length G.d1):=by rw[<-en1];exact(H2.out.bx.cell 1).trans rfl
  have q0:=(H2.out.bl.cell (p:=⟨nb,no+k*4,none⟩) HQ0.out.1).trans HQ0.out.2.1
  have q1:=(H2.out.bl.cell (p:=⟨nb,no+k*4+1,none⟩) HQ0.out.1).trans HQ0.out.2.2.1
  have q2:=(H2.out.bl.cell (p:=⟨nb,no+k*4+2,none⟩) HQ0.out.1).trans HQ0.out.2.2.2.1
  have q3:=(H2.out.bl.cell (p:=⟨nb,no+k*4+3,none⟩) HQ0.out.1).trans HQ0.out.2.2.2.2
  by_cases h33:m.kind=33
  rotate_left 1
  ·
   have tk:(m.kind != 33)=true:=by simp[h33]
   have hR:Hid (prE (j4a G.T ah Kp n)=(0,3)):=by
    show _=_
    unfold j4a j2m;rw[hF,if_neg h33];rfl
   clear hF h33;go_wp2_with fail;refine bq (.tuple #[.int .i64 0,.int .i64 3]) ?_
   rw[hR.out]
   exact⟨rfl,B2.out⟩
  have tk:(m.kind != 33)=false:=by simp[h33]
  rw[if_pos h33] at hF
  have HF:=Hid.mk' hF
  have tw:IntKind.i64.wrap ((m.kids.length:Int)-1)=(P:Int):=by have:=hP.out;rw[IntKind.wrap_i64];omega
  have s1:=j2k 26 Tryz.htI2 j6w (some ⟨tb,tof,none⟩) m.kids.length d9 P (by have:=hP.out;omega) hcap
  have B3:Hid (Below X.heap.size X (X.alloc (.cells #[.int .i64 m.kind,.string m.text,.int .i64 m.num,.slice (some ⟨tb,tof,none⟩) m.kids.length d9] 73))):=j00 (Below.refl _ _) _
  have K3:=Hid.mk' (K2.out.later B3.out)
  have H3:=Hid.mk' (H2.out.later B3.out)
  have M3:=Hid.mk' (Blk.new X #[.int .i64 m.kind,.string m.text,.int .i64 m.num,.slice (some ⟨tb,tof,none⟩) m.kids.length d9] 73)
  obtain⟨y0,y1,y2,y3,y4⟩:=Blk.four' M3.out
  have z3':_=some (Value.slice s9 n.kids.length c9):=(K3.out.cell 3).trans rfl
  have hfX:w.heap.size<X.heap.size:=K2.out.lt
  clear hF h33 z4;by_cases hlen:n.kids.length=P
  rotate_left 1
  ·
   have tl:((n.kids.length:Int) != (P:Int))=true:=by simp;omega
   have hR:Hid (prE (j4a G.T ah Kp n)=(0,6)):=by
    show _=_
    unfold j4a j2m;rw[HF.out];simp only;rw[HNK.out,if_neg (by have:=hP.out;omega)];rfl
   go_wp2_with fail;refine bq (.tuple #[.int .i64 0,.int .i64 6]) ?_
   rw[hR.out]
   exact⟨rfl,j01 B2.out B3.out⟩
  have tl:((n.kids.length:Int) != (P:Int))=false:=by simp;omega
  have hall:=jd4 (Kp:=Kp) HF.out (by have:=hP.out;rw[HNK.out];omega)
  rw[HNK.out] at hall
  have HALL:=Hid.mk' hall
  have HL:=Hid.mk' hlen
  clear hall hlen;have L3:Hid (Below w.heap.size w (X.alloc (.cells #[.int .i64 m.kind,.string m.text,.int .i64 m.num,.slice (some ⟨tb,tof,none⟩) m.kids.length d9] 73))):=j01 B2.out B3.out
  have hq1:(X.alloc (.cells #[.int .i64 m.kind,.string m.text,.int .i64 m.num,.slice (some ⟨tb,tof,none⟩) m.kids.length d9] 73)).heap.size=X.heap.size+1:=by simp
  have X1:Hid ((X.alloc (.cells #[.int .i64 m.kind,.string m.text,.int .i64 m.num,.slice (some ⟨tb,tof,none⟩) m.kids.length d9] 73)).cell? ⟨G.c,1,none⟩=some (.slice (some ⟨nb,no,none⟩) G.T.nodes.length G.d1)):=by show _=_;rw[<-en1];exact(H3.out.bx.cell 1).trans rfl
  have SZ:=Hid.mk' hq1
  clear hq1;go_wp2_with fail;clear q0 q1 q2 q3 x1 z0 z1 z2 z3 H2 B2 K2 y3 z3';go_loopw [58] (λiv wr=>∃i:Nat,i<=n.kids.length/\iv=.int .i64 i/\Hid (∀j,j<i->Kp (kid n j).toNat=(nd G.T (kid m j)).num)/\Hid (Below (X.alloc (.cells #[.int .i64 m.kind,.string m.text,.int .i64 m.num,.slice (some ⟨tb,tof,none⟩) m.kids.length d9] 73)).heap.size (X.alloc (.cells #[.int .i64 m.kind,.string m.text,.int .i64 m.num,.slice (some ⟨tb,tof,none⟩) m.kids.length d9] 73)) wr)) (λiv _=>n.kids.length-(intOf iv).toNat)
  case atStart=>exact⟨0,Nat.zero_le _,rfl,λj hj=>absurd hj (Nat.not_lt_zero _),Below.refl _ _⟩
  obtain⟨i,hi,rfl,hin,hb⟩:=hrel
  have H4:=Hid.mk' (H3.out.later hb.out)
  by_cases hlt:i<n.kids.length
  ·
   obtain⟨x,hx⟩:=j0q hlt
   obtain⟨a,rfl,haN⟩:=HKN.out x (List.mem_of_getElem? hx)
   obtain⟨fb,fo,rfl,_,hfb,pp⟩:=j05 HKE.out hx
   have hiP:i<m.kids.length:=by have h1:=HL.out;have h2:=hP.out;omega
   obtain⟨y,hy⟩:=j0q hiP
   obtain⟨b,pn,rfl,_,hvb⟩:=HV.out.kid (List.mem_of_getElem? hy)
   obtain⟨tb2,tof2,etb,_,htb2,pp2⟩:=j05 EK.out hy
   simp only[Option.some.injEq,Addr.mk.injEq,and_true] at etb
   obtain⟨rfl,rfl⟩:=etb
   obtain⟨nb2,no2,t8,d8,en2,hnb2,f0,f1,f2,f3,_⟩:=Pd.node hG hvb.at_
   have enn:nb=nb2/\no=no2:=by rw[en1] at en2;simpa using en2
   obtain⟨rfl,rfl⟩:=enn
   have hbN:b<G.T.nodes.length:=(List.getElem?_eq_some_iff.1 hvb.at_).1
   have v1:=(H4.out.bl.cell (p:=⟨fb,fo+i,none⟩) hfb).trans pp
   have v2:=(H4.out.bl.cell (p:=⟨tb,tof+i,none⟩) htb2).trans pp2
   have v3:=(H4.out.bl.cell (p:=⟨nb,no+b*4+2,none⟩) hnb2).trans f2
   have v4:=H4.out.kc a haN
   have v5:wr.cell? ⟨G.c,1,none⟩=some (.slice (some ⟨nb,no,none⟩) G.T.nodes.length G.d1):=by rw[<-en1];exact(H4.out.bx.cell 1).trans rfl
   have v6:wr.cell? ⟨G.c,2,none⟩=some (.slice (some ⟨G.kb,0,none⟩) G.T.nodes.length G.T.nodes.length):=(H4.out.bx.cell 2).trans rfl
   have iI:(i:Int)<(n.kids.length:Int):=by omega
   have iP:(i:Int)<(P:Int):=by have h1:=HL.out;omega
   have aI:(a:Int)<(G.T.nodes.length:Int):=by omega
   have bI:(b:Int)<(G.T.nodes.length:Int):=by omega
   have HKA:Hid (kid n i=(a:Int)):=by show _=_;simp[kid,hx]
   have HKB:Hid ((nd G.T (kid m i))=pn):=by show _=_;rw[show kid m i=(b:Int) by simp[kid,hy]];exact j0j hvb.at_
   obtain⟨ka,hka⟩:∃k,Hid (Kp a=k):=⟨_,rfl⟩
   rw[hka.out] at v4
   have HLT:=Hid.mk' hlt
   clear hx hy pp pp2 f0 f1 f2 f3 hvb en2 hiP;by_cases he:ka=pn.num
   ·
    have te:(ka != pn.num)=false:=by simp[he]
    have HE:Hid (Kp (kid n i).toNat=(nd G.T (kid m i)).num):=by show _=_;rw[HKA.out,HKB.out,Int.toNat_natCast,hka.out,he]
    clear he;go_wp2_with fail;go_quiet (fail)
    go_wp2_with fail;go_roundw
    case rel=>exact⟨i+1,by omega,by go_num,(λj hj=>by
     by_cases e:j=i
     ·
      subst e;exact HE.out
     exact hin.out j (by omega)),j06 hb.out _⟩
    case measure=>simp[intOf];omega
   have te:(ka != pn.num)=true:=by simp[he]
   have hR:Hid (prE (j4a G.T ah Kp n)=(0,4)):=by
    show _=_
    rw[HALL.out.2 i hlt (by rw[HKA.out,HKB.out,Int.toNat_natCast,hka.out];exact he)];rfl
   clear he;go_wp2_with fail;go_quiet (fail)
   go_wp2_with fail;refine bq (.tuple #[.int .i64 0,.int .i64 4]) ?_
   rw[hR.out]
   exact⟨rfl,j06 (j01 L3.out hb.out) _⟩
  have hin':i=n.kids.length:=by omega
  subst hin'
  have hR:Hid (prE (j4a G.T ah Kp n)=(m.num,0)):=by
   show _=_
   rw[HALL.out.1 hin.out];rfl
  have y2':=((M3.out.later hb.out).cell 2).trans rfl
  go_wp2_with fail;refine bq (.tuple #[.int .i64 m.num,.int .i64 0]) ?_
  rw[hR.out]
  exact⟨rfl,j01 L3.out hb.out⟩
end
end
end Go.Proofs.YtjbbagcpcepkoaaGreatDoor
