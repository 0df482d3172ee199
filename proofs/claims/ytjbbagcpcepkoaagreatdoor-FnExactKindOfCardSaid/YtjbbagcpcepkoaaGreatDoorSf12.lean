import Derived.Test.YtjbbagcpcepkoaaGreatDoorSf11
import Derived.Laws.CopyOwn
namespace Go.Proofs.YtjbbagcpcepkoaaGreatDoor
set_option maxRecDepth 100000
set_option maxHeartbeats 64000000
set_option linter.unusedVariables false
set_option linter.unusedSimpArgs false
section
open Go.RowKit
theorem j5s {P:Program} {t:TypeId} {i:TypeInfo} {z:Value} (hi:P.info? t=some i) (hz:i.zero=some z) (ρ:Operand->Value) (o:Oper) (ho:o.op=.alloc t) (w:World):(execOp ρ o).run P w=.ok (.value (.pointer (some ⟨w.heap.size,0,none⟩))) (w.alloc (.cells z.cells t)):=by
 simp[execOp,ho,Instr.alloc,sizeOf,typeInfo,zeroValue,hi,hz,newRow,newVar]
theorem j3r {P:Program} {ops:Array Oper} {o:Oper} {a:Act} {w w':World} {K:Act->World->Prop} {Q:Exit->Act->World->Prop} {E:Prop} {v:Value} (hg:o.guard=none) {d0:Option Nat} (hd:o.dst=d0) (hr:(execOp a.eval o).run P w=.ok (.value v) w') (hK:K (a.put d0 v) w') :
  if Region.wanted o (yielded ops a.tmps)=true then Oper.wp P o a w K Q else E:=by
 have hw:Region.wanted o (yielded ops a.tmps)=true:=by simp[Region.wanted,hg]
 rw[if_pos hw]
 unfold Oper.wp
 rw[<-hd] at hK
 simp[hr]
 exact hK
theorem Tryz.infoV9:(Tryz.prog.info? 200).map (λi=>(i.zero,i.size,i.bytes))=some (some (.agg #[.int .i64 0,.int .i64 0,.float .f64 0,.float .f64 0]),4,32):=by kernel_rfl
theorem Tryz.infoV9s:(Tryz.prog.info? 200).map (·.size)=some 4:=by kernel_rfl
section
variable {ops:Array Oper} {o:Oper} {a:Act} {w:World} {K:Act->World->Prop} {Q:Exit->Act->World->Prop} {E:Prop}
theorem j1z (hg:o.guard=none) {d0:Option Nat} (hd:o.dst=d0) (ho:o.op=.alloc 200)
  (hK:∀k w',Blk w' k #[.int .i64 0,.int .i64 0,.float .f64 0,.float .f64 0] 200->w.heap.size=k->Below w.heap.size w w'->K (a.put d0 (.pointer (some ⟨k,0,none⟩))) w') :
  if Region.wanted o (yielded ops a.tmps)=true then Oper.wp Tryz.prog o a w K Q else E:=by
 obtain⟨ie,hie,he0,he1,he2⟩:=info_parts Tryz.infoV9
 exact j3r hg hd (j5s hie he0 _ o ho w) (hK _ _ (Blk.new w _ _) rfl (j00 (Below.refl _ _) _))
theorem j1y (hg:o.guard=none) (hd:o.dst=none) (x y:Operand) (ho:o.op=.store 200 x y) (k:Nat) (cells:Array Value) (hx:a.eval x=.pointer (some ⟨k,0,none⟩)) (hy:a.eval y=.agg cells) (hB:Blk w k #[.int .i64 0,.int .i64 0,.float .f64 0,.float .f64 0] 200) (hs:cells.size=4) (h1:cells.all (·.oneCell')=true)
  (hK:∀w',Blk w' k cells 200->(∀B W,Below B W w->B<=k->Below B W w')->K (a.put none undef) w') :
  if Region.wanted o (yielded ops a.tmps)=true then Oper.wp Tryz.prog o a w K Q else E:=by
 have hw:Region.wanted o (yielded ops a.tmps)=true:=by simp[Region.wanted,hg]
 rw[if_pos hw]
 exact wp_store_row 200 x y ho k cells hx hy 200 _ hB (by rw[Tryz.infoV9s,hs]) (by rw[hs];rfl) h1 (by rw[hd];exact hK _ (setRow_heap _ _ _ _ _ _ hB) (λB W h1 h2=>below_setRow h1 h2 _))
end
section
variable {G:Gd} {w w':World} {top:Int} {env:Env} {md:Md} {last:Int} {K:KM} {sn sk sw:Option Addr} {cn ck cw:Nat}
theorem jem (hG:G.Ok) {tp f:Nat} (hE:ExpS G top tp env md last f) (htp:top=(tp:Int)) (hle:tp<=G.T.tops.length) (hw:md.wth.length<=1048576) (henv:env.length<=1048576) {i:Nat} {n:Nd} (hv:VN G.T i n) (hi:i<f+1) (hk:n.kind=9) (h:Lv G w top env md last K sn cn sk ck sw cw) :
  Calls Tryz.prog 120 #[.pointer (some ⟨G.p,0,none⟩),.int .i64 (i:Int)] w λe w'=>j0z G w top env md last sn cn sk ck sw cw (ckB (Dg G) G.T (G.T.tops.take tp) md env f K (i:Int)) e w':=by
 have hl2:Hid (n.kids.length=1):=by have:=hv.len;rw[hk] at this;simpa[Hid,shp] using this.symm
 have hcl:Hid (∀j,j<n.kids.length->(shp n.kind n.kids.length)[j]?=some 1):=λj hj=>by
  have h2:=hl2.out
  rw[hk]
  have:j=0:=by omega
  subst this
  simp[shp]
 have HB:Hid (ckB (Dg G) G.T (G.T.tops.take tp) md env f K (i:Int)=if n.kind=5/\md.each=false then .error (5,(i:Int)) else match ckL (ckE (Dg G) G.T (G.T.tops.take tp) md env f) n.kids K with | .error e=> .error e | .ok (ks,K1)=>match rowE (Dg G) G.T (G.T.tops.take tp) md env n ks with | .error c=> .error (c,(i:Int)) | .ok k=> .ok (k,K1)):=by
  show _=_
  unfold ckB
  rw[j0j hv.at_,if_neg (by omega)]
  all_goals rfl
 obtain⟨nb,no,s9,c9,en1,hnb,e0,e1,e2,e3,ekids⟩:=hG.node hv.at_
 have hiN:i<G.T.nodes.length:=(List.getElem?_eq_some_iff.1 hv.at_).1
 have hnl:G.T.nodes.length<=1048576:=hG.k.1.1
 have hkl:n.kids.length<=1048576:=(hG.k.1.2 n (List.mem_of_getElem? hv.at_)).2
 have x3:w.cell? ⟨G.p,3,none⟩=some (.slice (some ⟨nb,no,none⟩) G.T.nodes.length G.d1):=by rw[<-en1];exact(h.bx.cell 3).trans rfl
 have q0:=(h.bl.cell (p:=⟨nb,no+i*4,none⟩) hnb).trans e0
 have q1:=(h.bl.cell (p:=⟨nb,no+i*4+1,none⟩) hnb).trans e1
 have q2:=(h.bl.cell (p:=⟨nb,no+i*4+2,none⟩) hnb).trans e2
 have q3:=(h.bl.cell (p:=⟨nb,no+i*4+3,none⟩) hnb).trans e3
 have iI:(i:Int)<(G.T.nodes.length:Int):=by omega
 have bz:Hid (Below w.heap.size w (w.alloc (.cells #[.int .i64 n.kind,.string n.text,.int .i64 n.num,.slice s9 n.kids.length c9] 73))):=j00 (Below.refl _ _) _
 have kk5:=Blk.new w #[.int .i64 n.kind,.string n.text,.int .i64 n.num,.slice s9 n.kids.length c9] 73
 have H1:Hid (Lv G (w.alloc (.cells #[.int .i64 n.kind,.string n.text,.int .i64 n.num,.slice s9 n.kids.length c9] 73)) top env md last K sn cn sk ck sw cw):=h.later bz.out
 have hp0:G.p<w.heap.size:=h.bx.lt
 have hk0:G.kb<w.heap.size:=h.kl
 have OL:Hid (Old3 G w.heap.size env md sn sk sw):=h.old
 have HV:Hid (VN G.T i n):=hv
 have HK:Hid (Els 1 cInt G.w0 G.B0 s9 n.kids):=ekids
 have HEx:Hid (ExpS G top tp env md last f):=hE
 have y8:(w.alloc (.cells #[.int .i64 n.kind,.string n.text,.int .i64 n.num,.slice s9 n.kids.length c9] 73)).cell? ⟨G.p,8,none⟩=some (.bool md.each):=(H1.out.bx.cell 8).trans rfl
 have hw0s:G.w0.heap.size<=w.heap.size:=h.bl.size
 clear h e0 e1 e2 e3 ekids hE;have t11:(n.kind ==11)=false:=by simp;omega
 obtain⟨z0,z1,z2,z3,z4⟩:=Blk.four' kk5
 by_cases hc5:n.kind=5/\md.each=false
 ·
  have hEr:Hid (ckB (Dg G) G.T (G.T.tops.take tp) md env f K (i:Int)=.error (5,(i:Int))):=by rw[HB.out,if_pos hc5];rfl
  have t5:(n.kind ==5)=true:=by simp[hc5.1]
  rw[hc5.2] at y8
  clear hc5 hv hk;go_enter Tryz.func120,Tryz.ntmps120
  go_wp2_with fail;refine(j0f hG H1.out 5 (i:Int) (by omega)).mono ?_
  rintro e w3 ⟨rfl,hd,ht⟩
  go_wp2_with fail;go_ret;exact j0z.bad hEr.out hd ((Tw.of bz.out).trans ht)
 have HB2:Hid (ckB (Dg G) G.T (G.T.tops.take tp) md env f K (i:Int)=match ckL (ckE (Dg G) G.T (G.T.tops.take tp) md env f) n.kids K with | .error e=> .error e | .ok (ks,K1)=>match rowE (Dg G) G.T (G.T.tops.take tp) md env n ks with | .error c=> .error (c,(i:Int)) | .ok k=> .ok (k,K1)):=by rw[HB.out,if_neg hc5];rfl
 have bz2:Hid (Below w.heap.size w ((w.alloc (.cells #[.int .i64 n.kind,.string n.text,.int .i64 n.num,.slice s9 n.kids.length c9] 73)).alloc (.cells #[] 3))):=j00 bz.out _
 have H2:Hid (Lv G ((w.alloc (.cells #[.int .i64 n.kind,.string n.text,.int .i64 n.num,.slice s9 n.kids.length c9] 73)).alloc (.cells #[] 3)) top env md last K sn cn sk ck sw cw):=H1.out.later (j00 (Below.refl _ _) _)
 have K52:Hid (Blk ((w.alloc (.cells #[.int .i64 n.kind,.string n.text,.int .i64 n.num,.slice s9 n.kids.length c9] 73)).alloc (.cells #[] 3)) w.heap.size #[.int .i64 n.kind,.string n.text,.int .i64 n.num,.slice s9 n.kids.length c9] 73):=kk5.alloc _
 have O2:Hid (OI ((w.alloc (.cells #[.int .i64 n.kind,.string n.text,.int .i64 n.num,.slice s9 n.kids.length c9] 73)).alloc (.cells #[] 3)) (w.heap.size+1) (.slice (some ⟨w.heap.size+1,0,none⟩) 0 0) []):=by
  have:=OI.empty (Blk.new (w.alloc (.cells #[.int .i64 n.kind,.string n.text,.int .i64 n.num,.slice s9 n.kids.length c9] 73)) #[] 3)
  have e:(w.alloc (.cells #[.int .i64 n.kind,.string n.text,.int .i64 n.num,.slice s9 n.kids.length c9] 73)).heap.size=w.heap.size+1:=by simp
  rw[e] at this
  exact this
 have T2:Hid (Tw G.p G.kb w ((w.alloc (.cells #[.int .i64 n.kind,.string n.text,.int .i64 n.num,.slice s9 n.kids.length c9] 73)).alloc (.cells #[] 3))):=Tw.of bz2.out
 have h5e:((n.kind ==5)&&!md.each)=false:=by
  cases h5:(n.kind ==5)
  ·
   rfl
  cases h6:md.each
  ·
   exact absurd ⟨by simpa using h5,h6⟩ hc5
  rfl
 have HK8:Hid (n.kind=9):=hk
 have h5:(n.kind ==5)=false:=by simp[hk]
 clear hv hk;go_enter Tryz.func120,Tryz.ntmps120
 all_goals
  go_wp2_with fail;clear z0 z1 z2 z3 z4 x3 y8 q0 q1 q2 q3 kk5 bz bz2 H1 h5 h5e hc5 t11;go_loopw [6,7] (λlv jv wr=>∃(j:Nat) (so:Option Addr) (co:Nat) (ks:List Int) (Kj:KM),j<=n.kids.length/\jv=.int .i64 j/\lv=.slice so ks.length co/\Hid (ks.length=j)/\Hid (ckL (ckE (Dg G) G.T (G.T.tops.take tp) md env f) n.kids K=match ckL (ckE (Dg G) G.T (G.T.tops.take tp) md env f) (n.kids.drop j) Kj with | .error e=> .error e | .ok (r,K1)=> .ok (ks++r,K1))/\Hid (OI wr (w.heap.size+1) (.slice so ks.length co) ks)/\Hid (Lv G wr top env md last Kj sn cn sk ck sw cw)/\Hid (Blk wr w.heap.size #[.int .i64 n.kind,.string n.text,.int .i64 n.num,.slice s9 n.kids.length c9] 73)/\Hid (Tw G.p G.kb w wr)) (λ_ jv _=>n.kids.length-(intOf jv).toNat)
  case atStart =>
   refine⟨0,_,_,[],K,Nat.zero_le _,rfl,rfl,rfl,?_,O2,H2,K52,T2⟩
   show _=_
   rw[List.drop_zero]
   cases ckL (ckE (Dg G) G.T (G.T.tops.take tp) md env f) n.kids K with
   | error e=>rfl
   | ok q=>obtain⟨a,b⟩:=q;rfl
  clear O2 H2 K52 T2;obtain⟨j,so,co,ks,Kj,hj,rfl,rfl,hks,hL,O4,H4,K54,T4⟩:=hrel
  obtain⟨z0,z1,z2,z3',z4⟩:=Blk.four' K54.out
  have hsz:w.heap.size<wr.heap.size:=K54.out.lt
  by_cases hlt:j<n.kids.length
  ·
   obtain⟨xi,hxi⟩:∃x,n.kids[j]?=some x:=⟨n.kids[j],by simp[hlt]⟩
   obtain⟨x,xn,rfl,hxlt,hvx⟩:=HV.out.kid (List.mem_of_getElem? hxi)
   obtain⟨fb,fo,hs9,_,hfb,p00⟩:=j05 HK.out hxi
   have hxe:isE xn.kind:=by
    have:=HV.out.cls hxi (c:=1) (hcl.out j hlt)
    rw[j0j hvx.at_] at this
    exact j1q this
   have z3:=z3'
   rw[hs9] at z3
   clear z3' hs9;have v0:=(H4.out.bl.cell (p:=⟨fb,fo+j,none⟩) hfb).trans p00
   have hd:Hid (n.kids.drop j=(x:Int) :: n.kids.drop (j+1)):=by
    show _=_
    rw[List.drop_eq_getElem_cons hlt]
    congr 1
    exact(List.getElem?_eq_some_iff.1 hxi).2
   have HVx:Hid (VN G.T x xn):=hvx
   have jI:(j:Int)<(n.kids.length:Int):=by omega
   have t2:decide ((j:Int)<(n.kids.length:Int))=true:=by simp;omega
   have hksl:ks.length<=1048576:=by have:=hks.out;omega
   clear hxi p00 hvx;go_wp2_with fail;refine(HEx.out x xn Kj _ sn cn sk ck sw cw (by omega) HVx.out hxe H4.out).mono ?_
   rintro e w5 hS5
   have T5:Hid (Tw G.p G.kb wr w5):=hS5.2
   have O5:Hid (OI w5 (w.heap.size+1) (.slice so ks.length co) ks):=O4.out.tw T5.out (by omega) (by omega)
   have K55:Hid (Blk w5 w.heap.size #[.int .i64 n.kind,.string n.text,.int .i64 n.num,.slice s9 n.kids.length c9] 73):=K54.out.tw T5.out (by omega) (by omega)
   have T6:Hid (Tw G.p G.kb w w5):=T4.out.trans T5.out
   have s5:w.heap.size+1<=w5.heap.size:=by have:=T5.out.size;omega
   cases hr:ckE (Dg G) G.T (G.T.tops.take tp) md env f Kj (x:Int) with
   | error q =>
    obtain⟨c,nq⟩:=q
    rw[hr] at hS5
    obtain⟨⟨rfl,hdd⟩,_⟩:=hS5
    have hEr:Hid (ckB (Dg G) G.T (G.T.tops.take tp) md env f K (i:Int)=.error (c,nq)):=by rw[HB2.out,hL.out,hd.out];simp[Hid,ckL,hr]
    have O6:Hid (OI (w5.alloc (.cells #[.int .i64 0] 3)) (w.heap.size+1) (.slice so ks.length co) ks):=O5.out.later (j00 (Below.refl _ _) _)
    have E6:Hid (Els 1 cInt (w5.alloc (.cells #[.int .i64 0] 3)) w5.heap.size (some ⟨w5.heap.size,0,none⟩) [0]):=Els.one (Blk.new w5 #[.int .i64 0] 3)
    have HD:Hid (Dd G (w5.alloc (.cells #[.int .i64 0] 3)) c nq):=hdd.later (j00 (Below.refl _ _) _)
    have T7:Hid (Tw G.p G.kb w (w5.alloc (.cells #[.int .i64 0] 3))):=T6.out.trans (Tw.of (j00 (Below.refl _ _) _))
    have s6:w.heap.size+1<=(w5.alloc (.cells #[.int .i64 0] 3)).heap.size:=by simp;omega
    have tc:(c != 0)=true:=by simp[hdd.ne]
    clear hdd;go_wp2_with (at_builtin;refine j0c rfl _ _ rfl (w.heap.size+1) so co ks rfl O6.out w5.heap.size _ 1 [0] rfl E6.out (ks++[0]) rfl (by simp;omega) s6 ?_)
    intro s' c' w7 hO7 hg7 hn7
    have hown:∀g,(Value.slice so ks.length co).ownBlock=some g->w.heap.size+1<=g:=λg hg=>(O6.out.lt g hg).1
    have HD7:Hid (Dd G w7 c nq):=HD.out.grown hg7 hown (by omega) (by omega)
    have T8:Hid (Tw G.p G.kb w w7):=T7.out.grown hg7 (λg hg=>by have:=hown g hg;omega)
    have y13:=HD7.out.c13
    go_wp2_with fail;go_ret;exact j0z.bad hEr.out HD7.out T8.out
   | ok q =>
    obtain⟨k,K1⟩:=q
    rw[hr] at hS5
    obtain⟨⟨rfl,hl⟩,_⟩:=hS5
    have hL2:Hid (ckL (ckE (Dg G) G.T (G.T.tops.take tp) md env f) n.kids K=match ckL (ckE (Dg G) G.T (G.T.tops.take tp) md env f) (n.kids.drop (j+1)) K1 with | .error e=> .error e | .ok (r,K1)=> .ok ((ks++[k])++r,K1)):=by
     show _=_
     rw[hL.out,hd.out]
     simp only[ckL,hr]
     cases ckL (ckE (Dg G) G.T (G.T.tops.take tp) md env f) (n.kids.drop (j+1)) K1 with
     | error e=>rfl
     | ok q=>obtain⟨a,b⟩:=q;simp
    have hks2:Hid ((ks++[k]).length=j+1):=by show _=_;simp[hks.out]
    obtain⟨R2,eR2⟩:∃R2,Hid (ks++[k]=R2):=⟨_,rfl⟩
    rw[eR2.out] at hL2 hks2
    have O6:Hid (OI (w5.alloc (.cells #[.int .i64 k] 3)) (w.heap.size+1) (.slice so ks.length co) ks):=O5.out.later (j00 (Below.refl _ _) _)
    have E6:Hid (Els 1 cInt (w5.alloc (.cells #[.int .i64 k] 3)) w5.heap.size (some ⟨w5.heap.size,0,none⟩) [k]):=Els.one (Blk.new w5 #[.int .i64 k] 3)
    have H6:Hid (Lv G (w5.alloc (.cells #[.int .i64 k] 3)) top env md last K1 sn cn sk ck sw cw):=hl.later (j00 (Below.refl _ _) _)
    have K56:Hid (Blk (w5.alloc (.cells #[.int .i64 k] 3)) w.heap.size #[.int .i64 n.kind,.string n.text,.int .i64 n.num,.slice s9 n.kids.length c9] 73):=K55.out.alloc _
    have T7:Hid (Tw G.p G.kb w (w5.alloc (.cells #[.int .i64 k] 3))):=T6.out.trans (Tw.of (j00 (Below.refl _ _) _))
    have s6:w.heap.size+1<=(w5.alloc (.cells #[.int .i64 k] 3)).heap.size:=by simp;omega
    clear hl;go_wp2_with (at_builtin;refine j0c rfl _ _ rfl (w.heap.size+1) so co ks rfl O6.out w5.heap.size _ 1 [k] rfl E6.out R2 eR2.out (by simp;omega) s6 ?_)
    intro s' c' w7 hO7 hg7 hn7
    have hown:∀g,(Value.slice so ks.length co).ownBlock=some g->w.heap.size+1<=g:=λg hg=>(O6.out.lt g hg).1
    have H7:Hid (Lv G w7 top env md last K1 sn cn sk ck sw cw):=H6.out.grown OL.out hg7 (λg hg=>by have:=hown g hg;omega) hp0 hk0 hw0s
    have T8:Hid (Tw G.p G.kb w w7):=T7.out.grown hg7 (λg hg=>by have:=hown g hg;omega)
    have K57:Hid (Blk w7 w.heap.size #[.int .i64 n.kind,.string n.text,.int .i64 n.num,.slice s9 n.kids.length c9] 73):=by
     show Blk _ _ _ _
     unfold Blk
     rw[hg7.block w.heap.size K56.out.lt (λe=>by have:=hown _ e.symm;omega)]
     exact K56.out
    have HO7:Hid (OI w7 (w.heap.size+1) (.slice s' R2.length c') R2):=hO7
    have y13:w7.cell? ⟨G.p,13,none⟩=some (.int .i64 0):=(H7.out.bx.cell 13).trans rfl
    clear hO7 hg7 hn7 hown O6 E6 H6 K56 T7;go_wp2_with fail;go_roundw
    case rel=>exact⟨j+1,s',c',R2,K1,by omega,by go_num,rfl,hks2,hL2,HO7,H7,K57,T8⟩
    case measure=>simp[intOf];omega
  have hjj:j=n.kids.length:=by omega
  subst hjj
  have t2:decide ((n.kids.length:Int)<(n.kids.length:Int))=false:=by simp
  have hfin:Hid (ckB (Dg G) G.T (G.T.tops.take tp) md env f K (i:Int)=match rowE (Dg G) G.T (G.T.tops.take tp) md env n ks with | .error c=> .error (c,(i:Int)) | .ok k=> .ok (k,Kj)):=by
   show _=_
   rw[HB2.out,hL.out,List.drop_length]
   simp only[ckL,List.append_nil]
  have hp1:¬G.p=w.heap.size/\G.p<w.heap.size+1:=⟨by omega,by omega⟩
  have hk1:¬G.kb=w.heap.size/\G.kb<w.heap.size+1:=⟨by omega,by omega⟩
  clear hL HB2 HB hj hlt;have hk7:=HK8.out
  have tk1:(n.kind ==1)=false:=by simp[hk7]
  have tk2:(n.kind ==2)=false:=by simp[hk7]
  have tk3:(n.kind ==3)=false:=by simp[hk7]
  have tk4:(n.kind ==4)=false:=by simp[hk7]
  have tk5:(n.kind ==5)=false:=by simp[hk7]
  have tk6:(n.kind ==6)=false:=by simp[hk7]
  have tk7:(n.kind ==7)=false:=by simp[hk7]
  have tk8:(n.kind ==8)=false:=by simp[hk7]
  have tk9:(n.kind ==9)=true:=by simp[hk7]
  have hks2:ks.length=1:=by rw[hks.out];exact hl2.out
  obtain⟨a,rfl⟩:∃a,ks=[a]:=by
   match ks,hks2 with
   | [a],_=>exact⟨a,rfl⟩
  have hro:Hid (rowE (Dg G) G.T (G.T.tops.take tp) md env n [a]=kdOr (j3n n.num a)):=by simp[Hid,rowE,hk7]
  obtain⟨lb,lo,hso,_,hlb,l0⟩:=j05 O4.out.els (j:=0) (a:=a) rfl
  subst hso
  rw[Nat.add_zero] at l0
  clear hks2 hks hk7;go_wp2_with fail;have hS:Hid (∀X,Below wr.heap.size wr X->X.cell? ⟨w.heap.size,2,none⟩=some (.int .i64 n.num)/\X.cell? ⟨lb,lo,none⟩=some (.int .i64 a)):=λX hX=>⟨(hX.cell (p:=⟨w.heap.size,2,none⟩) hsz).trans z2,(hX.cell (p:=⟨lb,lo,none⟩) hlb).trans l0⟩
  refine wp_region_held_drew (S:=λX=>X.cell? ⟨w.heap.size,2,none⟩=some (.int .i64 n.num)/\X.cell? ⟨lb,lo,none⟩=some (.int .i64 a)) (by kernel_rfl) ?_ (λhHeld=>?_)
  ·
   exact hS.out _ (j02 (Below.refl _ _))
  have BX:Hid (Below wr.heap.size wr wr.drew):=j02 (Below.refl _ _)
  refine wpr 0 169 ?_;simp only[zs];refine wpr 1 170 ?_;simp only[zs];refine wpr 2 171 ?_;simp only[zs];refine wpr 3 172 ?_;simp only[zs];refine wpr 4 173 ?_;simp only[zs];refine wpAnyH_ready (rs:=[5,10]) (by kernel_rfl) (by simp) ?_
  refine AllReadyH.cons rfl (λK hK=>?_) ?_
  ·
   skip
   go_simp;refine(j2c a _).mono ?_
   rintro z g1 ⟨rfl,hb⟩
   have BX:Hid (Below wr.heap.size wr g1):=j01 BX.out hb
   clear hb;refine hK.out _ _ (hS.out _ BX.out) (λhHeld=>?_)
   clear hK K;try simp only[zs]
   refine wpAnyH_ready (rs:=[6,10]) (by kernel_rfl) (by simp) ?_
   refine AllReadyH.cons rfl (λK hK=>?_) ?_
   ·
    skip
    go_simp;refine(j4g n.num (zk a) 0 0 0 _ (by decide) (by decide)).mono ?_
    rintro z g2 ⟨ek,ei,ex,ey,rfl,hV,hb⟩
    have ho:=j4b n.num a
    obtain⟨O,hO⟩:∃O,j14 n.num (zk a) 0 0 0=O:=⟨_,rfl⟩
    rw[hO] at hV ho ⊢
    have hek:ek=O.1.1:=hV.1
    obtain⟨oc,hoc⟩:∃c,O.2=c:=⟨_,rfl⟩
    rw[hoc] at ho ⊢
    rw[<-hek] at ho
    clear hV hO hek hoc;have BX:Hid (Below wr.heap.size wr g2):=j01 BX.out hb
    clear hb;refine hK.out _ _ (hS.out _ BX.out) (λhHeld=>?_)
    clear hK K;try simp only[zs]
    refine wpr 7 168 ?_;simp only[zs];refine wpr 8 176 ?_;simp only[zs];refine wpr 9 177 ?_;simp only[zs];refine wpy 10 λK hK=>?_
    refine j1z rfl (d0:=some 14) rfl rfl ?_
    intro kz g3 KZ0 hk hb
    have hwk:Hid (wr.heap.size<=kz):=by have:=BX.out.size;show _<=_;omega
    have KZ:Hid (Blk g3 kz #[.int .i64 0,.int .i64 0,.float .f64 0,.float .f64 0] 200):=KZ0
    have BX:Hid (Below wr.heap.size wr g3):=j01 BX.out hb
    clear KZ0 hk hb;refine hK.out _ _ (hS.out _ BX.out) (λhHeld=>?_)
    clear hK K;try simp only[zs]
    refine wpy 11 λK hK=>?_
    refine j1y rfl rfl (.tmp 14) (.tmp 176) rfl kz #[.int .i64 ek,.int .i64 ei,.float .f64 ex,.float .f64 ey] rfl rfl KZ.out rfl (by simp[Value.oneCell']) ?_
    intro Z KV0 hb
    have BX:Hid (Below wr.heap.size wr Z):=hb _ _ BX.out hwk.out
    have KV:Hid (Blk Z kz #[.int .i64 ek,.int .i64 ei,.float .f64 ex,.float .f64 ey] 200):=KV0
    clear KV0 hb KZ;refine hK.out _ _ (hS.out _ BX.out) (λhHeld=>?_)
    clear hK K;try simp only[zs]
    refine wpr 12 15 ?_;simp only[zs];refine wpAnyH_done (by kernel_rfl) ?_ _
    clear hHeld hS;have H6:Hid (Lv G Z top env md last Kj sn cn sk ck sw cw):=H4.out.later BX.out
    have T6:Hid (Tw G.p G.kb w Z):=T4.out.trans (Tw.of BX.out)
    obtain⟨v0,v1,v2,v3,v4⟩:=Blk.four' KV.out
    rcases ho with ⟨rfl,he1,he2⟩|⟨he1,he2⟩
    ·
     have hEr:Hid (ckB (Dg G) G.T (G.T.tops.take tp) md env f K (i:Int)=.ok (ek,Kj)):=by rw[hfin.out,hro.out];show _=_;unfold kdOr;rw[if_neg he2,<-he1]
     clear he1 he2;go_wp2_with fail;go_ret;exact j0z.good hEr.out H6.out T6.out
    have toc:(oc != 0)=true:=by simp[he1]
    have hEr:Hid (ckB (Dg G) G.T (G.T.tops.take tp) md env f K (i:Int)=.error (4,(i:Int))):=by rw[hfin.out,hro.out,he2];rfl
    clear he1 he2;go_wp2_with fail;refine(j0f hG H6.out 4 (i:Int) (by omega)).mono ?_
    rintro e w6 ⟨rfl,hd,ht⟩
    go_wp2_with fail;go_ret;exact j0z.bad hEr.out hd (T6.out.trans ht)
   refine AllReadyH.cons rfl (λK hK=>?_) AllReadyH.nil
   refine j1z rfl (d0:=some 14) rfl rfl ?_
   intro kz g5 KZ0 hk hb
   have hwk:Hid (wr.heap.size<=kz):=by have:=BX.out.size;show _<=_;omega
   have KZ:Hid (Blk g5 kz #[.int .i64 0,.int .i64 0,.float .f64 0,.float .f64 0] 200):=KZ0
   have BX:Hid (Below wr.heap.size wr g5):=j01 BX.out hb
   clear KZ0 hk hb;refine hK.out _ _ (hS.out _ BX.out) (λhHeld=>?_)
   clear hK K;try simp only[zs]
   refine wpy 6 λK hK=>?_
   go_simp;refine(j4g n.num (zk a) 0 0 0 _ (by decide) (by decide)).mono ?_
   rintro z g6 ⟨ek,ei,ex,ey,rfl,hV,hb⟩
   have ho:=j4b n.num a
   obtain⟨O,hO⟩:∃O,j14 n.num (zk a) 0 0 0=O:=⟨_,rfl⟩
   rw[hO] at hV ho ⊢
   have hek:ek=O.1.1:=hV.1
   obtain⟨oc,hoc⟩:∃c,O.2=c:=⟨_,rfl⟩
   rw[hoc] at ho ⊢
   rw[<-hek] at ho
   clear hV hO hek hoc;have BX:Hid (Below wr.heap.size wr g6):=j01 BX.out hb
   have KZ:Hid (Blk g6 kz #[.int .i64 0,.int .i64 0,.float .f64 0,.float .f64 0] 200):=KZ.out.later hb
   clear hb;refine hK.out _ _ (hS.out _ BX.out) (λhHeld=>?_)
   clear hK K;try simp only[zs]
   refine wpr 7 168 ?_;simp only[zs];refine wpr 8 176 ?_;simp only[zs];refine wpr 9 177 ?_;simp only[zs];refine wpy 11 λK hK=>?_
   refine j1y rfl rfl (.tmp 14) (.tmp 176) rfl kz #[.int .i64 ek,.int .i64 ei,.float .f64 ex,.float .f64 ey] rfl rfl KZ.out rfl (by simp[Value.oneCell']) ?_
   intro Z KV0 hb
   have BX:Hid (Below wr.heap.size wr Z):=hb _ _ BX.out hwk.out
   have KV:Hid (Blk Z kz #[.int .i64 ek,.int .i64 ei,.float .f64 ex,.float .f64 ey] 200):=KV0
   clear KV0 hb KZ;refine hK.out _ _ (hS.out _ BX.out) (λhHeld=>?_)
   clear hK K;try simp only[zs]
   refine wpr 12 15 ?_;simp only[zs];refine wpAnyH_done (by kernel_rfl) ?_ _
   clear hHeld hS;have H6:Hid (Lv G Z top env md last Kj sn cn sk ck sw cw):=H4.out.later BX.out
   have T6:Hid (Tw G.p G.kb w Z):=T4.out.trans (Tw.of BX.out)
   obtain⟨v0,v1,v2,v3,v4⟩:=Blk.four' KV.out
   rcases ho with ⟨rfl,he1,he2⟩|⟨he1,he2⟩
   ·
    have hEr:Hid (ckB (Dg G) G.T (G.T.tops.take tp) md env f K (i:Int)=.ok (ek,Kj)):=by rw[hfin.out,hro.out];show _=_;unfold kdOr;rw[if_neg he2,<-he1]
    clear he1 he2;go_wp2_with fail;go_ret;exact j0z.good hEr.out H6.out T6.out
   have toc:(oc != 0)=true:=by simp[he1]
   have hEr:Hid (ckB (Dg G) G.T (G.T.tops.take tp) md env f K (i:Int)=.error (4,(i:Int))):=by rw[hfin.out,hro.out,he2];rfl
   clear he1 he2;go_wp2_with fail;refine(j0f hG H6.out 4 (i:Int) (by omega)).mono ?_
   rintro e w6 ⟨rfl,hd,ht⟩
   go_wp2_with fail;go_ret;exact j0z.bad hEr.out hd (T6.out.trans ht)
  refine AllReadyH.cons rfl (λK hK=>?_) AllReadyH.nil
  refine j1z rfl (d0:=some 14) rfl rfl ?_
  intro kz g8 KZ0 hk hb
  have hwk:Hid (wr.heap.size<=kz):=by have:=BX.out.size;show _<=_;omega
  have KZ:Hid (Blk g8 kz #[.int .i64 0,.int .i64 0,.float .f64 0,.float .f64 0] 200):=KZ0
  have BX:Hid (Below wr.heap.size wr g8):=j01 BX.out hb
  clear KZ0 hk hb;refine hK.out _ _ (hS.out _ BX.out) (λhHeld=>?_)
  clear hK K;try simp only[zs]
  refine wpy 5 λK hK=>?_
  go_simp;refine(j2c a _).mono ?_
  rintro z g9 ⟨rfl,hb⟩
  have BX:Hid (Below wr.heap.size wr g9):=j01 BX.out hb
  have KZ:Hid (Blk g9 kz #[.int .i64 0,.int .i64 0,.float .f64 0,.float .f64 0] 200):=KZ.out.later hb
  clear hb;refine hK.out _ _ (hS.out _ BX.out) (λhHeld=>?_)
  clear hK K;try simp only[zs]
  refine wpy 6 λK hK=>?_
  go_simp;refine(j4g n.num (zk a) 0 0 0 _ (by decide) (by decide)).mono ?_
  rintro z g10 ⟨ek,ei,ex,ey,rfl,hV,hb⟩
  have ho:=j4b n.num a
  obtain⟨O,hO⟩:∃O,j14 n.num (zk a) 0 0 0=O:=⟨_,rfl⟩
  rw[hO] at hV ho ⊢
  have hek:ek=O.1.1:=hV.1
  obtain⟨oc,hoc⟩:∃c,O.2=c:=⟨_,rfl⟩
  rw[hoc] at ho ⊢
  rw[<-hek] at ho
  clear hV hO hek hoc;have BX:Hid (Below wr.heap.size wr g10):=j01 BX.out hb
  have KZ:Hid (Blk g10 kz #[.int .i64 0,.int .i64 0,.float .f64 0,.float .f64 0] 200):=KZ.out.later hb
  clear hb;refine hK.out _ _ (hS.out _ BX.out) (λhHeld=>?_)
  clear hK K;try simp only[zs]
  refine wpr 7 168 ?_;simp only[zs];refine wpr 8 176 ?_;simp only[zs];refine wpr 9 177 ?_;simp only[zs];refine wpy 11 λK hK=>?_
  refine j1y rfl rfl (.tmp 14) (.tmp 176) rfl kz #[.int .i64 ek,.int .i64 ei,.float .f64 ex,.float .f64 ey] rfl rfl KZ.out rfl (by simp[Value.oneCell']) ?_
  intro Z KV0 hb
  have BX:Hid (Below wr.heap.size wr Z):=hb _ _ BX.out hwk.out
  have KV:Hid (Blk Z kz #[.int .i64 ek,.int .i64 ei,.float .f64 ex,.float .f64 ey] 200):=KV0
  clear KV0 hb KZ;refine hK.out _ _ (hS.out _ BX.out) (λhHeld=>?_)
  clear hK K;try simp only[zs]
  refine wpr 12 15 ?_;simp only[zs];refine wpAnyH_done (by kernel_rfl) ?_ _
  clear hHeld hS;have H6:Hid (Lv G Z top env md last Kj sn cn sk ck sw cw):=H4.out.later BX.out
  have T6:Hid (Tw G.p G.kb w Z):=T4.out.trans (Tw.of BX.out)
  obtain⟨v0,v1,v2,v3,v4⟩:=Blk.four' KV.out
  rcases ho with ⟨rfl,he1,he2⟩|⟨he1,he2⟩
  ·
   have hEr:Hid (ckB (Dg G) G.T (G.T.tops.take tp) md env f K (i:Int)=.ok (ek,Kj)):=by rw[hfin.out,hro.out];show _=_;unfold kdOr;rw[if_neg he2,<-he1]
   clear he1 he2;go_wp2_with fail;go_ret;exact j0z.good hEr.out H6.out T6.out
  have toc:(oc != 0)=true:=by simp[he1]
  have hEr:Hid (ckB (Dg G) G.T (G.T.tops.take tp) md env f K (i:Int)=.error (4,(i:Int))):=by rw[hfin.out,hro.out,he2];rfl
  clear he1 he2;go_wp2_with fail;refine(j0f hG H6.out 4 (i:Int) (by omega)).mono ?_
  rintro e w6 ⟨rfl,hd,ht⟩
  go_wp2_with fail;go_ret;exact j0z.bad hEr.out hd (T6.out.trans ht)
end
end
section
open Go.RowKit
section
variable {G:Gd} {w w':World} {top:Int} {env:Env} {md:Md} {last:Int} {K:KM} {sn sk sw:Option Addr} {cn ck cw:Nat}
theorem jd6 (hG:G.Ok) {tp f:Nat} (hE:ExpS G top tp env md last f) (htp:top=(tp:Int)) (hle:tp<=G.T.tops.length) (hw:md.wth.length<=1048576) (henv:env.length<=1048576) {i:Nat} {n:Nd} (hv:VN G.T i n) (hi:i<f+1) (hk:n.kind=10) (h:Lv G w top env md last K sn cn sk ck sw cw) :
  Calls Tryz.prog 120 #[.pointer (some ⟨G.p,0,none⟩),.int .i64 (i:Int)] w λe w'=>j0z G w top env md last sn cn sk ck sw cw (ckB (Dg G) G.T (G.T.tops.take tp) md env f K (i:Int)) e w':=by
 have hl2:Hid (n.kids.length=2):=by have:=hv.len;rw[hk] at this;simpa[Hid,shp] using this.symm
 have hcl:Hid (∀j,j<n.kids.length->(shp n.kind n.kids.length)[j]?=some 1):=λj hj=>by
  have h2:=hl2.out
  rw[hk]
  have:j=0\/j=1:=by omega
  rcases this with rfl|rfl<;>simp[shp]
 have HB:Hid (ckB (Dg G) G.T (G.T.tops.take tp) md env f K (i:Int)=if n.kind=5/\md.each=false then .error (5,(i:Int)) else match ckL (ckE (Dg G) G.T (G.T.tops.take tp) md env f) n.kids K with | .error e=> .error e | .ok (ks,K1)=>match rowE (Dg G) G.T (G.T.tops.take tp) md env n ks with | .error c=> .error (c,(i:Int)) | .ok k=> .ok (k,K1)):=by
  show _=_
  unfold ckB
  rw[j0j hv.at_,if_neg (by omega)]
  all_goals rfl
 obtain⟨nb,no,s9,c9,en1,hnb,e0,e1,e2,e3,ekids⟩:=hG.node hv.at_
 have hiN:i<G.T.nodes.length:=(List.getElem?_eq_some_iff.1 hv.at_).1
 have hnl:G.T.nodes.length<=1048576:=hG.k.1.1
 have hkl:n.kids.length<=1048576:=(hG.k.1.2 n (List.mem_of_getElem? hv.at_)).2
 have x3:w.cell? ⟨G.p,3,none⟩=some (.slice (some ⟨nb,no,none⟩) G.T.nodes.length G.d1):=by rw[<-en1];exact(h.bx.cell 3).trans rfl
 have q0:=(h.bl.cell (p:=⟨nb,no+i*4,none⟩) hnb).trans e0
 have q1:=(h.bl.cell (p:=⟨nb,no+i*4+1,none⟩) hnb).trans e1
 have q2:=(h.bl.cell (p:=⟨nb,no+i*4+2,none⟩) hnb).trans e2
 have q3:=(h.bl.cell (p:=⟨nb,no+i*4+3,none⟩) hnb).trans e3
 have iI:(i:Int)<(G.T.nodes.length:Int):=by omega
 have bz:Hid (Below w.heap.size w (w.alloc (.cells #[.int .i64 n.kind,.string n.text,.int .i64 n.num,.slice s9 n.kids.length c9] 73))):=j00 (Below.refl _ _) _
 have kk5:=Blk.new w #[.int .i64 n.kind,.string n.text,.int .i64 n.num,.slice s9 n.kids.length c9] 73
 have H1:Hid (Lv G (w.alloc (.cells #[.int .i64 n.kind,.string n.text,.int .i64 n.num,.slice s9 n.kids.length c9] 73)) top env md last K sn cn sk ck sw cw):=h.later bz.out
 have hp0:G.p<w.heap.size:=h.bx.lt
 have hk0:G.kb<w.heap.size:=h.kl
 have OL:Hid (Old3 G w.heap.size env md sn sk sw):=h.old
 have HV:Hid (VN G.T i n):=hv
 have HK:Hid (Els 1 cInt G.w0 G.B0 s9 n.kids):=ekids
 have HEx:Hid (ExpS G top tp env md last f):=hE
 have y8:(w.alloc (.cells #[.int .i64 n.kind,.string n.text,.int .i64 n.num,.slice s9 n.kids.length c9] 73)).cell? ⟨G.p,8,none⟩=some (.bool md.each):=(H1.out.bx.cell 8).trans rfl
 have hw0s:G.w0.heap.size<=w.heap.size:=h.bl.size
 clear h e0 e1 e2 e3 ekids hE;have t11:(n.kind ==11)=false:=by simp;omega
 obtain⟨z0,z1,z2,z3,z4⟩:=Blk.four' kk5
 by_cases hc5:n.kind=5/\md.each=false
 ·
  have hEr:Hid (ckB (Dg G) G.T (G.T.tops.take tp) md env f K (i:Int)=.error (5,(i:Int))):=by rw[HB.out,if_pos hc5];rfl
  have t5:(n.kind ==5)=true:=by simp[hc5.1]
  rw[hc5.2] at y8
  clear hc5 hv hk;go_enter Tryz.func120,Tryz.ntmps120
  go_wp2_with fail;refine(j0f hG H1.out 5 (i:Int) (by omega)).mono ?_
  rintro e w3 ⟨rfl,hd,ht⟩
  go_wp2_with fail;go_ret;exact j0z.bad hEr.out hd ((Tw.of bz.out).trans ht)
 have HB2:Hid (ckB (Dg G) G.T (G.T.tops.take tp) md env f K (i:Int)=match ckL (ckE (Dg G) G.T (G.T.tops.take tp) md env f) n.kids K with | .error e=> .error e | .ok (ks,K1)=>match rowE (Dg G) G.T (G.T.tops.take tp) md env n ks with | .error c=> .error (c,(i:Int)) | .ok k=> .ok (k,K1)):=by rw[HB.out,if_neg hc5];rfl
 have bz2:Hid (Below w.heap.size w ((w.alloc (.cells #[.int .i64 n.kind,.string n.text,.int .i64 n.num,.slice s9 n.kids.length c9] 73)).alloc (.cells #[] 3))):=j00 bz.out _
 have H2:Hid (Lv G ((w.alloc (.cells #[.int .i64 n.kind,.string n.text,.int .i64 n.num,.slice s9 n.kids.length c9] 73)).alloc (.cells #[] 3)) top env md last K sn cn sk ck sw cw):=H1.out.later (j00 (Below.refl _ _) _)
 have K52:Hid (Blk ((w.alloc (.cells #[.int .i64 n.kind,.string n.text,.int .i64 n.num,.slice s9 n.kids.length c9] 73)).alloc (.cells #[] 3)) w.heap.size #[.int .i64 n.kind,.string n.text,.int .i64 n.num,.slice s9 n.kids.length c9] 73):=kk5.alloc _
 have O2:Hid (OI ((w.alloc (.cells #[.int .i64 n.kind,.string n.text,.int .i64 n.num,.slice s9 n.kids.length c9] 73)).alloc (.cells #[] 3)) (w.heap.size+1) (.slice (some ⟨w.heap.size+1,0,none⟩) 0 0) []):=by
  have:=OI.empty (Blk.new (w.alloc (.cells #[.int .i64 n.kind,.string n.text,.int .i64 n.num,.slice s9 n.kids.length c9] 73)) #[] 3)
  have e:(w.alloc (.cells #[.int .i64 n.kind,.string n.text,.int .i64 n.num,.slice s9 n.kids.length c9] 73)).heap.size=w.heap.size+1:=by simp
  rw[e] at this
  exact this
 have T2:Hid (Tw G.p G.kb w ((w.alloc (.cells #[.int .i64 n.kind,.string n.text,.int .i64 n.num,.slice s9 n.kids.length c9] 73)).alloc (.cells #[] 3))):=Tw.of bz2.out
 have h5e:((n.kind ==5)&&!md.each)=false:=by
  cases h5:(n.kind ==5)
  ·
   rfl
  cases h6:md.each
  ·
   exact absurd ⟨by simpa using h5,h6⟩ hc5
  rfl
 have HK8:Hid (n.kind=10):=hk
 have h5:(n.kind ==5)=false:=by simp[hk]
 clear hv hk;go_enter Tryz.func120,Tryz.ntmps120
 all_goals
  go_wp2_with fail;clear z0 z1 z2 z3 z4 x3 y8 q0 q1 q2 q3 kk5 bz bz2 H1 h5 h5e hc5 t11;go_loopw [6,7] (λlv jv wr=>∃(j:Nat) (so:Option Addr) (co:Nat) (ks:List Int) (Kj:KM),j<=n.kids.length/\jv=.int .i64 j/\lv=.slice so ks.length co/\Hid (ks.length=j)/\Hid (ckL (ckE (Dg G) G.T (G.T.tops.take tp) md env f) n.kids K=match ckL (ckE (Dg G) G.T (G.T.tops.take tp) md env f) (n.kids.drop j) Kj with | .error e=> .error e | .ok (r,K1)=> .ok (ks++r,K1))/\Hid (OI wr (w.heap.size+1) (.slice so ks.length co) ks)/\Hid (Lv G wr top env md last Kj sn cn sk ck sw cw)/\Hid (Blk wr w.heap.size #[.int .i64 n.kind,.string n.text,.int .i64 n.num,.slice s9 n.kids.length c9] 73)/\Hid (Tw G.p G.kb w wr)) (λ_ jv _=>n.kids.length-(intOf jv).toNat)
  case atStart =>
   refine⟨0,_,_,[],K,Nat.zero_le _,rfl,rfl,rfl,?_,O2,H2,K52,T2⟩
   show _=_
   rw[List.drop_zero]
   cases ckL (ckE (Dg G) G.T (G.T.tops.take tp) md env f) n.kids K with
   | error e=>rfl
   | ok q=>obtain⟨a,b⟩:=q;rfl
  clear O2 H2 K52 T2;obtain⟨j,so,co,ks,Kj,hj,rfl,rfl,hks,hL,O4,H4,K54,T4⟩:=hrel
  obtain⟨z0,z1,z2,z3',z4⟩:=Blk.four' K54.out
  have hsz:w.heap.size<wr.heap.size:=K54.out.lt
  by_cases hlt:j<n.kids.length
  ·
   obtain⟨xi,hxi⟩:∃x,n.kids[j]?=some x:=⟨n.kids[j],by simp[hlt]⟩
   obtain⟨x,xn,rfl,hxlt,hvx⟩:=HV.out.kid (List.mem_of_getElem? hxi)
   obtain⟨fb,fo,hs9,_,hfb,p00⟩:=j05 HK.out hxi
   have hxe:isE xn.kind:=by
    have:=HV.out.cls hxi (c:=1) (hcl.out j hlt)
    rw[j0j hvx.at_] at this
    exact j1q this
   have z3:=z3'
   rw[hs9] at z3
   clear z3' hs9;have v0:=(H4.out.bl.cell (p:=⟨fb,fo+j,none⟩) hfb).trans p00
   have hd:Hid (n.kids.drop j=(x:Int) :: n.kids.drop (j+1)):=by
    show _=_
    rw[List.drop_eq_getElem_cons hlt]
    congr 1
    exact(List.getElem?_eq_some_iff.1 hxi).2
   have HVx:Hid (VN G.T x xn):=hvx
   have jI:(j:Int)<(n.kids.length:Int):=by omega
   have t2:decide ((j:Int)<(n.kids.length:Int))=true:=by simp;omega
   have hksl:ks.length<=1048576:=by have:=hks.out;omega
   clear hxi p00 hvx;go_wp2_with fail;refine(HEx.out x xn Kj _ sn cn sk ck sw cw (by omega) HVx.out hxe H4.out).mono ?_
   rintro e w5 hS5
   have T5:Hid (Tw G.p G.kb wr w5):=hS5.2
   have O5:Hid (OI w5 (w.heap.size+1) (.slice so ks.length co) ks):=O4.out.tw T5.out (by omega) (by omega)
   have K55:Hid (Blk w5 w.heap.size #[.int .i64 n.kind,.string n.text,.int .i64 n.num,.slice s9 n.kids.length c9] 73):=K54.out.tw T5.out (by omega) (by omega)
   have T6:Hid (Tw G.p G.kb w w5):=T4.out.trans T5.out
   have s5:w.heap.size+1<=w5.heap.size:=by have:=T5.out.size;omega
   cases hr:ckE (Dg G) G.T (G.T.tops.take tp) md env f Kj (x:Int) with
   | error q =>
    obtain⟨c,nq⟩:=q
    rw[hr] at hS5
    obtain⟨⟨rfl,hdd⟩,_⟩:=hS5
    have hEr:Hid (ckB (Dg G) G.T (G.T.tops.take tp) md env f K (i:Int)=.error (c,nq)):=by rw[HB2.out,hL.out,hd.out];simp[Hid,ckL,hr]
    have O6:Hid (OI (w5.alloc (.cells #[.int .i64 0] 3)) (w.heap.size+1) (.slice so ks.length co) ks):=O5.out.later (j00 (Below.refl _ _) _)
    have E6:Hid (Els 1 cInt (w5.alloc (.cells #[.int .i64 0] 3)) w5.heap.size (some ⟨w5.heap.size,0,none⟩) [0]):=Els.one (Blk.new w5 #[.int .i64 0] 3)
    have HD:Hid (Dd G (w5.alloc (.cells #[.int .i64 0] 3)) c nq):=hdd.later (j00 (Below.refl _ _) _)
    have T7:Hid (Tw G.p G.kb w (w5.alloc (.cells #[.int .i64 0] 3))):=T6.out.trans (Tw.of (j00 (Below.refl _ _) _))
    have s6:w.heap.size+1<=(w5.alloc (.cells #[.int .i64 0] 3)).heap.size:=by simp;omega
    have tc:(c != 0)=true:=by simp[hdd.ne]
    clear hdd;go_wp2_with (at_builtin;refine j0c rfl _ _ rfl (w.heap.size+1) so co ks rfl O6.out w5.heap.size _ 1 [0] rfl E6.out (ks++[0]) rfl (by simp;omega) s6 ?_)
    intro s' c' w7 hO7 hg7 hn7
    have hown:∀g,(Value.slice so ks.length co).ownBlock=some g->w.heap.size+1<=g:=λg hg=>(O6.out.lt g hg).1
    have HD7:Hid (Dd G w7 c nq):=HD.out.grown hg7 hown (by omega) (by omega)
    have T8:Hid (Tw G.p G.kb w w7):=T7.out.grown hg7 (λg hg=>by have:=hown g hg;omega)
    have y13:=HD7.out.c13
    go_wp2_with fail;go_ret;exact j0z.bad hEr.out HD7.out T8.out
   | ok q =>
    obtain⟨k,K1⟩:=q
    rw[hr] at hS5
    obtain⟨⟨rfl,hl⟩,_⟩:=hS5
    have hL2:Hid (ckL (ckE (Dg G) G.T (G.T.tops.take tp) md env f) n.kids K=match ckL (ckE (Dg G) G.T (G.T.tops.take tp) md env f) (n.kids.drop (j+1)) K1 with | .error e=> .error e | .ok (r,K1)=> .ok ((ks++[k])++r,K1)):=by
     show _=_
     rw[hL.out,hd.out]
     simp only[ckL,hr]
     cases ckL (ckE (Dg G) G.T (G.T.tops.take tp) md env f) (n.kids.drop (j+1)) K1 with
     | error e=>rfl
     | ok q=>obtain⟨a,b⟩:=q;simp
    have hks2:Hid ((ks++[k]).length=j+1):=by show _=_;simp[hks.out]
    obtain⟨R2,eR2⟩:∃R2,Hid (ks++[k]=R2):=⟨_,rfl⟩
    rw[eR2.out] at hL2 hks2
    have O6:Hid (OI (w5.alloc (.cells #[.int .i64 k] 3)) (w.heap.size+1) (.slice so ks.length co) ks):=O5.out.later (j00 (Below.refl _ _) _)
    have E6:Hid (Els 1 cInt (w5.alloc (.cells #[.int .i64 k] 3)) w5.heap.size (some ⟨w5.heap.size,0,none⟩) [k]):=Els.one (Blk.new w5 #[.int .i64 k] 3)
    have H6:Hid (Lv G (w5.alloc (.cells #[.int .i64 k] 3)) top env md last K1 sn cn sk ck sw cw):=hl.later (j00 (Below.refl _ _) _)
    have K56:Hid (Blk (w5.alloc (.cells #[.int .i64 k] 3)) w.heap.size #[.int .i64 n.kind,.string n.text,.int .i64 n.num,.slice s9 n.kids.length c9] 73):=K55.out.alloc _
    have T7:Hid (Tw G.p G.kb w (w5.alloc (.cells #[.int .i64 k] 3))):=T6.out.trans (Tw.of (j00 (Below.refl _ _) _))
    have s6:w.heap.size+1<=(w5.alloc (.cells #[.int .i64 k] 3)).heap.size:=by simp;omega
    clear hl;go_wp2_with (at_builtin;refine j0c rfl _ _ rfl (w.heap.size+1) so co ks rfl O6.out w5.heap.size _ 1 [k] rfl E6.out R2 eR2.out (by simp;omega) s6 ?_)
    intro s' c' w7 hO7 hg7 hn7
    have hown:∀g,(Value.slice so ks.length co).ownBlock=some g->w.heap.size+1<=g:=λg hg=>(O6.out.lt g hg).1
    have H7:Hid (Lv G w7 top env md last K1 sn cn sk ck sw cw):=H6.out.grown OL.out hg7 (λg hg=>by have:=hown g hg;omega) hp0 hk0 hw0s
    have T8:Hid (Tw G.p G.kb w w7):=T7.out.grown hg7 (λg hg=>by have:=hown g hg;omega)
    have K57:Hid (Blk w7 w.heap.size #[.int .i64 n.kind,.string n.text,.int .i64 n.num,.slice s9 n.kids.length c9] 73):=by
     show Blk _ _ _ _
     unfold Blk
     rw[hg7.block w.heap.size K56.out.lt (λe=>by have:=hown _ e.symm;omega)]
     exact K56.out
    have HO7:Hid (OI w7 (w.heap.size+1) (.slice s' R2.length c') R2):=hO7
    have y13:w7.cell? ⟨G.p,13,none⟩=some (.int .i64 0):=(H7.out.bx.cell 13).trans rfl
    clear hO7 hg7 hn7 hown O6 E6 H6 K56 T7;go_wp2_with fail;go_roundw
    case rel=>exact⟨j+1,s',c',R2,K1,by omega,by go_num,rfl,hks2,hL2,HO7,H7,K57,T8⟩
    case measure=>simp[intOf];omega
  have hjj:j=n.kids.length:=by omega
  subst hjj
  have t2:decide ((n.kids.length:Int)<(n.kids.length:Int))=false:=by simp
  have hfin:Hid (ckB (Dg G) G.T (G.T.tops.take tp) md env f K (i:Int)=match rowE (Dg G) G.T (G.T.tops.take tp) md env n ks with | .error c=> .error (c,(i:Int)) | .ok k=> .ok (k,Kj)):=by
   show _=_
   rw[HB2.out,hL.out,List.drop_length]
   simp only[ckL,List.append_nil]
  have hp1:¬G.p=w.heap.size/\G.p<w.heap.size+1:=⟨by omega,by omega⟩
  have hk1:¬G.kb=w.heap.size/\G.kb<w.heap.size+1:=⟨by omega,by omega⟩
  clear hL HB2 HB hj hlt;have hk7:=HK8.out
  have tk1:(n.kind ==1)=false:=by simp[hk7]
  have tk2:(n.kind ==2)=false:=by simp[hk7]
  have tk3:(n.kind ==3)=false:=by simp[hk7]
  have tk4:(n.kind ==4)=false:=by simp[hk7]
  have tk5:(n.kind ==5)=false:=by simp[hk7]
  have tk6:(n.kind ==6)=false:=by simp[hk7]
  have tk7:(n.kind ==7)=false:=by simp[hk7]
  have tk8:(n.kind ==8)=false:=by simp[hk7]
  have tk9:(n.kind ==9)=false:=by simp[hk7]
  have hks2:ks.length=2:=by rw[hks.out];exact hl2.out
  obtain⟨a,b,rfl⟩:∃a b,ks=[a,b]:=by
   match ks,hks2 with
   | [a,b],_=>exact⟨a,b,rfl⟩
  have hro:Hid (rowE (Dg G) G.T (G.T.tops.take tp) md env n [a,b]=kdOr (j2h a b)):=by simp[Hid,rowE,hk7]
  obtain⟨lb,lo,hso,_,hlb,l0⟩:=j05 O4.out.els (j:=0) (a:=a) rfl
  obtain⟨lb2,lo2,hso2,_,_,l1⟩:=j05 O4.out.els (j:=1) (a:=b) rfl
  rw[hso] at hso2
  cases hso2
  subst hso
  rw[Nat.add_zero] at l0
  clear hks2 hks hk7;go_wp2_with fail;have hS:Hid (∀X,Below wr.heap.size wr X->X.cell? ⟨lb,lo,none⟩=some (.int .i64 a)/\X.cell? ⟨lb,lo+1,none⟩=some (.int .i64 b)):=λX hX=>⟨(hX.cell (p:=⟨lb,lo,none⟩) hlb).trans l0,(hX.cell (p:=⟨lb,lo+1,none⟩) hlb).trans l1⟩
  refine wp_region_held_drew (S:=λX=>X.cell? ⟨lb,lo,none⟩=some (.int .i64 a)/\X.cell? ⟨lb,lo+1,none⟩=some (.int .i64 b)) (by kernel_rfl) ?_ (λhHeld=>?_)
  ·
   exact hS.out _ (j02 (Below.refl _ _))
  have BX:Hid (Below wr.heap.size wr wr.drew):=j02 (Below.refl _ _)
  refine wpr 0 186 ?_;simp only[zs];refine wpr 1 187 ?_;simp only[zs];refine wpr 2 188 ?_;simp only[zs];refine wpr 4 190 ?_;simp only[zs];refine wpr 5 191 ?_;simp only[zs];refine wpr 6 192 ?_;simp only[zs];refine wpAnyH_ready (rs:=[3,12]) (by kernel_rfl) (by simp) ?_
  refine AllReadyH.cons rfl (λK hK=>?_) ?_
  ·
   skip
   go_simp;refine(j2c a _).mono ?_
   rintro z g1 ⟨rfl,hb⟩
   have BX:Hid (Below wr.heap.size wr g1):=j01 BX.out hb
   clear hb;refine hK.out _ _ (hS.out _ BX.out) (λhHeld=>?_)
   clear hK K;try simp only[zs]
   refine wpAnyH_ready (rs:=[7,12]) (by kernel_rfl) (by simp) ?_
   refine AllReadyH.cons rfl (λK hK=>?_) ?_
   ·
    skip
    go_simp;refine(j2c b _).mono ?_
    rintro z g2 ⟨rfl,hb⟩
    have BX:Hid (Below wr.heap.size wr g2):=j01 BX.out hb
    clear hb;refine hK.out _ _ (hS.out _ BX.out) (λhHeld=>?_)
    clear hK K;try simp only[zs]
    refine wpAnyH_ready (rs:=[8,12]) (by kernel_rfl) (by simp) ?_
    refine AllReadyH.cons rfl (λK hK=>?_) ?_
    ·
     skip
     go_simp;refine(j3i (zk a) 0 0 0 (zk b) 0 0 0 _ (by decide) (by decide) (by decide) (by decide)).mono ?_
     rintro z g3 ⟨rfl,hb⟩
     rw[j4m]
     obtain⟨pc,hpc⟩:∃c,Hid (decide (a=2/\b=2)=c):=⟨_,rfl⟩
     rw[hpc.out]
     obtain⟨ek,hek⟩:∃e,Hid (pk pc=e):=⟨_,rfl⟩
     obtain⟨ex,hex⟩:∃e,Hid (px pc 0=e):=⟨_,rfl⟩
     rw[hek.out,hex.out]
     have BX:Hid (Below wr.heap.size wr g3):=j01 BX.out hb
     clear hb;refine hK.out _ _ (hS.out _ BX.out) (λhHeld=>?_)
     clear hK K;try simp only[zs]
     refine wpr 9 185 ?_;simp only[zs];refine wpr 10 195 ?_;simp only[zs];refine wpr 11 196 ?_;simp only[zs];refine wpy 12 λK hK=>?_
     refine j1z rfl (d0:=some 16) rfl rfl ?_
     intro kz g4 KZ0 hk hb
     have hwk:Hid (wr.heap.size<=kz):=by have:=BX.out.size;show _<=_;omega
     have KZ:Hid (Blk g4 kz #[.int .i64 0,.int .i64 0,.float .f64 0,.float .f64 0] 200):=KZ0
     have BX:Hid (Below wr.heap.size wr g4):=j01 BX.out hb
     clear KZ0 hk hb;refine hK.out _ _ (hS.out _ BX.out) (λhHeld=>?_)
     clear hK K;try simp only[zs]
     refine wpy 13 λK hK=>?_
     refine j1y rfl rfl (.tmp 16) (.tmp 195) rfl kz #[.int .i64 ek,.int .i64 0,.float .f64 ex,.float .f64 ex] rfl rfl KZ.out rfl (by simp[Value.oneCell']) ?_
     intro Z KV0 hb
     have BX:Hid (Below wr.heap.size wr Z):=hb _ _ BX.out hwk.out
     have KV:Hid (Blk Z kz #[.int .i64 ek,.int .i64 0,.float .f64 ex,.float .f64 ex] 200):=KV0
     clear KV0 hb KZ;refine hK.out _ _ (hS.out _ BX.out) (λhHeld=>?_)
     clear hK K;try simp only[zs]
     refine wpr 14 17 ?_;simp only[zs];refine wpAnyH_done (by kernel_rfl) ?_ _
     clear hHeld hS;have H6:Hid (Lv G Z top env md last Kj sn cn sk ck sw cw):=H4.out.later BX.out
     have T6:Hid (Tw G.p G.kb w Z):=T4.out.trans (Tw.of BX.out)
     obtain⟨v0,v1,v2,v3,v4⟩:=Blk.four' KV.out
     cases pc
     ·
      have hE2:j2h a b=0:=by unfold j2h;rw[if_neg (of_decide_eq_false hpc.out)]
      have hEr:Hid (ckB (Dg G) G.T (G.T.tops.take tp) md env f K (i:Int)=.error (4,(i:Int))):=by rw[hfin.out,hro.out,hE2];rfl
      clear hE2;go_wp2_with fail;refine(j0f hG H6.out 4 (i:Int) (by omega)).mono ?_
      rintro e w6 ⟨rfl,hd,ht⟩
      go_wp2_with fail;go_ret;exact j0z.bad hEr.out hd (T6.out.trans ht)
     have hE2:j2h a b=3:=by unfold j2h;rw[if_pos (of_decide_eq_true hpc.out)]
     have he3:ek=3:=hek.out.symm
     subst he3
     have hEr:Hid (ckB (Dg G) G.T (G.T.tops.take tp) md env f K (i:Int)=.ok (3,Kj)):=by rw[hfin.out,hro.out,hE2];rfl
     clear hE2;go_wp2_with fail;go_ret;exact j0z.good hEr.out H6.out T6.out
    refine AllReadyH.cons rfl (λK hK=>?_) AllReadyH.nil
    refine j1z rfl (d0:=some 16) rfl rfl ?_
    intro kz g6 KZ0 hk hb
    have hwk:Hid (wr.heap.size<=kz):=by have:=BX.out.size;show _<=_;omega
    have KZ:Hid (Blk g6 kz #[.int .i64 0,.int .i64 0,.float .f64 0,.float .f64 0] 200):=KZ0
    have BX:Hid (Below wr.heap.size wr g6):=j01 BX.out hb
    clear KZ0 hk hb;refine hK.out _ _ (hS.out _ BX.out) (λhHeld=>?_)
    clear hK K;try simp only[zs]
    refine wpy 8 λK hK=>?_
    go_simp;refine(j3i (zk a) 0 0 0 (zk b) 0 0 0 _ (by decide) (by decide) (by decide) (by decide)).mono ?_
    rintro z g7 ⟨rfl,hb⟩
    rw[j4m]
    obtain⟨pc,hpc⟩:∃c,Hid (decide (a=2/\b=2)=c):=⟨_,rfl⟩
    rw[hpc.out]
    obtain⟨ek,hek⟩:∃e,Hid (pk pc=e):=⟨_,rfl⟩
    obtain⟨ex,hex⟩:∃e,Hid (px pc 0=e):=⟨_,rfl⟩
    rw[hek.out,hex.out]
    have BX:Hid (Below wr.heap.size wr g7):=j01 BX.out hb
    have KZ:Hid (Blk g7 kz #[.int .i64 0,.int .i64 0,.float .f64 0,.float .f64 0] 200):=KZ.out.later hb
    clear hb;refine hK.out _ _ (hS.out _ BX.out) (λhHeld=>?_)
    clear hK K;try simp only[zs]
    refine wpr 9 185 ?_;simp only[zs];refine wpr 10 195 ?_;simp only[zs];refine wpr 11 196 ?_;simp only[zs];refine wpy 13 λK hK=>?_
    refine j1y rfl rfl (.tmp 16) (.tmp 195) rfl kz #[.int .i64 ek,.int .i64 0,.float .f64 ex,.float .f64 ex] rfl rfl KZ.out rfl (by simp[Value.oneCell']) ?_
    intro Z KV0 hb
    have BX:Hid (Below wr.heap.size wr Z):=hb _ _ BX.out hwk.out
    have KV:Hid (Blk Z kz #[.int .i64 ek,.int .i64 0,.float .f64 ex,.float .f64 ex] 200):=KV0
    clear KV0 hb KZ;refine hK.out _ _ (hS.out _ BX.out) (λhHeld=>?_)
    clear hK K;try simp only[zs]
    refine wpr 14 17 ?_;simp only[zs];refine wpAnyH_done (by kernel_rfl) ?_ _
    clear hHeld hS;have H6:Hid (Lv G Z top env md last Kj sn cn sk ck sw cw):=H4.out.later BX.out
    have T6:Hid (Tw G.p G.kb w Z):=T4.out.trans (Tw.of BX.out)
    obtain⟨v0,v1,v2,v3,v4⟩:=Blk.four' KV.out
    cases pc
    ·
     have hE2:j2h a b=0:=by unfold j2h;rw[if_neg (of_decide_eq_false hpc.out)]
     have hEr:Hid (ckB (Dg G) G.T (G.T.tops.take tp) md env f K (i:Int)=.error (4,(i:Int))):=by rw[hfin.out,hro.out,hE2];rfl
     clear hE2;go_wp2_with fail;refine(j0f hG H6.out 4 (i:Int) (by omega)).mono ?_
     rintro e w6 ⟨rfl,hd,ht⟩
     go_wp2_with fail;go_ret;exact j0z.bad hEr.out hd (T6.out.trans ht)
    have hE2:j2h a b=3:=by unfold j2h;rw[if_pos (of_decide_eq_true hpc.out)]
    have he3:ek=3:=hek.out.symm
    subst he3
    have hEr:Hid (ckB (Dg G) G.T (G.T.tops.take tp) md env f K (i:Int)=.ok (3,Kj)):=by rw[hfin.out,hro.out,hE2];rfl
    clear hE2;go_wp2_with fail;go_ret;exact j0z.good hEr.out H6.out T6.out
   refine AllReadyH.cons rfl (λK hK=>?_) AllReadyH.nil
   refine j1z rfl (d0:=some 16) rfl rfl ?_
   intro kz g9 KZ0 hk hb
   have hwk:Hid (wr.heap.size<=kz):=by have:=BX.out.size;show _<=_;omega
   have KZ:Hid (Blk g9 kz #[.int .i64 0,.int .i64 0,.float .f64 0,.float .f64 0] 200):=KZ0
   have BX:Hid (Below wr.heap.size wr g9):=j01 BX.out hb
   clear KZ0 hk hb;refine hK.out _ _ (hS.out _ BX.out) (λhHeld=>?_)
   clear hK K;try simp only[zs]
   refine wpy 7 λK hK=>?_
   go_simp;refine(j2c b _).mono ?_
   rintro z g10 ⟨rfl,hb⟩
   have BX:Hid (Below wr.heap.size wr g10):=j01 BX.out hb
   have KZ:Hid (Blk g10 kz #[.int .i64 0,.int .i64 0,.float .f64 0,.float .f64 0] 200):=KZ.out.later hb
   clear hb;refine hK.out _ _ (hS.out _ BX.out) (λhHeld=>?_)
   clear hK K;try simp only[zs]
   refine wpy 8 λK hK=>?_
   go_simp;refine(j3i (zk a) 0 0 0 (zk b) 0 0 0 _ (by decide) (by decide) (by decide) (by decide)).mono ?_
   rintro z g11 ⟨rfl,hb⟩
   rw[j4m]
   obtain⟨pc,hpc⟩:∃c,Hid (decide (a=2/\b=2)=c):=⟨_,rfl⟩
   rw[hpc.out]
   obtain⟨ek,hek⟩:∃e,Hid (pk pc=e):=⟨_,rfl⟩
   obtain⟨ex,hex⟩:∃e,Hid (px pc 0=e):=⟨_,rfl⟩
   rw[hek.out,hex.out]
   have BX:Hid (Below wr.heap.size wr g11):=j01 BX.out hb
   have KZ:Hid (Blk g11 kz #[.int .i64 0,.int .i64 0,.float .f64 0,.float .f64 0] 200):=KZ.out.later hb
   clear hb;refine hK.out _ _ (hS.out _ BX.out) (λhHeld=>?_)
   clear hK K;try simp only[zs]
   refine wpr 9 185 ?_;simp only[zs];refine wpr 10 195 ?_;simp only[zs];refine wpr 11 196 ?_;simp only[zs];refine wpy 13 λK hK=>?_
   refine j1y rfl rfl (.tmp 16) (.tmp 195) rfl kz #[.int .i64 ek,.int .i64 0,.float .f64 ex,.float .f64 ex] rfl rfl KZ.out rfl (by simp[Value.oneCell']) ?_
   intro Z KV0 hb
   have BX:Hid (Below wr.heap.size wr Z):=hb _ _ BX.out hwk.out
   have KV:Hid (Blk Z kz #[.int .i64 ek,.int .i64 0,.float .f64 ex,.float .f64 ex] 200):=KV0
   clear KV0 hb KZ;refine hK.out _ _ (hS.out _ BX.out) (λhHeld=>?_)
   clear hK K;try simp only[zs]
   refine wpr 14 17 ?_;simp only[zs];refine wpAnyH_done (by kernel_rfl) ?_ _
   clear hHeld hS;have H6:Hid (Lv G Z top env md last Kj sn cn sk ck sw cw):=H4.out.later BX.out
   have T6:Hid (Tw G.p G.kb w Z):=T4.out.trans (Tw.of BX.out)
   obtain⟨v0,v1,v2,v3,v4⟩:=Blk.four' KV.out
   cases pc
   ·
    have hE2:j2h a b=0:=by unfold j2h;rw[if_neg (of_decide_eq_false hpc.out)]
    have hEr:Hid (ckB (Dg G) G.T (G.T.tops.take tp) md env f K (i:Int)=.error (4,(i:Int))):=by rw[hfin.out,hro.out,hE2];rfl
    clear hE2;go_wp2_with fail;refine(j0f hG H6.out 4 (i:Int) (by omega)).mono ?_
    rintro e w6 ⟨rfl,hd,ht⟩
    go_wp2_with fail;go_ret;exact j0z.bad hEr.out hd (T6.out.trans ht)
   have hE2:j2h a b=3:=by unfold j2h;rw[if_pos (of_decide_eq_true hpc.out)]
   have he3:ek=3:=hek.out.symm
   subst he3
   have hEr:Hid (ckB (Dg G) G.T (G.T.tops.take tp) md env f K (i:Int)=.ok (3,Kj)):=by rw[hfin.out,hro.out,hE2];rfl
   clear hE2;go_wp2_with fail;go_ret;exact j0z.good hEr.out H6.out T6.out
  refine AllReadyH.cons rfl (λK hK=>?_) AllReadyH.nil
  refine j1z rfl (d0:=some 16) rfl rfl ?_
  intro kz g13 KZ0 hk hb
  have hwk:Hid (wr.heap.size<=kz):=by have:=BX.out.size;show _<=_;omega
  have KZ:Hid (Blk g13 kz #[.int .i64 0,.int .i64 0,.float .f64 0,.float .f64 0] 200):=KZ0
  have BX:Hid (Below wr.heap.size wr g13):=j01 BX.out hb
  clear KZ0 hk hb;refine hK.out _ _ (hS.out _ BX.out) (λhHeld=>?_)
  clear hK K;try simp only[zs]
  refine wpy 3 λK hK=>?_
  go_simp;refine(j2c a _).mono ?_
  rintro z g14 ⟨rfl,hb⟩
  have BX:Hid (Below wr.heap.size wr g14):=j01 BX.out hb
  have KZ:Hid (Blk g14 kz #[.int .i64 0,.int .i64 0,.float .f64 0,.float .f64 0] 200):=KZ.out.later hb
  clear hb;refine hK.out _ _ (hS.out _ BX.out) (λhHeld=>?_)
  clear hK K;try simp only[zs]
  refine wpy 7 λK hK=>?_
  go_simp;refine(j2c b _).mono ?_
  rintro z g15 ⟨rfl,hb⟩
  have BX:Hid (Below wr.heap.size wr g15):=j01 BX.out hb
  have KZ:Hid (Blk g15 kz #[.int .i64 0,.int .i64 0,.float .f64 0,.float .f64 0] 200):=KZ.out.later hb
  clear hb;refine hK.out _ _ (hS.out _ BX.out) (λhHeld=>?_)
  clear hK K;try simp only[zs]
  refine wpy 8 λK hK=>?_
  go_simp;refine(j3i (zk a) 0 0 0 (zk b) 0 0 0 _ (by decide) (by decide) (by decide) (by decide)).mono ?_
  rintro z g16 ⟨rfl,hb⟩
  rw[j4m]
  obtain⟨pc,hpc⟩:∃c,Hid (decide (a=2/\b=2)=c):=⟨_,rfl⟩
  rw[hpc.out]
  obtain⟨ek,hek⟩:∃e,Hid (pk pc=e):=⟨_,rfl⟩
  obtain⟨ex,hex⟩:∃e,Hid (px pc 0=e):=⟨_,rfl⟩
  rw[hek.out,hex.out]
  have BX:Hid (Below wr.heap.size wr g16):=j01 BX.out hb
  have KZ:Hid (Blk g16 kz #[.int .i64 0,.int .i64 0,.float .f64 0,.float .f64 0] 200):=KZ.out.later hb
  clear hb;refine hK.out _ _ (hS.out _ BX.out) (λhHeld=>?_)
  clear hK K;try simp only[zs]
  refine wpr 9 185 ?_;simp only[zs];refine wpr 10 195 ?_;simp only[zs];refine wpr 11 196 ?_;simp only[zs];refine wpy 13 λK hK=>?_
  refine j1y rfl rfl (.tmp 16) (.tmp 195) rfl kz #[.int .i64 ek,.int .i64 0,.float .f64 ex,.float .f64 ex] rfl rfl KZ.out rfl (by simp[Value.oneCell']) ?_
  intro Z KV0 hb
  have BX:Hid (Below wr.heap.size wr Z):=hb _ _ BX.out hwk.out
  have KV:Hid (Blk Z kz #[.int .i64 ek,.int .i64 0,.float .f64 ex,.float .f64 ex] 200):=KV0
  clear KV0 hb KZ;refine hK.out _ _ (hS.out _ BX.out) (λhHeld=>?_)
  clear hK K;try simp only[zs]
  refine wpr 14 17 ?_;simp only[zs];refine wpAnyH_done (by kernel_rfl) ?_ _
  clear hHeld hS;have H6:Hid (Lv G Z top env md last Kj sn cn sk ck sw cw):=H4.out.later BX.out
  have T6:Hid (Tw G.p G.kb w Z):=T4.out.trans (Tw.of BX.out)
  obtain⟨v0,v1,v2,v3,v4⟩:=Blk.four' KV.out
  cases pc
  ·
   have hE2:j2h a b=0:=by unfold j2h;rw[if_neg (of_decide_eq_false hpc.out)]
   have hEr:Hid (ckB (Dg G) G.T (G.T.tops.take tp) md env f K (i:Int)=.error (4,(i:Int))):=by rw[hfin.out,hro.out,hE2];rfl
   clear hE2;go_wp2_with fail;refine(j0f hG H6.out 4 (i:Int) (by omega)).mono ?_
   rintro e w6 ⟨rfl,hd,ht⟩
   go_wp2_with fail;go_ret;exact j0z.bad hEr.out hd (T6.out.trans ht)
  have hE2:j2h a b=3:=by unfold j2h;rw[if_pos (of_decide_eq_true hpc.out)]
  have he3:ek=3:=hek.out.symm
  subst he3
  have hEr:Hid (ckB (Dg G) G.T (G.T.tops.take tp) md env f K (i:Int)=.ok (3,Kj)):=by rw[hfin.out,hro.out,hE2];rfl
  clear hE2;go_wp2_with fail;go_ret;exact j0z.good hEr.out H6.out T6.out
end
end
section
open Go.RowKit
section
variable {G:Gd} {w w':World} {top:Int} {env:Env} {md:Md} {last:Int} {K:KM} {sn sk sw:Option Addr} {cn ck cw:Nat}
theorem jew (hG:G.Ok) {tp f:Nat} (hE:ExpS G top tp env md last f) (hw:md.wth.length<=1048576) {i:Nat} {n:Nd} (hv:VN G.T i n) (hi:i<f+1) (hk:n.kind=11) (h:Lv G w top env md last K sn cn sk ck sw cw) :
  Calls Tryz.prog 120 #[.pointer (some ⟨G.p,0,none⟩),.int .i64 (i:Int)] w λe w'=>j0z G w top env md last sn cn sk ck sw cw (ckB (Dg G) G.T (G.T.tops.take tp) md env f K (i:Int)) e w':=by
 obtain⟨nb,no,s9,c9,en1,hnb,e0,e1,e2,e3,ekids⟩:=hG.node hv.at_
 have hiN:i<G.T.nodes.length:=(List.getElem?_eq_some_iff.1 hv.at_).1
 have hnl:G.T.nodes.length<=1048576:=hG.k.1.1
 have x3:w.cell? ⟨G.p,3,none⟩=some (.slice (some ⟨nb,no,none⟩) G.T.nodes.length G.d1):=by rw[<-en1];exact(h.bx.cell 3).trans rfl
 have q0:=(h.bl.cell (p:=⟨nb,no+i*4,none⟩) hnb).trans e0
 have q1:=(h.bl.cell (p:=⟨nb,no+i*4+1,none⟩) hnb).trans e1
 have q2:=(h.bl.cell (p:=⟨nb,no+i*4+2,none⟩) hnb).trans e2
 have q3:=(h.bl.cell (p:=⟨nb,no+i*4+3,none⟩) hnb).trans e3
 have iI:(i:Int)<(G.T.nodes.length:Int):=by omega
 have bz:Hid (Below w.heap.size w (w.alloc (.cells #[.int .i64 n.kind,.string n.text,.int .i64 n.num,.slice s9 n.kids.length c9] 73))):=j00 (Below.refl _ _) _
 have kk5:=Blk.new w #[.int .i64 n.kind,.string n.text,.int .i64 n.num,.slice s9 n.kids.length c9] 73
 have H1:Hid (Lv G (w.alloc (.cells #[.int .i64 n.kind,.string n.text,.int .i64 n.num,.slice s9 n.kids.length c9] 73)) top env md last K sn cn sk ck sw cw):=h.later bz.out
 have hp:=jfy hG hE hw hv hi hk H1.out
 have t11:(n.kind ==11)=true:=by simp[hk]
 obtain⟨z0,z1,z2,z3,z4⟩:=Blk.four' kk5
 clear h e0 e1 e2 e3 ekids hE hv hk;go_enter Tryz.func120,Tryz.ntmps120
 go_wp2_with fail;refine hp.mono ?_
 rintro e w2 hS
 have T1:Hid (Tw G.p G.kb w w2):=(Tw.of bz.out).trans hS.2
 cases hr:ckB (Dg G) G.T (G.T.tops.take tp) md env f K (i:Int) with
 | error q =>
  obtain⟨c,nq⟩:=q
  rw[hr] at hS
  obtain⟨⟨rfl,hd⟩,_⟩:=hS
  go_wp2_with fail;go_ret;exact j0z.bad hr hd T1.out
 | ok q =>
  obtain⟨k,K1⟩:=q
  rw[hr] at hS
  obtain⟨⟨rfl,hl⟩,_⟩:=hS
  go_wp2_with fail;go_ret;exact j0z.good hr hl T1.out
theorem Lv.mark (hG:G.Ok) (h:Lv G w top env md last K sn cn sk ck sw cw) {i:Nat} (hi:i<G.T.nodes.length) (k:Int):Lv G (w.setCell ⟨G.kb,i,none⟩ (.int .i64 k)) top env md last (upd K (i:Int) k) sn cn sk ck sw cw:=by
 have ht:Tw G.p G.kb w (w.setCell ⟨G.kb,i,none⟩ (.int .i64 k)):=Tw.set2 _ _ _ _ _
 refine⟨h.bx.other (λe=>hG.ne e.symm) _ _,h.n.two ht,h.k.two ht,h.wl.two ht,by simpa using h.kl,λj hj=>?_,λj=>(World.frozen?_setCell _ _ _ _).trans (h.kf j),ht.below h.bl h.bl.size hG.p hG.kb⟩
 by_cases e:j=i
 ·
  subst e
  rw[show upd K (j:Int) k j=k by simp[upd]]
  exact World.cell?_setCell_same _ _ _ (h.kc j hj)
 rw[show upd K (i:Int) k j=K j by unfold upd;rw[if_neg (by omega)]]
 exact(World.cell?_setCell_other _ _ _ _ (λq=>e (by simp at q<;>omega))).trans (h.kc j hj)
theorem jjq (hG:G.Ok) {tp f:Nat} {i:Nat} (hi:i<G.T.nodes.length) (h:Lv G w top env md last K sn cn sk ck sw cw)
  (hb:Calls Tryz.prog 120 #[.pointer (some ⟨G.p,0,none⟩),.int .i64 (i:Int)] w λe w'=>j0z G w top env md last sn cn sk ck sw cw (ckB (Dg G) G.T (G.T.tops.take tp) md env f K (i:Int)) e w') :
  Calls Tryz.prog 96 #[.pointer (some ⟨G.p,0,none⟩),.int .i64 (i:Int)] w λe w'=>j0z G w top env md last sn cn sk ck sw cw (ckE (Dg G) G.T (G.T.tops.take tp) md env (f+1) K (i:Int)) e w':=by
 have x13:w.cell? ⟨G.p,13,none⟩=some (.int .i64 0):=(h.bx.cell 13).trans rfl
 have HE:Hid (ckE (Dg G) G.T (G.T.tops.take tp) md env (f+1) K (i:Int)=match ckB (Dg G) G.T (G.T.tops.take tp) md env f K (i:Int) with | .error e=> .error e | .ok (k,K1)=> .ok (k,upd K1 (i:Int) k)):=jbs _ _ _ _ _ _ _ _
 have hnl:G.T.nodes.length<=1048576:=hG.k.1.1
 have iI:(i:Int)<(G.T.nodes.length:Int):=by omega
 clear h;go_enter Tryz.func96,Tryz.ntmps96
 go_wp2_with fail;refine hb.mono ?_
 rintro e w2 hS
 clear x13;have T1:Hid (Tw G.p G.kb w w2):=hS.2
 cases hr:ckB (Dg G) G.T (G.T.tops.take tp) md env f K (i:Int) with
 | error q =>
  obtain⟨c,nq⟩:=q
  rw[hr] at hS
  obtain⟨⟨rfl,hd⟩,_⟩:=hS
  have hEr:Hid (ckE (Dg G) G.T (G.T.tops.take tp) md env (f+1) K (i:Int)=.error (c,nq)):=by rw[HE.out,hr];rfl
  have y13:=hd.c13
  have tc:(c != 0)=true:=by simp[hd.ne]
  have HD:Hid (Dd G w2 c nq):=hd
  clear hd;go_wp2_with fail;go_ret;exact j0z.bad hEr.out HD.out T1.out
 | ok q =>
  obtain⟨k,K1⟩:=q
  rw[hr] at hS
  obtain⟨⟨rfl,hl⟩,_⟩:=hS
  have hEr:Hid (ckE (Dg G) G.T (G.T.tops.take tp) md env (f+1) K (i:Int)=.ok (k,upd K1 (i:Int) k)):=by rw[HE.out,hr];rfl
  have y13:w2.cell? ⟨G.p,13,none⟩=some (.int .i64 0):=(hl.bx.cell 13).trans rfl
  have y15:w2.cell? ⟨G.p,15,none⟩=some (.slice (some ⟨G.kb,0,none⟩) G.T.nodes.length G.dk):=(hl.bx.cell 15).trans rfl
  have yk:=hl.kc i hi
  have yf:=hl.kf i
  have H2:Hid (Lv G (w2.setCell ⟨G.kb,i,none⟩ (.int .i64 k)) top env md last (upd K1 (i:Int) k) sn cn sk ck sw cw):=hl.mark hG hi k
  have T2:Hid (Tw G.p G.kb w (w2.setCell ⟨G.kb,i,none⟩ (.int .i64 k))):=T1.out.trans (Tw.set2 _ _ _ _ _)
  clear hl;go_wp2_with fail;go_ret;exact j0z.good hEr.out H2.out T2.out
theorem jbe (hG:G.Ok) {tp:Nat} (htp:top=(tp:Int)) (hle:tp<=G.T.tops.length) (hw:md.wth.length<=1048576) (henv:env.length<=1048576):∀f,ExpS G top tp env md last f
 | 0=>λi n K w sn cn sk ck sw cw hi _ _ _=>absurd hi (Nat.not_lt_zero _)
 | f+1=>λi n K w sn cn sk ck sw cw hi hv hk h=>by
  have hE:=jbe hG htp hle hw henv f
  have hiN:i<G.T.nodes.length:=(List.getElem?_eq_some_iff.1 hv.at_).1
  refine jjq hG hiN h ?_
  unfold isE at hk
  have hc:(n.kind=1\/n.kind=2\/n.kind=3\/n.kind=4\/n.kind=5\/n.kind=6\/n.kind=7)\/n.kind=8\/n.kind=9\/n.kind=10\/n.kind=11:=by omega
  rcases hc with hc|hc|hc|hc|hc
  ·
   exact jg6 hG hE htp hle hw henv hv hi hc h
  ·
   exact jir hG hE htp hle hw henv hv hi hc h
  ·
   exact jem hG hE htp hle hw henv hv hi hc h
  ·
   exact jd6 hG hE htp hle hw henv hv hi hc h
  exact jew hG hE hw hv hi hc h
end
end
end Go.Proofs.YtjbbagcpcepkoaaGreatDoor
