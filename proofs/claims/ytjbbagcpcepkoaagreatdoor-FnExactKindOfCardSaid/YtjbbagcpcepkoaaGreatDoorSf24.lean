import Derived.Test.YtjbbagcpcepkoaaGreatDoorSf23
import Derived.LaidEql
import Derived.Stop.Asserts
import Derived.RowKitTokens
import Derived.Shelf.Strings.Trim
import Derived.Shelf.Strings.BuilderK
import Derived.Shelf.Strings.Prefix
namespace Go.Proofs
open Go.Shelf
shelf_lay Lays.n160 Nm 160 at Tryz as Tryz.laysTrim
shelf_lay Lays.n161 Nm 161 at Tryz as Tryz.laysTrimLeft
shelf_lay Lays.n99 Nm 99 at Tryz as Tryz.laysHasPre
shelf_lay Lays.n169 Nm 169 at Tryz as Tryz.laysBString
theorem Tryz.extraS:Builder.Extra Tryz.prog Tryz.laysBString_ren where
  sizeBuilder:=by kernel_rfl
  liesBuilder:=by kernel_rfl
  t5:=Tryz.underlying5
  a5:=Tryz.isAgg5
  z5:=Tryz.sizeOf5
  v5:=Tryz.zeroValue5
  infoByte:=by kernel_rfl
  cellsByte:=by kernel_rfl
  sizeByte:=by kernel_rfl
  neB5:=by decide
end Go.Proofs
namespace Go.Proofs.YtjbbagcpcepkoaaGreatDoor
set_option maxRecDepth 100000
set_option maxHeartbeats 64000000
set_option linter.unusedVariables false
set_option linter.unusedSimpArgs false
section
open Go.RowKit Go.Maps Go.WideMaps
section
variable {ops:Array Oper} {o:Oper} {a:Act} {w:World} {K:Act->World->Prop} {Q:Exit->Act->World->Prop} {E:Prop}
theorem Tryz.infoN9:(Tryz.prog.info? 73).map (λi=>(i.zero,i.size,i.bytes))=some (some (.agg #[.int .i64 0,.string ⟨#[]⟩,.int .i64 0,.slice none 0 0]),4,56):=by kernel_rfl
theorem Tryz.infoN9s:(Tryz.prog.info? 73).map (·.size)=some 4:=by kernel_rfl
theorem jdn (hg:o.guard=none) {d0:Option Nat} (hd:o.dst=d0) (ho:o.op=.alloc 73)
  (hK:∀k w',Blk w' k #[.int .i64 0,.string ⟨#[]⟩,.int .i64 0,.slice none 0 0] 73->w.heap.size=k->Below w.heap.size w w'->K (a.put d0 (.pointer (some ⟨k,0,none⟩))) w') :
  if Region.wanted o (yielded ops a.tmps)=true then Oper.wp Tryz.prog o a w K Q else E:=by
 obtain⟨ie,hie,he0,he1,he2⟩:=info_parts Tryz.infoN9
 exact j3r hg hd (j5s hie he0 _ o ho w) (hK _ _ (Blk.new w _ _) rfl (j00 (Below.refl _ _) _))
theorem jdw (hg:o.guard=none) (hd:o.dst=none) (x y:Operand) (ho:o.op=.store 73 x y) (k:Nat) (cells:Array Value) (hx:a.eval x=.pointer (some ⟨k,0,none⟩)) (hy:a.eval y=.agg cells) (hB:Blk w k #[.int .i64 0,.string ⟨#[]⟩,.int .i64 0,.slice none 0 0] 73) (hs:cells.size=4) (h1:cells.all (·.oneCell')=true)
  (hK:∀w',Blk w' k cells 73->(∀B W,Below B W w->B<=k->Below B W w')->K (a.put none undef) w') :
  if Region.wanted o (yielded ops a.tmps)=true then Oper.wp Tryz.prog o a w K Q else E:=by
 have hw:Region.wanted o (yielded ops a.tmps)=true:=by simp[Region.wanted,hg]
 rw[if_pos hw]
 exact wp_store_row 73 x y ho k cells hx hy 73 _ hB (by rw[Tryz.infoN9s,hs]) (by rw[hs];rfl) h1 (by rw[hd];exact hK _ (setRow_heap _ _ _ _ _ _ hB) (λB W h1 h2=>below_setRow h1 h2 _))
end
section
variable {G:Pd} {w w':World} {ah:List Int} {Kp Kp' K:KM} {km ko mb nn:Nat} {gg:Nm} {bs:List Nat} {md:Md} {av:Value} {env:Env} {nx:Nat} {lst hr:Bool} {tk:Int}
def j7m (w:World) (r:Ck KM) (e:Ending) (w':World):Prop:=match r with
 | .error (c,n)=>e=.returned (errV c n)/\Below w.heap.size w w'
 | .ok _=>e=.returned .nilIface/\Below w.heap.size w w'
theorem j7m.bad {r:Ck KM} {c n:Int} (hr:r=.error (c,n)) (h:Below w.heap.size w w'):j7m w r (.returned (errV c n)) w':=by subst hr;exact⟨rfl,h⟩
theorem j7m.good {r:Ck KM} {K1:KM} (hr:r=.ok K1) (h:Below w.heap.size w w'):j7m w r (.returned .nilIface) w':=by subst hr;exact⟨rfl,h⟩
theorem jaq {L:List Int} {P:Nat} (h:L.length=P+1):L.getLast?=L[P]?:=by rw[List.getLast?_eq_getElem?,h];rfl
theorem jai (hG:G.Ok) (h:Pv G w ah Kp) (hkr:KR G.T Kp K) {t:Nat} {n:Nd} (hv:VN G.T t n) (hkd:n.kind=33) :
  Calls Tryz.prog 69 #[.pointer (some ⟨G.c,0,none⟩),.int .i64 (t:Int)] w λe w'=>j7m w (j2v G.T (t:Int) K) e w':=by
 obtain⟨nb,no,s9,c9,en1,hnb,e0,e1,e2,e3,ekids,hcap⟩:=Pd.node hG hv.at_
 have htN:t<G.T.nodes.length:=(List.getElem?_eq_some_iff.1 hv.at_).1
 have tI:(t:Int)<(G.T.nodes.length:Int):=by omega
 have hn4:G.T.nodes.length<=4000:=hG.tr.1
 have hkl:n.kids.length<=1048576:=(hG.k.1.2 n (List.mem_of_getElem? hv.at_)).2
 have hk0:0<n.kids.length:=by have h1:=hv.len;rw[hkd] at h1;simp[shp] at h1;omega
 obtain⟨P,hP⟩:∃P,Hid (n.kids.length=P+1):=⟨n.kids.length-1,by show _=_;omega⟩
 obtain⟨nx0,hfit⟩:=hv.fit
 obtain⟨bq,bn,bb,hxb,hbt,hvb,hcb,hfb0,_⟩:=hv.kidAt hfit (j:=P) (c:=3) (by rw[hkd,hP.out];simp[shp])
 have h27:=j34 hcb
 obtain⟨fb,fo,rfl,_,hfb,pp⟩:=j05 ekids hxb
 obtain⟨nb2,no2,t9,d9,en2,hnb2,f0,f1,f2,f3,ebl,_⟩:=Pd.node hG hvb.at_
 have enn:nb=nb2/\no=no2:=by rw[en1] at en2;simpa using en2
 obtain⟨rfl,rfl⟩:=enn
 have hbl2:bn.kids.length<=1048576:=(hG.k.1.2 bn (List.mem_of_getElem? hvb.at_)).2
 have hAns:Hid (j2v G.T (t:Int) K=match bn.kids.getLast? with|none=> .error (5,(t:Int))|some s=>if (nd G.T s).kind=26 then (if K (kid (nd G.T s) 0).toNat=n.num then .ok K else .error (4,(t:Int))) else .error (5,(t:Int))):=by
  show _=_
  unfold j2v
  rw[j0j hv.at_,jaq hP.out,hxb,Option.getD_some,j0j hvb.at_]
  all_goals rfl
 have b1:Below w.heap.size w (w.alloc (.cells #[.int .i64 n.kind,.string n.text,.int .i64 n.num,.slice (some ⟨fb,fo,none⟩) n.kids.length c9] 73)):=j00 (Below.refl _ _) _
 have x1:w.cell? ⟨G.c,1,none⟩=some (.slice (some ⟨nb,no,none⟩) G.T.nodes.length G.d1):=by rw[<-en1];exact(h.bx.cell 1).trans rfl
 have q0:=(h.bl.cell (p:=⟨nb,no+t*4,none⟩) hnb).trans e0
 have q1:=(h.bl.cell (p:=⟨nb,no+t*4+1,none⟩) hnb).trans e1
 have q2:=(h.bl.cell (p:=⟨nb,no+t*4+2,none⟩) hnb).trans e2
 have q3:=(h.bl.cell (p:=⟨nb,no+t*4+3,none⟩) hnb).trans e3
 have BN:Hid (Blk (w.alloc (.cells #[.int .i64 n.kind,.string n.text,.int .i64 n.num,.slice (some ⟨fb,fo,none⟩) n.kids.length c9] 73)) w.heap.size #[.int .i64 n.kind,.string n.text,.int .i64 n.num,.slice (some ⟨fb,fo,none⟩) n.kids.length c9] 73):=Blk.new w #[.int .i64 n.kind,.string n.text,.int .i64 n.num,.slice (some ⟨fb,fo,none⟩) n.kids.length c9] 73
 obtain⟨z0,z1,z2,z3,z4⟩:=Blk.four' BN.out
 have y1:(w.alloc (.cells #[.int .i64 n.kind,.string n.text,.int .i64 n.num,.slice (some ⟨fb,fo,none⟩) n.kids.length c9] 73)).cell? ⟨G.c,1,none⟩=some (.slice (some ⟨nb,no,none⟩) G.T.nodes.length G.d1):=by rw[<-en1];exact((h.later b1).bx.cell 1).trans rfl
 have yb:=((h.later b1).bl.cell (p:=⟨fb,fo+P,none⟩) hfb).trans pp
 have yk:=((h.later b1).bl.cell (p:=⟨nb,no+bq*4+3,none⟩) hnb).trans f3
 have H1:=Hid.mk' (h.later b1)
 have B1:=Hid.mk' b1
 have HVB:=Hid.mk' hvb
 have EBL:=Hid.mk' ebl
 have HKR:=Hid.mk' hkr
 have H27:=Hid.mk' h27
 have HFB:Hid (FitL (j0e G.T) (okN G.T) bn.kids bb bq):=hfb0
 have twP:IntKind.i64.wrap ((n.kids.length:Int)-1)=(P:Int):=by have:=hP.out;rw[IntKind.wrap_i64];omega
 have PI:(P:Int)<(n.kids.length:Int):=by have:=hP.out;omega
 have PN:P<n.kids.length:=by have:=hP.out;omega
 have bI:(bq:Int)<(G.T.nodes.length:Int):=by omega
 clear h b1 e0 e1 e2 e3 ekids hv hkd hcap hxb hvb hcb hfb0 hfit h27 f0 f1 f2 f3 ebl hkr pp en2;cases hl:bn.kids.getLast? with
 | none =>
  have hR:Hid (j2v G.T (t:Int) K=.error (5,(t:Int))):=by show _=_;rw[hAns.out,hl]
  have hz:bn.kids.length=0:=by rw[List.getLast?_eq_none_iff] at hl;rw[hl];rfl
  have tz:((bn.kids.length:Int) ==0)=true:=by simp[hz]
  clear hl hAns hz;go_enter Tryz.func69,Tryz.ntmps69
  go_wp2_with fail;go_quiet (fail)
  go_wp2_with fail;go_ret;exact j7m.bad hR.out (j06 B1.out _)
 | some s =>
  have hAns2:Hid (j2v G.T (t:Int) K=if (nd G.T s).kind=26 then (if K (kid (nd G.T s) 0).toNat=n.num then .ok K else .error (4,(t:Int))) else .error (5,(t:Int))):=by show _=_;rw[hAns.out,hl]
  have hz:0<bn.kids.length:=by cases h9:bn.kids with|nil=>rw[h9] at hl;simp at hl|cons _ _=>simp
  obtain⟨Q,hQ⟩:∃Q,Hid (bn.kids.length=Q+1):=⟨bn.kids.length-1,by show _=_;omega⟩
  have tz:((bn.kids.length:Int) ==0)=false:=beq_eq_false_iff_ne.2 (by omega)
  rw[jaq hQ.out] at hl
  obtain⟨sq,sn,bs_,hxs,hsb,hvs,hcs,hfs,_⟩:=HVB.out.kidAt HFB.out (j:=Q) (c:=2) (by rw[H27.out,hQ.out];simp[shp])
  rw[hxs] at hl
  injection hl with hl
  subst hl
  obtain⟨gb,go_,rfl,_,hgb,pq⟩:=j05 EBL.out hxs
  obtain⟨nb2,no2,s8,c8,en2,hnb2,f0,f1,f2,f3,esk,_⟩:=Pd.node hG hvs.at_
  have enn:nb=nb2/\no=no2:=by rw[en1] at en2;simpa using en2
  obtain⟨rfl,rfl⟩:=enn
  rw[j0j hvs.at_] at hAns2
  have twQ:IntKind.i64.wrap ((bn.kids.length:Int)-1)=(Q:Int):=by have:=hQ.out;rw[IntKind.wrap_i64];omega
  have QI:(Q:Int)<(bn.kids.length:Int):=by have:=hQ.out;omega
  have QN:Q<bn.kids.length:=by have:=hQ.out;omega
  have sI:(sq:Int)<(G.T.nodes.length:Int):=by omega
  have HVS:=Hid.mk' hvs
  have ESK:=Hid.mk' esk
  have HFS:Hid (FitL (j0e G.T) (okN G.T) sn.kids bs_ sq):=hfs
  have HF0:Hid (G.w0.cell? ⟨nb,no+sq*4,none⟩=some (.int .i64 sn.kind)/\G.w0.cell? ⟨nb,no+sq*4+1,none⟩=some (.string sn.text)/\G.w0.cell? ⟨nb,no+sq*4+2,none⟩=some (.int .i64 sn.num)/\G.w0.cell? ⟨nb,no+sq*4+3,none⟩=some (.slice s8 sn.kids.length c8)):=⟨f0,f1,f2,f3⟩
  have PQ:=Hid.mk' pq
  clear hAns hz hxs hvs hcs hfs en2 f0 f1 f2 f3 esk pq;go_enter Tryz.func69,Tryz.ntmps69
  go_wp2_with fail;go_quiet (fail)
  have H2:=Hid.mk' (H1.out.later (j06 (Below.refl _ _) nq))
  have BN2:=Hid.mk' (BN.out.later (j06 (Below.refl _ _) nq))
  have B2:Hid (Below w.heap.size w ((w.alloc (.cells #[.int .i64 n.kind,.string n.text,.int .i64 n.num,.slice (some ⟨fb,fo,none⟩) n.kids.length c9] 73)).drewN nq)):=j06 B1.out nq
  generalize (w.alloc (.cells #[.int .i64 n.kind,.string n.text,.int .i64 n.num,.slice (some ⟨fb,fo,none⟩) n.kids.length c9] 73)).drewN nq=X at H2 BN2 B2 ⊢
  clear x1 q0 q1 q2 q3 z0 z1 z2 z3 z4 y1 yb yk H1 B1 BN twP PI PN bI;go_wp2_with fail;clear tz;have hS:Hid (∀Y,Below X.heap.size X Y->Y.cell? ⟨G.c,1,none⟩=some (.slice (some ⟨nb,no,none⟩) G.T.nodes.length G.d1)/\Y.cell? ⟨gb,go_+Q,none⟩=some (.int .i64 (sq:Int))/\Y.cell? ⟨nb,no+sq*4,none⟩=some (.int .i64 sn.kind)/\Y.cell? ⟨nb,no+sq*4+1,none⟩=some (.string sn.text)/\Y.cell? ⟨nb,no+sq*4+2,none⟩=some (.int .i64 sn.num)/\Y.cell? ⟨nb,no+sq*4+3,none⟩=some (.slice s8 sn.kids.length c8)):=λY hY=>⟨(hY.cell (p:=⟨G.c,1,none⟩) H2.out.bx.lt).trans (by rw[<-en1];exact(H2.out.bx.cell 1).trans rfl),(hY.cell (p:=⟨gb,go_+Q,none⟩) (Nat.lt_of_lt_of_le hgb H2.out.bl.size)).trans ((H2.out.bl.cell (p:=⟨gb,go_+Q,none⟩) hgb).trans PQ.out),(hY.cell (p:=⟨nb,no+sq*4,none⟩) (Nat.lt_of_lt_of_le hnb H2.out.bl.size)).trans ((H2.out.bl.cell (p:=⟨nb,no+sq*4,none⟩) hnb).trans HF0.out.1),(hY.cell (p:=⟨nb,no+sq*4+1,none⟩) (Nat.lt_of_lt_of_le hnb H2.out.bl.size)).trans ((H2.out.bl.cell (p:=⟨nb,no+sq*4+1,none⟩) hnb).trans HF0.out.2.1),(hY.cell (p:=⟨nb,no+sq*4+2,none⟩) (Nat.lt_of_lt_of_le hnb H2.out.bl.size)).trans ((H2.out.bl.cell (p:=⟨nb,no+sq*4+2,none⟩) hnb).trans HF0.out.2.2.1),(hY.cell (p:=⟨nb,no+sq*4+3,none⟩) (Nat.lt_of_lt_of_le hnb H2.out.bl.size)).trans ((H2.out.bl.cell (p:=⟨nb,no+sq*4+3,none⟩) hnb).trans HF0.out.2.2.2)⟩
  refine wp_region_held_drew (S:=λY=>Y.cell? ⟨G.c,1,none⟩=some (.slice (some ⟨nb,no,none⟩) G.T.nodes.length G.d1)/\Y.cell? ⟨gb,go_+Q,none⟩=some (.int .i64 (sq:Int))/\Y.cell? ⟨nb,no+sq*4,none⟩=some (.int .i64 sn.kind)/\Y.cell? ⟨nb,no+sq*4+1,none⟩=some (.string sn.text)/\Y.cell? ⟨nb,no+sq*4+2,none⟩=some (.int .i64 sn.num)/\Y.cell? ⟨nb,no+sq*4+3,none⟩=some (.slice s8 sn.kids.length c8)) (by kernel_rfl) ?_ (λhHeld=>?_)
  ·
   exact hS.out _ (j02 (Below.refl _ _))
  have BX:Hid (Below X.heap.size X X.drew):=j02 (Below.refl _ _)
  refine wpr 0 36 ?_;simp only[zs];refine wpr 1 37 ?_;simp only[zs];refine wpr 2 38 ?_;simp only[zs];refine wpr 3 39 ?_;simp only[zs];refine wpr 4 40 ?_;simp only[zs];refine wpr 5 41 ?_;simp only[zs];refine wpr 6 42 ?_;simp only[zs];refine wpr 7 43 ?_;simp only[zs];refine wpr 8 44 ?_;simp only[zs];refine wpr 9 45 ?_;simp only[zs];refine wpr 10 46 ?_;simp only[zs];refine wpr 11 47 ?_
  simp only[zs];refine wpAnyH_ready (rs:=[12]) (by kernel_rfl) (by simp) ?_
  refine AllReadyH.cons rfl (λKQ hK=>?_) AllReadyH.nil
  refine jdn rfl (d0:=some 7) rfl rfl ?_
  intro kz g2 KZ0 hk hb
  have hwk:Hid (X.heap.size<=kz):=by have:=BX.out.size;show _<=_;omega
  have KZ:Hid (Blk g2 kz #[.int .i64 0,.string ⟨#[]⟩,.int .i64 0,.slice none 0 0] 73):=KZ0
  have BX:Hid (Below X.heap.size X g2):=j01 BX.out hb
  clear KZ0 hk hb;refine hK.out _ _ (hS.out _ BX.out) (λhHeld=>?_)
  clear hK KQ;try simp only[zs]
  refine wpAnyH_ready (rs:=[13]) (by kernel_rfl) (by simp) ?_
  refine AllReadyH.cons rfl (λKQ hK=>?_) AllReadyH.nil
  refine jdw rfl rfl (.tmp 7) (.tmp 47) rfl kz #[.int .i64 sn.kind,.string sn.text,.int .i64 sn.num,.slice s8 sn.kids.length c8] rfl rfl KZ.out rfl (by simp[Value.oneCell']) ?_
  intro Z KV0 hb
  have BX:Hid (Below X.heap.size X Z):=hb _ _ BX.out hwk.out
  have KV:Hid (Blk Z kz #[.int .i64 sn.kind,.string sn.text,.int .i64 sn.num,.slice s8 sn.kids.length c8] 73):=KV0
  clear KV0 hb KZ;refine hK.out _ _ (hS.out _ BX.out) (λhHeld=>?_)
  clear hK KQ;try simp only[zs]
  refine wpAnyH_done (by kernel_rfl) ?_ _
  clear hHeld hS;have H3:=Hid.mk' (H2.out.later BX.out)
  have BN3:=Hid.mk' (BN2.out.later BX.out)
  have B3:Hid (Below w.heap.size w Z):=j01 B2.out BX.out
  clear H2 BN2 B2 BX;have k0:Z.cell? ⟨kz,0,none⟩=some (.int .i64 sn.kind):=(KV.out.cell 0).trans rfl
  by_cases h26:sn.kind=26
  rotate_left 1
  ·
   have t26:(sn.kind != 26)=true:=by simp[h26]
   have hR:Hid (j2v G.T (t:Int) K=.error (5,(t:Int))):=by show _=_;rw[hAns2.out,if_neg h26]
   clear h26;go_wp2_with fail;go_ret;exact j7m.bad hR.out B3.out
  have t26:(sn.kind != 26)=false:=by simp[h26]
  obtain⟨xq,xn,bx_,hxx,hxs,hvx,hcx,hfx,_⟩:=HVS.out.kidAt HFS.out (j:=0) (c:=1) (by rw[h26];simp[shp])
  have hxE:=j1q hcx
  have hxN:xq<G.T.nodes.length:=by omega
  have xI:(xq:Int)<(G.T.nodes.length:Int):=by omega
  obtain⟨hb,ho,rfl,_,hhb,pr⟩:=j05 ESK.out hxx
  have hl1:sn.kids.length=1:=by have h1:=HVS.out.len;rw[h26] at h1;simpa[shp] using h1.symm
  have l0N:0<sn.kids.length:=by omega
  have l0I:(0:Int)<(sn.kids.length:Int):=by omega
  have hAns3:Hid (j2v G.T (t:Int) K=if K xq=n.num then .ok K else .error (4,(t:Int))):=by show _=_;rw[hAns2.out,if_pos h26,show kid sn 0=(xq:Int) by simp[kid,hxx]];rfl
  have hKx:Kp xq=K xq:=HKR.out xq hxN (by rw[j0j hvx.at_];exact hxE)
  obtain⟨kx,hkx⟩:∃k,Hid (Kp xq=k):=⟨_,rfl⟩
  rw[<-hKx,hkx.out] at hAns3
  have y2:Z.cell? ⟨G.c,2,none⟩=some (.slice (some ⟨G.kb,0,none⟩) G.T.nodes.length G.T.nodes.length):=(H3.out.bx.cell 2).trans rfl
  have k3:Z.cell? ⟨kz,3,none⟩=some (.slice (some ⟨hb,ho,none⟩) sn.kids.length c8):=(KV.out.cell 3).trans rfl
  have yx:Z.cell? ⟨hb,ho,none⟩=some (.int .i64 (xq:Int)):=(H3.out.bl.cell (p:=⟨hb,ho,none⟩) hhb).trans (by simpa using pr)
  have ykx:Z.cell? ⟨G.kb,xq,none⟩=some (.int .i64 kx):=by rw[<-hkx.out];exact H3.out.kc xq hxN
  have n2:Z.cell? ⟨w.heap.size,2,none⟩=some (.int .i64 n.num):=(BN3.out.cell 2).trans rfl
  clear hAns2 h26 hxx hvx hcx hfx hKx pr hl1;by_cases hkn:kx=n.num
  ·
   have tk_:(kx != n.num)=false:=by simp[hkn]
   have hR:Hid (j2v G.T (t:Int) K=.ok K):=by show _=_;rw[hAns3.out,if_pos hkn]
   clear hkn hAns3;go_wp2_with fail;go_quiet (fail)
   go_wp2_with fail;go_ret;exact j7m.good hR.out (j06 B3.out _)
  have tk_:(kx != n.num)=true:=by simp[hkn]
  have hR:Hid (j2v G.T (t:Int) K=.error (4,(t:Int))):=by show _=_;rw[hAns3.out,if_neg hkn]
  clear hkn hAns3;go_wp2_with fail;go_quiet (fail)
  go_wp2_with fail;go_ret;exact j7m.bad hR.out (j06 B3.out _)
end
end
section
open Go.RowKit Go.Maps Go.WideMaps
section
variable {ops:Array Oper} {o:Oper} {a:Act} {w:World} {K:Act->World->Prop} {Q:Exit->Act->World->Prop} {E:Prop}
theorem Tryz.infoP9:(Tryz.prog.info? 139).map (λi=>(i.zero,i.size,i.bytes))=some (some (.agg #[.nilFunc,.nilFunc,.int .i64 0,.bool false,.bool false,.map none]),6,40):=by kernel_rfl
theorem Tryz.infoP9s:(Tryz.prog.info? 139).map (·.size)=some 6:=by kernel_rfl
theorem j9u (hg:o.guard=none) {d0:Option Nat} (hd:o.dst=d0) (ho:o.op=.alloc 139)
  (hK:∀k w',Blk w' k #[.nilFunc,.nilFunc,.int .i64 0,.bool false,.bool false,.map none] 139->w.heap.size=k->Below w.heap.size w w'->w'.heap.size=k+1->K (a.put d0 (.pointer (some ⟨k,0,none⟩))) w') :
  if Region.wanted o (yielded ops a.tmps)=true then Oper.wp Tryz.prog o a w K Q else E:=by
 obtain⟨ie,hie,he0,he1,he2⟩:=info_parts Tryz.infoP9
 exact j3r hg hd (j5s hie he0 _ o ho w) (hK _ _ (Blk.new w _ _) rfl (j00 (Below.refl _ _) _) (by simp))
theorem j9h (hg:o.guard=none) (hd:o.dst=none) (x y:Operand) (ho:o.op=.store 139 x y) (k:Nat) (cells:Array Value) (hx:a.eval x=.pointer (some ⟨k,0,none⟩)) (hy:a.eval y=.agg cells) (hB:Blk w k #[.nilFunc,.nilFunc,.int .i64 0,.bool false,.bool false,.map none] 139) (hs:cells.size=6) (h1:cells.all (·.oneCell')=true)
  (hK:∀w',Blk w' k cells 139->(∀B W,Below B W w->B<=k->Below B W w')->Tw k k w w'->K (a.put none undef) w') :
  if Region.wanted o (yielded ops a.tmps)=true then Oper.wp Tryz.prog o a w K Q else E:=by
 have hw:Region.wanted o (yielded ops a.tmps)=true:=by simp[Region.wanted,hg]
 rw[if_pos hw]
 exact wp_store_row 139 x y ho k cells hx hy 139 _ hB (by rw[Tryz.infoP9s,hs]) (by rw[hs];rfl) h1 (by rw[hd];exact hK _ (setRow_heap _ _ _ _ _ _ hB) (λB W h1 h2=>below_setRow h1 h2 _) ⟨rfl,rfl,rfl,by simp,λq _ h2 _=>setRow_other _ _ _ _ h2⟩)
end
section
variable {G:Pd} {w w' w'':World} {ah:List Int} {Kp Kp' K:KM} {km ko mb nn:Nat} {gg:Nm} {bs:List Nat} {md:Md} {av:Value} {env:Env} {nx:Nat} {lst hr:Bool} {tk:Int}
theorem j56.later {v:Value} (h:j56 w w' v km mb ko) (hb:Below w'.heap.size w' w''):j56 w w'' v km mb ko:=⟨h.k1.later hb,h.k2.later hb,h.k3.later hb,h.o1,h.o2,h.o3,h.bl.trans (hb.mono h.bl.size)⟩
theorem j56.pre {v:Value} (h:j56 w' w'' v km mb ko) (hb:Below w.heap.size w w'):j56 w w'' v km mb ko:=⟨h.k1,h.k2,h.k3,Nat.le_trans hb.size h.o1,Nat.le_trans hb.size h.o2,Nat.le_trans hb.size h.o3,hb.trans (h.bl.mono hb.size)⟩
theorem j56.off {v:Value} {p:Nat} (h:j56 w w' v km mb ko) (ht:Tw p p w' w'') (h0:w.heap.size<=p) (h1:¬km=p) (h2:¬mb=p) (h3:¬ko=p):j56 w w'' v km mb ko :=
 ⟨h.k1.tw ht h1 h1,h.k2.same (ht.block _ h.k2.lt h2 h2),h.k3.tw ht h3 h3,h.o1,h.o2,h.o3,ht.below h.bl h.bl.size h0 h0⟩
theorem ji3 {T:Tre} {ah:List Int} {s:ByteArray}:(ah.any λa=>decide ((nd T a).text=s))=(topN T ah s).isSome:=by
 unfold topN
 induction ah with
 | nil=>rfl
 | cons a as_ ih =>
  rw[List.any_cons,List.find?_cons]
  by_cases h:(nd T a).text=s
  ·
   simp[h]
  simp only[h,decide_false,Bool.false_or];exact ih
theorem jdp {T:Tre} {ah:List Int} {t:Int} (h:topN T ah (nd T t).text=none):topN T (ah++[t])=j39 (topN T ah) (nd T t).text t:=by
 funext s
 unfold j39
 by_cases e:s=(nd T t).text
 ·
  rw[if_pos e,e]
  unfold topN at h ⊢
  rw[List.find?_append,h]
  simp
 rw[if_neg e]
 unfold topN
 rw[List.find?_append]
 have:List.find? (λt=>decide ((nd T t).text=s)) [t]=none:=by
  have hd:decide ((nd T t).text=s)=false:=by simp;exact λq=>e q.symm
  rw[List.find?_cons,hd];rfl
 rw[this];simp
theorem Pv.tops (h:Pv G w ah Kp) {m:Nat} {t:Int} (hG:G.Ok) (hm:m<=ah.length) (hq:QM w' G.bt (m+1) (topN G.T (ah++[t]))) (ht:w.mapTurned w' G.bt):Pv G w' (ah++[t]) Kp:=by
 have tw:Tw G.bt G.bt w w':=Tw.turned ht
 exact⟨h.bx.tw tw (Ne.symm hG.n2) (Ne.symm hG.n2),Nat.lt_of_lt_of_le h.kl tw.size,λj hj=>(tw.cell h.kl (Ne.symm hG.n3) (Ne.symm hG.n3)).trans (h.kc j hj),λj=>(ht.frozen _).trans (h.kf j),⟨m+1,by simp;omega,hq⟩,tw.below h.bl h.bl.size hG.bt hG.bt⟩
def j73 (G:Pd) (ah:List Int) (t:Int) (r:Ck KM) (e:Ending) (w':World):Prop:=match r with
 | .error (c,n)=>e=.returned (errV c n)/\Below G.w0.heap.size G.w0 w'
 | .ok K1=>e=.returned .nilIface/\∃Kp1,Pv G w' (ah++[t]) Kp1/\KR G.T Kp1 K1
theorem j73.bad {c n t:Int} {r:Ck KM} (hr:r=.error (c,n)) (hb:Below G.w0.heap.size G.w0 w'):j73 G ah t r (.returned (errV c n)) w':=by subst hr;exact⟨rfl,hb⟩
theorem j73.good {t:Int} {K1 Kp1:KM} {r:Ck KM} (hr:r=.ok K1) (h1:Pv G w' (ah++[t]) Kp1) (h2:KR G.T Kp1 K1):j73 G ah t r (.returned .nilIface) w':=by subst hr;exact⟨rfl,Kp1,h1,h2⟩
structure LdP (G:Pd) (w:World) (ah:List Int) (km ko mb:Nat) (bs:List Nat) (md:Md) (t:Nat) (all:Ck Env) (ks rest:List Int) (env:Env) (K Kp:KM) (gg:Nm) (nn a:Nat):Prop where
 ck:all=j5i G.T ks env
 fit:FitL (j0e G.T) (okN G.T) rest a t
 na:nn<=a
 p:Pv G w ah Kp
 kr:KR G.T Kp K
 x:Px G w km ko gg bs md (.map none) env Kp a
 l:Lx G w km ko mb nn gg bs (.map none)
def topR (D:Int->ByteArray->Int) (T:Tre) (ah:List Int) (fnb:Bool) (t:Int) (bl:List Int) (K:KM) (r:Ck Env):Ck KM:=match r with
 | .error e=> .error e
 | .ok env=>match ckSs (ckS D T ah T.nodes.length T.nodes.length ⟨false,[],false,fnb⟩) fnb bl env K with
  | .error e=> .error e
  | .ok K1=>if fnb=true then j2v T t K1 else .ok K1
theorem jlw {k:Int} (h:j1c 7 k):¬isE k:=by
 unfold j1c at h
 simp only[show¬(7:Int)=10 by omega,if_false] at h
 have h:=h.1
 unfold cls at h
 unfold isE
 repeat (split at h<;>try omega)
theorem jgm {T:Tre} {t:Int} {K K1:KM} (h:j2v T t K=.ok K1):K1=K:=by
 unfold j2v at h
 split at h
 ·
  cases h
 split at h
 ·
  split at h
  ·
   injection h with h;exact h.symm
  cases h
 cases h
theorem jfx (hG:G.Ok) (ha:AhOk G.T ah) (hal:ah.length<=1048576) (h:Pv G w ah Kp) (hkr:KR G.T Kp K) {t:Nat} {n:Nd} (hv:VN G.T t n) (hkd:n.kind=33\/n.kind=34) {nx0:Nat} (hfit:FitL (j0e G.T) (okN G.T) n.kids nx0 t) :
  Calls Tryz.prog 40 #[.pointer (some ⟨G.c,0,none⟩),.int .i64 (t:Int)] w λe w'=>j73 G ah (t:Int) (j1x (Dp G) G.T G.T.nodes.length ah K (t:Int)) e w':=by
 have hS:=jea hG ha G.T.nodes.length
 obtain⟨nb,no,s9,c9,en1,hnb,e0,e1,e2,e3,ekids,hcap⟩:=Pd.node hG hv.at_
 have htN:t<G.T.nodes.length:=(List.getElem?_eq_some_iff.1 hv.at_).1
 have tI:(t:Int)<(G.T.nodes.length:Int):=by omega
 have hn4:G.T.nodes.length<=4000:=hG.tr.1
 have hkl:n.kids.length<=1048576:=(hG.k.1.2 n (List.mem_of_getElem? hv.at_)).2
 have hts:n.text.size<=maxLen:=by have:=(hG.k.1.2 n (List.mem_of_getElem? hv.at_)).1;unfold maxLen;omega
 have hk0:0<n.kids.length:=by have h1:=hv.len;rcases hkd with e|e<;>(rw[e] at h1;simp[shp] at h1;omega)
 obtain⟨P,hP⟩:∃P,Hid (n.kids.length=P+1):=⟨n.kids.length-1,by show _=_;omega⟩
 have hcP:(shp n.kind n.kids.length)[P]?=some 3:=by
  rcases hkd with e|e
  ·
   rw[e,hP.out];simp[shp]
  have h1:=hv.len;rw[e] at h1 ⊢;simp[shp] at h1;have h2:=hP.out;have:P=0:=by omega
  subst this;simp[shp]
 have hcp:Hid (∀m,m<P->(shp n.kind n.kids.length)[m]?=some 7):=by
  intro m hm
  rcases hkd with e|e
  ·
   rw[e,hP.out];simp[shp,List.getElem?_append,List.getElem?_replicate,hm]
  have h1:=hv.len;rw[e] at h1;simp[shp] at h1;have h2:=hP.out;omega
 obtain⟨bq,bn,bb,hxb,hbt,hvb,hcb,hfb0,_⟩:=hv.kidAt hfit (j:=P) (c:=3) hcP
 obtain⟨fb,fo,rfl,_,hfb,pp⟩:=j05 ekids hxb
 have hsl:=j2k 26 Tryz.htI2 j6w (some ⟨fb,fo,none⟩) n.kids.length c9 P (by have:=hP.out;omega) hcap
 have twP:IntKind.i64.wrap ((n.kids.length:Int)-1)=(P:Int):=by have:=hP.out;rw[IntKind.wrap_i64];omega
 have PI:(P:Int)<(n.kids.length:Int):=by have:=hP.out;omega
 have PN:P<n.kids.length:=by have:=hP.out;omega
 obtain⟨fnb,hfn⟩:∃b,Hid (decide (n.kind=33)=b):=⟨_,rfl⟩
 have t33:(n.kind ==33)=fnb:=by rw[<-hfn.out];by_cases e:n.kind=33<;>simp[e]
 obtain⟨res,hres⟩:∃r,Hid (j5i G.T n.kids.dropLast []=r):=⟨_,rfl⟩
 have HT0:Hid (j1x (Dp G) G.T G.T.nodes.length ah K (t:Int)=if (topN G.T ah n.text).isSome=true then .error (2,(t:Int)) else topR (Dp G) G.T ah fnb (t:Int) bn.kids K res):=by
  show _=_
  unfold j1x topR
  simp only[j0j hv.at_]
  rw[ji3,hres.out,jaq hP.out,hxb,Option.getD_some,j0j hvb.at_,hfn.out]
  have h33:(n.kind=33)=(fnb=true):=by rw[<-hfn.out];simp
  simp only[h33]
  rfl
 have b1:Below w.heap.size w (w.alloc (.cells #[.int .i64 n.kind,.string n.text,.int .i64 n.num,.slice (some ⟨fb,fo,none⟩) n.kids.length c9] 73)):=j00 (Below.refl _ _) _
 have x1:w.cell? ⟨G.c,1,none⟩=some (.slice (some ⟨nb,no,none⟩) G.T.nodes.length G.d1):=by rw[<-en1];exact(h.bx.cell 1).trans rfl
 have q0:=(h.bl.cell (p:=⟨nb,no+t*4,none⟩) hnb).trans e0
 have q1:=(h.bl.cell (p:=⟨nb,no+t*4+1,none⟩) hnb).trans e1
 have q2:=(h.bl.cell (p:=⟨nb,no+t*4+2,none⟩) hnb).trans e2
 have q3:=(h.bl.cell (p:=⟨nb,no+t*4+3,none⟩) hnb).trans e3
 have BN:Hid (Blk (w.alloc (.cells #[.int .i64 n.kind,.string n.text,.int .i64 n.num,.slice (some ⟨fb,fo,none⟩) n.kids.length c9] 73)) w.heap.size #[.int .i64 n.kind,.string n.text,.int .i64 n.num,.slice (some ⟨fb,fo,none⟩) n.kids.length c9] 73):=Blk.new w #[.int .i64 n.kind,.string n.text,.int .i64 n.num,.slice (some ⟨fb,fo,none⟩) n.kids.length c9] 73
 obtain⟨z0,z1,z2,z3,z4⟩:=Blk.four' BN.out
 have H1:=Hid.mk' (h.later b1)
 have x3:(w.alloc (.cells #[.int .i64 n.kind,.string n.text,.int .i64 n.num,.slice (some ⟨fb,fo,none⟩) n.kids.length c9] 73)).cell? ⟨G.c,3,none⟩=some (.map (some G.bt)):=(H1.out.bx.cell 3).trans rfl
 obtain⟨nt,hnt,hqt⟩:=H1.out.tp
 have hlk:∀q,_:=λq=>(hqt.later (j06 (Below.refl _ _) q)).look n.text hts
 obtain⟨tb,htb⟩:∃b,Hid ((topN G.T ah n.text).isSome=b):=⟨_,rfl⟩
 obtain⟨tv,htv⟩:∃b,Hid ((topN G.T ah n.text).getD 0=b):=⟨_,rfl⟩
 rw[htb.out,htv.out] at hlk
 have B1:=Hid.mk' b1
 have HVB:=Hid.mk' hvb
 have HKR:=Hid.mk' hkr
 have H27:=Hid.mk' (j34 hcb)
 have HFIT:Hid (FitL (j0e G.T) (okN G.T) n.kids nx0 t):=hfit
 have HV:=Hid.mk' hv
 have EK:=Hid.mk' ekids
 have PP:=Hid.mk' pp
 have HS:=Hid.mk' hS
 have HXB:=Hid.mk' hxb
 have HHK:=Hid.mk' hkd
 have hwk:¬w.heap.size=G.kb:=by have:=h.kl;omega
 have hwt:¬w.heap.size=G.bt:=by obtain⟨m,_,q⟩:=h.tp;have:=q.lt;omega
 have hnk:¬nb=G.kb:=by have:=hG.kb;omega
 have hfk:¬fb=G.kb:=by have:=hG.kb;omega
 have hck:¬G.c=G.kb:=λe=>hG.n1 e.symm
 have hnt0:¬nb=G.bt:=by have:=hG.bt;omega
 have hw0:G.w0.heap.size<=w.heap.size:=h.bl.size
 clear h b1 e0 e1 e2 e3 ekids hv hkd hcap hxb hvb hcb hfb0 hfit hkr pp hS hcP hqt hnt;go_enter Tryz.func40,Tryz.ntmps40
 go_wp2_with fail;go_quiet (fail)
 have H2:=Hid.mk' (H1.out.later (j06 (Below.refl _ _) nq))
 have BN2:=Hid.mk' (BN.out.later (j06 (Below.refl _ _) nq))
 generalize (w.alloc (.cells #[.int .i64 n.kind,.string n.text,.int .i64 n.num,.slice (some ⟨fb,fo,none⟩) n.kids.length c9] 73)).drewN nq=X at H2 BN2 ⊢
 clear x1 q0 q1 q2 q3 z0 z1 z2 z3 z4 x3 H1 BN hlk B1;cases tb
 rotate_left 1
 ·
  have hR:Hid (j1x (Dp G) G.T G.T.nodes.length ah K (t:Int)=.error (2,(t:Int))):=by show _=_;rw[HT0.out,if_pos htb.out]
  go_wp2_with fail;go_ret;exact j73.bad hR.out H2.out.bl
 have HT1:Hid (j1x (Dp G) G.T G.T.nodes.length ah K (t:Int)=topR (Dp G) G.T ah fnb (t:Int) bn.kids K res):=by show _=_;rw[HT0.out,if_neg (by rw[htb.out];simp)]
 clear HT0 htv;go_wp2_with fail;have hwx:w.heap.size<X.heap.size:=BN2.out.lt
 have hS:Hid (∀Y,Below X.heap.size X Y->Y.cell? ⟨w.heap.size,0,none⟩=some (.int .i64 n.kind)):=λY hY=>(hY.cell (p:=⟨w.heap.size,0,none⟩) hwx).trans ((BN2.out.cell 0).trans rfl)
 refine wp_region_held_drew (S:=λY=>Y.cell? ⟨w.heap.size,0,none⟩=some (.int .i64 n.kind)) (by kernel_rfl) ?_ (λhHeld=>?_)
 ·
  exact hS.out _ (j02 (Below.refl _ _))
 have BX:Hid (Below X.heap.size X X.drew):=j02 (Below.refl _ _)
 refine wpr 1 36 ?_;simp only[zs];refine wpr 2 37 ?_;simp only[zs];refine wpAnyH_ready (rs:=[0,4]) (by kernel_rfl) (by simp) ?_
 refine AllReadyH.cons rfl (λKQ hK=>?_) ?_
 focus
  go_simp;refine(j5c (.func 66) #[] noF rfl _).mono ?_
  rintro z g1 ⟨km,mb,ko,rfl,hN⟩
  have BX0:=BX
  have BX:Hid (Below X.heap.size X g1):=j01 BX0.out hN.bl
  have HN0:=Hid.mk' hN
  clear hN;refine hK.out _ _ (hS.out _ BX.out) (λhHeld=>?_)
  clear hK KQ;try simp only[zs]
  refine wpr 3 38 ?_;simp only[zs];refine wpAnyH_ready (rs:=[4]) (by kernel_rfl) (by simp) ?_
  refine AllReadyH.cons rfl (λKQ hK=>?_) AllReadyH.nil
  refine j9u rfl (d0:=some 8) rfl rfl ?_
  intro kz g2 KZ0 hk hb hsz;have hkz0:Hid (kz=g1.heap.size):=hk.symm
  have BX1:=BX
  have BX:Hid (Below X.heap.size X g2):=j01 BX1.out hb
  have KZ:Hid (Blk g2 kz #[.nilFunc,.nilFunc,.int .i64 0,.bool false,.bool false,.map none] 139):=KZ0
  have HSZ:Hid (g2.heap.size=kz+1):=hsz
  have HBB:=Hid.mk' hb
  have HKZ:Hid (X.heap.size<=kz):=by have:=BX1.out.size;show _<=_;omega
  clear KZ0 hk hb hsz;refine hK.out _ _ (hS.out _ BX.out) (λhHeld=>?_)
  clear hK KQ;try simp only[zs]
  have hkn:=hkz0
  refine wpAnyH_ready (rs:=[5]) (by kernel_rfl) (by simp) ?_
  refine AllReadyH.cons rfl (λKQ hK=>?_) AllReadyH.nil
  refine j9h rfl rfl (.tmp 8) (.tmp 38) rfl kz #[addF km,j09 km ko,.int .i64 n.kind,.bool false,.bool false,.map none] rfl rfl KZ.out rfl (by simp[Value.oneCell']) ?_
  intro Z KV0 hb htz
  have BX2:=BX
  have BX:Hid (Below X.heap.size X Z):=hb _ _ BX2.out HKZ.out
  have KV:Hid (Blk Z kz #[addF km,j09 km ko,.int .i64 n.kind,.bool false,.bool false,.map none] 139):=KV0
  have hk1:=HN0.out.k1.lt
  have hk2:=HN0.out.k2.lt
  have hk3:=HN0.out.k3.lt
  have NK:Hid (¬km=kz/\¬mb=kz/\¬ko=kz):=⟨by have:=hkn.out;omega,by have:=hkn.out;omega,by have:=hkn.out;omega⟩
  have HN:Hid (j56 X Z noF km mb ko):=((HN0.out.pre BX0.out).later HBB.out).off htz HKZ.out NK.out.1 NK.out.2.1 NK.out.2.2
  clear hk1 hk2 hk3 HN0 BX0 BX1 BX2 HBB HSZ hkn KZ;clear KV0 hb htz;refine hK.out _ _ (hS.out _ BX.out) (λhHeld=>?_)
  clear hK KQ;try simp only[zs]
  refine wpAnyH_done (by kernel_rfl) ?_ _
  clear hHeld hS
 rotate_left 1;refine AllReadyH.cons rfl (λKQ hK=>?_) AllReadyH.nil
 refine j9u rfl (d0:=some 8) rfl rfl ?_
 intro kz g1 KZ0 hk hb hsz
 have BX1:=BX
 have BX:Hid (Below X.heap.size X g1):=j01 BX1.out hb
 have KZ:Hid (Blk g1 kz #[.nilFunc,.nilFunc,.int .i64 0,.bool false,.bool false,.map none] 139):=KZ0
 have HSZ:Hid (g1.heap.size=kz+1):=hsz
 have HBB:=Hid.mk' hb
 have HKZ:Hid (X.heap.size<=kz):=by have:=BX1.out.size;show _<=_;omega
 clear KZ0 hk hb hsz;refine hK.out _ _ (hS.out _ BX.out) (λhHeld=>?_)
 clear hK KQ;try simp only[zs]
 refine wpAnyH_ready (rs:=[0]) (by kernel_rfl) (by simp) ?_
 refine AllReadyH.cons rfl (λKQ hK=>?_) AllReadyH.nil
 go_simp;refine(j5c (.func 66) #[] noF rfl _).mono ?_
 rintro z g2 ⟨km,mb,ko,rfl,hN⟩
 have BX0:=BX
 have BX:Hid (Below X.heap.size X g2):=j01 BX0.out hN.bl
 have HN0:=Hid.mk' hN;have KZ:Hid (Blk g2 kz #[.nilFunc,.nilFunc,.int .i64 0,.bool false,.bool false,.map none] 139):=KZ.out.later hN.bl
 clear hN;refine hK.out _ _ (hS.out _ BX.out) (λhHeld=>?_)
 clear hK KQ;try simp only[zs]
 refine wpr 3 38 ?_;simp only[zs];refine wpAnyH_ready (rs:=[5]) (by kernel_rfl) (by simp) ?_
 refine AllReadyH.cons rfl (λKQ hK=>?_) AllReadyH.nil
 refine j9h rfl rfl (.tmp 8) (.tmp 38) rfl kz #[addF km,j09 km ko,.int .i64 n.kind,.bool false,.bool false,.map none] rfl rfl KZ.out rfl (by simp[Value.oneCell']) ?_
 intro Z KV0 hb htz
 have BX2:=BX
 have BX:Hid (Below X.heap.size X Z):=hb _ _ BX2.out HKZ.out
 have KV:Hid (Blk Z kz #[addF km,j09 km ko,.int .i64 n.kind,.bool false,.bool false,.map none] 139):=KV0
 have NK:Hid (¬km=kz/\¬mb=kz/\¬ko=kz):=⟨by have h1:=HSZ.out;have h2:=HN0.out.o1;omega,by have h1:=HSZ.out;have h2:=HN0.out.o2;omega,by have h1:=HSZ.out;have h2:=HN0.out.o3;omega⟩
 have HN:Hid (j56 X Z noF km mb ko):=(HN0.out.pre BX0.out).off htz HKZ.out NK.out.1 NK.out.2.1 NK.out.2.2
 clear HN0 BX0 BX1 BX2 HBB HSZ KZ;clear KV0 hb htz;refine hK.out _ _ (hS.out _ BX.out) (λhHeld=>?_)
 clear hK KQ;try simp only[zs]
 refine wpAnyH_done (by kernel_rfl) ?_ _
 clear hHeld hS
 all_goals
  have hne:=nest (nx:=nx0) (md:=⟨false,[],false,fnb⟩) (env:=[]) H2.out (Sc.nil) (by simp) (λs=>rfl) (Or.inl ⟨rfl,rfl,rfl⟩) HN.out
  have H3:=Hid.mk' (H2.out.later BX.out)
  have BN3:=Hid.mk' (BN2.out.later BX.out)
  have X3:=Hid.mk' hne.1
  have L3:=Hid.mk' hne.2
  have hzk:¬kz=G.kb:=by have h1:=H2.out.kl;have h2:=HKZ.out;omega
  have hzt:¬kz=G.bt:=by have h2:=HKZ.out;obtain⟨m,_,q⟩:=H2.out.tp;have:=q.lt;omega
  have hwm:¬w.heap.size=mb:=by have:=HN.out.o2;omega
  have hzm:¬kz=mb:=λe=>NK.out.2.1 e.symm
  have htk:Hid (n.kind=(if (⟨false,[],false,fnb⟩:Md).fn=true then 33 else 34)/\false=(⟨false,[],false,fnb⟩:Md).hears):=by
   refine⟨?_,rfl⟩
   have h1:=hfn.out
   rcases HHK.out with e|e
   ·
    rw[e] at h1 ⊢;rw[<-h1];rfl
   rw[e] at h1 ⊢;rw[<-h1];rfl
  have LD0:Hid (LdP G Z ah km ko mb (km :: mb :: ko :: []) ⟨false,[],false,fnb⟩ t res ((n.kids.take P).drop 0) (n.kids.drop 0) [] K Kp (orN (λ_=>none) (λ_=>none)) 0 nx0):=⟨by rw[List.drop_zero,<-hres.out,List.dropLast_eq_take,show n.kids.length-1=P by have:=hP.out;omega],by rw[List.drop_zero];exact HFIT.out,Nat.zero_le _,H3.out,HKR.out,X3.out,L3.out⟩
  have n3:Z.cell? ⟨w.heap.size,3,none⟩=some (.slice (some ⟨fb,fo,none⟩) n.kids.length c9):=(BN3.out.cell 3).trans rfl
  have HN3:=HN
  clear hne H2 BN2 X3 L3 H3 BX hwx;go_wp2_with fail;clear n3;go_loopw [48] (λiv wr=>∃m:Nat,m<=P/\iv=.int .i64 m/\Hid (∃env1 Kp1 gg1 nn1 a1,LdP G wr ah km ko mb (km :: mb :: ko :: []) ⟨false,[],false,fnb⟩ t res ((n.kids.take P).drop m) (n.kids.drop m) env1 K Kp1 gg1 nn1 a1)/\Hid (Blk wr kz #[addF km,j09 km ko,.int .i64 n.kind,.bool false,.bool false,.map none] 139)/\Hid (Blk wr w.heap.size #[.int .i64 n.kind,.string n.text,.int .i64 n.num,.slice (some ⟨fb,fo,none⟩) n.kids.length c9] 73)) (λiv _=>P-(intOf iv).toNat)
  case atStart=>exact⟨0,Nat.zero_le _,rfl,⟨_,_,_,_,_,LD0.out⟩,KV.out,BN3.out⟩
  clear LD0 KV BN3;obtain⟨m,hm,rfl,hLD,BPM,BNM⟩:=hrel
  obtain⟨env1,Kp1,gg1,nn1,a1,hld⟩:=hLD.out
  have LD:=Hid.mk' hld
  clear hLD hld;have hwr:kz<wr.heap.size:=BPM.out.lt
  have hwr1:w.heap.size<wr.heap.size:=BNM.out.lt
  by_cases hlt:m<P
  ·
   skip
   have hmk:m<n.kids.length:=by have:=hP.out;omega
   obtain⟨qn,mq,bq2,hxq,hqt,hvq,hcq,hfq9,_⟩:=HV.out.kidAt HFIT.out (j:=m) (c:=7) (hcp.out m hlt)
   have hdr:n.kids.drop m=(qn:Int) :: n.kids.drop (m+1):=by rw[List.drop_eq_getElem_cons hmk];congr 1;exact(List.getElem?_eq_some_iff.1 hxq).2
   have hdt:(n.kids.take P).drop m=(qn:Int) :: (n.kids.take P).drop (m+1):=by
    have hm2:m<(n.kids.take P).length:=by rw[List.length_take];omega
    rw[List.drop_eq_getElem_cons hm2];congr 1
    rw[List.getElem_take];exact(List.getElem?_eq_some_iff.1 hxq).2
   have hft:=LD.out.fit
   rw[hdr] at hft
   obtain⟨q2,eq2,_,_,_,hfr,haq⟩:=j8r hft
   have eq2:qn=q2:=by omega
   subst eq2
   obtain⟨gb,go_,efb,_,_,pq⟩:=j05 EK.out hxq
   obtain⟨rfl,rfl⟩:fb=gb/\fo=go_:=by cases efb;exact⟨rfl,rfl⟩
   obtain⟨nb2,no2,t9,d9,en2,hnb2,f0,f1,f2,f3,_,_⟩:=Pd.node hG hvq.at_
   have enn:nb=nb2/\no=no2:=by rw[en1] at en2;simpa using en2
   obtain⟨rfl,rfl⟩:=enn
   have hqs:mq.text.size<=maxLen:=by have:=(hG.k.1.2 mq (List.mem_of_getElem? hvq.at_)).1;unfold maxLen;omega
   have hqE:¬isE (nd G.T (qn:Int)).kind:=by rw[j0j hvq.at_];exact jlw hcq
   have qI:(qn:Int)<(G.T.nodes.length:Int):=by omega
   have mI:(m:Int)<(P:Int):=by omega
   have v1:=(LD.out.p.bl.cell (p:=⟨fb,fo+m,none⟩) hfb).trans pq
   have HPR:Hid (res=if (look env1 mq.text).isSome=true then .error (2,(qn:Int)) else j5i G.T ((n.kids.take P).drop (m+1)) (env1++[(mq.text,mq.num)])):=by show _=_;rw[LD.out.ck,hdt,j5i,j0j hvq.at_]
   have HVQ:=Hid.mk' hvq
   have HQE:=Hid.mk' hqE
   have HFR:Hid (FitL (j0e G.T) (okN G.T) (n.kids.drop (m+1)) (qn+1) t):=hfr
   have F2:=Hid.mk' f2
   clear hxq hvq hcq hfq9 hdr hdt hft hfr efb pq en2 f0 f1 f2 f3 hqE;go_wp2_with fail;clear v1;have hcall:=Hid.mk' (j6x (lst:=false) (hr:=false) (tk:=n.kind) hG (LD.out.p.later (j02 (Below.refl _ _))) (LD.out.x.later (j02 (Below.refl _ _))) (LD.out.l.later (j02 (Below.refl _ _))) (by have:=LD.out.na;unfold maxLen;omega) HVQ.out.at_ (by omega) mq.num hqs)
   have hS:Hid (∀X,Tw G.kb mb (wr) X->X.cell? ⟨G.c,1,none⟩=some (.slice (some ⟨nb,no,none⟩) G.T.nodes.length G.d1)/\X.cell? ⟨nb,no+qn*4+2,none⟩=some (.int .i64 mq.num)/\X.cell? ⟨kz,0,none⟩=some (addF km)/\X.cell? ⟨kz,1,none⟩=some (j09 km ko)/\X.cell? ⟨kz,2,none⟩=some (.int .i64 n.kind)/\X.cell? ⟨kz,3,none⟩=some (.bool false)/\X.cell? ⟨kz,4,none⟩=some (.bool false)/\X.cell? ⟨kz,5,none⟩=some (.map none)):=λX hX=>⟨(hX.cell LD.out.p.bx.lt hck (λe=>LD.out.l.nc e.symm)).trans (by rw[<-en1];exact(LD.out.p.bx.cell 1).trans rfl),(hX.cell (Nat.lt_of_lt_of_le hnb LD.out.p.bl.size) hnk (by have:=LD.out.l.ge;omega)).trans ((LD.out.p.bl.cell (p:=⟨nb,no+qn*4+2,none⟩) hnb).trans F2.out),(hX.cell hwr hzk hzm).trans ((BPM.out.cell 0).trans rfl),(hX.cell hwr hzk hzm).trans ((BPM.out.cell 1).trans rfl),(hX.cell hwr hzk hzm).trans ((BPM.out.cell 2).trans rfl),(hX.cell hwr hzk hzm).trans ((BPM.out.cell 3).trans rfl),(hX.cell hwr hzk hzm).trans ((BPM.out.cell 4).trans rfl),(hX.cell hwr hzk hzm).trans ((BPM.out.cell 5).trans rfl)⟩
   refine wp_region_held_drew (S:=λX=>X.cell? ⟨G.c,1,none⟩=some (.slice (some ⟨nb,no,none⟩) G.T.nodes.length G.d1)/\X.cell? ⟨nb,no+qn*4+2,none⟩=some (.int .i64 mq.num)/\X.cell? ⟨kz,0,none⟩=some (addF km)/\X.cell? ⟨kz,1,none⟩=some (j09 km ko)/\X.cell? ⟨kz,2,none⟩=some (.int .i64 n.kind)/\X.cell? ⟨kz,3,none⟩=some (.bool false)/\X.cell? ⟨kz,4,none⟩=some (.bool false)/\X.cell? ⟨kz,5,none⟩=some (.map none)) (by kernel_rfl) ?_ (λhHeld=>?_)
   ·
    exact hS.out _ (Tw.of (j02 (Below.refl _ _)))
   refine wpr 0 52 ?_;simp only[zs];refine wpr 1 53 ?_;simp only[zs];refine wpr 2 54 ?_;simp only[zs];refine wpr 3 55 ?_;simp only[zs];refine wpr 4 56 ?_;simp only[zs];refine wpr 5 57 ?_;simp only[zs];refine wpr 6 58 ?_;simp only[zs];refine wpr 7 59 ?_;simp only[zs];refine wpr 8 60 ?_;simp only[zs];refine wpr 9 61 ?_;simp only[zs];refine wpr 10 62 ?_;simp only[zs];refine wpAnyH_ready (rs:=[11]) (by kernel_rfl) (by simp) ?_
   refine AllReadyH.cons rfl (λKQ hK=>?_) AllReadyH.nil
   go_simp;refine hcall.out.mono ?_
   intro e w5 hSL
   clear hcall;have T5:Hid (Tw G.kb mb wr w5):=Tw.trans (Tw.of (j02 (Below.refl _ _))) hSL.tw
   have B5:Hid (Below G.w0.heap.size G.w0 w5):=T5.out.below LD.out.p.bl LD.out.p.bl.size hG.kb LD.out.l.ge
   unfold j6p at hSL
   split at hSL
   ·
    rename_i hlk
    obtain⟨rfl,_⟩:=hSL
    have hR:Hid (j1x (Dp G) G.T G.T.nodes.length ah K (t:Int)=.error (2,(qn:Int))):=by show _=_;rw[HT1.out,HPR.out,if_pos hlk];rfl
    clear hlk;refine hK.out _ _ (hS.out _ T5.out) (λhHeld=>?_)
    clear hK KQ;try simp only[zs]
    refine wpr 12 12 ?_;simp only[zs];refine wpAnyH_done (by kernel_rfl) ?_ _
    clear hHeld hS;go_wp2_with fail;go_ret;exact j73.bad hR.out B5.out
   rename_i hlk
   obtain⟨rfl,_,hp5,gg5,hx5,hl5⟩:=hSL
   have HN5:Hid (LdP G w5 ah km ko mb (km :: mb :: ko :: []) ⟨false,[],false,fnb⟩ t res ((n.kids.take P).drop (m+1)) (n.kids.drop (m+1)) (env1++[(mq.text,mq.num)]) K (upd Kp1 (qn:Int) mq.num) gg5 (nn1+1) (qn+1)):=⟨by rw[HPR.out,if_neg hlk],HFR.out,by have:=LD.out.na;omega,hp5,LD.out.kr.other HQE.out _,hx5,hl5⟩
   have BP5:=Hid.mk' (BPM.out.tw T5.out hzk hzm)
   have BN5:=Hid.mk' (BNM.out.tw T5.out hwk hwm)
   clear hlk hp5 hx5 hl5;refine hK.out _ _ (hS.out _ T5.out) (λhHeld=>?_)
   clear hK KQ;try simp only[zs]
   refine wpr 12 12 ?_;simp only[zs];refine wpAnyH_done (by kernel_rfl) ?_ _
   clear hHeld hS;go_wp2_with fail;go_roundw
   case rel=>exact⟨m+1,by omega,by go_num,⟨_,_,_,_,_,HN5.out⟩,BP5.out,BN5.out⟩
   case measure=>simp[intOf];omega
  skip
  have hme:m=P:=by omega
  subst hme
  have hckP:=LD.out.ck
  rw[List.drop_eq_nil_of_le (by rw[List.length_take];omega)] at hckP
  have HRS:Hid (res=.ok env1):=hckP
  have hdr:n.kids.drop m=(bq:Int) :: n.kids.drop (m+1):=by rw[List.drop_eq_getElem_cons PN];congr 1;exact(List.getElem?_eq_some_iff.1 HXB.out).2
  have hft:=LD.out.fit
  rw[hdr] at hft
  obtain⟨q2,eq2,_,_,hfq,_,haq⟩:=j8r hft
  have eq2:bq=q2:=by omega
  subst eq2
  rw[j0t HVB.out.at_] at hfq
  have HFQ:Hid (FitL (j0e G.T) (okN G.T) bn.kids a1 bq):=hfq
  have HT2:Hid (j1x (Dp G) G.T G.T.nodes.length ah K (t:Int)=match ckSs (ckS (Dp G) G.T ah G.T.nodes.length G.T.nodes.length ⟨false,[],false,fnb⟩) fnb bn.kids env1 K with | .error e=> .error e | .ok K1=>if fnb=true then j2v G.T (t:Int) K1 else .ok K1):=by show _=_;rw[HT1.out,HRS.out];rfl
  clear hckP hdr hft hfq;go_wp2_with fail;have hblk:=Hid.mk' (j3o (lst:=false) (hr:=false) (tk:=n.kind) (md:=⟨false,[],false,fnb⟩) hG HS.out HVB.out H27.out HFQ.out (by omega) fnb ⟨htk.out.1,rfl⟩ (LD.out.p.later (j02 (Below.refl _ _))) (LD.out.x.later (j02 (Below.refl _ _))) LD.out.kr)
  have hS:Hid (∀X,Tw G.kb G.kb (wr) X->X.cell? ⟨w.heap.size,0,none⟩=some (.int .i64 n.kind)/\X.cell? ⟨w.heap.size,3,none⟩=some (.slice (some ⟨fb,fo,none⟩) n.kids.length c9)/\X.cell? ⟨fb,fo+m,none⟩=some (.int .i64 (bq:Int))/\X.cell? ⟨kz,0,none⟩=some (addF km)/\X.cell? ⟨kz,1,none⟩=some (j09 km ko)/\X.cell? ⟨kz,2,none⟩=some (.int .i64 n.kind)/\X.cell? ⟨kz,3,none⟩=some (.bool false)/\X.cell? ⟨kz,4,none⟩=some (.bool false)/\X.cell? ⟨kz,5,none⟩=some (.map none)):=λX hX=>⟨(hX.cell hwr1 hwk hwk).trans ((BNM.out.cell 0).trans rfl),(hX.cell hwr1 hwk hwk).trans ((BNM.out.cell 3).trans rfl),(hX.cell (Nat.lt_of_lt_of_le hfb LD.out.p.bl.size) hfk hfk).trans ((LD.out.p.bl.cell (p:=⟨fb,fo+m,none⟩) hfb).trans PP.out),(hX.cell hwr hzk hzk).trans ((BPM.out.cell 0).trans rfl),(hX.cell hwr hzk hzk).trans ((BPM.out.cell 1).trans rfl),(hX.cell hwr hzk hzk).trans ((BPM.out.cell 2).trans rfl),(hX.cell hwr hzk hzk).trans ((BPM.out.cell 3).trans rfl),(hX.cell hwr hzk hzk).trans ((BPM.out.cell 4).trans rfl),(hX.cell hwr hzk hzk).trans ((BPM.out.cell 5).trans rfl)⟩
  refine wp_region_held_drew (S:=λX=>X.cell? ⟨w.heap.size,0,none⟩=some (.int .i64 n.kind)/\X.cell? ⟨w.heap.size,3,none⟩=some (.slice (some ⟨fb,fo,none⟩) n.kids.length c9)/\X.cell? ⟨fb,fo+m,none⟩=some (.int .i64 (bq:Int))/\X.cell? ⟨kz,0,none⟩=some (addF km)/\X.cell? ⟨kz,1,none⟩=some (j09 km ko)/\X.cell? ⟨kz,2,none⟩=some (.int .i64 n.kind)/\X.cell? ⟨kz,3,none⟩=some (.bool false)/\X.cell? ⟨kz,4,none⟩=some (.bool false)/\X.cell? ⟨kz,5,none⟩=some (.map none)) (by kernel_rfl) ?_ (λhHeld=>?_)
  ·
   exact hS.out _ (Tw.of (j02 (Below.refl _ _)))
  refine wpr 0 68 ?_;simp only[zs];refine wpr 1 69 ?_;simp only[zs];refine wpr 2 70 ?_;simp only[zs];refine wpr 3 71 ?_;simp only[zs];refine wpr 4 72 ?_;simp only[zs];refine wpr 5 73 ?_;simp only[zs];refine wpr 6 74 ?_;simp only[zs];refine wpr 7 75 ?_;simp only[zs];refine wpr 8 76 ?_;simp only[zs];refine wpr 9 77 ?_;simp only[zs];refine wpAnyH_ready (rs:=[10]) (by kernel_rfl) (by simp) ?_
  refine AllReadyH.cons rfl (λKQ hK=>?_) AllReadyH.nil
  go_simp;refine hblk.out.mono ?_
  rintro e w7 hSB
  clear hblk;cases hr1:ckSs (ckS (Dp G) G.T ah G.T.nodes.length G.T.nodes.length ⟨false,[],false,fnb⟩) fnb bn.kids env1 K with
  | error q9 =>
   obtain⟨c,nq_⟩:=q9
   rw[hr1] at hSB
   obtain⟨rfl,ht⟩:=hSB
   have hR:Hid (j1x (Dp G) G.T G.T.nodes.length ah K (t:Int)=.error (c,nq_)):=by show _=_;rw[HT2.out,hr1]
   have T8:Hid (Tw G.kb G.kb wr w7):=Tw.trans (Tw.of (j02 (Below.refl _ _))) ht
   have B8:Hid (Below G.w0.heap.size G.w0 w7):=T8.out.below LD.out.p.bl LD.out.p.bl.size hG.kb hG.kb
   clear ht hr1;refine hK.out _ _ (hS.out _ T8.out) (λhHeld=>?_)
   clear hK KQ;try simp only[zs]
   refine wpr 11 13 ?_;simp only[zs];refine wpAnyH_done (by kernel_rfl) ?_ _
   clear hHeld hS;go_wp2_with fail;go_ret;exact j73.bad hR.out B8.out
  | ok K7 =>
   rw[hr1] at hSB
   obtain⟨rfl,ht,Kp7,hp7,hk7,_⟩:=hSB
   have HT3:Hid (j1x (Dp G) G.T G.T.nodes.length ah K (t:Int)=if fnb=true then j2v G.T (t:Int) K7 else .ok K7):=by show _=_;rw[HT2.out,hr1]
   have T8:Hid (Tw G.kb G.kb wr w7):=Tw.trans (Tw.of (j02 (Below.refl _ _))) ht
   have P8:=Hid.mk' hp7
   have K8:=Hid.mk' hk7
   have BN8:=Hid.mk' (BNM.out.tw T8.out hwk hwk)
   clear ht hr1 hp7 hk7;refine hK.out _ _ (hS.out _ T8.out) (λhHeld=>?_)
   clear hK KQ;try simp only[zs]
   refine wpr 11 13 ?_;simp only[zs];refine wpAnyH_done (by kernel_rfl) ?_ _
   clear hHeld hS;go_wp2_with fail;obtain⟨nt,hnt,hqt⟩:=P8.out.tp
   obtain⟨w9,hrun,hq9,ht9⟩:=(hqt.later (j02 (Below.refl _ _))).put (by unfold maxLen;omega) n.text hts (t:Int)
   have hq9':QM w9 G.bt (nt+1) (topN G.T (ah++[(t:Int)])):=by rw[jdp (by rw[j0j HV.out.at_];exact Option.not_isSome_iff_eq_none.1 (by rw[htb.out];simp)),j0j HV.out.at_];exact hq9
   have T9:Hid (Tw G.kb G.bt w7 w9):=Tw.trans (Tw.of (j02 (Below.refl _ _))) (Tw.turned ht9)
   have P9:=Hid.mk' ((P8.out.later (j02 (Below.refl _ _))).tops hG hnt hq9' ht9)
   have BN9:=Hid.mk' (BN8.out.tw T9.out hwk hwt)
   have hw7:w.heap.size<w7.heap.size:=BN8.out.lt
   clear hqt hq9 hq9' ht9 hnt;have hS:Hid (∀X,Tw G.kb G.bt (w7) X->X.cell? ⟨G.c,3,none⟩=some (.map (some G.bt))/\X.cell? ⟨w.heap.size,1,none⟩=some (.string n.text)):=λX hX=>⟨(hX.cell P8.out.bx.lt hck (λe=>hG.n2 e.symm)).trans ((P8.out.bx.cell 3).trans rfl),(hX.cell hw7 hwk hwt).trans ((BN8.out.cell 1).trans rfl)⟩
   refine wp_region_held_drew (S:=λX=>X.cell? ⟨G.c,3,none⟩=some (.map (some G.bt))/\X.cell? ⟨w.heap.size,1,none⟩=some (.string n.text)) (by kernel_rfl) ?_ (λhHeld=>?_)
   ·
    exact hS.out _ (Tw.of (j02 (Below.refl _ _)))
   refine wpr 0 82 ?_;simp only[zs];refine wpr 1 83 ?_;simp only[zs];refine wpr 2 84 ?_;simp only[zs];refine wpr 3 85 ?_;simp only[zs];refine wpr 4 86 ?_;simp only[zs];refine wpr 5 87 ?_;simp only[zs];refine wpr 6 88 ?_;simp only[zs];refine wpAnyH_ready (rs:=[7]) (by kernel_rfl) (by simp) ?_
   refine AllReadyH.cons rfl (λKQ hK=>?_) AllReadyH.nil
   go_simp;refine hK.out _ _ (hS.out _ T9.out) (λhHeld=>?_)
   clear hK KQ;try simp only[zs]
   refine wpAnyH_done (by kernel_rfl) ?_ _
   clear hHeld hS;have n0:w9.cell? ⟨w.heap.size,0,none⟩=some (.int .i64 n.kind):=(BN9.out.cell 0).trans rfl
   cases fnb
   ·
    have hR:Hid (j1x (Dp G) G.T G.T.nodes.length ah K (t:Int)=.ok K7):=by show _=_;rw[HT3.out];rfl
    go_wp2_with fail;go_ret;exact j73.good hR.out P9.out K8.out
   have hR:Hid (j1x (Dp G) G.T G.T.nodes.length ah K (t:Int)=j2v G.T (t:Int) K7):=by show _=_;rw[HT3.out];rfl
   have hans:=jai hG P9.out K8.out HV.out (of_decide_eq_true hfn.out)
   go_wp2_with fail;refine hans.mono ?_
   intro e w10 hSA
   clear hans;unfold j7m at hSA
   split at hSA
   ·
    rename_i c nq_ hca
    obtain⟨rfl,hb10⟩:=hSA
    have hR2:Hid (j1x (Dp G) G.T G.T.nodes.length ah K (t:Int)=.error (c,nq_)):=by show _=_;rw[hR.out,hca]
    have B10:Hid (Below G.w0.heap.size G.w0 w10):=(P9.out.later hb10).bl
    clear hca hb10;go_wp2_with fail;go_ret;exact j73.bad hR2.out B10.out
   rename_i K9 hca
   obtain⟨rfl,hb10⟩:=hSA
   have hR2:Hid (j1x (Dp G) G.T G.T.nodes.length ah K (t:Int)=.ok K7):=by show _=_;rw[hR.out,hca,jgm hca]
   have P10:=Hid.mk' (P9.out.later hb10)
   clear hca hb10;go_wp2_with fail;go_ret;exact j73.good hR2.out P10.out K8.out
end
end
section
open Go.RowKit
theorem j9o (B b:Nat) (bs:List Value) (w:World) (h:Lib.IsBuilderF 165 5 B b bs w) :
  Calls Tryz.prog 109 #[.pointer (some ⟨b,0,none⟩)] w λe w'=>e=.returned (.tuple #[])/\Lib.BuilderAtF 165 5 B b (.pointer (some ⟨b,0,none⟩)) bs w'/\Below B w w':=by
 have HH:Hid (Lib.IsBuilderF 165 5 B b bs w):=h
 rcases h with h|h
 ·
  have HA:Hid (Lib.BuilderAtF 165 5 B b (.pointer none) bs w):=h
  have c0:=h.cell0
  have sh:=h.shape
  have fz:=h.frozen0
  obtain⟨j,hj,hjs⟩:=Option.map_eq_some_iff.1 Tryz.extraS.toX72.sizeBuilder
  clear h;go_enter Tryz.func109,Tryz.ntmps109
  go_wp2_with fail;rw[Lib.run_to_unsafe w ⟨b,0,none⟩ Tryz.underlying162 Tryz.underlying95 hj (by rw[hjs];decide) sh (Nat.zero_lt_succ 1)]
  simp only[Result.andThen]
  rw[Oper.upon_value]
  go_wp2_with fail;rw[run_callFunc_extern Tryz.func129 (by kernel_rfl) (by kernel_rfl) (by kernel_rfl) (e:=Extern.AbiNoEscape.same) (by kernel_rfl),Lib.run_noEscape]
  simp only[Result.andThen]
  rw[Oper.upon_value]
  go_wp2_with fail;rw[Lib.run_from_unsafe w ⟨b,0,none⟩ Tryz.underlying95 Tryz.underlying162 hj sh Tryz.extraS.toX72.liesBuilder]
  simp only[Result.andThen]
  rw[Oper.upon_value]
  go_wp2_with fail;refine bodyPost_end (results_none (fn:=Tryz.f109) (by kernel_rfl) _ _ _) (by rfl) ?_
  exact⟨rfl,HA.out.used _,(Below.refl B w).setCell (p:=⟨b,0,none⟩) HA.out.1 _⟩
 have HA:Hid (Lib.BuilderAtF 165 5 B b (.pointer (some ⟨b,0,none⟩)) bs w):=h
 have c0:=h.cell0
 obtain⟨j,hj,_⟩:=Option.map_eq_some_iff.1 Tryz.extraS.toX72.sizeBuilder
 clear h;go_enter Tryz.func109,Tryz.ntmps109
 go_wp2_with fail;rw[Lib.run_neq_ptr_same w _ Tryz.underlying162 hj]
 go_wp2_with fail;go_end0
 exact⟨rfl,HA.out,Below.refl B _⟩
theorem Tryz.infoU8:(Tryz.prog.info? 5).map (λi=>(i.zero,i.size,i.bytes))=some (some (.int .u8 0),1,1):=by kernel_rfl
theorem j9t (B b:Nat) (bs:List Value) (c:Int) (w:World) (h:Lib.IsBuilderF 165 5 B b bs w) (hlen:bs.length+1<=140737488355328) (hBw:B<=w.heap.size) :
  Calls Tryz.prog 81 #[.pointer (some ⟨b,0,none⟩),.int .u8 c] w λe w'=>e=.returned .nilIface/\Lib.BuilderAtF 165 5 B b (.pointer (some ⟨b,0,none⟩)) (bs++[.int .u8 c]) w'/\Below B w w':=by
 have HH:Hid (Lib.IsBuilderF 165 5 B b bs w):=h
 clear h;obtain⟨i0,hi,hz0,hz1,hz2⟩:=info_parts Tryz.infoU8
 go_enter Tryz.func81,Tryz.ntmps81
 go_wp2_with fail;refine(j9o B b bs _ HH.out).mono ?_
 rintro e w1 ⟨rfl,hA,hb1⟩
 obtain⟨hB,v,hbk,hown,hne⟩:=hA
 have sz1:=hb1.size
 have c0:w1.cell? ⟨b,0,none⟩=some (.pointer (some ⟨b,0,none⟩)):=by rw[Lib.cell_of_heap hbk];rfl
 have c1:w1.cell? ⟨b,1,none⟩=some v:=by rw[Lib.cell_of_heap hbk];rfl
 go_wp2_with (at_builtin;refine wpList_append_ownF _ rfl _ _ 163 rfl B 5 i0 (.int .u8 0) 1 1 Tryz.underlying163 hi hz0 hz1 hz2 rfl (by decide) _ _ _ rfl (hown.alloc _) ⟨w1.heap.size,0,none⟩ 1 1 [.int .u8 c] rfl rfl ?a1 ?a2 ?a3 ?a4 ?a5 ?_)
 case a1 =>
  intro j u hj
  cases j with
  | zero=>simp at hj;subst hj;simp[Addr.add]
  | succ j=>simp at hj
 case a2=>intro u hu;simp at hu;subst hu;rfl
 case a3=>unfold maxLen;omega
 case a4=>omega
 case a5=>simp;omega
 intro v' w2 hown' hgrow _
 have hlt:b<w1.heap.size:=(Array.getElem?_eq_some_iff.1 hbk).1
 have hb2:w2.heap[b]?=some (.cells #[.pointer (some ⟨b,0,none⟩),v] 165 (0,0)):=by
  rw[hgrow.block b (by simp;omega) (λe=>hne e.symm),Lib.alloc_old w1 _ b hlt]
  exact hbk
 have d0:w2.cell? ⟨b,0,none⟩=some (.pointer (some ⟨b,0,none⟩)):=by rw[Lib.cell_of_heap hb2];rfl
 have d1:w2.cell? ⟨b,1,none⟩=some v:=by rw[Lib.cell_of_heap hb2];rfl
 have d2:w2.frozen? ⟨b,1,none⟩=false:=Lib.frozen_of_heap hb2 1
 have HG:Hid (Below B w w2):=(hb1.alloc (by omega) _).grown hgrow (by simp;omega) (λk hk=>(hown.lt k hk).1)
 obtain⟨g,cap,rfl⟩:∃g cap,v'=.slice (some ⟨g,0,none⟩) (bs.length+1) cap:=by
  rcases hown'.2 with ⟨_,h0⟩|⟨g,cap,cur,fz,hv,_⟩
  ·
   omega
  exact⟨g,cap,hv⟩
 have HP:=Lib.BuilderAtF.put (T:=165) (e:=5) hB hb2 (bs':=bs++[.int .u8 c]) (by simpa using hown') (by decide)
 clear hown hown' hgrow hb1 hbk c0 c1;go_wp2_with fail;go_ret;exact⟨rfl,HP,HG.out.setCell (p:=⟨b,1,none⟩) hB _⟩
theorem j3y {p:UInt8->Bool}:∀{l:List UInt8},l.dropWhile p=[] ↔∀b∈l,p b=true
 | []=>by simp
 | a :: l=>by
  rw[List.dropWhile_cons]
  cases h:p a
  ·
   simp[h]
  simp[h,j3y (l:=l)]
theorem j96 {l:List UInt8} {c:UInt8}:Lib.trimB l c=[] ↔∀b∈l,b=c:=by
 unfold Lib.trimB Lib.trimLeftB Lib.trimRightB
 rw[j3y]
 constructor
 ·
  intro h b hb
  have hb2:b∈l.reverse:=List.mem_reverse.2 hb
  rw[<-List.takeWhile_append_dropWhile (p:=(· ==c)) (l:=l.reverse)] at hb2
  rcases List.mem_append.1 hb2 with h1|h1
  ·
   have:=List.all_takeWhile (p:=(· ==c)) (l:=l.reverse)
   rw[List.all_eq_true] at this
   simpa using this b h1
  simpa using h b (List.mem_reverse.2 h1)
 intro h b hb
 have h1:=List.mem_reverse.1 hb
 have h2:b∈l.reverse:=(List.dropWhile_sublist _).subset h1
 simp[h b (List.mem_reverse.1 h2)]
theorem j0r {l:List UInt8} (h:¬l=[]):¬(⟨l.toArray⟩:ByteArray)=⟨#[]⟩:=by
 intro e
 have:=congrArg ByteArray.data e
 simp at this
 exact h this
theorem j5r (k:Int) (w:World):Calls Tryz.prog 30 #[.int .i64 k] w λe w'=>e=.returned (.int .u8 ((rl k).toNat:Int))/\w'=w:=by
 by_cases hs:27<=k/\k<=34
 ·
  have h5:k=27\/k=28\/k=29\/k=30\/k=31\/k=32\/k=33\/k=34:=by omega
  clear hs;rcases h5 with rfl|rfl|rfl|rfl|rfl|rfl|rfl|rfl <;>
  ·
   go_enter Tryz.func30,Tryz.ntmps30
   go_wp2_with fail;go_ret;exact⟨rfl,rfl⟩
 have e1:(k ==27)=false:=by simp;omega
 have e2:(k ==28)=false:=by simp;omega
 have e3:(k ==29)=false:=by simp;omega
 have e4:(k ==30)=false:=by simp;omega
 have e5:(k ==31)=false:=by simp;omega
 have e6:(k ==32)=false:=by simp;omega
 have e7:(k ==33)=false:=by simp;omega
 have e8:(k ==34)=false:=by simp;omega
 have HR:Hid (rl k=if 1<=k/\k<=11 then 101 else if 12<=k/\k<=26 then 115 else 63):=by
  show _=_
  unfold rl
  rw[if_neg (by omega),if_neg (by omega),if_neg (by omega),if_neg (by omega),if_neg (by omega),if_neg (by omega),if_neg (by omega)]
 clear hs;by_cases h1:1<=k
 ·
  by_cases h2:k<=11
  ·
   have HE:Hid (rl k=101):=by show _=_;rw[HR.out,if_pos ⟨h1,h2⟩]
   go_enter Tryz.func30,Tryz.ntmps30
   go_wp2_with fail;go_ret;exact⟨by rw[HE.out];rfl,rfl⟩
  have h3:12<=k:=by omega
  by_cases h4:k<=26
  ·
   have HE:Hid (rl k=115):=by show _=_;rw[HR.out,if_neg (by omega),if_pos ⟨h3,h4⟩]
   go_enter Tryz.func30,Tryz.ntmps30
   go_wp2_with fail;go_ret;exact⟨by rw[HE.out];rfl,rfl⟩
  have HE:Hid (rl k=63):=by show _=_;rw[HR.out,if_neg (by omega),if_neg (by omega)]
  go_enter Tryz.func30,Tryz.ntmps30
  go_wp2_with fail;go_ret;exact⟨by rw[HE.out];rfl,rfl⟩
 have h3:¬12<=k:=by omega
 have HE:Hid (rl k=63):=by show _=_;rw[HR.out,if_neg (by omega),if_neg (by omega)]
 go_enter Tryz.func30,Tryz.ntmps30
 go_wp2_with fail;go_ret;exact⟨by rw[HE.out];rfl,rfl⟩
theorem j42 (l:List UInt8) (c:UInt8) (hc:c.toNat<128) (hl:l.length<=1048576) (w:World) :
  Calls Tryz.prog 63 #[.string ⟨l.toArray⟩,.string ⟨#[c]⟩] w λe w'=>e=.returned (.bool (decide (∀b∈l,b=c)))/\Below w.heap.size w w':=by
 have hT:=Any.strings_Trim_one Tryz.laysTrim ⟨l.toArray⟩ c hc w (by show l.toArray.size<=_;simp;omega)
 go_enter Tryz.func63,Tryz.ntmps63
 go_wp2_with fail;refine hT.mono ?_
 rintro e w1 ⟨rfl,hb⟩
 have hb1:Below w.heap.size w w1:=by
  rcases hb with rfl|rfl
  ·
   exact Below.refl _ _
  exact j02 (Below.refl _ _)
 clear hb;by_cases h:∀b∈l,b=c
 ·
  have h1:=j96.2 h
  have HE:Hid (decide (∀b∈l,b=c)=true):=decide_eq_true h
  rw[h1]
  clear h h1 hT;go_wp2_with fail;go_ret;exact⟨j03 HE.out.symm,hb1⟩
 have h1:=j0r (λg=>h (j96.1 g))
 have q9:=j0d h1
 have HE:Hid (decide (∀b∈l,b=c)=false):=decide_eq_false h
 have H1:Hid (¬(⟨(Lib.trimB l c).toArray⟩:ByteArray)=⟨#[]⟩):=h1
 generalize (⟨(Lib.trimB l c).toArray⟩:ByteArray)=r at h1 q9 H1 ⊢
 clear h h1 hT;go_wp2_with fail;go_ret;refine⟨j03 ?_,hb1⟩
 rw[HE.out]
 have:=j0d H1.out
 simpa using this
theorem j0a (t:Tre) (s s1:Option Addr) (c c1:Nat) (L:List Int) (B C:Nat) (w:World) (hL:Els 1 cInt w B s L) (hN:Els 4 j1r w C s1 t.nodes) (hv:∀x∈L,∃m:Nat,x=m/\m<t.nodes.length) (hl:L.length<=1048576) (hn:t.nodes.length<=1048576) :
  Calls Tryz.prog 64 #[.slice s L.length c,.slice s1 t.nodes.length c1] w λe w'=>e=.returned (.string ⟨((L.map (kkAt t)).map rl).toArray⟩)/\Below w.heap.size w w':=by
 have HV:Hid (∀x∈L,∃m:Nat,x=m/\m<t.nodes.length):=hv
 have HL:Hid (Els 1 cInt w B s L):=hL
 have HN:Hid (Els 4 j1r w C s1 t.nodes):=hN
 clear hv hL hN;have HI:Hid (Lib.IsBuilderF 165 5 w.heap.size w.heap.size (Lib.byteCells []) (w.alloc (.cells #[.pointer none,.slice none 0 0] 165))):=Lib.IsBuilderF.of (Lib.fresh_isBuilder 165 5 w)
 go_enter Tryz.func64,Tryz.ntmps64
 go_wp2_with fail;go_loopw [10] (λi wr=>∃(j:Nat) (acc:List UInt8),j<=L.length/\i=.int .i64 j/\Hid (acc=((L.take j).map (kkAt t)).map rl)/\Hid (Lib.IsBuilderF 165 5 w.heap.size w.heap.size (Lib.byteCells acc) wr)/\Hid (Below w.heap.size w wr)) (λi _=>L.length-(intOf i).toNat)
 case atStart=>exact⟨0,[],Nat.zero_le _,rfl,rfl,HI,j00 (Below.refl _ _) _⟩
 obtain⟨j,acc,hj,rfl,hacc,hI,hbw⟩:=hrel
 have hsz:w.heap.size<=wr.heap.size:=hbw.out.size
 by_cases hlt:j<L.length
 ·
  obtain⟨x,hxj⟩:=j0q hlt
  obtain⟨kb,ko,rfl,_,hkb,p00⟩:=j05 HL.out hxj
  have p0:=(hbw.out.cell (p:=⟨kb,ko+j,none⟩) hkb).trans p00
  obtain⟨m,rfl,hm⟩:=HV.out x (List.mem_of_getElem? hxj)
  obtain⟨nd,hnd⟩:=j0q hm
  obtain⟨b,o,rfl,_,hb,s9,c9,e0,_,_,_,_⟩:=j15 HN.out hnd
  have p1:=(hbw.out.cell (p:=⟨b,o+m*4,none⟩) hb).trans e0
  have HK:Hid (kkAt t (m:Int)=nd.kind):=by show _=_;simp[kkAt,hnd]
  have HX:Hid (L[j]?=some (m:Int)):=hxj
  have hmI:(m:Int)<(t.nodes.length:Int):=by omega
  have la:acc.length<=1048576:=by rw[hacc.out];simp;omega
  clear hxj hnd e0 p00;go_wp2_with (first|(go_at_call 30;refine(j5r _ _).mono ?_;rintro e w' ⟨rfl,hw'⟩;have hw2:=hw'.symm;clear hw';subst hw2)|(go_at_call 81;refine(j9t w.heap.size w.heap.size _ _ _ hI.out (by rw[Lib.byteCells_length];omega) hsz).mono ?_;rintro e W1 ⟨rfl,h1,b1⟩))
  go_roundw
  case rel =>
   refine⟨j+1,acc++[rl nd.kind],by omega,by go_num,?_,?_,Below.trans hbw.out b1⟩
   ·
    show _=_
    rw[List.take_add_one,HX.out,hacc.out]
    simp[HK.out]
   rw[Lib.byteCells_append]
   exact Or.inr h1
  case measure=>simp[intOf];omega
 go_wp2_with (go_at_call 82;refine(Any.Builder_String_any_k Tryz.laysBString Tryz.extraS w.heap.size w.heap.size acc _ hI.out hsz).mono ?_;rintro e W1 ⟨rfl,_,b1,_⟩)
 go_ret;refine⟨?_,Below.trans hbw.out b1⟩
 rw[hacc.out,show j=L.length by omega,List.take_length]
 all_goals rfl
end
end Go.Proofs.YtjbbagcpcepkoaaGreatDoor
