import Derived.Test.YtjbbagcpcepkoaaGreatDoorSf12
import Derived.Lib.SmallJoins
import Derived.Great.BuildSlice
namespace Go.Proofs.YtjbbagcpcepkoaaGreatDoor
set_option maxRecDepth 100000
set_option maxHeartbeats 64000000
set_option linter.unusedVariables false
set_option linter.unusedSimpArgs false
section
open Go.RowKit
theorem j8b (p q:Nat) (s:Option Addr) (c:Nat) (L:List ByteArray) (x:ByteArray) (b:Bool) (w:World) (hL:Strs p q w s L) (hl:L.length<=1048576) (hb:inL x L=b) :
  Calls Tryz.prog 53 #[.slice s L.length c,.string x] w λe w'=>e=.returned (.bool b)/\w'=w:=by
 subst hb;exact j3t p q s c L x w hL hl
section
variable {G:Gd} {w w':World} {top:Int} {env:Env} {md:Md} {last:Int} {K:KM} {sn sk sw:Option Addr} {cn ck cw:Nat}
def j2z (G:Gd) (w:World) (top:Int) (env:Env) (md:Md) (last:Int) (sn:Option Addr) (cn:Nat) (sk:Option Addr) (ck:Nat) (sw:Option Addr) (cw:Nat) (r:Ck KM) (e:Ending) (w':World):Prop :=
 (e=.returned (.tuple #[])/\match r with
 | .error (c,n)=>Dd G w' c n
 | .ok K'=>Lv G w' top env md last K' sn cn sk ck sw cw)/\Tw G.p G.kb w w'
theorem j2z.bad {c n:Int} {r:Ck KM} (hr:r=.error (c,n)) (hd:Dd G w' c n) (ht:Tw G.p G.kb w w'):j2z G w top env md last sn cn sk ck sw cw r (.returned (.tuple #[])) w':=by subst hr;exact⟨⟨rfl,hd⟩,ht⟩
theorem j2z.good {K':KM} {r:Ck KM} (hr:r=.ok K') (hl:Lv G w' top env md last K' sn cn sk ck sw cw) (ht:Tw G.p G.kb w w'):j2z G w top env md last sn cn sk ck sw cw r (.returned (.tuple #[])) w':=by subst hr;exact⟨⟨rfl,hl⟩,ht⟩
def ckP (D:Int->ByteArray->Int) (T:Tre) (ah:List Int) (md:Md) (env:Env) (N:Nat) (K:KM) (i sort:Int):Ck KM :=
 match ckE D T ah md env N K (kid (nd T i) 0) with
 | .error e=> .error e
 | .ok (k,K1)=>match ckTo i (D sort (nd T i).text) k (if (nd T i).kind=14 then inL (nd T i).text md.wth else true) with
  | .error e=> .error e
  | .ok _=> .ok K1
theorem j57 (hG:G.Ok) {tp f:Nat} (hE:ExpS G top tp env md last f) (hw:md.wth.length<=1048576) {i:Nat} {n:Nd} (hv:VN G.T i n) {a:Nat} {an:Nd} (hx0:n.kids[0]?=some (a:Int)) (hva:VN G.T a an) (hae:isE an.kind) (haf:a<f) (sort:Int) (h:Lv G w top env md last K sn cn sk ck sw cw) :
  Calls Tryz.prog 90 #[.pointer (some ⟨G.p,0,none⟩),.int .i64 (i:Int),.int .i64 sort] w λe w'=>j2z G w top env md last sn cn sk ck sw cw (ckP (Dg G) G.T (G.T.tops.take tp) md env f K (i:Int) sort) e w':=by
 have HB:Hid (ckP (Dg G) G.T (G.T.tops.take tp) md env f K (i:Int) sort=match ckE (Dg G) G.T (G.T.tops.take tp) md env f K (a:Int) with | .error e=> .error e | .ok (k,K1)=>match ckTo (i:Int) (Dg G sort n.text) k (if n.kind=14 then inL n.text md.wth else true) with | .error e=> .error e | .ok _=> .ok K1):=by
  show _=_
  unfold ckP
  rw[j0j hv.at_,show kid n 0=(a:Int) by simp[kid,hx0]]
 obtain⟨nb,no,s9,c9,en1,hnb,e0,e1,e2,e3,ekids⟩:=hG.node hv.at_
 obtain⟨fb,fo,rfl,_,hfb,pp0⟩:=j05 ekids hx0
 have hiN:i<G.T.nodes.length:=(List.getElem?_eq_some_iff.1 hv.at_).1
 have hnl:G.T.nodes.length<=1048576:=hG.k.1.1
 have hkl:0<n.kids.length:=(List.getElem?_eq_some_iff.1 hx0).1
 have x3:w.cell? ⟨G.p,3,none⟩=some (.slice (some ⟨nb,no,none⟩) G.T.nodes.length G.d1):=by rw[<-en1];exact(h.bx.cell 3).trans rfl
 have q0:=(h.bl.cell (p:=⟨nb,no+i*4,none⟩) hnb).trans e0
 have q1:=(h.bl.cell (p:=⟨nb,no+i*4+1,none⟩) hnb).trans e1
 have q2:=(h.bl.cell (p:=⟨nb,no+i*4+2,none⟩) hnb).trans e2
 have q3:=(h.bl.cell (p:=⟨nb,no+i*4+3,none⟩) hnb).trans e3
 rw[Nat.add_zero] at pp0
 have iI:(i:Int)<(G.T.nodes.length:Int):=by omega
 have l0I:(0:Int)<(n.kids.length:Int):=by omega
 have bz:Hid (Below w.heap.size w (w.alloc (.cells #[.int .i64 n.kind,.string n.text,.int .i64 n.num,.slice (some ⟨fb,fo,none⟩) n.kids.length c9] 73))):=j00 (Below.refl _ _) _
 have kk5:=Blk.new w #[.int .i64 n.kind,.string n.text,.int .i64 n.num,.slice (some ⟨fb,fo,none⟩) n.kids.length c9] 73
 have H1:Hid (Lv G (w.alloc (.cells #[.int .i64 n.kind,.string n.text,.int .i64 n.num,.slice (some ⟨fb,fo,none⟩) n.kids.length c9] 73)) top env md last K sn cn sk ck sw cw):=h.later bz.out
 have hk5p:¬w.heap.size=G.p:=by have:=h.bx.lt;omega
 have hk5k:¬w.heap.size=G.kb:=by have:=h.kl;omega
 have y4:(w.alloc (.cells #[.int .i64 n.kind,.string n.text,.int .i64 n.num,.slice (some ⟨fb,fo,none⟩) n.kids.length c9] 73)).cell? ⟨fb,fo,none⟩=some (.int .i64 (a:Int)):=(H1.out.bl.cell (p:=⟨fb,fo,none⟩) hfb).trans pp0
 have hr0:=hE a an K _ sn cn sk ck sw cw haf hva hae H1.out
 clear h e0 e1 e2 e3 ekids hv hE hva hx0 pp0;obtain⟨z0,z1,z2,z3,z4⟩:=Blk.four' kk5
 go_enter Tryz.func90,Tryz.ntmps90
 go_wp2_with fail;refine hr0.mono ?_
 rintro e w2 hS2
 have T2:Hid (Tw G.p G.kb w w2):=(Tw.of bz.out).trans hS2.2
 have K52:Hid (Blk w2 w.heap.size #[.int .i64 n.kind,.string n.text,.int .i64 n.num,.slice (some ⟨fb,fo,none⟩) n.kids.length c9] 73):=kk5.tw hS2.2 hk5p hk5k
 clear hr0 z0 z1 z2 z3 z4 x3 y4 q0 q1 q2 q3 kk5 bz H1;cases hr:ckE (Dg G) G.T (G.T.tops.take tp) md env f K (a:Int) with
 | error q =>
  obtain⟨c,nq⟩:=q
  rw[hr] at hS2
  obtain⟨⟨rfl,hd⟩,_⟩:=hS2
  have hEr:Hid (ckP (Dg G) G.T (G.T.tops.take tp) md env f K (i:Int) sort=.error (c,nq)):=by rw[HB.out,hr];rfl
  have y13:=hd.c13
  have tc:(c != 0)=true:=by simp[hd.ne]
  have HD:Hid (Dd G w2 c nq):=hd
  clear hd;go_wp2_with fail;refine bq (.tuple #[]) ?_
  exact j2z.bad hEr.out HD.out T2.out
 | ok q =>
  obtain⟨k,K1⟩:=q
  rw[hr] at hS2
  obtain⟨⟨rfl,hl⟩,_⟩:=hS2
  have y13:w2.cell? ⟨G.p,13,none⟩=some (.int .i64 0):=(hl.bx.cell 13).trans rfl
  have H2:Hid (Lv G w2 top env md last K1 sn cn sk ck sw cw):=hl
  have HB2:Hid (ckP (Dg G) G.T (G.T.tops.take tp) md env f K (i:Int) sort=match ckTo (i:Int) (Dg G sort n.text) k (if n.kind=14 then inL n.text md.wth else true) with | .error e=> .error e | .ok _=> .ok K1):=by rw[HB.out,hr];rfl
  clear hl HB hr;obtain⟨z0,z1,z2,z3,z4⟩:=Blk.four' K52.out
  go_wp2_with fail;refine(j40 hG H2.out sort n.text).mono ?_
  rintro e w3 ⟨rfl,hb3⟩
  have H3:Hid (Lv G w3 top env md last K1 sn cn sk ck sw cw):=H2.out.later hb3
  have T3:Hid (Tw G.p G.kb w w3):=T2.out.trans (Tw.of hb3)
  have K53:=K52.out.later hb3
  obtain⟨dk,hdk⟩:∃k,Hid (Dg G sort n.text=k):=⟨_,rfl⟩
  rw[show dkL (j19 G.A G.B G.C sort) n.text=dk from hdk.out]
  rw[hdk.out] at HB2
  clear hb3 z0 z1 z2 z3 z4 y13 H2 T2 K52;obtain⟨z0,z1,z2,z3,z4⟩:=Blk.four' K53
  have x10:w3.cell? ⟨G.p,10,none⟩=some (.slice sw md.wth.length cw):=(H3.out.bx.cell 10).trans rfl
  by_cases h0:dk=0
  ·
   subst h0
   have hEr:Hid (ckP (Dg G) G.T (G.T.tops.take tp) md env f K (i:Int) sort=.error (3,(i:Int))):=by rw[HB2.out];simp[Hid,ckTo]
   go_wp2_with fail;refine(j0f hG H3.out 3 (i:Int) (by omega)).mono ?_
   rintro e w4 ⟨rfl,hd,ht⟩
   go_wp2_with fail;refine bq (.tuple #[]) ?_
   exact j2z.bad hEr.out hd (T3.out.trans ht)
  have t0:(dk ==0)=false:=by simp[h0]
  go_wp2_with fail;by_cases h14:n.kind=14
  ·
   have t14:(n.kind ==14)=true:=by simp[h14]
   have HB3:Hid (ckP (Dg G) G.T (G.T.tops.take tp) md env f K (i:Int) sort=match ckTo (i:Int) dk k (inL n.text md.wth) with | .error e=> .error e | .ok _=> .ok K1):=by rw[HB2.out,if_pos h14];rfl
   clear h14;cases hin:inL n.text md.wth
   ·
    rw[hin] at HB3
    have hEr:Hid (ckP (Dg G) G.T (G.T.tops.take tp) md env f K (i:Int) sort=.error (5,(i:Int))):=by rw[HB3.out];show _=_;unfold ckTo;rw[if_neg h0];rfl
    go_quiet (first|(go_at_call 53;exact Calls.quiet_of_same (j8b G.p G.kb sw cw md.wth n.text false _ H3.out.wl hw hin)))
    go_wp2_with fail;refine(j0f hG (H3.out.later (j06 (Below.refl _ _) _)) 5 (i:Int) (by omega)).mono ?_
    rintro e w4 ⟨rfl,hd,ht⟩
    go_wp2_with fail;refine bq (.tuple #[]) ?_
    exact j2z.bad hEr.out hd (T3.out.trans ((Tw.of (j06 (Below.refl _ _) _)).trans ht))
   rw[hin] at HB3
   go_quiet (first|(go_at_call 53;exact Calls.quiet_of_same (j8b G.p G.kb sw cw md.wth n.text true _ H3.out.wl hw hin)))
   by_cases hkk:dk=k
   ·
    have tk:(dk != k)=false:=by simp[hkk]
    have hEr:Hid (ckP (Dg G) G.T (G.T.tops.take tp) md env f K (i:Int) sort=.ok K1):=by rw[HB3.out];show _=_;unfold ckTo;rw[if_neg h0,if_pos rfl,if_pos hkk]
    go_wp2_with fail;refine bq (.tuple #[]) ?_
    exact j2z.good hEr.out (H3.out.later (j06 (Below.refl _ _) _)) (T3.out.trans (Tw.of (j06 (Below.refl _ _) _)))
   have tk:(dk != k)=true:=by simp[hkk]
   have hEr:Hid (ckP (Dg G) G.T (G.T.tops.take tp) md env f K (i:Int) sort=.error (4,(i:Int))):=by rw[HB3.out];show _=_;unfold ckTo;rw[if_neg h0,if_pos rfl,if_neg hkk]
   go_wp2_with fail;refine(j0f hG (H3.out.later (j06 (Below.refl _ _) _)) 4 (i:Int) (by omega)).mono ?_
   rintro e w4 ⟨rfl,hd,ht⟩
   go_wp2_with fail;refine bq (.tuple #[]) ?_
   exact j2z.bad hEr.out hd (T3.out.trans ((Tw.of (j06 (Below.refl _ _) _)).trans ht))
  have t14:(n.kind ==14)=false:=by simp[h14]
  have HB3:Hid (ckP (Dg G) G.T (G.T.tops.take tp) md env f K (i:Int) sort=match ckTo (i:Int) dk k true with | .error e=> .error e | .ok _=> .ok K1):=by rw[HB2.out,if_neg h14];rfl
  clear h14;go_quiet (fail)
  by_cases hkk:dk=k
  ·
   have tk:(dk != k)=false:=by simp[hkk]
   have hEr:Hid (ckP (Dg G) G.T (G.T.tops.take tp) md env f K (i:Int) sort=.ok K1):=by rw[HB3.out];show _=_;unfold ckTo;rw[if_neg h0,if_pos rfl,if_pos hkk]
   go_wp2_with fail;refine bq (.tuple #[]) ?_
   exact j2z.good hEr.out (H3.out.later (j06 (Below.refl _ _) _)) (T3.out.trans (Tw.of (j06 (Below.refl _ _) _)))
  have tk:(dk != k)=true:=by simp[hkk]
  have hEr:Hid (ckP (Dg G) G.T (G.T.tops.take tp) md env f K (i:Int) sort=.error (4,(i:Int))):=by rw[HB3.out];show _=_;unfold ckTo;rw[if_neg h0,if_pos rfl,if_neg hkk]
  go_wp2_with fail;refine(j0f hG (H3.out.later (j06 (Below.refl _ _) _)) 4 (i:Int) (by omega)).mono ?_
  rintro e w4 ⟨rfl,hd,ht⟩
  go_wp2_with fail;refine bq (.tuple #[]) ?_
  exact j2z.bad hEr.out hd (T3.out.trans ((Tw.of (j06 (Below.refl _ _) _)).trans ht))
end
end
section
open Go.RowKit
def OS (w:World) (B:Nat) (v:Value) (L:List ByteArray):Prop:=w.ownsRow B 9 1 v L.length (L.map Value.string)
theorem OS.empty {w:World} {b:Nat} (h:Blk w b #[] 9):OS w b (.slice (some ⟨b,0,none⟩) 0 0) []:=⟨rfl,Or.inr ⟨b,0,_,rfl,Nat.le_refl _,h,Nat.le_refl _,by unfold maxLen;omega,rfl,rfl⟩⟩
theorem OS.form {w:World} {B:Nat} {v:Value} {L:List ByteArray} (h:OS w B v L):(v=.slice none 0 0/\L=[])\/∃g cap,v=.slice (some ⟨g,0,none⟩) L.length cap/\B<=g/\g<w.heap.size/\L.length<=cap:=by
 rcases h.2 with ⟨h1,h2⟩|⟨g,cap,cur,rfl,hb,hg,hc,r⟩
 ·
  exact Or.inl ⟨h1,List.length_eq_zero_iff.1 h2⟩
 exact Or.inr ⟨g,cap,rfl,hb,(Array.getElem?_eq_some_iff.1 hg).1,hc⟩
theorem OS.shape {w:World} {B:Nat} {v:Value} {L:List ByteArray} (h:OS w B v L):∃s c,v=.slice s L.length c:=by
 rcases h.form with ⟨rfl,rfl⟩|⟨g,cap,rfl,_⟩
 ·
  exact⟨_,_,rfl⟩
 exact⟨_,_,rfl⟩
theorem OS.cap {w:World} {B:Nat} {s:Option Addr} {n c:Nat} {L:List ByteArray} (h:OS w B (.slice s n c) L):n<=c:=by
 rcases h.2 with ⟨h1,_⟩|⟨g,cap,cur,h1,_,_,h2,_⟩
 ·
  simp only[Value.slice.injEq] at h1;omega
 simp only[Value.slice.injEq] at h1
 obtain⟨_,rfl,rfl⟩:=h1
 exact h2
theorem OS.lt {w:World} {B:Nat} {v:Value} {L:List ByteArray} (h:OS w B v L):∀g,v.ownBlock=some g->B<=g/\g<w.heap.size:=World.ownsRow.lt h
theorem OS.later {w w':World} {B:Nat} {v:Value} {L:List ByteArray} (h:OS w B v L) (hb:Below w.heap.size w w'):OS w' B v L:=by
 refine World.ownsRow.kept h (j1a hb) ?_
 cases v.ownBlock with
 | none=>exact Or.inl rfl
 | some b=>exact Or.inr (by simp)
theorem OS.mono {w:World} {B B':Nat} {v:Value} {L:List ByteArray} (h:OS w B v L) (hB:B'<=B):OS w B' v L:=by
 refine⟨h.1,?_⟩
 rcases h.2 with h'|⟨g,cap',cur,h',hb,r⟩
 ·
  exact Or.inl h'
 exact Or.inr ⟨g,cap',cur,h',Nat.le_trans hB hb,r⟩
theorem OS.strs {p q:Nat} {w:World} {B:Nat} {s:Option Addr} {c:Nat} {L:List ByteArray} (h:OS w B (.slice s L.length c) L) (hp:p<B) (hq:q<B):Strs p q w s L:=by
 rcases h.form with ⟨h1,rfl⟩|⟨g,cap,h1,hB,hlt,_⟩
 ·
  exact Or.inl rfl
 simp only[Value.slice.injEq] at h1
 obtain⟨rfl,_,rfl⟩:=h1
 refine Or.inr ⟨g,0,rfl,hlt,⟨by omega,by omega⟩,λj hj=>?_⟩
 rw[World.ownsRow.cellAt h (0+j) (by omega)]
 simp[hj]
theorem Tryz.infoS:(Tryz.prog.info? 9).map (λi=>(i.zero,i.size,i.bytes))=some (some (.string ByteArray.empty),1,16):=by kernel_rfl
end
section
open Go.RowKit
section
variable {G:Gd} {w w':World} {top:Int} {env:Env} {md:Md} {last:Int} {K:KM} {sn sk sw:Option Addr} {cn ck cw:Nat}
def ckSt (D:Int->ByteArray->Int) (T:Tre) (ah:List Int) (md:Md) (env:Env) (N:Nat) (K:KM) (i:Int):Ck KM :=
 match ckE D T ah md env N K (kid (nd T i) 0) with
 | .error e=> .error e
 | .ok (k,K1)=>match look env (nd T i).text with
  | none=> .error (3,i)
  | some k'=>if k'=k then .ok K1 else .error (4,i)
theorem jej (hG:G.Ok) {tp f:Nat} (hE:ExpS G top tp env md last f) (hw:md.wth.length<=1048576) {i:Nat} {n:Nd} (hv:VN G.T i n) {a:Nat} {an:Nd} (hx0:n.kids[0]?=some (a:Int)) (hva:VN G.T a an) (hae:isE an.kind) (haf:a<f) (hk13:n.kind=13) (henv:env.length<=1048576) (h:Lv G w top env md last K sn cn sk ck sw cw) :
  Calls Tryz.prog 89 #[.pointer (some ⟨G.p,0,none⟩),.int .i64 (i:Int)] w λe w'=>j2z G w top env md last sn cn sk ck sw cw (ckSt (Dg G) G.T (G.T.tops.take tp) md env f K (i:Int)) e w':=by
 have HB:Hid (ckSt (Dg G) G.T (G.T.tops.take tp) md env f K (i:Int)=match ckE (Dg G) G.T (G.T.tops.take tp) md env f K (a:Int) with | .error e=> .error e | .ok (k,K1)=>match look env n.text with|none=> .error (3,(i:Int))|some k'=>if k'=k then .ok K1 else .error (4,(i:Int))):=by
  show _=_
  unfold ckSt
  rw[j0j hv.at_,show kid n 0=(a:Int) by simp[kid,hx0]]
 obtain⟨nb,no,s9,c9,en1,hnb,e0,e1,e2,e3,ekids⟩:=hG.node hv.at_
 obtain⟨fb,fo,rfl,_,hfb,pp0⟩:=j05 ekids hx0
 have hiN:i<G.T.nodes.length:=(List.getElem?_eq_some_iff.1 hv.at_).1
 have hnl:G.T.nodes.length<=1048576:=hG.k.1.1
 have hkl:0<n.kids.length:=(List.getElem?_eq_some_iff.1 hx0).1
 have x3:w.cell? ⟨G.p,3,none⟩=some (.slice (some ⟨nb,no,none⟩) G.T.nodes.length G.d1):=by rw[<-en1];exact(h.bx.cell 3).trans rfl
 have q0:=(h.bl.cell (p:=⟨nb,no+i*4,none⟩) hnb).trans e0
 have q1:=(h.bl.cell (p:=⟨nb,no+i*4+1,none⟩) hnb).trans e1
 have q2:=(h.bl.cell (p:=⟨nb,no+i*4+2,none⟩) hnb).trans e2
 have q3:=(h.bl.cell (p:=⟨nb,no+i*4+3,none⟩) hnb).trans e3
 rw[Nat.add_zero] at pp0
 have iI:(i:Int)<(G.T.nodes.length:Int):=by omega
 have l0I:(0:Int)<(n.kids.length:Int):=by omega
 have bz:Hid (Below w.heap.size w (w.alloc (.cells #[.int .i64 n.kind,.string n.text,.int .i64 n.num,.slice (some ⟨fb,fo,none⟩) n.kids.length c9] 73))):=j00 (Below.refl _ _) _
 have kk5:=Blk.new w #[.int .i64 n.kind,.string n.text,.int .i64 n.num,.slice (some ⟨fb,fo,none⟩) n.kids.length c9] 73
 have H1:Hid (Lv G (w.alloc (.cells #[.int .i64 n.kind,.string n.text,.int .i64 n.num,.slice (some ⟨fb,fo,none⟩) n.kids.length c9] 73)) top env md last K sn cn sk ck sw cw):=h.later bz.out
 have hk5p:¬w.heap.size=G.p:=by have:=h.bx.lt;omega
 have hk5k:¬w.heap.size=G.kb:=by have:=h.kl;omega
 have y4:(w.alloc (.cells #[.int .i64 n.kind,.string n.text,.int .i64 n.num,.slice (some ⟨fb,fo,none⟩) n.kids.length c9] 73)).cell? ⟨fb,fo,none⟩=some (.int .i64 (a:Int)):=(H1.out.bl.cell (p:=⟨fb,fo,none⟩) hfb).trans pp0
 have hr0:=hE a an K _ sn cn sk ck sw cw haf hva hae H1.out
 have t12:(n.kind ==12)=false:=by simp[hk13]
 clear h e0 e1 e2 e3 ekids hv hE hva hx0 pp0 hk13;obtain⟨z0,z1,z2,z3,z4⟩:=Blk.four' kk5
 go_enter Tryz.func89,Tryz.ntmps89
 go_wp2_with fail;refine hr0.mono ?_
 rintro e w2 hS2
 have T2:Hid (Tw G.p G.kb w w2):=(Tw.of bz.out).trans hS2.2
 have K52:Hid (Blk w2 w.heap.size #[.int .i64 n.kind,.string n.text,.int .i64 n.num,.slice (some ⟨fb,fo,none⟩) n.kids.length c9] 73):=kk5.tw hS2.2 hk5p hk5k
 clear hr0 z0 z1 z2 z3 z4 x3 y4 q0 q1 q2 q3 kk5 bz H1;cases hr:ckE (Dg G) G.T (G.T.tops.take tp) md env f K (a:Int) with
 | error q =>
  obtain⟨c,nq⟩:=q
  rw[hr] at hS2
  obtain⟨⟨rfl,hd⟩,_⟩:=hS2
  have hEr:Hid (ckSt (Dg G) G.T (G.T.tops.take tp) md env f K (i:Int)=.error (c,nq)):=by rw[HB.out,hr];rfl
  have y13:=hd.c13
  have tc:(c != 0)=true:=by simp[hd.ne]
  have HD:Hid (Dd G w2 c nq):=hd
  clear hd;go_wp2_with fail;refine bq (.tuple #[]) ?_
  exact j2z.bad hEr.out HD.out T2.out
 | ok q =>
  obtain⟨k,K1⟩:=q
  rw[hr] at hS2
  obtain⟨⟨rfl,hl⟩,_⟩:=hS2
  have y13:w2.cell? ⟨G.p,13,none⟩=some (.int .i64 0):=(hl.bx.cell 13).trans rfl
  have H2:Hid (Lv G w2 top env md last K1 sn cn sk ck sw cw):=hl
  have HB2:Hid (ckSt (Dg G) G.T (G.T.tops.take tp) md env f K (i:Int)=match look env n.text with|none=> .error (3,(i:Int))|some k'=>if k'=k then .ok K1 else .error (4,(i:Int))):=by rw[HB.out,hr];rfl
  clear hl HB hr;obtain⟨z0,z1,z2,z3,z4⟩:=Blk.four' K52.out
  go_wp2_with fail;refine(j6b hG H2.out n.text henv).mono ?_
  rintro e w3 ⟨⟨r,rfl,hr⟩,hq⟩
  rw[hq]
  clear hq w3;rcases hr with ⟨rfl,hlk⟩|⟨jj,kk,rfl,hat,hlk⟩
  ·
   have hEr:Hid (ckSt (Dg G) G.T (G.T.tops.take tp) md env f K (i:Int)=.error (3,(i:Int))):=by rw[HB2.out,hlk];rfl
   go_wp2_with fail;refine(j0f hG H2.out 3 (i:Int) (by omega)).mono ?_
   rintro e w4 ⟨rfl,hd,ht⟩
   go_wp2_with fail;refine bq (.tuple #[]) ?_
   exact j2z.bad hEr.out hd (T2.out.trans ht)
  have hjl:jj<env.length:=(List.getElem?_eq_some_iff.1 hat).1
  obtain⟨bb,oo,rfl,_,_,v1⟩:=H2.out.k.get (j:=jj) (x:=kk) (by simp[hat])
  have x7:w2.cell? ⟨G.p,7,none⟩=some (.slice (some ⟨bb,oo,none⟩) env.length ck):=(H2.out.bx.cell 7).trans rfl
  have jI:(jj:Int)<(env.length:Int):=by omega
  have jn:decide ((jj:Int)<0)=false:=by simp
  clear hat;by_cases hkk:kk=k
  ·
   have tk:(kk != k)=false:=by simp[hkk]
   have hEr:Hid (ckSt (Dg G) G.T (G.T.tops.take tp) md env f K (i:Int)=.ok K1):=by rw[HB2.out,hlk];simp[Hid,hkk]
   clear hlk;go_wp2_with fail;refine bq (.tuple #[]) ?_
   exact j2z.good hEr.out H2.out T2.out
  have tk:(kk != k)=true:=by simp[hkk]
  have hEr:Hid (ckSt (Dg G) G.T (G.T.tops.take tp) md env f K (i:Int)=.error (4,(i:Int))):=by rw[HB2.out,hlk];simp[Hid,hkk]
  clear hlk;go_wp2_with fail;refine(j0f hG H2.out 4 (i:Int) (by omega)).mono ?_
  rintro e w4 ⟨rfl,hd,ht⟩
  go_wp2_with fail;refine bq (.tuple #[]) ?_
  exact j2z.bad hEr.out hd (T2.out.trans ht)
end
end
section
open Go.RowKit
section
variable {G:Gd} {w w':World} {top:Int} {env:Env} {md:Md} {last:Int} {K:KM} {sn sk sw:Option Addr} {cn ck cw:Nat}
theorem Dd.set (hG:G.Ok) {c n:Int} (h:Dd G w c n) {o:Nat} (h3:¬o=3) (h13:¬o=13) (h14:¬o=14) (u:Value) (h11:¬o=11:=by decide):Dd G (w.setCell ⟨G.p,o,none⟩ u) c n:=by
 obtain⟨cs,a1,a2,a3,a4,a5,fb,a6⟩:=h.ex
 refine⟨⟨cs.setIfInBounds o u,by simpa using a1,a2.set o u,?_,?_,?_,fb,?_⟩,h.ne,h.bl.setCell hG.p _⟩
 ·
  rw[Array.getElem?_setIfInBounds,if_neg h13];exact a3
 ·
  rw[Array.getElem?_setIfInBounds,if_neg h14];exact a4
 ·
  rw[Array.getElem?_setIfInBounds,if_neg h3];exact a5
 rw[Array.getElem?_setIfInBounds,if_neg h11];exact a6
theorem Dd.c11 {c n:Int} (h:Dd G w c n):∃fb,w.cell? ⟨G.p,11,none⟩=some (.bool fb):=by
 obtain⟨cs,_,a2,_,_,_,fb,a6⟩:=h.ex
 exact⟨fb,(a2.cell 11).trans a6⟩
theorem Dd.cell (h:∃c n,Dd G w c n) {o:Nat} (ho:o<16):(∃u,w.cell? ⟨G.p,o,none⟩=some u)/\w.frozen? ⟨G.p,o,none⟩=false:=by
 obtain⟨c,n,h⟩:=h
 obtain⟨cs,a1,a2,_⟩:=h.ex
 refine⟨⟨cs[o]'(by omega),?_⟩,a2.frozen o⟩
 rw[a2.cell o]
 exact Array.getElem?_eq_getElem (by omega)
theorem jeb (env:Env) (s:ByteArray) (k:Int):look (env++[(s,k)]) s=some k:=by simp[look]
theorem j93 (env:Env) {s t:ByteArray} (k:Int) (h:¬s=t):look (env++[(s,k)]) t=look env t:=by simp[look,h]
theorem Lv.names (hG:G.Ok) (h:Lv G w top env md last K sn cn sk ck sw cw) {env':Env} {sn' sk':Option Addr} {cn' ck':Nat} (hn:Strs G.p G.kb w sn' (env'.map (·.1))) (hk:Nums G.p G.kb w sk' (env'.map (·.2))) :
  Lv G ((w.setCell ⟨G.p,6,none⟩ (.slice sn' env'.length cn')).setCell ⟨G.p,7,none⟩ (.slice sk' env'.length ck')) top env' md last K sn' cn' sk' ck' sw cw:=by
 have ht:Tw G.p G.kb w ((w.setCell ⟨G.p,6,none⟩ (.slice sn' env'.length cn')).setCell ⟨G.p,7,none⟩ (.slice sk' env'.length ck')):=(Tw.set _ _ _ _ _).trans (Tw.set _ _ _ _ _)
 refine⟨?_,hn.two ht,hk.two ht,h.wl.two ht,by simpa using h.kl,λj hj=>?_,λj=>?_,ht.below h.bl h.bl.size hG.p hG.kb⟩
 ·
  have:=(h.bx.set 6 (.slice sn' env'.length cn')).set 7 (.slice sk' env'.length ck')
  simpa[lw] using this
 ·
  have e:¬G.p=G.kb:=λq=>hG.ne q.symm
  refine((World.cell?_setCell_other _ _ _ _ (λq=>?_)).trans (World.cell?_setCell_other _ _ _ _ (λq=>?_))).trans (h.kc j hj)
  ·
   simp at q<;>exact e q.1.symm
  simp at q<;>exact e q.1.symm
 exact(World.frozen?_setCell _ _ _ _).trans ((World.frozen?_setCell _ _ _ _).trans (h.kf j))
end
end
section
open Go.RowKit
section
variable {G:Gd} {w w':World} {top:Int} {env:Env} {md:Md} {last:Int} {K:KM} {sn sk sw:Option Addr} {cn ck cw:Nat}
def Liv (G:Gd) (w:World) (top:Int) (env:Env) (md:Md) (last:Int) (K:KM):Prop:=∃sn cn sk ck sw cw,Lv G w top env md last K sn cn sk ck sw cw
def j2n (G:Gd) (w:World) (top:Int) (env:Env) (md:Md) (last:Int) (r:Ck KM) (e:Ending) (w':World):Prop :=
 (e=.returned (.tuple #[])/\match r with
 | .error (c,n)=>Dd G w' c n
 | .ok K'=>Liv G w' top env md last K')/\Tw G.p G.kb w w'
theorem j2n.bad {c n:Int} {r:Ck KM} (hr:r=.error (c,n)) (hd:Dd G w' c n) (ht:Tw G.p G.kb w w'):j2n G w top env md last r (.returned (.tuple #[])) w':=by subst hr;exact⟨⟨rfl,hd⟩,ht⟩
theorem j2n.good {K':KM} {r:Ck KM} (hr:r=.ok K') (hl:Liv G w' top env md last K') (ht:Tw G.p G.kb w w'):j2n G w top env md last r (.returned (.tuple #[])) w':=by subst hr;exact⟨⟨rfl,hl⟩,ht⟩
def BlkS (G:Gd) (top:Int) (env:Env) (md:Md) (last:Int) (g:Int->KM->Ck KM) (P:Nat->Prop):Prop :=
 ∀(b:Nat) (bn:Nd) (K:KM) (w:World) (sn:Option Addr) (cn:Nat) (sk:Option Addr) (ck:Nat) (sw:Option Addr) (cw:Nat),P b->VN G.T b bn->bn.kind=27->Lv G w top env md last K sn cn sk ck sw cw->
  Calls Tryz.prog 54 #[.pointer (some ⟨G.p,0,none⟩),.int .i64 (b:Int),.slice none 0 0,.slice none 0 0] w λe w'=>j2n G w top env md last (g (b:Int) K) e w'
theorem jck {c nq:Int} (h:Dd G w c nq) (b:Int) (s1 s2:Option Addr) (m1 c1 m2 c2:Nat) :
  Calls Tryz.prog 54 #[.pointer (some ⟨G.p,0,none⟩),.int .i64 b,.slice s1 m1 c1,.slice s2 m2 c2] w λe w'=>e=.returned (.tuple #[])/\w'=w:=by
 have y13:=h.c13
 have tc:(c != 0)=true:=by simp[h.ne]
 clear h;go_enter Tryz.func54,Tryz.ntmps54
 go_wp2_with fail;exact bq (.tuple #[]) ⟨rfl,rfl⟩
def ckBr (D:Int->ByteArray->Int) (T:Tre) (ah:List Int) (md:Md) (env:Env) (N:Nat) (K:KM) (i want:Int) (g:Int->KM->Ck KM):Ck KM :=
 match ckE D T ah md env N K (kid (nd T i) 0) with
 | .error e=> .error e
 | .ok (k,K1)=>if k=want then ckBs g (nd T i).kids.tail K1 else .error (4,i)
theorem j8c (hG:G.Ok) {tp f:Nat} (hE:ExpS G top tp env md last f) (hw:md.wth.length<=1048576) {i:Nat} {n:Nd} (hv:VN G.T i n) {a:Nat} {an:Nd} (hx0:n.kids[0]?=some (a:Int)) (hva:VN G.T a an) (hae:isE an.kind) (haf:a<f) (want:Int) {g:Int->KM->Ck KM} {P:Nat->Prop} (hg:BlkS G top env md last g P) (hcl:∀j,1<=j->j<n.kids.length->∃(b:Nat) (bn:Nd),n.kids[j]?=some (b:Int)/\VN G.T b bn/\bn.kind=27/\P b) (h:Lv G w top env md last K sn cn sk ck sw cw) :
  Calls Tryz.prog 91 #[.pointer (some ⟨G.p,0,none⟩),.int .i64 (i:Int),.int .i64 want] w λe w'=>j2n G w top env md last (ckBr (Dg G) G.T (G.T.tops.take tp) md env f K (i:Int) want g) e w':=by
 have HB:Hid (ckBr (Dg G) G.T (G.T.tops.take tp) md env f K (i:Int) want g=match ckE (Dg G) G.T (G.T.tops.take tp) md env f K (a:Int) with | .error e=> .error e | .ok (k,K1)=>if k=want then ckBs g n.kids.tail K1 else .error (4,(i:Int))):=by
  show _=_
  unfold ckBr
  rw[j0j hv.at_,show kid n 0=(a:Int) by simp[kid,hx0]]
 obtain⟨nb,no,s9,c9,en1,hnb,e0,e1,e2,e3,ekids⟩:=hG.node hv.at_
 obtain⟨fb,fo,rfl,_,hfb,pp0⟩:=j05 ekids hx0
 have hiN:i<G.T.nodes.length:=(List.getElem?_eq_some_iff.1 hv.at_).1
 have hnl:G.T.nodes.length<=1048576:=hG.k.1.1
 have hkl:0<n.kids.length:=(List.getElem?_eq_some_iff.1 hx0).1
 have x3:w.cell? ⟨G.p,3,none⟩=some (.slice (some ⟨nb,no,none⟩) G.T.nodes.length G.d1):=by rw[<-en1];exact(h.bx.cell 3).trans rfl
 have q0:=(h.bl.cell (p:=⟨nb,no+i*4,none⟩) hnb).trans e0
 have q1:=(h.bl.cell (p:=⟨nb,no+i*4+1,none⟩) hnb).trans e1
 have q2:=(h.bl.cell (p:=⟨nb,no+i*4+2,none⟩) hnb).trans e2
 have q3:=(h.bl.cell (p:=⟨nb,no+i*4+3,none⟩) hnb).trans e3
 rw[Nat.add_zero] at pp0
 have iI:(i:Int)<(G.T.nodes.length:Int):=by omega
 have l0I:(0:Int)<(n.kids.length:Int):=by omega
 have bz:Hid (Below w.heap.size w (w.alloc (.cells #[.int .i64 n.kind,.string n.text,.int .i64 n.num,.slice (some ⟨fb,fo,none⟩) n.kids.length c9] 73))):=j00 (Below.refl _ _) _
 have kk5:=Blk.new w #[.int .i64 n.kind,.string n.text,.int .i64 n.num,.slice (some ⟨fb,fo,none⟩) n.kids.length c9] 73
 have H1:Hid (Lv G (w.alloc (.cells #[.int .i64 n.kind,.string n.text,.int .i64 n.num,.slice (some ⟨fb,fo,none⟩) n.kids.length c9] 73)) top env md last K sn cn sk ck sw cw):=h.later bz.out
 have hk5p:¬w.heap.size=G.p:=by have:=h.bx.lt;omega
 have hk5k:¬w.heap.size=G.kb:=by have:=h.kl;omega
 have y4:(w.alloc (.cells #[.int .i64 n.kind,.string n.text,.int .i64 n.num,.slice (some ⟨fb,fo,none⟩) n.kids.length c9] 73)).cell? ⟨fb,fo,none⟩=some (.int .i64 (a:Int)):=(H1.out.bl.cell (p:=⟨fb,fo,none⟩) hfb).trans pp0
 have hr0:=hE a an K _ sn cn sk ck sw cw haf hva hae H1.out
 have HK:Hid (Els 1 cInt G.w0 G.B0 (some ⟨fb,fo,none⟩) n.kids):=ekids
 have HG:Hid (BlkS G top env md last g P):=hg
 have HC:Hid (∀j,1<=j->j<n.kids.length->∃(b:Nat) (bn:Nd),n.kids[j]?=some (b:Int)/\VN G.T b bn/\bn.kind=27/\P b):=hcl
 have hkl2:n.kids.length<=1048576:=(hG.k.1.2 n (List.mem_of_getElem? hv.at_)).2
 clear h e0 e1 e2 e3 ekids hv hE hva hx0 pp0 hg hcl;obtain⟨z0,z1,z2,z3,z4⟩:=Blk.four' kk5
 go_enter Tryz.func91,Tryz.ntmps91
 go_wp2_with fail;refine hr0.mono ?_
 rintro e w2 hS2
 have T2:Hid (Tw G.p G.kb w w2):=(Tw.of bz.out).trans hS2.2
 have K52:Hid (Blk w2 w.heap.size #[.int .i64 n.kind,.string n.text,.int .i64 n.num,.slice (some ⟨fb,fo,none⟩) n.kids.length c9] 73):=kk5.tw hS2.2 hk5p hk5k
 clear hr0 z0 z1 z2 z3 z4 x3 y4 q0 q1 q2 q3 kk5 bz H1;cases hr:ckE (Dg G) G.T (G.T.tops.take tp) md env f K (a:Int) with
 | error q =>
  obtain⟨c,nq⟩:=q
  rw[hr] at hS2
  obtain⟨⟨rfl,hd⟩,_⟩:=hS2
  have hEr:Hid (ckBr (Dg G) G.T (G.T.tops.take tp) md env f K (i:Int) want g=.error (c,nq)):=by rw[HB.out,hr];rfl
  have y13:=hd.c13
  have tc:(c != 0)=true:=by simp[hd.ne]
  have HD:Hid (Dd G w2 c nq):=hd
  clear hd;go_wp2_with fail;refine bq (.tuple #[]) ?_
  exact j2n.bad hEr.out HD.out T2.out
 | ok q =>
  obtain⟨k,K1⟩:=q
  rw[hr] at hS2
  obtain⟨⟨rfl,hl⟩,_⟩:=hS2
  have y13:w2.cell? ⟨G.p,13,none⟩=some (.int .i64 0):=(hl.bx.cell 13).trans rfl
  have H2:Hid (Lv G w2 top env md last K1 sn cn sk ck sw cw):=hl
  have HB2:Hid (ckBr (Dg G) G.T (G.T.tops.take tp) md env f K (i:Int) want g=if k=want then ckBs g n.kids.tail K1 else .error (4,(i:Int))):=by rw[HB.out,hr];rfl
  clear hl HB hr;by_cases hkw:k=want
  ·
   have tk:(k != want)=false:=by simp[hkw]
   have HB3:Hid (ckBr (Dg G) G.T (G.T.tops.take tp) md env f K (i:Int) want g=ckBs g n.kids.tail K1):=by rw[HB2.out,if_pos hkw];rfl
   clear HB2 hkw;obtain⟨z0,z1,z2,z3,z4⟩:=Blk.four' K52.out
   go_wp2_with fail;clear z0 z1 z2 z3 z4 y13 tk;go_loopw [8] (λmv wr=>∃m:Nat,1<=m/\m<=n.kids.length/\mv=.int .i64 m/\Hid ((∃Km,Liv G wr top env md last Km/\ckBs g n.kids.tail K1=ckBs g (n.kids.drop m) Km)\/∃c nq,Dd G wr c nq/\ckBs g n.kids.tail K1=.error (c,nq))/\Hid (Tw G.p G.kb w wr)/\Hid (Blk wr w.heap.size #[.int .i64 n.kind,.string n.text,.int .i64 n.num,.slice (some ⟨fb,fo,none⟩) n.kids.length c9] 73)) (λmv _=>n.kids.length-(intOf mv).toNat)
   case atStart=>exact⟨1,Nat.le_refl _,by omega,rfl,Or.inl ⟨K1,⟨_,_,_,_,_,_,H2.out⟩,by rw[List.drop_one]⟩,T2,K52⟩
   clear H2 T2 K52;obtain⟨m,hm1,hmn,rfl,hLD,T4,K54⟩:=hrel
   obtain⟨z0,z1,z2,z3,z4⟩:=Blk.four' K54.out
   by_cases hlt:m<n.kids.length
   ·
    obtain⟨b,bn,hxi,hvb,hbk,hbi⟩:=HC.out m hm1 hlt
    obtain⟨fb2,fo2,ef,_,_,p00⟩:=j05 HK.out hxi
    obtain⟨rfl,rfl⟩:fb2=fb/\fo2=fo:=by cases ef;exact⟨rfl,rfl⟩
    have hblr:Below G.w0.heap.size G.w0 wr:=by
     rcases hLD.out with ⟨Km,hl,_⟩|⟨c,nq,hd,_⟩
     ·
      obtain⟨_,_,_,_,_,_,hl⟩:=hl;exact hl.bl
     exact hd.bl
    have q0:=(hblr.cell (p:=⟨fb2,fo2+m,none⟩) hfb).trans p00
    have hd:Hid (n.kids.drop m=(b:Int) :: n.kids.drop (m+1)):=by
     show _=_
     rw[List.drop_eq_getElem_cons hlt]
     congr 1
     exact(List.getElem?_eq_some_iff.1 hxi).2
    have mI:(m:Int)<(n.kids.length:Int):=by omega
    have t2:decide ((m:Int)<(n.kids.length:Int))=true:=by simp;omega
    have HVb:Hid (VN G.T b bn):=hvb
    have HBk:Hid (bn.kind=27):=hbk
    clear hxi p00 hvb ef hbk hblr;go_wp2_with fail;rcases hLD.out with ⟨Km,⟨sn2,cn2,sk2,ck2,sw2,cw2,hl⟩,hbs⟩|⟨c,nq,hdd,hbs⟩
    ·
     refine(HG.out b bn Km _ sn2 cn2 sk2 ck2 sw2 cw2 hbi HVb.out HBk.out hl).mono ?_
     rintro e w5 hS5
     have T5:Hid (Tw G.p G.kb w w5):=T4.out.trans hS5.2
     have K55:Hid (Blk w5 w.heap.size #[.int .i64 n.kind,.string n.text,.int .i64 n.num,.slice (some ⟨fb2,fo2,none⟩) n.kids.length c9] 73):=K54.out.tw hS5.2 hk5p hk5k
     obtain⟨⟨rfl,hm5⟩,_⟩:=hS5
     have hLD5:Hid ((∃Km,Liv G w5 top env md last Km/\ckBs g n.kids.tail K1=ckBs g (n.kids.drop (m+1)) Km)\/∃c nq,Dd G w5 c nq/\ckBs g n.kids.tail K1=.error (c,nq)):=by
      cases hgb:g (b:Int) Km with
      | error q =>
       obtain⟨c,nq⟩:=q
       rw[hgb] at hm5
       exact Or.inr ⟨c,nq,hm5,by rw[hbs,hd.out];simp[ckBs,hgb]⟩
      | ok Kn =>
       rw[hgb] at hm5
       exact Or.inl ⟨Kn,hm5,by rw[hbs,hd.out];simp[ckBs,hgb]⟩
     clear hm5 hl hbs hLD;go_wp2_with fail;go_roundw
     case rel=>exact⟨m+1,by omega,by omega,by go_num,hLD5,T5,K55⟩
     case measure=>simp[intOf];omega
    refine(jck hdd (b:Int) _ _ _ _ _ _).mono ?_
    rintro e w5 ⟨rfl,hq⟩
    rw[hq]
    have hLD5:Hid ((∃Km,Liv G wr top env md last Km/\ckBs g n.kids.tail K1=ckBs g (n.kids.drop (m+1)) Km)\/∃c nq,Dd G wr c nq/\ckBs g n.kids.tail K1=.error (c,nq)):=Or.inr ⟨c,nq,hdd,hbs⟩
    clear hq hdd hbs hLD;go_wp2_with fail;go_roundw
    case rel=>exact⟨m+1,by omega,by omega,by go_num,hLD5,T4,K54⟩
    case measure=>simp[intOf];omega
   have hmm:m=n.kids.length:=by omega
   subst hmm
   have t2:decide ((n.kids.length:Int)<(n.kids.length:Int))=false:=by simp
   go_wp2_with fail;refine bq (.tuple #[]) ?_
   rcases hLD.out with ⟨Km,hl,hbs⟩|⟨c,nq,hdd,hbs⟩
   ·
    exact j2n.good (by rw[HB3.out,hbs,List.drop_length];rfl) hl T4.out
   exact j2n.bad (by rw[HB3.out,hbs]) hdd T4.out
  have tk:(k != want)=true:=by simp[hkw]
  have hEr:Hid (ckBr (Dg G) G.T (G.T.tops.take tp) md env f K (i:Int) want g=.error (4,(i:Int))):=by rw[HB2.out,if_neg hkw];rfl
  go_wp2_with fail;refine(j0f hG H2.out 4 (i:Int) (by omega)).mono ?_
  rintro e w4 ⟨rfl,hd,ht⟩
  go_wp2_with fail;refine bq (.tuple #[]) ?_
  exact j2n.bad hEr.out hd (T2.out.trans ht)
end
end
section
open Go.RowKit
theorem Hid.mk' {p:Prop} (h:p):Hid p:=h
structure OR where
 T:TypeId
 k:Nat
 v:Value
 n:Nat
 cs:List Value
def OR.on (w:World) (B:Nat) (r:OR):Prop:=w.ownsRow B r.T r.k r.v r.n r.cs
def blks (R:List OR):List Nat:=R.filterMap λr=>r.v.ownBlock
structure Owns (w:World) (B:Nat) (R:List OR):Prop where
 on:∀r∈R,r.on w B
 nd:(blks R).Nodup
theorem OR.on.lt {w:World} {B:Nat} {r:OR} (h:r.on w B):∀g,r.v.ownBlock=some g->B<=g/\g<w.heap.size:=World.ownsRow.lt h
theorem OR.on.same {w w':World} {B:Nat} {r:OR} (h:r.on w B) (hs:∀g,r.v.ownBlock=some g->w'.heap[g]?=w.heap[g]?):r.on w' B:=by
 refine⟨h.1,?_⟩
 rcases h.2 with h'|⟨g,cap',cur,h',hb,hg,r'⟩
 ·
  exact Or.inl h'
 exact Or.inr ⟨g,cap',cur,h',hb,(hs g (by rw[h'];rfl)).trans hg,r'⟩
theorem OR.on.mono {w:World} {B B':Nat} {r:OR} (h:r.on w B) (hB:B'<=B):r.on w B':=Go.Joins.ownsRow_le h hB
theorem j5j {R:List OR} {g:Nat}:g∈blks R ↔∃r∈R,r.v.ownBlock=some g:=by simp[blks]
theorem j79 (r:OR) (R:List OR):blks (r :: R)=r.v.ownBlock.toList++blks R:=by
 unfold blks
 rw[List.filterMap_cons]
 cases h:r.v.ownBlock<;>simp
theorem j50 (R S:List OR):blks (R++S)=blks R++blks S:=by simp[blks]
theorem Owns.nil (w:World) (B:Nat):Owns w B []:=⟨λr h=>by simp at h,by simp[blks]⟩
theorem Owns.perm {w:World} {B:Nat} {R S:List OR} (h:Owns w B R) (hp:R.Perm S):Owns w B S :=
 ⟨λr hr=>h.on r (hp.mem_iff.2 hr),(hp.filterMap _).nodup_iff.1 h.nd⟩
theorem Owns.mono {w:World} {B B':Nat} {R:List OR} (h:Owns w B R) (hB:B'<=B):Owns w B' R:=⟨λr hr=>(h.on r hr).mono hB,h.nd⟩
theorem Owns.lt {w:World} {B:Nat} {R:List OR} (h:Owns w B R) {g:Nat} (hg:g∈blks R):B<=g/\g<w.heap.size:=by
 obtain⟨r,hr,e⟩:=j5j.1 hg
 exact(h.on r hr).lt g e
theorem Owns.same {w w':World} {B:Nat} {R:List OR} (h:Owns w B R) (hs:∀g,g∈blks R->w'.heap[g]?=w.heap[g]?):Owns w' B R :=
 ⟨λr hr=>(h.on r hr).same λg hg=>hs g (j5j.2 ⟨r,hr,hg⟩),h.nd⟩
theorem Owns.later {w w':World} {B:Nat} {R:List OR} (h:Owns w B R) (hb:Below w.heap.size w w'):Owns w' B R :=
 h.same λg hg=>hb.block g (h.lt hg).2
theorem Owns.kept {w w':World} {B:Nat} {R:List OR} (h:Owns w B R) (hk:Kept B w w'):Owns w' B R :=
 h.same λg hg=>hk.2 g (h.lt hg).1 (h.lt hg).2
theorem Owns.grown {w w':World} {B:Nat} {R:List OR} {r:Option Nat} (h:Owns w B R) (hg:w.grownBy w' r) (hn:∀g,r=some g->¬g∈blks R):Owns w' B R :=
 h.same λg hg'=>hg.block g (h.lt hg').2 (λe=>hn g e.symm hg')
theorem Owns.tail {w:World} {B:Nat} {r:OR} {R:List OR} (h:Owns w B (r :: R)):Owns w B R:=by
 refine⟨λq hq=>h.on q (by simp[hq]),?_⟩
 have:=h.nd
 rw[j79] at this
 exact(List.nodup_append.1 this).2.1
theorem Owns.head {w:World} {B:Nat} {r:OR} {R:List OR} (h:Owns w B (r :: R)):r.on w B:=h.on r (by simp)
theorem Owns.off {w:World} {B:Nat} {r:OR} {R:List OR} (h:Owns w B (r :: R)) {g:Nat} (hg:r.v.ownBlock=some g):¬g∈blks R:=by
 have:=h.nd
 rw[j79,hg] at this
 intro hm
 exact(List.nodup_append.1 this).2.2 g (by simp) g hm rfl
theorem Owns.left {w:World} {B:Nat} {R S:List OR} (h:Owns w B (R++S)):Owns w B R:=by
 refine⟨λq hq=>h.on q (by simp[hq]),?_⟩
 have:=h.nd
 rw[j50] at this
 exact(List.nodup_append.1 this).1
theorem Owns.right {w:World} {B:Nat} {R S:List OR} (h:Owns w B (R++S)):Owns w B S:=by
 refine⟨λq hq=>h.on q (by simp[hq]),?_⟩
 have:=h.nd
 rw[j50] at this
 exact(List.nodup_append.1 this).2.1
theorem Owns.join {w:World} {B:Nat} {R S:List OR} (h:Owns w B R) (g:Owns w B S) (ha:∀b,b∈blks R->¬b∈blks S):Owns w B (R++S):=by
 refine⟨λq hq=>?_,?_⟩
 ·
  rcases List.mem_append.1 hq with h'|h'
  ·
   exact h.on q h'
  exact g.on q h'
 rw[j50]
 exact List.nodup_append.2 ⟨h.nd,g.nd,λa ha' b hb e=>ha a ha' (e ▸ hb)⟩
theorem Owns.add {w w':World} {B:Nat} {R S:List OR} (h:Owns w B R) (hb:Below w.heap.size w w') (g:Owns w' w.heap.size S) (hB:B<=w.heap.size):Owns w' B (R++S) :=
 (h.later hb).join (g.mono hB) λb h1 h2=>by
  have:=(h.lt h1).2
  have:=(g.lt h2).1
  omega
theorem Owns.one {w:World} {B:Nat} {r:OR} (h:r.on w B):Owns w B [r]:=by
 refine⟨λq hq=>?_,?_⟩
 ·
  simp at hq;subst hq;exact h
 rw[j79];cases r.v.ownBlock<;>simp[blks]
theorem Owns.turn {w w':World} {B:Nat} {r r':OR} {R:List OR} (h:Owns w B (r :: R)) (hg:w.grownBy w' r.v.ownBlock) (hr:r'.on w' B) (hn:∀g,r'.v.ownBlock=some g->r.v.ownBlock=some g\/w.heap.size<=g):Owns w' B (r' :: R):=by
 have ht:=h.tail.grown hg (λg e=>h.off e)
 refine(Owns.one hr).join ht λb h1 h2=>?_
 obtain⟨q,hq,e⟩:=j5j.1 h1
 simp at hq
 subst hq
 rcases hn b e with e'|e'
 ·
  exact h.off e' h2
 have:=(h.tail.lt h2).2
 omega
theorem OR.on.shape {w:World} {B:Nat} {r:OR} (h:r.on w B):∃s c,r.v=.slice s r.n c:=by
 rcases Go.Joins.ownsRow_forms h with ⟨e,h0⟩|⟨g,cap,e⟩
 ·
  exact⟨_,_,by rw[e,h0]⟩
 exact⟨_,_,e⟩
def rB (k:Nat) (T:TypeId) (cs:List Value):OR:=⟨T,cs.length,.slice (some ⟨k,0,none⟩) 1 1,1,cs⟩
theorem jjz {w:World} {B k:Nat} {T:TypeId} {cs:List Value} (h:(rB k T cs).on w B):Blk w k cs.toArray T:=by
 rcases h.2 with ⟨e,_⟩|⟨g,cap,cur,e,hb,hg,h1,h2,h3,h4⟩
 ·
  cases e
 simp only[rB,Value.slice.injEq,Option.some.injEq,Addr.mk.injEq] at e
 obtain⟨⟨rfl,_⟩,_,rfl⟩:=e
 have e:cur=cs.toArray:=by
  apply Array.toList_inj.1
  have h4:cur.toList.take (1*cs.length)=cs:=h4
  have h3:cur.size=1*cs.length:=h3
  rw[<-h4,List.take_of_length_le (by rw[Array.length_toList,h3];exact Nat.le_refl _)]
 rw[<-e];exact hg
theorem jhq {w:World} {B k:Nat} {T:TypeId} {cs:List Value} (h:Blk w k cs.toArray T) (hB:B<=k):(rB k T cs).on w B :=
 ⟨by simp[rB],Or.inr ⟨k,1,cs.toArray,rfl,hB,h,Nat.le_refl _,by unfold maxLen;omega,by simp[rB],by simp[rB,List.take_of_length_le]⟩⟩
structure Rs (X:World) (B:Nat) (W:World) (R:List OR):Prop where
 l:Below B X W
 o:Owns W B R
 s:B<=W.heap.size
theorem Rs.start {X:World} {B:Nat} {R:List OR} (h:Owns X B R) (hB:B<=X.heap.size):Rs X B X R:=⟨Below.refl _ _,h,hB⟩
theorem Rs.nil (X:World):Rs X X.heap.size X []:=⟨Below.refl _ _,Owns.nil _ _,Nat.le_refl _⟩
theorem Rs.drew {X W:World} {B:Nat} {R:List OR} (h:Rs X B W R):Rs X B W.drew R:=⟨h.l.drew,h.o.same λ_ _=>rfl,h.s⟩
theorem Rs.blk {X W:World} {B:Nat} {R:List OR} (h:Rs X B W R) {n:Nat} {c:Array Value} {t:TypeId} (hb:Blk X n c t) (hn:n<B):Blk W n c t:=by
 unfold Blk;rw[h.l.block n hn];exact hb
theorem Rs.perm {X W:World} {B:Nat} {R S:List OR} (h:Rs X B W R) (hp:R.Perm S):Rs X B W S:=⟨h.l,h.o.perm hp,h.s⟩
theorem jgs {α:Type} (P S:List α) (r:α):(P++S++[r]).Perm (P++r :: S):=by
 rw[List.append_assoc]
 exact List.Perm.append_left P List.perm_append_comm
theorem j8v {α:Type} (P S:List α) (r:α):(P++r :: S).Perm (r :: (P++S)):=List.perm_middle
theorem Rs.later {X W W':World} {B:Nat} {R:List OR} (h:Rs X B W R) (hb:Below W.heap.size W W'):Rs X B W' R :=
 ⟨h.l.trans (hb.mono h.s),h.o.later hb,Nat.le_trans h.s hb.size⟩
theorem Rs.ins {X W W':World} {B:Nat} (P S:List OR) {r:OR} (h:Rs X B W (P++S)) (hb:Below W.heap.size W W') (hr:r.on W' W.heap.size):Rs X B W' (P++r :: S) :=
 ⟨h.l.trans (hb.mono h.s),(h.o.add hb (Owns.one hr) h.s).perm (jgs P S r),Nat.le_trans h.s hb.size⟩
theorem Rs.turn {X W W':World} {B:Nat} (P S:List OR) {r r':OR} (h:Rs X B W (P++r :: S)) (hg:W.grownBy W' r.v.ownBlock) (hr:r'.on W' B) (hn:∀g,r'.v.ownBlock=some g->r.v.ownBlock=some g\/W.heap.size<=g):Rs X B W' (P++r' :: S):=by
 have ho:=h.o.perm (j8v P S r)
 refine⟨h.l.grown hg h.s (λk e=>(ho.head.lt k e).1),(ho.turn hg hr hn).perm (j8v P S r').symm,Nat.le_trans h.s hg.size⟩
theorem Rs.less {X W:World} {B:Nat} (P S:List OR) {r:OR} (h:Rs X B W (P++r :: S)):Rs X B W (P++S):=⟨h.l,(h.o.perm (j8v P S r)).tail,h.s⟩
theorem Rs.at {X W:World} {B:Nat} (P S:List OR) {r:OR} (h:Rs X B W (P++r :: S)):r.on W B:=h.o.on r (by simp)
theorem Rs.box {X W:World} {B:Nat} (P S:List OR) {k:Nat} {T:TypeId} {cs:List Value} (h:Rs X B W (P++rB k T cs :: S)):Blk W k cs.toArray T:=jjz (h.at P S)
theorem rng0:Array.range 0=#[]:=by apply Array.toList_inj.1;simp
theorem rng1:Array.range 1=#[0]:=by apply Array.toList_inj.1;simp
theorem jgl {P:Program} {t e:TypeId} {i:TypeInfo} (hu:P.underlying t=some (.slice e)) (hi:P.info? e=some i) (ρ:Operand->Value) (o:Oper) (ho:o.op=.buildSlice t 0 #[]) (w:World):(execOp ρ o).run P w=.ok (.value (.slice (some ⟨w.heap.size,0,none⟩) 0 0)) (w.alloc (.cells #[] e)):=by
 simp[execOp,ho,Instr.buildSlice,run_underlying hu,sizeOf,typeInfo,zeroValue,hi,newRow,newVar,Instr.fill,rng0]
theorem j67 {P:Program} {t e:TypeId} {i:TypeInfo} (hu:P.underlying t=some (.slice e)) (hi:P.info? e=some i) (w:World) (ty:TypeId) (s x:Option Addr) (n c d:Nat) (h:n<=c):(Builtin.append_ #[t,t] ty #[.slice s n c,.slice x 0 d]).run P w=.ok (.slice s n c) w:=by
 cases x with
 | none=>cases s<;>simp[Builtin.append_,run_underlying hu,sizeOf,typeInfo,hi,Builtin.lenOf,Builtin.firstCells,storeCells,h]
 | some a =>
  have hl:=run_loadCells_list (P:=P) w a [] (by simp)
  simp only[List.length_nil] at hl
  cases s<;>simp[Builtin.append_,run_underlying hu,sizeOf,typeInfo,hi,Builtin.lenOf,Builtin.firstCells,hl,storeCells,h]
theorem jdi {P:Program} {t e:TypeId} {i:TypeInfo} {z:Value} (hu:P.underlying t=some (.slice e)) (hi:P.info? e=some i) (hz:i.zero=some z) (hn:i.size=1) (ρ:Operand->Value) (o:Oper) (x:Operand) (u:Value) (hc:u.cells=#[u]) (hv:ρ x=u) (ho:o.op=.buildSlice t 1 #[(0,x)]) (w:World):(execOp ρ o).run P w=.ok (.value (.slice (some ⟨w.heap.size,0,none⟩) 1 1)) (w.alloc (.cells #[u] e)):=by
 have hf:Instr.fill (λj=>some (j*i.size,i.size)) ((Array.range (1*i.size)).map (z.cells[· % z.cells.size]!)) ((#[(0,x)]:Array (Nat×Operand)).map λ(j,x)=>(j,ρ x)).toList=some #[u]:=by
  rw[hn]
  simp[hv,Instr.fill,hc,rng1]
 have hr:=run_buildSlice (P:=P) w t e 1 ((#[(0,x)]:Array (Nat×Operand)).map λ(j,x)=>(j,ρ x)) _ i z hu hi hz (by rw[hn];decide) (by rw[hn];decide) hf
 simp only[execOp,ho,Sem.run_bind,hr,Result.andThen_ok,Sem.run_pure]
section
variable {P:Program} {md:Region.Mode} {ops:Array Oper} {Q:Exit->Act->World->Prop} {S:World->Prop} {n n':Nat} {l l':Array Bool} {a a':Act} {w:World}
theorem j76 (h:∀(G:Nat->Array Bool->Act->World->Prop) (a0:Act),G=wpAnyH P md ops Q S->a0=a->G n l a0 w):wpAnyH P md ops Q S n l a w:=h _ _ rfl rfl
theorem j20 {G:Nat->Array Bool->Act->World->Prop} (hG:G=wpAnyH P md ops Q S) (h:G n' l' a' w) (hn:n=n') (hl:l=l') (ha:a=a'):wpAnyH P md ops Q S n l a w:=by
 subst hn hl ha;rw[<-hG];exact h
end
section
variable {X:World} {B:Nat} {ops:Array Oper} {o:Oper} {a:Act} {w:World} {K:Act->World->Prop} {Q:Exit->Act->World->Prop} {E:Prop}
theorem j2s (P S:List OR) (hR:Rs X B w (P++S)) (hg:o.guard=none) {d0:Option Nat} (hd:o.dst=d0) (t e:TypeId) {i:TypeInfo} (hu:Tryz.prog.underlying t=some (.slice e)) (hi:Tryz.prog.info? e=some i) (ho:o.op=.buildSlice t 0 #[]) (r:Value->OR) (sz:Nat) (hr:∀v,r v=⟨e,sz,v,0,[]⟩)
  (hK:∀k w',Rs X B w' (P++r (.slice (some ⟨k,0,none⟩) 0 0) :: S)->K (a.put d0 (.slice (some ⟨k,0,none⟩) 0 0)) w') :
  if Region.wanted o (yielded ops a.tmps)=true then Oper.wp Tryz.prog o a w K Q else E:=by
 refine j3r hg hd (jgl hu hi _ o ho w) (hK w.heap.size _ (hR.ins P S (j00 (Below.refl _ _) _) ?_))
 rw[hr]
 exact⟨by simp,Or.inr ⟨w.heap.size,0,#[],rfl,Nat.le_refl _,Blk.new w _ e,Nat.le_refl _,by unfold maxLen;omega,by simp,by simp⟩⟩
theorem j54 (P S:List OR) (hR:Rs X B w (P++S)) (hg:o.guard=none) {d0:Option Nat} (hd:o.dst=d0) (t e:TypeId) {i:TypeInfo} {z:Value} (hu:Tryz.prog.underlying t=some (.slice e)) (hi:Tryz.prog.info? e=some i) (hz:i.zero=some z) (hn:i.size=1) (x:Operand) (ho:o.op=.buildSlice t 1 #[(0,x)]) (u:Value) (hc:u.cells=#[u]) (hx:a.eval x=u)
  (hK:∀k w',Rs X B w' (P++rB k e [u] :: S)->K (a.put d0 (.slice (some ⟨k,0,none⟩) 1 1)) w') :
  if Region.wanted o (yielded ops a.tmps)=true then Oper.wp Tryz.prog o a w K Q else E :=
 j3r hg hd (jdi hu hi hz hn _ o x u hc hx ho w) (hK w.heap.size _ (hR.ins P S (j00 (Below.refl _ _) _) (jhq (Blk.new w _ e) (Nat.le_refl _))))
theorem jhh (P S:List OR) {r:OR} (hR:Rs X B w (P++r :: S)) (t ty:TypeId) {i:TypeInfo} {z:Value} (bytes:Nat)
  (hu:Tryz.prog.underlying t=some (.slice r.T)) (hi:Tryz.prog.info? r.T=some i) (hz:i.zero=some z) (hsize:i.size=r.k) (hby:i.bytes=bytes) (hzs:z.cells.size=r.k) (hsz:0<r.k)
  (xs:Option Addr) (m d:Nat) (news:List Value) (hl:news.length=m*r.k) (hnews:m=0\/∃ad,xs=some ad/\∀j u,news[j]?=some u->w.cell? (ad.add j)=some u) (h1:∀u∈news,u.oneCell'=true)
  (h63:r.n+m<=maxLen) (hbytes:(r.n+m)*bytes<=140737488355328) (N:Nat) (hN:r.n+m=N) (f:Value->OR) (hf:∀v,f v=⟨r.T,r.k,v,N,r.cs++news⟩) :
  ∃s' c' w',(Builtin.append_ #[t,t] ty #[r.v,.slice xs m d]).run Tryz.prog w=.ok (.slice s' N c') w'/\Rs X B w' (P++f (.slice s' N c') :: S):=by
 subst hN
 have hr:=hR.at P S
 rcases hnews with rfl|⟨ad,rfl,hnews⟩
 ·
  obtain⟨s',c',e'⟩:=hr.shape
  have hc:r.n<=c':=by
   rcases hr.2 with ⟨q,_⟩|⟨g,cap,cur,q,_,_,h,_⟩
   ·
    rw[e'] at q;simp only[Value.slice.injEq] at q;omega
   rw[e'] at q;simp only[Value.slice.injEq] at q;obtain⟨_,_,rfl⟩:=q;exact h
  have e0:news=[]:=List.eq_nil_of_length_eq_zero (by simpa using hl)
  have hrun:=j67 (P:=Tryz.prog) hu hi w ty s' xs r.n c' d hc
  rw[<-e'] at hrun
  have e1:f r.v=r:=by rw[hf,e0,List.append_nil,Nat.add_zero]
  refine⟨s',c',w,by rw[<-show r.v=.slice s' (r.n+0) c' from e'];exact hrun,?_⟩
  rw[<-show r.v=.slice s' (r.n+0) c' from e',e1];exact hR
 obtain⟨v',w',hrun,h2,h3,_,h5⟩:=run_append_own_at (P:=Tryz.prog) w B t ty r.T i z r.k bytes hu hi hz hsize hby hzs hsz r.v r.n r.cs hr ad m d news hl hnews h1 h63 hbytes hR.s
 have hO:(⟨r.T,r.k,v',r.n+m,r.cs++news⟩:OR).on w' B:=h2
 obtain⟨s',c',e'⟩:=hO.shape
 have e':v'=.slice s' (r.n+m) c':=e'
 subst e'
 refine⟨s',c',w',hrun,hR.turn P S h3 (by rw[hf];exact hO) ?_⟩
 rw[hf]
 intro g hg
 have hg:(Value.slice s' (r.n+m) c').ownBlock=some g:=hg
 rcases h5 with h5|h5
 ·
  left;rw[<-h5];exact hg
 right;rw[h5] at hg;cases hg;exact Nat.le_refl _
theorem j3k (P S:List OR) {r:OR} (hR:Rs X B w (P++r :: S)) (hg:o.guard=none) {d0:Option Nat} (hd:o.dst=d0) (s x:Operand) (t:TypeId) {i:TypeInfo} {z:Value} (bytes:Nat) (ho:o.op=.call {callee:=.builtin .append,args:=#[s,x],argTypes:=#[t,t]})
  (hu:Tryz.prog.underlying t=some (.slice r.T)) (hi:Tryz.prog.info? r.T=some i) (hz:i.zero=some z) (hsize:i.size=r.k) (hby:i.bytes=bytes) (hzs:z.cells.size=r.k) (hsz:0<r.k) (hs:a.eval s=r.v)
  (xs:Option Addr) (m d:Nat) (news:List Value) (hx:a.eval x=.slice xs m d) (hl:news.length=m*r.k) (hnews:m=0\/∃ad,xs=some ad/\∀j u,news[j]?=some u->w.cell? (ad.add j)=some u) (h1:∀u∈news,u.oneCell'=true)
  (h63:r.n+m<=maxLen) (hbytes:(r.n+m)*bytes<=140737488355328) (N:Nat) (hN:r.n+m=N) (f:Value->OR) (hf:∀v,f v=⟨r.T,r.k,v,N,r.cs++news⟩)
  (hK:∀s' c' w',Rs X B w' (P++f (.slice s' N c') :: S)->K (a.put d0 (.slice s' N c')) w') :
  if Region.wanted o (yielded ops a.tmps)=true then Oper.wp Tryz.prog o a w K Q else E:=by
 obtain⟨s',c',w',hrun,h⟩:=jhh P S hR t o.type bytes hu hi hz hsize hby hzs hsz xs m d news hl hnews h1 h63 hbytes N hN f hf
 have hrun2:(execOp a.eval o).run Tryz.prog w=.ok (.value (.slice s' N c')) w':=by simp[execOp,ho,resolve,invoke,builtin,hs,hx,hrun,Result.andThen]
 exact j3r hg hd hrun2 (hK s' c' w' h)
theorem j37 {rest:List Oper} (P S:List OR) {r:OR} (hR:Rs X B w (P++r :: S)) (hg:o.guard=none) (s x:Operand) (t:TypeId) {i:TypeInfo} {z:Value} (bytes:Nat) (ho:o.op=.call {callee:=.builtin .append,args:=#[s,x],argTypes:=#[t,t]})
  (hu:Tryz.prog.underlying t=some (.slice r.T)) (hi:Tryz.prog.info? r.T=some i) (hz:i.zero=some z) (hsize:i.size=r.k) (hby:i.bytes=bytes) (hzs:z.cells.size=r.k) (hsz:0<r.k) (hs:a.eval s=r.v)
  (xs:Option Addr) (m d:Nat) (news:List Value) (hx:a.eval x=.slice xs m d) (hl:news.length=m*r.k) (hnews:m=0\/∃ad,xs=some ad/\∀j u,news[j]?=some u->w.cell? (ad.add j)=some u) (h1:∀u∈news,u.oneCell'=true)
  (h63:r.n+m<=maxLen) (hbytes:(r.n+m)*bytes<=140737488355328) (N:Nat) (hN:r.n+m=N) (f:Value->OR) (hf:∀v,f v=⟨r.T,r.k,v,N,r.cs++news⟩)
  (hK:∀s' c' w',Rs X B w' (P++f (.slice s' N c') :: S)->wpList Tryz.prog ops Q rest (a.put o.dst (.slice s' N c')) w') :
  wpList Tryz.prog ops Q (o :: rest) a w:=by
 obtain⟨s',c',w',hrun,h⟩:=jhh P S hR t o.type bytes hu hi hz hsize hby hzs hsz xs m d news hl hnews h1 h63 hbytes N hN f hf
 refine wpList_plain hg λK hK2=>?_
 unfold Oper.wp
 simp[execOp,ho,resolve,invoke,builtin,hs,hx,hrun,Result.andThen]
 exact hK2 _ _ (hK s' c' w' h)
end
def rS (v:Value) (L:List ByteArray):OR:=⟨9,1,v,L.length,L.map Value.string⟩
def rI (v:Value) (L:List Int):OR:=⟨3,1,v,L.length,L.map (Value.int .i64)⟩
theorem j7g {w:World} {B:Nat} {v:Value} {L:List ByteArray} (h:(rS v L).on w B):OS w B v L:=h
theorem jcn {w:World} {B:Nat} {v:Value} {L:List Int} (h:(rI v L).on w B):OI w B v L:=h
theorem j43 (L:List ByteArray):∀u∈L.map Value.string,u.oneCell'=true:=λu hu=>by obtain⟨y,_,rfl⟩:=List.mem_map.1 hu;rfl
theorem j4r (L:List Int):∀u∈L.map (Value.int .i64),u.oneCell'=true:=λu hu=>by obtain⟨y,_,rfl⟩:=List.mem_map.1 hu;rfl
theorem srcS {p q:Nat} {w:World} {s:Option Addr} {L:List ByteArray} {m:Nat} (hm:L.length=m) (h:Strs p q w s L):m=0\/∃ad,s=some ad/\∀j u,(L.map Value.string)[j]?=some u->w.cell? (ad.add j)=some u:=by
 subst hm
 rcases h with rfl|⟨b,o,rfl,_,_,h3⟩
 ·
  exact Or.inl rfl
 refine Or.inr ⟨_,rfl,λj u hu=>?_⟩
 have hj:j<L.length:=by have:=(List.getElem?_eq_some_iff.1 hu).1;simpa using this
 rw[Go.WideShapes.add_plain,h3 j hj]
 rw[List.getElem?_map,List.getElem?_eq_getElem hj] at hu
 simp at hu
 simp[hj,hu]
theorem srcI {p q:Nat} {w:World} {s:Option Addr} {L:List Int} {m:Nat} (hm:L.length=m) (h:Nums p q w s L):m=0\/∃ad,s=some ad/\∀j u,(L.map (Value.int .i64))[j]?=some u->w.cell? (ad.add j)=some u:=by
 subst hm
 rcases h with rfl|⟨b,o,rfl,_,_,h3⟩
 ·
  exact Or.inl rfl
 refine Or.inr ⟨_,rfl,λj u hu=>?_⟩
 have hj:j<L.length:=by have:=(List.getElem?_eq_some_iff.1 hu).1;simpa using this
 rw[Go.WideShapes.add_plain,h3 j hj]
 rw[List.getElem?_map,List.getElem?_eq_getElem hj] at hu
 simp at hu
 simp[hj,hu]
theorem srcB {w:World} {k:Nat} {u:Value} {t:TypeId} (h:Blk w k #[u] t):1=0\/∃ad,some (⟨k,0,none⟩:Addr)=some ad/\∀j v,[u][j]?=some v->w.cell? (ad.add j)=some v:=by
 refine Or.inr ⟨_,rfl,λj v hv=>?_⟩
 have hj:j=0:=by have:=(List.getElem?_eq_some_iff.1 hv).1;simp at this;exact this
 subst hj
 simp at hv
 subst hv
 rw[Go.WideShapes.add_plain]
 exact h.cell 0
theorem jen (w:World):(rS (.slice (some ⟨w.heap.size,0,none⟩) 0 0) []).on (w.alloc (.cells #[] 9)) w.heap.size:=OS.empty (Blk.new w #[] 9)
theorem jdt (w:World):(rI (.slice (some ⟨w.heap.size,0,none⟩) 0 0) []).on (w.alloc (.cells #[] 3)) w.heap.size:=OI.empty (Blk.new w #[] 3)
end
section
open Go.RowKit
theorem OS.tw {p q:Nat} {w w':World} {B:Nat} {v:Value} {L:List ByteArray} (h:OS w B v L) (ht:Tw p q w w') (hp:p<B) (hq:q<B):OS w' B v L :=
 j7g (OR.on.same (r:=rS v L) h λg hg=>by have:=h.lt g hg;exact ht.block g this.2 (by omega) (by omega))
theorem OS.strs2 {p q:Nat} {w:World} {B:Nat} {s:Option Addr} {c m:Nat} {L:List ByteArray} (h:OS w B (.slice s m c) L) (hm:L.length=m) (hp:p<B) (hq:q<B):Strs p q w s L:=by subst hm;exact h.strs hp hq
theorem OI.nums2 {p q:Nat} {w:World} {B:Nat} {s:Option Addr} {c m:Nat} {L:List Int} (h:OI w B (.slice s m c) L) (hm:L.length=m) (hp:p<B) (hq:q<B):Nums p q w s L:=by
 subst hm
 rcases h.els with h0|⟨b,o,rfl,h1,h2,h3,_⟩
 ·
  exact Or.inl h0
 refine Or.inr ⟨b,o,rfl,h2,⟨by omega,by omega⟩,λj hj=>?_⟩
 obtain⟨cs,_,e2,e3⟩:=h3 j (L[j]?.getD 0) (by simp[hj])
 subst e3
 simpa using e2 0 _ rfl
section
variable {G:Gd} {w w':World} {top:Int} {env:Env} {md:Md} {last:Int} {K:KM} {sn sk sw:Option Addr} {cn ck cw:Nat} {a b c d e:Value} {fn:Bool}
def lz (G:Gd) (top:Int) (a b c d e:Value) (fn:Bool) (last:Int):Array Value :=
 #[.slice G.s1 G.A.length G.c1,.slice G.s2 G.B.length G.c2,.slice G.s3 G.C.length G.c3,.slice G.n1 G.T.nodes.length G.d1,.slice G.n2 G.T.tops.length G.d2,.int .i64 top,a,b,c,d,e,.bool fn,.int .i64 last,.int .i64 0,.int .i64 (-1),.slice (some ⟨G.kb,0,none⟩) G.T.nodes.length G.dk]
structure Lz (G:Gd) (w:World) (top:Int) (a b c d e:Value) (fn:Bool) (last:Int) (K:KM):Prop where
 bx:Blk w G.p (lz G top a b c d e fn last) 55
 kl:G.kb<w.heap.size
 kc:∀j,j<G.T.nodes.length->w.cell? ⟨G.kb,j,none⟩=some (.int .i64 (K j))
 kf:∀j,w.frozen? ⟨G.kb,j,none⟩=false
 bl:Below G.w0.heap.size G.w0 w
theorem Lv.z (h:Lv G w top env md last K sn cn sk ck sw cw):Lz G w top (.slice sn env.length cn) (.slice sk env.length ck) (.bool md.each) (.bool (md.each || md.hears)) (.slice sw md.wth.length cw) md.fn last K:=⟨h.bx,h.kl,h.kc,h.kf,h.bl⟩
theorem Lz.lv {m:Nat} (h:Lz G w top (.slice sn m cn) (.slice sk m ck) (.bool md.each) (.bool (md.each || md.hears)) (.slice sw md.wth.length cw) md.fn last K) (hm:env.length=m) (h1:Strs G.p G.kb w sn (env.map (·.1))) (h2:Nums G.p G.kb w sk (env.map (·.2))) (h3:Strs G.p G.kb w sw md.wth):Lv G w top env md last K sn cn sk ck sw cw:=by
 subst hm
 exact⟨h.bx,h1,h2,h3,h.kl,h.kc,h.kf,h.bl⟩
theorem Lz.later (h:Lz G w top a b c d e fn last K) (hb:Below w.heap.size w w'):Lz G w' top a b c d e fn last K :=
 ⟨h.bx.later hb,Nat.lt_of_lt_of_le h.kl hb.size,λj hj=>(hb.cell (p:=⟨G.kb,j,none⟩) h.kl).trans (h.kc j hj),λj=>(hb.frozen (p:=⟨G.kb,j,none⟩) h.kl).trans (h.kf j),j01 h.bl hb⟩
theorem Lz.put (hG:G.Ok) (h:Lz G w top a b c d e fn last K) (o:Nat) (v:Value) {a' b' c' d' e':Value} (hs:(lz G top a b c d e fn last).setIfInBounds o v=lz G top a' b' c' d' e' fn last):Lz G (w.setCell ⟨G.p,o,none⟩ v) top a' b' c' d' e' fn last K:=by
 have e:¬G.p=G.kb:=λq=>hG.ne q.symm
 refine⟨?_,by simpa using h.kl,λj hj=>?_,λj=>(World.frozen?_setCell _ _ _ _).trans (h.kf j),h.bl.setCell hG.p _⟩
 ·
  have:=h.bx.set o v
  rw[hs] at this
  exact this
 refine(World.cell?_setCell_other _ _ _ _ (λq=>?_)).trans (h.kc j hj)
 simp at q<;>exact e q.1.symm
theorem Lz.set6 (hG:G.Ok) (h:Lz G w top a b c d e fn last K) (v:Value):Lz G (w.setCell ⟨G.p,6,none⟩ v) top v b c d e fn last K:=h.put hG 6 v rfl
theorem Lz.set7 (hG:G.Ok) (h:Lz G w top a b c d e fn last K) (v:Value):Lz G (w.setCell ⟨G.p,7,none⟩ v) top a v c d e fn last K:=h.put hG 7 v rfl
theorem Lz.set8 (hG:G.Ok) (h:Lz G w top a b c d e fn last K) (v:Value):Lz G (w.setCell ⟨G.p,8,none⟩ v) top a b v d e fn last K:=h.put hG 8 v rfl
theorem Lz.set9 (hG:G.Ok) (h:Lz G w top a b c d e fn last K) (v:Value):Lz G (w.setCell ⟨G.p,9,none⟩ v) top a b c v e fn last K:=h.put hG 9 v rfl
theorem Lz.set10 (hG:G.Ok) (h:Lz G w top a b c d e fn last K) (v:Value):Lz G (w.setCell ⟨G.p,10,none⟩ v) top a b c d v fn last K:=h.put hG 10 v rfl
def j3b (G:Gd) (w:World) (top:Int) (md:Md) (last:Int) (r:Ck (Env×KM)) (e:Ending) (w':World):Prop :=
 (e=.returned (.tuple #[])/\match r with
 | .error (c,n)=>Dd G w' c n
 | .ok (env',K')=>Liv G w' top env' md last K')/\Tw G.p G.kb w w'
theorem j3b.bad {c n:Int} {r:Ck (Env×KM)} (hr:r=.error (c,n)) (hd:Dd G w' c n) (ht:Tw G.p G.kb w w'):j3b G w top md last r (.returned (.tuple #[])) w':=by subst hr;exact⟨⟨rfl,hd⟩,ht⟩
theorem j3b.good {env':Env} {K':KM} {r:Ck (Env×KM)} (hr:r=.ok (env',K')) (hl:Liv G w' top env' md last K') (ht:Tw G.p G.kb w w'):j3b G w top md last r (.returned (.tuple #[])) w':=by subst hr;exact⟨⟨rfl,hl⟩,ht⟩
def ckLt (D:Int->ByteArray->Int) (T:Tre) (ah:List Int) (md:Md) (env:Env) (N:Nat) (K:KM) (i:Int):Ck (Env×KM) :=
 match ckE D T ah md env N K (kid (nd T i) 0) with
 | .error e=> .error e
 | .ok (k,K1)=>if (look env (nd T i).text).isSome=true then .error (2,i) else .ok (env++[((nd T i).text,k)],K1)
def j2f (env:Env) (r:Ck KM):Ck (Env×KM):=match r with | .error e=> .error e | .ok K=> .ok (env,K)
theorem j2z.s {r:Ck KM} {e:Ending} (h:j2z G w top env md last sn cn sk ck sw cw r e w'):j3b G w top md last (j2f env r) e w':=by
 obtain⟨⟨h1,h2⟩,h3⟩:=h
 refine⟨⟨h1,?_⟩,h3⟩
 cases r with
 | error q=>exact h2
 | ok K'=>exact⟨_,_,_,_,_,_,h2⟩
theorem j2n.s {r:Ck KM} {e:Ending} (h:j2n G w top env md last r e w'):j3b G w top md last (j2f env r) e w':=by
 obtain⟨⟨h1,h2⟩,h3⟩:=h
 refine⟨⟨h1,?_⟩,h3⟩
 cases r with
 | error q=>exact h2
 | ok K'=>exact h2
end
end
section
open Go.RowKit
section
variable (D:Int->ByteArray->Int) (T:Tre)
def ckX (ah:List Int) (md:Md) (env:Env) (N:Nat) (K:KM) (i:Int):Ck KM :=
 match ckE D T ah md env N K (kid (nd T i) 0) with
 | .error e=> .error e
 | .ok (k,K1)=> .ok K1
def ckEa (K:KM) (i:Int) (g:List ByteArray->KM->Ck KM):Ck KM :=
 match j24 D T ((nd T (kid (nd T i) 0)).kids++(nd T (kid (nd T i) 1)).kids) [] with
 | .error e=> .error e
 | .ok all=>g (all.take (nd T (kid (nd T i) 0)).kids.length) K
def ckHe (env:Env) (K:KM) (i:Int) (g:Env->KM->Ck KM):Ck KM :=
 if D 3 (nd T i).text=0 then .error (3,i)
 else if (look env (nd T (kid (nd T i) 0)).text).isSome=true then .error (2,kid (nd T i) 0)
 else g (env++[((nd T (kid (nd T i) 0)).text,D 3 (nd T i).text)]) K
def ckS' (ah:List Int) (N f:Nat) (md:Md) (env:Env) (K:KM) (i:Int):Ck (Env×KM) :=
 if (nd T i).kind=12 then ckLt D T ah md env N K i
 else if (nd T i).kind=13 then j2f env (ckSt D T ah md env N K i)
 else if (nd T i).kind=14\/(nd T i).kind=23 then j2f env (ckP D T ah md env N K i 1)
 else if (nd T i).kind=15 then j2f env (ckP D T ah md env N K i 2)
 else if (nd T i).kind=19 then j2f env (ckP D T ah md env N K i 3)
 else if (nd T i).kind=16 then j2f env (ckBr D T ah md env N K i 4 λb K=>ckSs (ckS D T ah N f md) false (nd T b).kids env K)
 else if (nd T i).kind=17 then j2f env (ckBr D T ah md env N K i 1 λb K=>ckSs (ckS D T ah N f md) false (nd T b).kids env K)
 else if (nd T i).kind=18 then j2f env (ckEa D T K i λwth K=>ckSs (ckS D T ah N f {md with each:=true,wth:=wth}) false (nd T (kid (nd T i) 2)).kids env K)
 else if (nd T i).kind=20 then j2f env (ckHe D T env K i λenv K=>ckSs (ckS D T ah N f {md with hears:=true}) false (nd T (kid (nd T i) 1)).kids env K)
 else if (nd T i).kind=21 then j2f env (j18 D T (ckE D T ah md env N) (nd T i).kids [] K)
 else if (nd T i).kind=22 then .ok (env,K)
 else if (nd T i).kind=24 then (if D 1 (nd T i).text=0 then .error (3,i) else .ok (env,K))
 else j2f env (ckX D T ah md env N K i)
theorem j4n (ah:List Int) (N f:Nat) (md:Md) (env:Env) (K:KM) (i:Int) (lst:Bool):ckS D T ah N (f+1) md env K i lst=if stands md (nd T i).kind lst=false then .error (5,i) else ckS' D T ah N f md env K i:=by
 rw[ckS]
 by_cases hs:stands md (nd T i).kind lst=false
 ·
  rw[if_pos hs,if_pos hs]
 rw[if_neg hs,if_neg hs]
 unfold ckS' ckP ckBr ckSt ckX ckLt j2f ckEa ckHe
 generalize (nd T i).kind=k
 by_cases h18:k=18
 ·
  subst h18
  simp only[Int.reduceEq,if_true,if_false,or_self]
  cases j24 D T ((nd T (kid (nd T i) 0)).kids++(nd T (kid (nd T i) 1)).kids) []<;>rfl
 by_cases h20:k=20
 ·
  subst h20
  simp only[Int.reduceEq,if_true,if_false,or_self]
  split
  ·
   rfl
  split<;>rfl
 by_cases h21:k=21
 ·
  subst h21
  simp only[Int.reduceEq,if_true,if_false,or_self]
  cases j18 D T (ckE D T ah md env N) (nd T i).kids [] K<;>rfl
 by_cases h22:k=22
 ·
  subst h22
  simp only[Int.reduceEq,if_true,if_false,or_self]
 by_cases h24:k=24
 ·
  subst h24
  simp only[Int.reduceEq,if_true,if_false,or_self]
 simp only[h18,h20,h21,h22,h24,if_false]
 cases ckE D T ah md env N K (kid (nd T i) 0) with
 | error e=>simp
 | ok q =>
  obtain⟨c,K1⟩:=q
  simp only
  by_cases h12:k=12
  ·
   simp only[h12,if_true]
  by_cases h13:k=13
  ·
   subst h13
   simp only[Int.reduceEq,if_true,if_false,or_self]
   cases look env (nd T i).text with
   | none=>rfl
   | some k'=>simp only;split<;>rfl
  by_cases h14:k=14
  ·
   subst h14
   simp only[Int.reduceEq,if_true,if_false,or_self,or_false]
   cases ckTo i (D 1 (nd T i).text) c (inL (nd T i).text md.wth)<;>rfl
  by_cases h23:k=23
  ·
   subst h23
   simp only[Int.reduceEq,if_true,if_false,or_self,or_true]
   cases ckTo i (D 1 (nd T i).text) c true<;>rfl
  by_cases h15:k=15
  ·
   subst h15
   simp only[Int.reduceEq,if_true,if_false,or_self,or_true]
   cases ckTo i (D 2 (nd T i).text) c true<;>rfl
  by_cases h19:k=19
  ·
   subst h19
   simp only[Int.reduceEq,if_true,if_false,or_self,or_true]
   cases ckTo i (D 3 (nd T i).text) c true<;>rfl
  by_cases h16:k=16
  ·
   subst h16
   simp only[Int.reduceEq,if_true,if_false,or_self,or_true,or_false,true_or]
   split
   ·
    cases ckBs (λb K=>ckSs (ckS D T ah N f md) false (nd T b).kids env K) (nd T i).kids.tail K1<;>rfl
   rfl
  by_cases h17:k=17
  ·
   subst h17
   simp only[Int.reduceEq,if_true,if_false,or_self,or_true,or_false,true_or]
   split
   ·
    cases ckBs (λb K=>ckSs (ckS D T ah N f md) false (nd T b).kids env K) (nd T i).kids.tail K1<;>rfl
   rfl
  simp only[h12,h13,h14,h15,h16,h17,h19,h23,if_false,or_self]
theorem jhu {ah:List Int} {N f:Nat} {md:Md} {env:Env} {K:KM} {i:Int} {lst:Bool} {env':Env} {K':KM} (h:ckS D T ah N f md env K i lst=.ok (env',K')):env'.length<=env.length+1:=by
 cases f with
 | zero=>rw[ckS] at h;cases h
 | succ f =>
  rw[j4n] at h
  have hk:∀{r:Ck KM},j2f env r=.ok (env',K')->env'.length<=env.length+1:=by
   intro r hr
   cases r with
   | error e=>cases hr
   | ok q=>cases hr;omega
  split at h
  ·
   cases h
  unfold ckS' at h
  by_cases h12:(nd T i).kind=12
  ·
   rw[if_pos h12] at h
   unfold ckLt at h
   cases hc:ckE D T ah md env N K (kid (nd T i) 0) with
   | error e=>rw[hc] at h;cases h
   | ok q =>
    obtain⟨k,K1⟩:=q
    rw[hc] at h
    simp only at h
    by_cases hl:(look env (nd T i).text).isSome=true
    ·
     rw[if_pos hl] at h;cases h
    rw[if_neg hl] at h;cases h;simp
  rw[if_neg h12] at h
  generalize (nd T i).kind=kk at h
  by_cases h1:kk=13
  ·
   rw[if_pos h1] at h;exact hk h
  rw[if_neg h1] at h
  by_cases h1:kk=14\/kk=23
  ·
   rw[if_pos h1] at h;exact hk h
  rw[if_neg h1] at h
  by_cases h1:kk=15
  ·
   rw[if_pos h1] at h;exact hk h
  rw[if_neg h1] at h
  by_cases h1:kk=19
  ·
   rw[if_pos h1] at h;exact hk h
  rw[if_neg h1] at h
  by_cases h1:kk=16
  ·
   rw[if_pos h1] at h;exact hk h
  rw[if_neg h1] at h
  by_cases h1:kk=17
  ·
   rw[if_pos h1] at h;exact hk h
  rw[if_neg h1] at h
  by_cases h1:kk=18
  ·
   rw[if_pos h1] at h;exact hk h
  rw[if_neg h1] at h
  by_cases h1:kk=20
  ·
   rw[if_pos h1] at h;exact hk h
  rw[if_neg h1] at h
  by_cases h1:kk=21
  ·
   rw[if_pos h1] at h;exact hk h
  rw[if_neg h1] at h
  by_cases h1:kk=22
  ·
   rw[if_pos h1] at h;cases h;omega
  rw[if_neg h1] at h
  by_cases h1:kk=24
  ·
   rw[if_pos h1] at h
   split at h
   ·
    cases h
   cases h;omega
  rw[if_neg h1] at h
  exact hk h
end
end
section
open Go.RowKit
section
variable {G:Gd} {w w':World} {top:Int} {env:Env} {md:Md} {last:Int} {K:KM} {sn sk sw:Option Addr} {cn ck cw:Nat}
theorem Lv.hear (hG:G.Ok) (h:Lv G w top env md last K sn cn sk ck sw cw):Lv G (w.setCell ⟨G.p,9,none⟩ (.bool true)) top env {md with hears:=true} last K sn cn sk ck sw cw:=by
 have ht:=Tw.set G.p G.kb w 9 (.bool true)
 refine(Lz.lv (m:=env.length) ?_ rfl (h.n.two ht) (h.k.two ht) (h.wl.two ht))
 have:=h.z.set9 hG (.bool true)
 simpa using this
theorem Lv.unhear (hG:G.Ok) (he:md.each=false) (hh:md.hears=false) (h:Lv G w top env {md with hears:=true} last K sn cn sk ck sw cw):Lv G (w.setCell ⟨G.p,9,none⟩ (.bool false)) top env md last K sn cn sk ck sw cw:=by
 have ht:=Tw.set G.p G.kb w 9 (.bool false)
 refine(Lz.lv (m:=env.length) ?_ rfl (h.n.two ht) (h.k.two ht) (h.wl.two ht))
 have:=h.z.set9 hG (.bool false)
 simpa[he,hh] using this
theorem Strs.one {p q k:Nat} {x:ByteArray} (h:Blk w k #[.string x] 9) (hp:¬k=p) (hq:¬k=q):Strs p q w (some ⟨k,0,none⟩) [x]:=by
 refine Or.inr ⟨k,0,rfl,h.lt,⟨hp,hq⟩,λj hj=>?_⟩
 have hj:j=0:=by simpa using hj
 subst hj
 exact(h.cell 0).trans rfl
theorem Nums.one {p q k:Nat} {x:Int} (h:Blk w k #[.int .i64 x] 3) (hp:¬k=p) (hq:¬k=q):Nums p q w (some ⟨k,0,none⟩) [x]:=by
 refine Or.inr ⟨k,0,rfl,h.lt,⟨hp,hq⟩,λj hj=>?_⟩
 have hj:j=0:=by simpa using hj
 subst hj
 exact(h.cell 0).trans rfl
theorem jh3 (hG:G.Ok) {i:Nat} {n:Nd} (hv:VN G.T i n) {a:Nat} {an:Nd} (hx0:n.kids[0]?=some (a:Int)) (hva:VN G.T a an) {b:Nat} (hx1:n.kids[1]?=some (b:Int)) (henv:env.length<=1048576) (he:md.each=false) (hh:md.hears=false) {g:Env->KM->Ck KM}
  (hB:∀(s1 s2:Option Addr) (c1 c2:Nat) (k:Int) (w:World),Strs G.p G.kb w s1 [an.text]->Nums G.p G.kb w s2 [k]->Lv G w top env {md with hears:=true} last K sn cn sk ck sw cw->
   Calls Tryz.prog 54 #[.pointer (some ⟨G.p,0,none⟩),.int .i64 (b:Int),.slice s1 1 c1,.slice s2 1 c2] w λe w'=>j2n G w top env {md with hears:=true} last (g (env++[(an.text,k)]) K) e w')
  (h:Lv G w top env md last K sn cn sk ck sw cw) :
  Calls Tryz.prog 93 #[.pointer (some ⟨G.p,0,none⟩),.int .i64 (i:Int)] w λe w'=>j2n G w top env md last (ckHe (Dg G) G.T env K (i:Int) g) e w':=by
 have HB:Hid (ckHe (Dg G) G.T env K (i:Int) g=if Dg G 3 n.text=0 then .error (3,(i:Int)) else if (look env an.text).isSome=true then .error (2,(a:Int)) else g (env++[(an.text,Dg G 3 n.text)]) K):=by
  show _=_
  unfold ckHe
  rw[j0j hv.at_,show kid n 0=(a:Int) by simp[kid,hx0],j0j hva.at_]
 obtain⟨nb,no,s9,c9,en1,hnb,e0,e1,e2,e3,ekids⟩:=hG.node hv.at_
 obtain⟨nb2,no2,s92,c92,en2,_,f0,f1,_,_,_⟩:=hG.node hva.at_
 obtain⟨fb,fo,rfl,_,hfb,pp0⟩:=j05 ekids hx0
 obtain⟨fb2,fo2,ef,_,_,pp1⟩:=j05 ekids hx1
 obtain⟨rfl,rfl⟩:nb2=nb/\no2=no:=by rw[en1] at en2;cases en2;exact⟨rfl,rfl⟩
 obtain⟨rfl,rfl⟩:fb2=fb/\fo2=fo:=by cases ef;exact⟨rfl,rfl⟩
 have hiN:i<G.T.nodes.length:=(List.getElem?_eq_some_iff.1 hv.at_).1
 have haN:a<G.T.nodes.length:=(List.getElem?_eq_some_iff.1 hva.at_).1
 have hnl:G.T.nodes.length<=1048576:=hG.k.1.1
 have hkl:1<n.kids.length:=(List.getElem?_eq_some_iff.1 hx1).1
 have x3:w.cell? ⟨G.p,3,none⟩=some (.slice (some ⟨nb2,no2,none⟩) G.T.nodes.length G.d1):=by rw[<-en1];exact(h.bx.cell 3).trans rfl
 have q0:=(h.bl.cell (p:=⟨nb2,no2+i*4,none⟩) hnb).trans e0
 have q1:=(h.bl.cell (p:=⟨nb2,no2+i*4+1,none⟩) hnb).trans e1
 have q2:=(h.bl.cell (p:=⟨nb2,no2+i*4+2,none⟩) hnb).trans e2
 have q3:=(h.bl.cell (p:=⟨nb2,no2+i*4+3,none⟩) hnb).trans e3
 rw[Nat.add_zero] at pp0
 have iI:(i:Int)<(G.T.nodes.length:Int):=by omega
 have aI:(a:Int)<(G.T.nodes.length:Int):=by omega
 have l0I:(0:Int)<(n.kids.length:Int):=by omega
 have l1I:(1:Int)<(n.kids.length:Int):=by omega
 have bz:Hid (Below w.heap.size w (w.alloc (.cells #[.int .i64 n.kind,.string n.text,.int .i64 n.num,.slice (some ⟨fb2,fo2,none⟩) n.kids.length c9] 73))):=j00 (Below.refl _ _) _
 have kk5:=Blk.new w #[.int .i64 n.kind,.string n.text,.int .i64 n.num,.slice (some ⟨fb2,fo2,none⟩) n.kids.length c9] 73
 have H1:Hid (Lv G (w.alloc (.cells #[.int .i64 n.kind,.string n.text,.int .i64 n.num,.slice (some ⟨fb2,fo2,none⟩) n.kids.length c9] 73)) top env md last K sn cn sk ck sw cw):=h.later bz.out
 have hk5p:¬w.heap.size=G.p:=by have:=h.bx.lt;omega
 have hk5k:¬w.heap.size=G.kb:=by have:=h.kl;omega
 have HP0:Hid (G.w0.cell? ⟨fb2,fo2,none⟩=some (.int .i64 (a:Int))):=pp0
 have HP1:Hid (G.w0.cell? ⟨fb2,fo2+1,none⟩=some (.int .i64 (b:Int))):=pp1
 have HF1:Hid (G.w0.cell? ⟨nb2,no2+a*4+1,none⟩=some (.string an.text)):=f1
 have HEN:Hid (G.n1=some ⟨nb2,no2,none⟩):=en1
 have HBL:=Hid.mk' hB
 clear h e0 e1 e2 e3 f0 f1 ekids hv hva hx0 hx1 pp0 pp1 hB en1 en2 ef;obtain⟨z0,z1,z2,z3,z4⟩:=Blk.four' kk5
 go_enter Tryz.func93,Tryz.ntmps93
 go_wp2_with fail;refine(j40 hG H1.out 3 n.text).mono ?_
 rintro e w2 ⟨rfl,hb2⟩
 have H2:Hid (Lv G w2 top env md last K sn cn sk ck sw cw):=H1.out.later hb2
 have T2:Hid (Tw G.p G.kb w w2):=(Tw.of bz.out).trans (Tw.of hb2)
 have K52:Hid (Blk w2 w.heap.size #[.int .i64 n.kind,.string n.text,.int .i64 n.num,.slice (some ⟨fb2,fo2,none⟩) n.kids.length c9] 73):=kk5.later hb2
 obtain⟨dk,hdk⟩:∃k,Hid (Dg G 3 n.text=k):=⟨_,rfl⟩
 rw[show dkL (j19 G.A G.B G.C 3) n.text=dk from hdk.out]
 rw[hdk.out] at HB
 clear hb2 z0 z1 z2 z3 z4 q0 q1 q2 q3 kk5 bz H1 x3;by_cases h0:dk=0
 ·
  subst h0
  have hEr:Hid (ckHe (Dg G) G.T env K (i:Int) g=.error (3,(i:Int))):=by rw[HB.out];rfl
  go_wp2_with fail;refine(j0f hG H2.out 3 (i:Int) (by omega)).mono ?_
  rintro e w4 ⟨rfl,hd,ht⟩
  go_wp2_with fail;refine bq (.tuple #[]) ?_
  exact j2n.bad hEr.out hd (T2.out.trans ht)
 have t0:(dk ==0)=false:=by simp[h0]
 have HB2:Hid (ckHe (Dg G) G.T env K (i:Int) g=if (look env an.text).isSome=true then .error (2,(a:Int)) else g (env++[(an.text,dk)]) K):=by rw[HB.out,if_neg h0];rfl
 clear HB h0;obtain⟨z0,z1,z2,z3,z4⟩:=Blk.four' K52.out
 have x3:w2.cell? ⟨G.p,3,none⟩=some (.slice (some ⟨nb2,no2,none⟩) G.T.nodes.length G.d1):=by rw[<-HEN.out];exact(H2.out.bx.cell 3).trans rfl
 have q0:=(H2.out.bl.cell (p:=⟨fb2,fo2,none⟩) hfb).trans HP0.out
 have q1:=(H2.out.bl.cell (p:=⟨nb2,no2+a*4+1,none⟩) hnb).trans HF1.out
 go_wp2_with fail;go_quiet (fail)
 rename_i nq
 have H3:Hid (Lv G (w2.drewN nq) top env md last K sn cn sk ck sw cw):=H2.out.later (j06 (Below.refl _ _) _)
 have T3:Hid (Tw G.p G.kb w (w2.drewN nq)):=T2.out.trans (Tw.of (j06 (Below.refl _ _) _))
 have K53:=Hid.mk' (K52.out.later (j06 (Below.refl _ _) nq))
 generalize w2.drewN nq=X at H3 T3 K53 ⊢
 clear z0 z1 z2 z3 z4 q0 q1 x3 T2 K52 H2;obtain⟨z0,z1,z2,z3,z4⟩:=Blk.four' K53.out
 have q0:=(H3.out.bl.cell (p:=⟨fb2,fo2,none⟩) hfb).trans HP0.out
 go_wp2_with fail;refine(j6b hG H3.out an.text henv).mono ?_
 rintro e w4 ⟨⟨r,rfl,hr⟩,hq⟩
 rw[hq]
 clear hq w4;rcases hr with ⟨rfl,hlk⟩|⟨jj,kk,rfl,hat,hlk⟩
 ·
  have HB3:Hid (ckHe (Dg G) G.T env K (i:Int) g=g (env++[(an.text,dk)]) K):=by rw[HB2.out,hlk];rfl
  have x9:X.cell? ⟨G.p,9,none⟩=some (.bool (md.each || md.hears)):=(H3.out.bx.cell 9).trans rfl
  have y9:=H3.out.bx.frozen 9
  have H9:=Hid.mk' (H3.out.hear hG)
  have K59:=Hid.mk' (Blk.tw K53.out (Tw.set G.p G.kb X 9 (.bool true)) hk5p hk5k)
  have T9:=Hid.mk' (T3.out.trans (Tw.set G.p G.kb X 9 (.bool true)))
  obtain⟨X9,hX9⟩:∃Y,X.setCell ⟨G.p,9,none⟩ (.bool true)=Y:=⟨_,rfl⟩
  rw[hX9] at H9 K59 T9
  clear z0 z1 z2 z3 z4 q0 HB2 hlk T3 K53 H3;obtain⟨z0,z1,z2,z3,z4⟩:=Blk.four' K59.out
  have q1:=(H9.out.bl.cell (p:=⟨fb2,fo2+1,none⟩) hfb).trans HP1.out
  have bb:Below X9.heap.size X9 ((X9.alloc (.cells #[.string an.text] 9)).alloc (.cells #[.int .i64 dk] 3)):=j00 (j00 (Below.refl _ _) _) _
  have hne:¬X9.heap.size=G.p/\¬X9.heap.size=G.kb/\¬X9.heap.size+1=G.p/\¬X9.heap.size+1=G.kb:=by
   have:=H9.out.bx.lt
   have:=H9.out.kl
   omega
  have HS1:=Hid.mk' (Strs.one (p:=G.p) (q:=G.kb) ((Blk.new X9 #[.string an.text] 9).alloc (.cells #[.int .i64 dk] 3)) hne.1 hne.2.1)
  have HS2:=Hid.mk' (Nums.one (p:=G.p) (q:=G.kb) (Blk.new' (n:=X9.heap.size+1) (X9.alloc (.cells #[.string an.text] 9)) #[.int .i64 dk] 3 (by simp)) hne.2.2.1 hne.2.2.2)
  have HLb:=Hid.mk' (H9.out.later bb)
  have Tb:=Hid.mk' (T9.out.trans (Tw.of bb))
  clear bb hne H9 T9;go_wp2_with fail;refine(HBL.out _ _ _ _ dk _ HS1.out HS2.out HLb.out).mono ?_
  rintro e w5 hS5
  have T5:Hid (Tw G.p G.kb w w5):=Tb.out.trans hS5.2
  obtain⟨⟨rfl,hm5⟩,_⟩:=hS5
  have hcell:(∃u,w5.cell? ⟨G.p,9,none⟩=some u)/\w5.frozen? ⟨G.p,9,none⟩=false:=by
   cases hr:g (env++[(an.text,dk)]) K with
   | error q=>obtain⟨c,nq⟩:=q;rw[hr] at hm5;exact Dd.cell ⟨c,nq,hm5⟩ (by decide)
   | ok Kn=>rw[hr] at hm5;obtain⟨_,_,_,_,_,_,hl⟩:=hm5;exact⟨⟨_,(hl.bx.cell 9).trans rfl⟩,hl.bx.frozen 9⟩
  obtain⟨⟨u9,x9'⟩,y9'⟩:=hcell
  have HM5:=Hid.mk' hm5
  clear hm5 z0 z1 z2 z3 z4 q1 HS1 HS2 HLb Tb hX9 x9 y9;go_wp2_with fail;refine bq (.tuple #[]) ?_
  have ht:=T5.out.trans (Tw.set G.p G.kb w5 9 (.bool false))
  have hm5:=HM5.out
  cases hr:g (env++[(an.text,dk)]) K with
  | error q=>obtain⟨c,nq⟩:=q;rw[hr] at hm5;exact j2n.bad (by rw[HB3.out,hr]) (Dd.set hG hm5 (by decide) (by decide) (by decide) _) ht
  | ok Kn=>rw[hr] at hm5;obtain⟨_,_,_,_,_,_,hl⟩:=hm5;exact j2n.good (by rw[HB3.out,hr]) ⟨_,_,_,_,_,_,hl.unhear hG he hh⟩ ht
 have jn:decide ((jj:Int) ≥ 0)=true:=by simp
 have hEr:Hid (ckHe (Dg G) G.T env K (i:Int) g=.error (2,(a:Int))):=by rw[HB2.out,hlk];rfl
 clear hlk hat;go_wp2_with fail;refine(j0f hG H3.out 2 (a:Int) (by omega)).mono ?_
 rintro e w4 ⟨rfl,hd,ht⟩
 go_wp2_with fail;refine bq (.tuple #[]) ?_
 exact j2n.bad hEr.out hd (T3.out.trans ht)
end
end
section
open Go.RowKit Go.Maps Go.WideMaps
theorem k2 {X W:World} {B:Nat} {R:List OR} {n0:Nat} {c0:Array Value} {t0:TypeId} {n1:Nat} {c1:Array Value} {t1:TypeId} (hR:Hid (Rs X B W R)) (h0:Hid (Blk X n0 c0 t0)) (h1:Hid (Blk X n1 c1 t1)) (l0:n0<B) (l1:n1<B):Blk W n0 c0 t0/\Blk W n1 c1 t1:=⟨hR.out.blk h0.out l0,hR.out.blk h1.out l1⟩
theorem k3 {X W:World} {B:Nat} {R:List OR} {n0:Nat} {c0:Array Value} {t0:TypeId} {n1:Nat} {c1:Array Value} {t1:TypeId} {n2:Nat} {c2:Array Value} {t2:TypeId} (hR:Hid (Rs X B W R)) (h0:Hid (Blk X n0 c0 t0)) (h1:Hid (Blk X n1 c1 t1)) (h2:Hid (Blk X n2 c2 t2)) (l0:n0<B) (l1:n1<B) (l2:n2<B):Blk W n0 c0 t0/\Blk W n1 c1 t1/\Blk W n2 c2 t2:=⟨hR.out.blk h0.out l0,hR.out.blk h1.out l1,hR.out.blk h2.out l2⟩
theorem k4 {X W:World} {B:Nat} {R:List OR} {n0:Nat} {c0:Array Value} {t0:TypeId} {n1:Nat} {c1:Array Value} {t1:TypeId} {n2:Nat} {c2:Array Value} {t2:TypeId} {n3:Nat} {c3:Array Value} {t3:TypeId} (hR:Hid (Rs X B W R)) (h0:Hid (Blk X n0 c0 t0)) (h1:Hid (Blk X n1 c1 t1)) (h2:Hid (Blk X n2 c2 t2)) (h3:Hid (Blk X n3 c3 t3)) (l0:n0<B) (l1:n1<B) (l2:n2<B) (l3:n3<B):Blk W n0 c0 t0/\Blk W n1 c1 t1/\Blk W n2 c2 t2/\Blk W n3 c3 t3:=⟨hR.out.blk h0.out l0,hR.out.blk h1.out l1,hR.out.blk h2.out l2,hR.out.blk h3.out l3⟩
end
end Go.Proofs.YtjbbagcpcepkoaaGreatDoor
