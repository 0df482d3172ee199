import Derived.Test.YtjbbagcpcepkoaaGreatDoorSf01
import Derived.Maps.AppendAt
import Derived.Laws.Slices
namespace Go.Proofs.YtjbbagcpcepkoaaGreatDoor
set_option maxRecDepth 100000
set_option maxHeartbeats 64000000
set_option linter.unusedVariables false
set_option linter.unusedSimpArgs false
section
open Go.RowKit
def OI (w:World) (B:Nat) (v:Value) (L:List Int):Prop:=w.ownsRow B 3 1 v L.length (L.map (Value.int .i64))
theorem OI.nil (w:World) (B:Nat):OI w B (.slice none 0 0) []:=World.ownsRow_nil _ _ _ _
theorem OI.empty {w:World} {b:Nat} (h:Blk w b #[] 3):OI w b (.slice (some ⟨b,0,none⟩) 0 0) []:=⟨rfl,Or.inr ⟨b,0,_,rfl,Nat.le_refl _,h,Nat.le_refl _,by unfold maxLen;omega,rfl,rfl⟩⟩
theorem OI.form {w:World} {B:Nat} {v:Value} {L:List Int} (h:OI w B v L):(v=.slice none 0 0/\L=[])\/∃g cap,v=.slice (some ⟨g,0,none⟩) L.length cap/\B<=g/\g<w.heap.size/\L.length<=cap:=by
 rcases h.2 with ⟨h1,h2⟩|⟨g,cap,cur,rfl,hb,hg,hc,r⟩
 ·
  exact Or.inl ⟨h1,List.length_eq_zero_iff.1 h2⟩
 exact Or.inr ⟨g,cap,rfl,hb,(Array.getElem?_eq_some_iff.1 hg).1,hc⟩
theorem OI.shape {w:World} {B:Nat} {v:Value} {L:List Int} (h:OI w B v L):∃s c,v=.slice s L.length c:=by
 rcases h.form with ⟨rfl,rfl⟩|⟨g,cap,rfl,_⟩
 ·
  exact⟨_,_,rfl⟩
 exact⟨_,_,rfl⟩
theorem OI.cap {w:World} {B:Nat} {s:Option Addr} {n c:Nat} {L:List Int} (h:OI w B (.slice s n c) L):n<=c:=by
 rcases h.2 with ⟨h1,_⟩|⟨g,cap,cur,h1,_,_,h2,_⟩
 ·
  simp only[Value.slice.injEq] at h1;omega
 simp only[Value.slice.injEq] at h1
 obtain⟨_,rfl,rfl⟩:=h1
 exact h2
theorem OI.lt {w:World} {B:Nat} {v:Value} {L:List Int} (h:OI w B v L):∀g,v.ownBlock=some g->B<=g/\g<w.heap.size:=World.ownsRow.lt h
theorem OI.later {w w':World} {B:Nat} {v:Value} {L:List Int} (h:OI w B v L) (hb:Below w.heap.size w w'):OI w' B v L:=by
 refine World.ownsRow.kept h (j1a hb) ?_
 cases v.ownBlock with
 | none=>exact Or.inl rfl
 | some b=>exact Or.inr (by simp)
theorem OI.mono {w:World} {B B':Nat} {v:Value} {L:List Int} (h:OI w B v L) (hB:B'<=B):OI w B' v L:=by
 refine⟨h.1,?_⟩
 rcases h.2 with h'|⟨g,cap',cur,h',hb,r⟩
 ·
  exact Or.inl h'
 exact Or.inr ⟨g,cap',cur,h',Nat.le_trans hB hb,r⟩
theorem OI.same {w w':World} {B:Nat} {v:Value} {L:List Int} (h:OI w B v L) (hs:∀g,v.ownBlock=some g->w'.heap[g]?=w.heap[g]?):OI w' B v L:=by
 refine⟨h.1,?_⟩
 rcases h.2 with h'|⟨g,cap',cur,h',hb',hg,r⟩
 ·
  exact Or.inl h'
 refine Or.inr ⟨g,cap',cur,h',hb',?_,r⟩
 subst h'
 exact(hs g rfl).trans hg
theorem jhf (L:List Int):L.flatMap (λx=>[Value.int .i64 x])=L.map (Value.int .i64):=by
 induction L with
 | nil=>rfl
 | cons a l ih=>rw[List.flatMap_cons,ih];rfl
theorem OI.els {w:World} {B:Nat} {s:Option Addr} {c:Nat} {L:List Int} (h:OI w B (.slice s L.length c) L):Els 1 cInt w B s L:=by
 rcases h.form with ⟨h1,rfl⟩|⟨g,cap,h1,_,_,_⟩
 ·
  exact Or.inl rfl
 simp only[Value.slice.injEq] at h1
 obtain⟨rfl,_,rfl⟩:=h1
 have h':w.ownsRow B 3 1 (.slice (some ⟨g,0,none⟩) L.length c) L.length (L.flatMap (λx=>[Value.int .i64 x])):=by
  rw[jhf];exact h
 exact jct (f:=λx=>[Value.int .i64 x]) (λ_=>rfl) h' (λa ha=>rfl)
theorem j66 (w:World) (ty:TypeId) (b:Option Addr) (l c d:Nat) (h:l<=c):(Builtin.append_ #[26,26] ty #[.slice b l c,.slice none 0 d]).run Tryz.prog w=.ok (.slice b l c) w:=by
 obtain⟨i0,hi,hz0,hz1,hz2⟩:=info_parts Tryz.infoI
 cases b with
 | none=>simp[Builtin.append_,run_underlying Tryz.underlying26,sizeOf,typeInfo,hi,Builtin.lenOf,h,run_firstCells_none]
 | some a=>simp[Builtin.append_,run_underlying Tryz.underlying26,sizeOf,typeInfo,hi,Builtin.lenOf,h,run_firstCells_none,storeCells]
def jk6 (w:World) (v v':Value):Prop:=∀g,v'.ownBlock=some g->v.ownBlock=some g\/g=w.heap.size
theorem jaj (w:World) (ty:TypeId) (Bs:Nat) (s:Option Addr) (c:Nat) (L:List Int) (hv:OI w Bs (.slice s L.length c) L) (B0:Nat) (t:Option Addr) (d:Nat) (M:List Int) (hM:Els 1 cInt w B0 t M) (hl:L.length+M.length<=17592186044416) (hB:Bs<=w.heap.size) :
  ∃s' c' w',(Builtin.append_ #[26,26] ty #[.slice s L.length c,.slice t M.length d]).run Tryz.prog w=.ok (.slice s' (L++M).length c') w'/\OI w' Bs (.slice s' (L++M).length c') (L++M)/\w.grownBy w' (Value.slice s L.length c).ownBlock/\jk6 w (.slice s L.length c) (.slice s' (L++M).length c'):=by
 have hnone:t=none->M=[]:=by
  rintro rfl
  rcases hM with h|⟨b,o,e,_⟩
  ·
   exact h
  cases e
 cases t with
 | none =>
  have:=hnone rfl
  subst this
  refine⟨s,c,w,?_,?_,j16 _ _,?_⟩
  ·
   rw[List.append_nil];exact j66 w ty s L.length c d hv.cap
  ·
   rw[List.append_nil];exact hv
  intro g hg;rw[List.append_nil] at hg;exact Or.inl hg
 | some a =>
  obtain⟨i0,hi,hz0,hz1,hz2⟩:=info_parts Tryz.infoI
  have hnews:∀j u,(M.map (Value.int .i64))[j]?=some u->w.cell? (a.add j)=some u:=by
   intro j u hu
   have hj:j<M.length:=by have:=(List.getElem?_eq_some_iff.1 hu).1;simpa using this
   rcases hM with h|⟨b,o,e,_,_,h3,_⟩
   ·
    subst h;simp at hj
   cases e
   obtain⟨p,hp⟩:=j0q (L:=M) (k:=j) hj
   obtain⟨cs,e1,e2,e3⟩:=h3 j p hp
   have e3:cs=[.int .i64 p]:=e3
   subst e3
   rw[List.getElem?_map,hp] at hu
   simp at hu
   subst hu
   rw[Go.WideShapes.add_plain]
   have:=e2 0 _ rfl
   rw[show o+j*1+0=o+j by omega] at this
   exact this
  obtain⟨v',w',hrun,h2,h3,_,h5⟩:=run_append_own_at (P:=Tryz.prog) w Bs 26 ty 3 i0 (.int .i64 0) 1 8 Tryz.underlying26 hi hz0 hz1 hz2 rfl (by decide) (.slice s L.length c) L.length (L.map (Value.int .i64)) hv a M.length d (M.map (Value.int .i64)) (by simp) hnews (by intro u hu;obtain⟨x,_,rfl⟩:=List.mem_map.1 hu;rfl) (by unfold maxLen;omega) (by omega) hB
  have hO:OI w' Bs v' (L++M):=by
   unfold OI
   rw[List.length_append,List.map_append]
   exact h2
  obtain⟨s',c',rfl⟩:=hO.shape
  refine⟨s',c',w',hrun,hO,h3,?_⟩
  intro q hq
  rcases h5 with h5|h5
  ·
   left;rw[<-h5];exact hq
  right;rw[h5] at hq;cases hq;rfl
theorem j0c {w:World} {ops:Array Oper} {rest:List Oper} {o:Oper} {a:Act} {Q:Exit->Act->World->Prop}
  (hgd:o.guard=none) (s x:Operand) (hop:o.op=Op.call {callee:=Callee.builtin Builtin.append,args:=#[s,x],argTypes:=#[26,26]})
  (Bs:Nat) (s0:Option Addr) (c0:Nat) (L:List Int) (hs:a.eval s=.slice s0 L.length c0) (hv:OI w Bs (.slice s0 L.length c0) L) (B0:Nat) (t:Option Addr) (d:Nat) (M:List Int) (hx:a.eval x=.slice t M.length d) (hM:Els 1 cInt w B0 t M) (R:List Int) (hR:L++M=R) (hl:L.length+M.length<=17592186044416) (hB:Bs<=w.heap.size)
  (h:∀s' c' w',OI w' Bs (.slice s' R.length c') R->w.grownBy w' (Value.slice s0 L.length c0).ownBlock->jk6 w (.slice s0 L.length c0) (.slice s' R.length c')->wpList Tryz.prog ops Q rest (a.put o.dst (.slice s' R.length c')) w') :
  wpList Tryz.prog ops Q (o :: rest) a w:=by
 refine wpList_plain hgd λK hK=>?_
 obtain⟨s',c',w',hrun,h1,h2,h3⟩:=jaj w o.type Bs s0 c0 L hv B0 t d M hM hl hB
 rw[hR] at hrun h1 h3
 unfold Oper.wp
 simp[execOp,hop,resolve,invoke,builtin,hs,hx,hrun,Result.andThen]
 exact hK _ _ (h s' c' w' h1 h2 h3)
theorem j32 {B:Nat} {W X Y:World} {s:Option Addr} {L:List Int} {c:Nat} (hb:Below B W X) (hB:B<=X.heap.size) (hv:OI X B (.slice s L.length c) L) (hg:X.grownBy Y (Value.slice s L.length c).ownBlock):Below B W Y :=
 hb.grown hg hB (λq hq=>(hv.lt q hq).1)
theorem Els.one {w:World} {b:Nat} {x:Int} (h:Blk w b #[.int .i64 x] 3):Els 1 cInt w b (some ⟨b,0,none⟩) [x]:=by
 refine Or.inr ⟨b,0,rfl,Nat.le_refl _,h.lt,λj a ha=>?_,λ_ j=>h.frozen j⟩
 have hj:j<1:=by have:=(List.getElem?_eq_some_iff.1 ha).1;simpa using this
 obtain rfl:j=0:=by omega
 simp at ha
 subst ha
 refine⟨[.int .i64 x],rfl,λi u hu=>?_,rfl⟩
 have hi:i=0:=by have:=(List.getElem?_eq_some_iff.1 hu).1;simp at this;exact this
 subst hi
 simp at hu
 subst hu
 simpa using h.cell 0
def Asc (L:List Int):Prop:=L.Pairwise (· < ·)
theorem jgn {R:List Int} (h:Asc R) {j:Nat} {x l:Int} (hj:R[j]?=some x) (hl:R[R.length-1]?=some l):x<=l:=by
 have h1:j<R.length:=(List.getElem?_eq_some_iff.1 hj).1
 by_cases e:j=R.length-1
 ·
  rw[e,hl] at hj;cases hj;exact Int.le_refl _
 have:=List.pairwise_iff_getElem.1 h j (R.length-1) h1 (by omega) (by omega)
 have e1:R[j]=x:=by rw[List.getElem?_eq_getElem h1] at hj;simpa using hj
 have e2:R[R.length-1]'(by omega)=l:=by rw[List.getElem?_eq_getElem (by omega)] at hl;simpa using hl
 rw[e1,e2] at this;omega
theorem jcb {L M:List Int} (hL:Asc L) (hM:Asc M) (h:∀x,x∈L ↔ x∈M):L=M:=by
 refine List.Perm.eq_of_pairwise (le:=λa b=>a<=b) (λa b _ _ h1 h2=>by omega) (hL.imp (λh=>by omega)) (hM.imp (λh=>by omega)) ?_
 exact(List.perm_ext_iff_of_nodup (hL.imp (λh=>by omega)) (hM.imp (λh=>by omega))).2 h
structure Inv (A B:List Int) (i k:Nat) (R:List Int):Prop where
 asc:Asc R
 mem:∀x,x∈R ↔ x∈A.take i\/x∈B.take k
 la:∀x∈R,∀y∈A.drop i,x<=y
 lb:∀x∈R,∀y∈B.drop k,x<=y
 len:R.length<=i+k
theorem j5h {A:List Int} {i:Nat} {x y:Int} (h:A[i]?=some x):y∈A.take (i+1) ↔ y∈A.take i\/y=x:=by
 have hk:i<A.length:=(List.getElem?_eq_some_iff.1 h).1
 rw[List.take_succ_eq_append_getElem hk]
 have e:A[i]=x:=by rw[List.getElem?_eq_getElem hk] at h;simpa using h
 rw[e];simp
theorem j4e {A:List Int} {i:Nat} {x:Int} (h:A[i]?=some x):A.drop i=x :: A.drop (i+1):=by
 have hk:i<A.length:=(List.getElem?_eq_some_iff.1 h).1
 rw[List.drop_eq_getElem_cons hk]
 congr 1
 rw[List.getElem?_eq_getElem hk] at h;simpa using h
theorem jbj {A:List Int} (hA:Asc A) {i:Nat} {x:Int} (h:A[i]?=some x):∀y∈A.drop (i+1),x<y:=by
 intro y hy
 have:=List.Pairwise.sublist (List.drop_sublist i A) hA
 rw[j4e h] at this
 exact(List.pairwise_cons.1 this).1 y hy
theorem Inv.new {A B:List Int} {i k:Nat} {R:List Int} {x:Int} (h:Inv A B i k R) (hA:Asc A) (hB:Asc B) (hx:A[i]?=some x) (hmin:∀y,B[k]?=some y->x<=y) (hl:R=[]\/∃l,R[R.length-1]?=some l/\¬l=x):Inv A B (i+1) k (R++[x]):=by
 have hle:∀r∈R,r<=x:=λr hr=>h.la r hr x (by rw[j4e hx];simp)
 have hlt:∀r∈R,r<x:=by
  intro r hr
  rcases hl with rfl|⟨l,hl,hne⟩
  ·
   simp at hr
  obtain⟨j,hj,rfl⟩:=List.getElem_of_mem hr
  have h1:=jgn h.asc (j:=j) (x:=R[j]) (by simp[hj]) hl
  have h2:=hle l (List.mem_of_getElem? hl)
  omega
 refine⟨List.pairwise_append.2 ⟨h.asc,by simp,λa ha b hb=>by simp at hb;subst hb;exact hlt a ha⟩,λy=>?_,λr hr y hy=>?_,λr hr y hy=>?_,by have:=h.len;simp;omega⟩
 ·
  rw[List.mem_append,h.mem y,j5h hx]
  simp only[List.mem_singleton]
  constructor
  ·
   rintro((h1|h1)|h1)
   ·
    exact Or.inl (Or.inl h1)
   ·
    exact Or.inr h1
   exact Or.inl (Or.inr h1)
  rintro((h1|h1)|h1)
  ·
   exact Or.inl (Or.inl h1)
  ·
   exact Or.inr h1
  exact Or.inl (Or.inr h1)
 ·
  rcases List.mem_append.1 hr with hr|hr
  ·
   exact h.la r hr y (by rw[j4e hx];simp[hy])
  simp at hr;subst hr;have:=jbj hA hx y hy;omega
 rcases List.mem_append.1 hr with hr|hr
 ·
  exact h.lb r hr y hy
 simp at hr;subst hr
 cases hk:B[k]? with
 | none=>rw[List.drop_eq_nil_of_le (List.getElem?_eq_none_iff.1 hk)] at hy;simp at hy
 | some z =>
  have h1:=hmin z hk
  rw[j4e hk] at hy
  rcases List.mem_cons.1 hy with rfl|hy
  ·
   exact h1
  have:=jbj hB hk y hy;omega
theorem Inv.old {A B:List Int} {i k:Nat} {R:List Int} {x:Int} (h:Inv A B i k R) (hx:A[i]?=some x) (hl:R[R.length-1]?=some x):Inv A B (i+1) k R:=by
 have hm:=List.mem_of_getElem? hl
 refine⟨h.asc,λy=>?_,λr hr y hy=>h.la r hr y (by rw[j4e hx];simp[hy]),h.lb,by have:=h.len;omega⟩
 rw[j5h hx,h.mem y]
 constructor
 ·
  rintro(h1|h1)
  ·
   exact Or.inl (Or.inl h1)
  exact Or.inr h1
 rintro((h1|rfl)|h1)
 ·
  exact Or.inl h1
 ·
  exact(h.mem y).1 hm
 exact Or.inr h1
def Srt (L R:List Int):Prop:=Asc R/\(∀x,x∈R ↔ x∈L)/\R.length<=L.length
theorem Srt.same {L R R':List Int} (h:Srt L R) (g:Srt L R'):R=R':=jcb h.1 g.1 (λx=>(h.2.1 x).trans (g.2.1 x).symm)
end
section
open Go.RowKit
def cls (k:Int):Int :=
 if 1<=k/\k<=11 then 1 else if 12<=k/\k<=26 then 2 else if k=27 then 3 else if k=29 then 4 else if k=30 then 5 else if k=31 then 6 else if k=32 then 7 else if k=28 then 8 else if k=33\/k=34 then 9 else 0
def shp (kind:Int) (k:Nat):List Int :=
 if kind=7 then List.replicate k 1 else if kind=8\/kind=10 then [1,1]
 else if kind=9\/kind=12\/kind=13\/kind=14\/kind=15\/kind=19\/kind=23\/kind=26\/kind=28 then [1]
 else if kind=11 then 1 :: 6 :: List.replicate (k-2) 6
 else if kind=16 then (if k=3 then [1,3,3] else [1,3]) else if kind=17 then [1,3] else if kind=18 then [4,5,3] else if kind=20 then [6,3]
 else if kind=21 then List.replicate k 8 else if kind=25 then [10] else if kind=27 then List.replicate k 2 else if kind=29 then 6 :: List.replicate (k-1) 6
 else if kind=30 then List.replicate k 6 else if kind=33 then List.replicate (k-1) 7++[3] else if kind=34 then [3] else []
theorem j4o (k:Int):k<1\/34<k\/k=1\/k=2\/k=3\/k=4\/k=5\/k=6\/k=7\/k=8\/k=9\/k=10\/k=11\/k=12\/k=13\/k=14\/k=15\/k=16\/k=17\/k=18\/k=19\/k=20\/k=21\/k=22\/k=23\/k=24\/k=25\/k=26\/k=27\/k=28\/k=29\/k=30\/k=31\/k=32\/k=33\/k=34:=by omega
structure jkw (k:Int):Prop where
 ne:∀c:Int,1<=c->c<=34->(k ==c)=false
theorem j0p {k:Int} (h:k<1\/34<k):jkw k:=⟨λc h1 h2=>by simp;omega⟩
theorem j8w {k:Int} (h:k<1\/34<k):cls k=0:=by
 unfold cls
 rw[if_neg (by omega),if_neg (by omega),if_neg (by omega),if_neg (by omega),if_neg (by omega),if_neg (by omega),if_neg (by omega),if_neg (by omega),if_neg (by omega)]
theorem jba {k:Int} (h:k<1\/34<k) (m:Nat):shp k m=[]:=by
 unfold shp
 repeat rw[if_neg (by omega)]
theorem j3a (k:Int) (w:World):Calls Tryz.prog 49 #[.int .i64 k] w λe w'=>e=.returned (.int .i64 (cls k))/\Below w.heap.size w w':=by
 by_cases a1:1<=k/\k<=11
 ·
  have h1:=a1.1
  have h2:=a1.2
  have HC:Hid (cls k=1):=by show _=_;unfold cls;rw[if_pos a1]
  clear a1;go_enter Tryz.func49,Tryz.ntmps49
  go_wp2_with fail;go_ret;exact⟨by rw[HC.out];rfl,by(with_reducible repeat first|exact Below.refl _ _|refine j00 ?_ _|refine j06 ?_ _|refine j02 ?_|refine j0g ?_ (by first|exact Nat.le_refl _|(dsimp only;omega)|(simp<;>omega)) _|refine j01 ?_ (by with_reducible assumption))⟩
 by_cases a2:12<=k/\k<=26
 ·
  have HC:Hid (cls k=2):=by show _=_;unfold cls;rw[if_neg a1,if_pos a2]
  have h1:1<=k:=by omega
  have h2:¬k<=11:=by omega
  have h3:=a2.1
  have h4:=a2.2
  clear a1 a2;go_enter Tryz.func49,Tryz.ntmps49
  go_wp2_with fail;go_ret;exact⟨by rw[HC.out];rfl,by(with_reducible repeat first|exact Below.refl _ _|refine j00 ?_ _|refine j06 ?_ _|refine j02 ?_|refine j0g ?_ (by first|exact Nat.le_refl _|(dsimp only;omega)|(simp<;>omega)) _|refine j01 ?_ (by with_reducible assumption))⟩
 by_cases a3:27<=k/\k<=34
 ·
  have h5:k=27\/k=28\/k=29\/k=30\/k=31\/k=32\/k=33\/k=34:=by omega
  rcases h5 with rfl|rfl|rfl|rfl|rfl|rfl|rfl|rfl <;>
  ·
   clear a1 a2 a3;go_enter Tryz.func49,Tryz.ntmps49
   go_wp2_with fail;go_ret;exact⟨rfl,by(with_reducible repeat first|exact Below.refl _ _|refine j00 ?_ _|refine j06 ?_ _|refine j02 ?_|refine j0g ?_ (by first|exact Nat.le_refl _|(dsimp only;omega)|(simp<;>omega)) _|refine j01 ?_ (by with_reducible assumption))⟩
 have HN:=j0p (k:=k) (by omega)
 have HC:Hid (cls k=0):=j8w (by omega)
 have e1:=HN.ne 27 (by omega) (by omega)
 have e2:=HN.ne 28 (by omega) (by omega)
 have e3:=HN.ne 29 (by omega) (by omega)
 have e4:=HN.ne 30 (by omega) (by omega)
 have e5:=HN.ne 31 (by omega) (by omega)
 have e6:=HN.ne 32 (by omega) (by omega)
 have e7:=HN.ne 33 (by omega) (by omega)
 have e8:=HN.ne 34 (by omega) (by omega)
 by_cases h1:1<=k
 ·
  have h2:¬k<=11:=by omega
  have h3:12<=k:=by omega
  have h4:¬k<=26:=by omega
  clear a1 a2 a3 HN;go_enter Tryz.func49,Tryz.ntmps49
  go_wp2_with fail;go_ret;exact⟨by rw[HC.out];rfl,by(with_reducible repeat first|exact Below.refl _ _|refine j00 ?_ _|refine j06 ?_ _|refine j02 ?_|refine j0g ?_ (by first|exact Nat.le_refl _|(dsimp only;omega)|(simp<;>omega)) _|refine j01 ?_ (by with_reducible assumption))⟩
 have h3:¬12<=k:=by omega
 clear a1 a2 a3 HN;go_enter Tryz.func49,Tryz.ntmps49
 go_wp2_with fail;go_ret;exact⟨by rw[HC.out];rfl,by(with_reducible repeat first|exact Below.refl _ _|refine j00 ?_ _|refine j06 ?_ _|refine j02 ?_|refine j0g ?_ (by first|exact Nat.le_refl _|(dsimp only;omega)|(simp<;>omega)) _|refine j01 ?_ (by with_reducible assumption))⟩
end
end Go.Proofs.YtjbbagcpcepkoaaGreatDoor
