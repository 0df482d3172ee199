import Derived.Test.YtjbbagcpcepkoaaGreatDoorSf24
namespace Go.Proofs.YtjbbagcpcepkoaaGreatDoor
set_option maxRecDepth 100000
set_option maxHeartbeats 64000000
set_option linter.unusedVariables false
set_option linter.unusedSimpArgs false
section
open Go.RowKit
noncomputable def kidB (kind:Int) (ks:List Int):Bool:=@decide (j3c kind ks) (Classical.propDecidable _)
theorem j9q {kind:Int} {ks:List Int} (h:j3c kind ks):kidB kind ks=true:=@decide_eq_true _ (Classical.propDecidable _) h
theorem j7t {kind:Int} {ks:List Int} (h:¬j3c kind ks):kidB kind ks=false:=@decide_eq_false _ (Classical.propDecidable _) h
theorem j0u {kind:Int} {ks:List Int} {p:Prop} [Decidable p] (h:j3c kind ks ↔ p):kidB kind ks=decide p:=by
 by_cases g:p
 ·
  rw[j9q (h.2 g),decide_eq_true g]
 rw[j7t (λq=>g (h.1 q)),decide_eq_false g]
def j10 (t:Tre) (kind:Int) (kids:List Int) (w:World) (e:Ending) (w':World):Prop:=e=.returned (.bool (kidB kind (kids.map (kkAt t))))/\Below w.heap.size w w'
theorem j1o {R L:List UInt8} (h:¬R=L):(R ==L)=false:=by simpa using h
theorem jjs (t:Tre) (tx:ByteArray) (q:Int) (s s1:Option Addr) (c c1:Nat) (kids:List Int) (B C:Nat) (w:World) (hL:Els 1 cInt w B s kids) (hN:Els 4 j1r w C s1 t.nodes) (hv:∀x∈kids,∃m:Nat,x=m/\m<t.nodes.length) (hl:kids.length<=1048576) (hn:t.nodes.length<=1048576) :
  Calls Tryz.prog 62 #[.agg #[.int .i64 1,.string tx,.int .i64 q,.slice s kids.length c],.slice s1 t.nodes.length c1] w (j10 t 1 kids w):=by
 have k0:=Blk.new w #[.int .i64 1,.string tx,.int .i64 q,.slice s kids.length c] 73
 have L0:=j00 (Below.refl _ w) (.cells #[.int .i64 1,.string tx,.int .i64 q,.slice s kids.length c] 73)
 obtain⟨x0,x1,x2,x3,x4⟩:=k0.four'
 have hr:=j0a t s s1 c c1 kids B C _ (hL.later j07 L0) (hN.later j08 L0) hv hl hn
 go_enter Tryz.func62,Tryz.ntmps62
 go_wp2_with fail;refine hr.mono ?_
 rintro e w1 ⟨rfl,hb1⟩
 have L1:=j01 L0 hb1
 obtain⟨y0,y1,y2,y3,y4⟩:=(k0.later hb1).four'
 have hrl:(((kids.map (kkAt t)).map rl)).length<=1048576:=by simp;exact hl
 have HI:Hid (kidB 1 (kids.map (kkAt t))=decide ((kids.map (kkAt t)).map rl=[])):=j0u (j0s [] (λn=>by simp[shp]) (by decide))
 generalize hR:(kids.map (kkAt t)).map rl=R at hrl HI ⊢
 clear hr x0 x1 x2 x3 x4;by_cases h1:R=[]
 ·
  subst h1
  go_wp2_with fail;go_ret;exact⟨j03 (by rw[HI.out];rfl),L1⟩
 have q1:=j0d (j0r h1)
 have H1:Hid (¬R=[]):=h1
 clear h1;go_wp2_with fail;go_ret;exact⟨j03 (by rw[HI.out,decide_eq_false H1.out];have h9:=j0d (j0r H1.out);simpa using h9),L1⟩
theorem jld (t:Tre) (tx:ByteArray) (q:Int) (s s1:Option Addr) (c c1:Nat) (kids:List Int) (B C:Nat) (w:World) (hL:Els 1 cInt w B s kids) (hN:Els 4 j1r w C s1 t.nodes) (hv:∀x∈kids,∃m:Nat,x=m/\m<t.nodes.length) (hl:kids.length<=1048576) (hn:t.nodes.length<=1048576) :
  Calls Tryz.prog 62 #[.agg #[.int .i64 2,.string tx,.int .i64 q,.slice s kids.length c],.slice s1 t.nodes.length c1] w (j10 t 2 kids w):=by
 have k0:=Blk.new w #[.int .i64 2,.string tx,.int .i64 q,.slice s kids.length c] 73
 have L0:=j00 (Below.refl _ w) (.cells #[.int .i64 2,.string tx,.int .i64 q,.slice s kids.length c] 73)
 obtain⟨x0,x1,x2,x3,x4⟩:=k0.four'
 have hr:=j0a t s s1 c c1 kids B C _ (hL.later j07 L0) (hN.later j08 L0) hv hl hn
 go_enter Tryz.func62,Tryz.ntmps62
 go_wp2_with fail;refine hr.mono ?_
 rintro e w1 ⟨rfl,hb1⟩
 have L1:=j01 L0 hb1
 obtain⟨y0,y1,y2,y3,y4⟩:=(k0.later hb1).four'
 have hrl:(((kids.map (kkAt t)).map rl)).length<=1048576:=by simp;exact hl
 have HI:Hid (kidB 2 (kids.map (kkAt t))=decide ((kids.map (kkAt t)).map rl=[])):=j0u (j0s [] (λn=>by simp[shp]) (by decide))
 generalize hR:(kids.map (kkAt t)).map rl=R at hrl HI ⊢
 clear hr x0 x1 x2 x3 x4;by_cases h1:R=[]
 ·
  subst h1
  go_wp2_with fail;go_ret;exact⟨j03 (by rw[HI.out];rfl),L1⟩
 have q1:=j0d (j0r h1)
 have H1:Hid (¬R=[]):=h1
 clear h1;go_wp2_with fail;go_ret;exact⟨j03 (by rw[HI.out,decide_eq_false H1.out];have h9:=j0d (j0r H1.out);simpa using h9),L1⟩
theorem jlj (t:Tre) (tx:ByteArray) (q:Int) (s s1:Option Addr) (c c1:Nat) (kids:List Int) (B C:Nat) (w:World) (hL:Els 1 cInt w B s kids) (hN:Els 4 j1r w C s1 t.nodes) (hv:∀x∈kids,∃m:Nat,x=m/\m<t.nodes.length) (hl:kids.length<=1048576) (hn:t.nodes.length<=1048576) :
  Calls Tryz.prog 62 #[.agg #[.int .i64 3,.string tx,.int .i64 q,.slice s kids.length c],.slice s1 t.nodes.length c1] w (j10 t 3 kids w):=by
 have k0:=Blk.new w #[.int .i64 3,.string tx,.int .i64 q,.slice s kids.length c] 73
 have L0:=j00 (Below.refl _ w) (.cells #[.int .i64 3,.string tx,.int .i64 q,.slice s kids.length c] 73)
 obtain⟨x0,x1,x2,x3,x4⟩:=k0.four'
 have hr:=j0a t s s1 c c1 kids B C _ (hL.later j07 L0) (hN.later j08 L0) hv hl hn
 go_enter Tryz.func62,Tryz.ntmps62
 go_wp2_with fail;refine hr.mono ?_
 rintro e w1 ⟨rfl,hb1⟩
 have L1:=j01 L0 hb1
 obtain⟨y0,y1,y2,y3,y4⟩:=(k0.later hb1).four'
 have hrl:(((kids.map (kkAt t)).map rl)).length<=1048576:=by simp;exact hl
 have HI:Hid (kidB 3 (kids.map (kkAt t))=decide ((kids.map (kkAt t)).map rl=[])):=j0u (j0s [] (λn=>by simp[shp]) (by decide))
 generalize hR:(kids.map (kkAt t)).map rl=R at hrl HI ⊢
 clear hr x0 x1 x2 x3 x4;by_cases h1:R=[]
 ·
  subst h1
  go_wp2_with fail;go_ret;exact⟨j03 (by rw[HI.out];rfl),L1⟩
 have q1:=j0d (j0r h1)
 have H1:Hid (¬R=[]):=h1
 clear h1;go_wp2_with fail;go_ret;exact⟨j03 (by rw[HI.out,decide_eq_false H1.out];have h9:=j0d (j0r H1.out);simpa using h9),L1⟩
theorem jl6 (t:Tre) (tx:ByteArray) (q:Int) (s s1:Option Addr) (c c1:Nat) (kids:List Int) (B C:Nat) (w:World) (hL:Els 1 cInt w B s kids) (hN:Els 4 j1r w C s1 t.nodes) (hv:∀x∈kids,∃m:Nat,x=m/\m<t.nodes.length) (hl:kids.length<=1048576) (hn:t.nodes.length<=1048576) :
  Calls Tryz.prog 62 #[.agg #[.int .i64 4,.string tx,.int .i64 q,.slice s kids.length c],.slice s1 t.nodes.length c1] w (j10 t 4 kids w):=by
 have k0:=Blk.new w #[.int .i64 4,.string tx,.int .i64 q,.slice s kids.length c] 73
 have L0:=j00 (Below.refl _ w) (.cells #[.int .i64 4,.string tx,.int .i64 q,.slice s kids.length c] 73)
 obtain⟨x0,x1,x2,x3,x4⟩:=k0.four'
 have hr:=j0a t s s1 c c1 kids B C _ (hL.later j07 L0) (hN.later j08 L0) hv hl hn
 go_enter Tryz.func62,Tryz.ntmps62
 go_wp2_with fail;refine hr.mono ?_
 rintro e w1 ⟨rfl,hb1⟩
 have L1:=j01 L0 hb1
 obtain⟨y0,y1,y2,y3,y4⟩:=(k0.later hb1).four'
 have hrl:(((kids.map (kkAt t)).map rl)).length<=1048576:=by simp;exact hl
 have HI:Hid (kidB 4 (kids.map (kkAt t))=decide ((kids.map (kkAt t)).map rl=[])):=j0u (j0s [] (λn=>by simp[shp]) (by decide))
 generalize hR:(kids.map (kkAt t)).map rl=R at hrl HI ⊢
 clear hr x0 x1 x2 x3 x4;by_cases h1:R=[]
 ·
  subst h1
  go_wp2_with fail;go_ret;exact⟨j03 (by rw[HI.out];rfl),L1⟩
 have q1:=j0d (j0r h1)
 have H1:Hid (¬R=[]):=h1
 clear h1;go_wp2_with fail;go_ret;exact⟨j03 (by rw[HI.out,decide_eq_false H1.out];have h9:=j0d (j0r H1.out);simpa using h9),L1⟩
theorem jle (t:Tre) (tx:ByteArray) (q:Int) (s s1:Option Addr) (c c1:Nat) (kids:List Int) (B C:Nat) (w:World) (hL:Els 1 cInt w B s kids) (hN:Els 4 j1r w C s1 t.nodes) (hv:∀x∈kids,∃m:Nat,x=m/\m<t.nodes.length) (hl:kids.length<=1048576) (hn:t.nodes.length<=1048576) :
  Calls Tryz.prog 62 #[.agg #[.int .i64 5,.string tx,.int .i64 q,.slice s kids.length c],.slice s1 t.nodes.length c1] w (j10 t 5 kids w):=by
 have k0:=Blk.new w #[.int .i64 5,.string tx,.int .i64 q,.slice s kids.length c] 73
 have L0:=j00 (Below.refl _ w) (.cells #[.int .i64 5,.string tx,.int .i64 q,.slice s kids.length c] 73)
 obtain⟨x0,x1,x2,x3,x4⟩:=k0.four'
 have hr:=j0a t s s1 c c1 kids B C _ (hL.later j07 L0) (hN.later j08 L0) hv hl hn
 go_enter Tryz.func62,Tryz.ntmps62
 go_wp2_with fail;refine hr.mono ?_
 rintro e w1 ⟨rfl,hb1⟩
 have L1:=j01 L0 hb1
 obtain⟨y0,y1,y2,y3,y4⟩:=(k0.later hb1).four'
 have hrl:(((kids.map (kkAt t)).map rl)).length<=1048576:=by simp;exact hl
 have HI:Hid (kidB 5 (kids.map (kkAt t))=decide ((kids.map (kkAt t)).map rl=[])):=j0u (j0s [] (λn=>by simp[shp]) (by decide))
 generalize hR:(kids.map (kkAt t)).map rl=R at hrl HI ⊢
 clear hr x0 x1 x2 x3 x4;by_cases h1:R=[]
 ·
  subst h1
  go_wp2_with fail;go_ret;exact⟨j03 (by rw[HI.out];rfl),L1⟩
 have q1:=j0d (j0r h1)
 have H1:Hid (¬R=[]):=h1
 clear h1;go_wp2_with fail;go_ret;exact⟨j03 (by rw[HI.out,decide_eq_false H1.out];have h9:=j0d (j0r H1.out);simpa using h9),L1⟩
theorem jki (t:Tre) (tx:ByteArray) (q:Int) (s s1:Option Addr) (c c1:Nat) (kids:List Int) (B C:Nat) (w:World) (hL:Els 1 cInt w B s kids) (hN:Els 4 j1r w C s1 t.nodes) (hv:∀x∈kids,∃m:Nat,x=m/\m<t.nodes.length) (hl:kids.length<=1048576) (hn:t.nodes.length<=1048576) :
  Calls Tryz.prog 62 #[.agg #[.int .i64 6,.string tx,.int .i64 q,.slice s kids.length c],.slice s1 t.nodes.length c1] w (j10 t 6 kids w):=by
 have k0:=Blk.new w #[.int .i64 6,.string tx,.int .i64 q,.slice s kids.length c] 73
 have L0:=j00 (Below.refl _ w) (.cells #[.int .i64 6,.string tx,.int .i64 q,.slice s kids.length c] 73)
 obtain⟨x0,x1,x2,x3,x4⟩:=k0.four'
 have hr:=j0a t s s1 c c1 kids B C _ (hL.later j07 L0) (hN.later j08 L0) hv hl hn
 go_enter Tryz.func62,Tryz.ntmps62
 go_wp2_with fail;refine hr.mono ?_
 rintro e w1 ⟨rfl,hb1⟩
 have L1:=j01 L0 hb1
 obtain⟨y0,y1,y2,y3,y4⟩:=(k0.later hb1).four'
 have hrl:(((kids.map (kkAt t)).map rl)).length<=1048576:=by simp;exact hl
 have HI:Hid (kidB 6 (kids.map (kkAt t))=decide ((kids.map (kkAt t)).map rl=[])):=j0u (j0s [] (λn=>by simp[shp]) (by decide))
 generalize hR:(kids.map (kkAt t)).map rl=R at hrl HI ⊢
 clear hr x0 x1 x2 x3 x4;by_cases h1:R=[]
 ·
  subst h1
  go_wp2_with fail;go_ret;exact⟨j03 (by rw[HI.out];rfl),L1⟩
 have q1:=j0d (j0r h1)
 have H1:Hid (¬R=[]):=h1
 clear h1;go_wp2_with fail;go_ret;exact⟨j03 (by rw[HI.out,decide_eq_false H1.out];have h9:=j0d (j0r H1.out);simpa using h9),L1⟩
theorem jl0 (t:Tre) (tx:ByteArray) (q:Int) (s s1:Option Addr) (c c1:Nat) (kids:List Int) (B C:Nat) (w:World) (hL:Els 1 cInt w B s kids) (hN:Els 4 j1r w C s1 t.nodes) (hv:∀x∈kids,∃m:Nat,x=m/\m<t.nodes.length) (hl:kids.length<=1048576) (hn:t.nodes.length<=1048576) :
  Calls Tryz.prog 62 #[.agg #[.int .i64 7,.string tx,.int .i64 q,.slice s kids.length c],.slice s1 t.nodes.length c1] w (j10 t 7 kids w):=by
 have k0:=Blk.new w #[.int .i64 7,.string tx,.int .i64 q,.slice s kids.length c] 73
 have L0:=j00 (Below.refl _ w) (.cells #[.int .i64 7,.string tx,.int .i64 q,.slice s kids.length c] 73)
 obtain⟨x0,x1,x2,x3,x4⟩:=k0.four'
 have hr:=j0a t s s1 c c1 kids B C _ (hL.later j07 L0) (hN.later j08 L0) hv hl hn
 go_enter Tryz.func62,Tryz.ntmps62
 go_wp2_with fail;refine hr.mono ?_
 rintro e w1 ⟨rfl,hb1⟩
 have L1:=j01 L0 hb1
 obtain⟨y0,y1,y2,y3,y4⟩:=(k0.later hb1).four'
 have hrl:(((kids.map (kkAt t)).map rl)).length<=1048576:=by simp;exact hl
 have HI:Hid (kidB 7 (kids.map (kkAt t))=decide (∀b∈(kids.map (kkAt t)).map rl,b=101)):=j0u (j6a (c:=1) (λn=>by simp[shp]) (by decide))
 generalize hR:(kids.map (kkAt t)).map rl=R at hrl HI ⊢
 clear hr x0 x1 x2 x3 x4;go_wp2_with (go_at_call 63;refine(j42 _ 101 (by decide) hrl _).mono ?_;rintro e w2 ⟨rfl,hb2⟩)
 go_ret;exact⟨j03 (by rw[HI.out]),j01 L1 hb2⟩
theorem jkl (t:Tre) (tx:ByteArray) (q:Int) (s s1:Option Addr) (c c1:Nat) (kids:List Int) (B C:Nat) (w:World) (hL:Els 1 cInt w B s kids) (hN:Els 4 j1r w C s1 t.nodes) (hv:∀x∈kids,∃m:Nat,x=m/\m<t.nodes.length) (hl:kids.length<=1048576) (hn:t.nodes.length<=1048576) :
  Calls Tryz.prog 62 #[.agg #[.int .i64 8,.string tx,.int .i64 q,.slice s kids.length c],.slice s1 t.nodes.length c1] w (j10 t 8 kids w):=by
 have k0:=Blk.new w #[.int .i64 8,.string tx,.int .i64 q,.slice s kids.length c] 73
 have L0:=j00 (Below.refl _ w) (.cells #[.int .i64 8,.string tx,.int .i64 q,.slice s kids.length c] 73)
 obtain⟨x0,x1,x2,x3,x4⟩:=k0.four'
 have hr:=j0a t s s1 c c1 kids B C _ (hL.later j07 L0) (hN.later j08 L0) hv hl hn
 go_enter Tryz.func62,Tryz.ntmps62
 go_wp2_with fail;refine hr.mono ?_
 rintro e w1 ⟨rfl,hb1⟩
 have L1:=j01 L0 hb1
 obtain⟨y0,y1,y2,y3,y4⟩:=(k0.later hb1).four'
 have hrl:(((kids.map (kkAt t)).map rl)).length<=1048576:=by simp;exact hl
 have HI:Hid (kidB 8 (kids.map (kkAt t))=decide ((kids.map (kkAt t)).map rl=[101,101])):=j0u (j0s [1,1] (λn=>by simp[shp]) (by decide))
 generalize hR:(kids.map (kkAt t)).map rl=R at hrl HI ⊢
 clear hr x0 x1 x2 x3 x4;by_cases h1:R=[101,101]
 ·
  subst h1
  go_wp2_with fail;go_ret;exact⟨j03 (by rw[HI.out];rfl),L1⟩
 have q1:=j1o h1
 have H1:Hid (¬R=[101,101]):=h1
 clear h1;go_wp2_with fail;go_ret;exact⟨j03 (by rw[HI.out,decide_eq_false H1.out]),L1⟩
theorem jl7 (t:Tre) (tx:ByteArray) (q:Int) (s s1:Option Addr) (c c1:Nat) (kids:List Int) (B C:Nat) (w:World) (hL:Els 1 cInt w B s kids) (hN:Els 4 j1r w C s1 t.nodes) (hv:∀x∈kids,∃m:Nat,x=m/\m<t.nodes.length) (hl:kids.length<=1048576) (hn:t.nodes.length<=1048576) :
  Calls Tryz.prog 62 #[.agg #[.int .i64 9,.string tx,.int .i64 q,.slice s kids.length c],.slice s1 t.nodes.length c1] w (j10 t 9 kids w):=by
 have k0:=Blk.new w #[.int .i64 9,.string tx,.int .i64 q,.slice s kids.length c] 73
 have L0:=j00 (Below.refl _ w) (.cells #[.int .i64 9,.string tx,.int .i64 q,.slice s kids.length c] 73)
 obtain⟨x0,x1,x2,x3,x4⟩:=k0.four'
 have hr:=j0a t s s1 c c1 kids B C _ (hL.later j07 L0) (hN.later j08 L0) hv hl hn
 go_enter Tryz.func62,Tryz.ntmps62
 go_wp2_with fail;refine hr.mono ?_
 rintro e w1 ⟨rfl,hb1⟩
 have L1:=j01 L0 hb1
 obtain⟨y0,y1,y2,y3,y4⟩:=(k0.later hb1).four'
 have hrl:(((kids.map (kkAt t)).map rl)).length<=1048576:=by simp;exact hl
 have HI:Hid (kidB 9 (kids.map (kkAt t))=decide ((kids.map (kkAt t)).map rl=[101])):=j0u (j0s [1] (λn=>by simp[shp]) (by decide))
 generalize hR:(kids.map (kkAt t)).map rl=R at hrl HI ⊢
 clear hr x0 x1 x2 x3 x4;by_cases h1:R=[101]
 ·
  subst h1
  go_wp2_with fail;go_ret;exact⟨j03 (by rw[HI.out];rfl),L1⟩
 have q1:=j1o h1
 have H1:Hid (¬R=[101]):=h1
 clear h1;go_wp2_with fail;go_ret;exact⟨j03 (by rw[HI.out,decide_eq_false H1.out]),L1⟩
theorem jjp (t:Tre) (tx:ByteArray) (q:Int) (s s1:Option Addr) (c c1:Nat) (kids:List Int) (B C:Nat) (w:World) (hL:Els 1 cInt w B s kids) (hN:Els 4 j1r w C s1 t.nodes) (hv:∀x∈kids,∃m:Nat,x=m/\m<t.nodes.length) (hl:kids.length<=1048576) (hn:t.nodes.length<=1048576) :
  Calls Tryz.prog 62 #[.agg #[.int .i64 10,.string tx,.int .i64 q,.slice s kids.length c],.slice s1 t.nodes.length c1] w (j10 t 10 kids w):=by
 have k0:=Blk.new w #[.int .i64 10,.string tx,.int .i64 q,.slice s kids.length c] 73
 have L0:=j00 (Below.refl _ w) (.cells #[.int .i64 10,.string tx,.int .i64 q,.slice s kids.length c] 73)
 obtain⟨x0,x1,x2,x3,x4⟩:=k0.four'
 have hr:=j0a t s s1 c c1 kids B C _ (hL.later j07 L0) (hN.later j08 L0) hv hl hn
 go_enter Tryz.func62,Tryz.ntmps62
 go_wp2_with fail;refine hr.mono ?_
 rintro e w1 ⟨rfl,hb1⟩
 have L1:=j01 L0 hb1
 obtain⟨y0,y1,y2,y3,y4⟩:=(k0.later hb1).four'
 have hrl:(((kids.map (kkAt t)).map rl)).length<=1048576:=by simp;exact hl
 have HI:Hid (kidB 10 (kids.map (kkAt t))=decide ((kids.map (kkAt t)).map rl=[101,101])):=j0u (j0s [1,1] (λn=>by simp[shp]) (by decide))
 generalize hR:(kids.map (kkAt t)).map rl=R at hrl HI ⊢
 clear hr x0 x1 x2 x3 x4;by_cases h1:R=[101,101]
 ·
  subst h1
  go_wp2_with fail;go_ret;exact⟨j03 (by rw[HI.out];rfl),L1⟩
 have q1:=j1o h1
 have H1:Hid (¬R=[101,101]):=h1
 clear h1;go_wp2_with fail;go_ret;exact⟨j03 (by rw[HI.out,decide_eq_false H1.out]),L1⟩
theorem jin (t:Tre) (tx:ByteArray) (q:Int) (s s1:Option Addr) (c c1:Nat) (kids:List Int) (B C:Nat) (w:World) (hL:Els 1 cInt w B s kids) (hN:Els 4 j1r w C s1 t.nodes) (hv:∀x∈kids,∃m:Nat,x=m/\m<t.nodes.length) (hl:kids.length<=1048576) (hn:t.nodes.length<=1048576) :
  Calls Tryz.prog 62 #[.agg #[.int .i64 11,.string tx,.int .i64 q,.slice s kids.length c],.slice s1 t.nodes.length c1] w (j10 t 11 kids w):=by
 have k0:=Blk.new w #[.int .i64 11,.string tx,.int .i64 q,.slice s kids.length c] 73
 have L0:=j00 (Below.refl _ w) (.cells #[.int .i64 11,.string tx,.int .i64 q,.slice s kids.length c] 73)
 obtain⟨x0,x1,x2,x3,x4⟩:=k0.four'
 have hr:=j0a t s s1 c c1 kids B C _ (hL.later j07 L0) (hN.later j08 L0) hv hl hn
 go_enter Tryz.func62,Tryz.ntmps62
 go_wp2_with fail;refine hr.mono ?_
 rintro e w1 ⟨rfl,hb1⟩
 have L1:=j01 L0 hb1
 obtain⟨y0,y1,y2,y3,y4⟩:=(k0.later hb1).four'
 have hrl:(((kids.map (kkAt t)).map rl)).length<=1048576:=by simp;exact hl
 have HI:Hid (kidB 11 (kids.map (kkAt t))=@decide (∃r,(kids.map (kkAt t)).map rl=101 :: 110 :: r/\∀b∈r,b=110) (Classical.propDecidable _)):=by classical exact j0u jd7
 generalize hR:(kids.map (kkAt t)).map rl=R at hrl HI ⊢
 clear hr x0 x1 x2 x3 x4;by_cases h1:∃r,R=101 :: 110 :: r
 ·
  obtain⟨r,rfl⟩:=h1
  have hp:Lib.hasPrefix (101 :: 110 :: r) [101,110]=true:=by simp[Lib.hasPrefix]
  have hle:(110 :: r).length<=1048576:=by simp at hrl ⊢;omega
  have he:(⟨(101 :: 110 :: r).toArray⟩:ByteArray).extract 1 (r.length+1+1)=⟨(110 :: r).toArray⟩:=by apply ByteArray.ext;simp
  go_wp2_with (go_at_call 78;refine(Any.strings_HasPrefix Tryz.laysHasPre _ _ _).mono ?_;rintro e w2 ⟨rfl,rfl⟩;rw[hp])
  refine(j42 (110 :: r) 110 (by decide) hle _).mono ?_
  rintro e w3 ⟨rfl,hb3⟩
  go_wp2_with fail;go_ret;refine⟨j03 ?_,j01 L1 hb3⟩
  rw[HI.out]
  rw[decide_eq_decide]
  constructor
  ·
   intro h
   exact⟨r,rfl,λb hb=>h b (by simp[hb])⟩
  rintro⟨r',e,h⟩ b hb
  simp at e
  subst e
  exact h b hb
 have hp:Lib.hasPrefix R [101,110]=false:=by
  cases hh:Lib.hasPrefix R [101,110] with
  | false=>rfl
  | true =>
   exfalso
   apply h1
   unfold Lib.hasPrefix at hh
   rw[List.isPrefixOf_iff_prefix] at hh
   obtain⟨r,hr⟩:=hh
   exact⟨r,by rw[<-hr];rfl⟩
 have H1:Hid (¬∃r,R=101 :: 110 :: r):=h1
 clear h1;go_wp2_with (go_at_call 78;refine(Any.strings_HasPrefix Tryz.laysHasPre _ _ _).mono ?_;rintro e w2 ⟨rfl,rfl⟩;rw[hp])
 go_ret;exact⟨j03 (by rw[HI.out];symm;exact @decide_eq_false _ (Classical.propDecidable _) (λ⟨r,h,_⟩=>H1.out ⟨r,h⟩)),L1⟩
theorem jhw (t:Tre) (tx:ByteArray) (q:Int) (s s1:Option Addr) (c c1:Nat) (kids:List Int) (B C:Nat) (w:World) (hL:Els 1 cInt w B s kids) (hN:Els 4 j1r w C s1 t.nodes) (hv:∀x∈kids,∃m:Nat,x=m/\m<t.nodes.length) (hl:kids.length<=1048576) (hn:t.nodes.length<=1048576) :
  Calls Tryz.prog 62 #[.agg #[.int .i64 12,.string tx,.int .i64 q,.slice s kids.length c],.slice s1 t.nodes.length c1] w (j10 t 12 kids w):=by
 have k0:=Blk.new w #[.int .i64 12,.string tx,.int .i64 q,.slice s kids.length c] 73
 have L0:=j00 (Below.refl _ w) (.cells #[.int .i64 12,.string tx,.int .i64 q,.slice s kids.length c] 73)
 obtain⟨x0,x1,x2,x3,x4⟩:=k0.four'
 have hr:=j0a t s s1 c c1 kids B C _ (hL.later j07 L0) (hN.later j08 L0) hv hl hn
 go_enter Tryz.func62,Tryz.ntmps62
 go_wp2_with fail;refine hr.mono ?_
 rintro e w1 ⟨rfl,hb1⟩
 have L1:=j01 L0 hb1
 obtain⟨y0,y1,y2,y3,y4⟩:=(k0.later hb1).four'
 have hrl:(((kids.map (kkAt t)).map rl)).length<=1048576:=by simp;exact hl
 have HI:Hid (kidB 12 (kids.map (kkAt t))=decide ((kids.map (kkAt t)).map rl=[101])):=j0u (j0s [1] (λn=>by simp[shp]) (by decide))
 generalize hR:(kids.map (kkAt t)).map rl=R at hrl HI ⊢
 clear hr x0 x1 x2 x3 x4;by_cases h1:R=[101]
 ·
  subst h1
  go_wp2_with fail;go_ret;exact⟨j03 (by rw[HI.out];rfl),L1⟩
 have q1:=j1o h1
 have H1:Hid (¬R=[101]):=h1
 clear h1;go_wp2_with fail;go_ret;exact⟨j03 (by rw[HI.out,decide_eq_false H1.out]),L1⟩
theorem jie (t:Tre) (tx:ByteArray) (q:Int) (s s1:Option Addr) (c c1:Nat) (kids:List Int) (B C:Nat) (w:World) (hL:Els 1 cInt w B s kids) (hN:Els 4 j1r w C s1 t.nodes) (hv:∀x∈kids,∃m:Nat,x=m/\m<t.nodes.length) (hl:kids.length<=1048576) (hn:t.nodes.length<=1048576) :
  Calls Tryz.prog 62 #[.agg #[.int .i64 13,.string tx,.int .i64 q,.slice s kids.length c],.slice s1 t.nodes.length c1] w (j10 t 13 kids w):=by
 have k0:=Blk.new w #[.int .i64 13,.string tx,.int .i64 q,.slice s kids.length c] 73
 have L0:=j00 (Below.refl _ w) (.cells #[.int .i64 13,.string tx,.int .i64 q,.slice s kids.length c] 73)
 obtain⟨x0,x1,x2,x3,x4⟩:=k0.four'
 have hr:=j0a t s s1 c c1 kids B C _ (hL.later j07 L0) (hN.later j08 L0) hv hl hn
 go_enter Tryz.func62,Tryz.ntmps62
 go_wp2_with fail;refine hr.mono ?_
 rintro e w1 ⟨rfl,hb1⟩
 have L1:=j01 L0 hb1
 obtain⟨y0,y1,y2,y3,y4⟩:=(k0.later hb1).four'
 have hrl:(((kids.map (kkAt t)).map rl)).length<=1048576:=by simp;exact hl
 have HI:Hid (kidB 13 (kids.map (kkAt t))=decide ((kids.map (kkAt t)).map rl=[101])):=j0u (j0s [1] (λn=>by simp[shp]) (by decide))
 generalize hR:(kids.map (kkAt t)).map rl=R at hrl HI ⊢
 clear hr x0 x1 x2 x3 x4;by_cases h1:R=[101]
 ·
  subst h1
  go_wp2_with fail;go_ret;exact⟨j03 (by rw[HI.out];rfl),L1⟩
 have q1:=j1o h1
 have H1:Hid (¬R=[101]):=h1
 clear h1;go_wp2_with fail;go_ret;exact⟨j03 (by rw[HI.out,decide_eq_false H1.out]),L1⟩
theorem jjd (t:Tre) (tx:ByteArray) (q:Int) (s s1:Option Addr) (c c1:Nat) (kids:List Int) (B C:Nat) (w:World) (hL:Els 1 cInt w B s kids) (hN:Els 4 j1r w C s1 t.nodes) (hv:∀x∈kids,∃m:Nat,x=m/\m<t.nodes.length) (hl:kids.length<=1048576) (hn:t.nodes.length<=1048576) :
  Calls Tryz.prog 62 #[.agg #[.int .i64 14,.string tx,.int .i64 q,.slice s kids.length c],.slice s1 t.nodes.length c1] w (j10 t 14 kids w):=by
 have k0:=Blk.new w #[.int .i64 14,.string tx,.int .i64 q,.slice s kids.length c] 73
 have L0:=j00 (Below.refl _ w) (.cells #[.int .i64 14,.string tx,.int .i64 q,.slice s kids.length c] 73)
 obtain⟨x0,x1,x2,x3,x4⟩:=k0.four'
 have hr:=j0a t s s1 c c1 kids B C _ (hL.later j07 L0) (hN.later j08 L0) hv hl hn
 go_enter Tryz.func62,Tryz.ntmps62
 go_wp2_with fail;refine hr.mono ?_
 rintro e w1 ⟨rfl,hb1⟩
 have L1:=j01 L0 hb1
 obtain⟨y0,y1,y2,y3,y4⟩:=(k0.later hb1).four'
 have hrl:(((kids.map (kkAt t)).map rl)).length<=1048576:=by simp;exact hl
 have HI:Hid (kidB 14 (kids.map (kkAt t))=decide ((kids.map (kkAt t)).map rl=[101])):=j0u (j0s [1] (λn=>by simp[shp]) (by decide))
 generalize hR:(kids.map (kkAt t)).map rl=R at hrl HI ⊢
 clear hr x0 x1 x2 x3 x4;by_cases h1:R=[101]
 ·
  subst h1
  go_wp2_with fail;go_ret;exact⟨j03 (by rw[HI.out];rfl),L1⟩
 have q1:=j1o h1
 have H1:Hid (¬R=[101]):=h1
 clear h1;go_wp2_with fail;go_ret;exact⟨j03 (by rw[HI.out,decide_eq_false H1.out]),L1⟩
theorem ji7 (t:Tre) (tx:ByteArray) (q:Int) (s s1:Option Addr) (c c1:Nat) (kids:List Int) (B C:Nat) (w:World) (hL:Els 1 cInt w B s kids) (hN:Els 4 j1r w C s1 t.nodes) (hv:∀x∈kids,∃m:Nat,x=m/\m<t.nodes.length) (hl:kids.length<=1048576) (hn:t.nodes.length<=1048576) :
  Calls Tryz.prog 62 #[.agg #[.int .i64 15,.string tx,.int .i64 q,.slice s kids.length c],.slice s1 t.nodes.length c1] w (j10 t 15 kids w):=by
 have k0:=Blk.new w #[.int .i64 15,.string tx,.int .i64 q,.slice s kids.length c] 73
 have L0:=j00 (Below.refl _ w) (.cells #[.int .i64 15,.string tx,.int .i64 q,.slice s kids.length c] 73)
 obtain⟨x0,x1,x2,x3,x4⟩:=k0.four'
 have hr:=j0a t s s1 c c1 kids B C _ (hL.later j07 L0) (hN.later j08 L0) hv hl hn
 go_enter Tryz.func62,Tryz.ntmps62
 go_wp2_with fail;refine hr.mono ?_
 rintro e w1 ⟨rfl,hb1⟩
 have L1:=j01 L0 hb1
 obtain⟨y0,y1,y2,y3,y4⟩:=(k0.later hb1).four'
 have hrl:(((kids.map (kkAt t)).map rl)).length<=1048576:=by simp;exact hl
 have HI:Hid (kidB 15 (kids.map (kkAt t))=decide ((kids.map (kkAt t)).map rl=[101])):=j0u (j0s [1] (λn=>by simp[shp]) (by decide))
 generalize hR:(kids.map (kkAt t)).map rl=R at hrl HI ⊢
 clear hr x0 x1 x2 x3 x4;by_cases h1:R=[101]
 ·
  subst h1
  go_wp2_with fail;go_ret;exact⟨j03 (by rw[HI.out];rfl),L1⟩
 have q1:=j1o h1
 have H1:Hid (¬R=[101]):=h1
 clear h1;go_wp2_with fail;go_ret;exact⟨j03 (by rw[HI.out,decide_eq_false H1.out]),L1⟩
theorem jjm (t:Tre) (tx:ByteArray) (q:Int) (s s1:Option Addr) (c c1:Nat) (kids:List Int) (B C:Nat) (w:World) (hL:Els 1 cInt w B s kids) (hN:Els 4 j1r w C s1 t.nodes) (hv:∀x∈kids,∃m:Nat,x=m/\m<t.nodes.length) (hl:kids.length<=1048576) (hn:t.nodes.length<=1048576) :
  Calls Tryz.prog 62 #[.agg #[.int .i64 16,.string tx,.int .i64 q,.slice s kids.length c],.slice s1 t.nodes.length c1] w (j10 t 16 kids w):=by
 have k0:=Blk.new w #[.int .i64 16,.string tx,.int .i64 q,.slice s kids.length c] 73
 have L0:=j00 (Below.refl _ w) (.cells #[.int .i64 16,.string tx,.int .i64 q,.slice s kids.length c] 73)
 obtain⟨x0,x1,x2,x3,x4⟩:=k0.four'
 have hr:=j0a t s s1 c c1 kids B C _ (hL.later j07 L0) (hN.later j08 L0) hv hl hn
 go_enter Tryz.func62,Tryz.ntmps62
 go_wp2_with fail;refine hr.mono ?_
 rintro e w1 ⟨rfl,hb1⟩
 have L1:=j01 L0 hb1
 obtain⟨y0,y1,y2,y3,y4⟩:=(k0.later hb1).four'
 have hrl:(((kids.map (kkAt t)).map rl)).length<=1048576:=by simp;exact hl
 have HI:Hid (kidB 16 (kids.map (kkAt t))=decide ((kids.map (kkAt t)).map rl=[101,98]\/(kids.map (kkAt t)).map rl=[101,98,98])):=j0u jhx
 generalize hR:(kids.map (kkAt t)).map rl=R at hrl HI ⊢
 clear hr x0 x1 x2 x3 x4;by_cases h1:R=[101,98]
 ·
  subst h1
  go_wp2_with fail;go_ret;exact⟨j03 (by rw[HI.out];rfl),L1⟩
 have q1:=j1o h1
 have H1:Hid (¬R=[101,98]):=h1
 clear h1;by_cases h2:R=[101,98,98]
 ·
  subst h2
  go_wp2_with fail;go_ret;exact⟨j03 (by rw[HI.out];rfl),L1⟩
 have q2:=j1o h2
 have H2:Hid (¬R=[101,98,98]):=h2
 clear h2;go_wp2_with fail;go_ret;exact⟨j03 (by rw[HI.out,decide_eq_false (λg=>g.elim H1.out H2.out)]),L1⟩
theorem jip (t:Tre) (tx:ByteArray) (q:Int) (s s1:Option Addr) (c c1:Nat) (kids:List Int) (B C:Nat) (w:World) (hL:Els 1 cInt w B s kids) (hN:Els 4 j1r w C s1 t.nodes) (hv:∀x∈kids,∃m:Nat,x=m/\m<t.nodes.length) (hl:kids.length<=1048576) (hn:t.nodes.length<=1048576) :
  Calls Tryz.prog 62 #[.agg #[.int .i64 17,.string tx,.int .i64 q,.slice s kids.length c],.slice s1 t.nodes.length c1] w (j10 t 17 kids w):=by
 have k0:=Blk.new w #[.int .i64 17,.string tx,.int .i64 q,.slice s kids.length c] 73
 have L0:=j00 (Below.refl _ w) (.cells #[.int .i64 17,.string tx,.int .i64 q,.slice s kids.length c] 73)
 obtain⟨x0,x1,x2,x3,x4⟩:=k0.four'
 have hr:=j0a t s s1 c c1 kids B C _ (hL.later j07 L0) (hN.later j08 L0) hv hl hn
 go_enter Tryz.func62,Tryz.ntmps62
 go_wp2_with fail;refine hr.mono ?_
 rintro e w1 ⟨rfl,hb1⟩
 have L1:=j01 L0 hb1
 obtain⟨y0,y1,y2,y3,y4⟩:=(k0.later hb1).four'
 have hrl:(((kids.map (kkAt t)).map rl)).length<=1048576:=by simp;exact hl
 have HI:Hid (kidB 17 (kids.map (kkAt t))=decide ((kids.map (kkAt t)).map rl=[101,98])):=j0u (j0s [1,3] (λn=>by simp[shp]) (by decide))
 generalize hR:(kids.map (kkAt t)).map rl=R at hrl HI ⊢
 clear hr x0 x1 x2 x3 x4;by_cases h1:R=[101,98]
 ·
  subst h1
  go_wp2_with fail;go_ret;exact⟨j03 (by rw[HI.out];rfl),L1⟩
 have q1:=j1o h1
 have H1:Hid (¬R=[101,98]):=h1
 clear h1;go_wp2_with fail;go_ret;exact⟨j03 (by rw[HI.out,decide_eq_false H1.out]),L1⟩
theorem jjo (t:Tre) (tx:ByteArray) (q:Int) (s s1:Option Addr) (c c1:Nat) (kids:List Int) (B C:Nat) (w:World) (hL:Els 1 cInt w B s kids) (hN:Els 4 j1r w C s1 t.nodes) (hv:∀x∈kids,∃m:Nat,x=m/\m<t.nodes.length) (hl:kids.length<=1048576) (hn:t.nodes.length<=1048576) :
  Calls Tryz.prog 62 #[.agg #[.int .i64 18,.string tx,.int .i64 q,.slice s kids.length c],.slice s1 t.nodes.length c1] w (j10 t 18 kids w):=by
 have k0:=Blk.new w #[.int .i64 18,.string tx,.int .i64 q,.slice s kids.length c] 73
 have L0:=j00 (Below.refl _ w) (.cells #[.int .i64 18,.string tx,.int .i64 q,.slice s kids.length c] 73)
 obtain⟨x0,x1,x2,x3,x4⟩:=k0.four'
 have hr:=j0a t s s1 c c1 kids B C _ (hL.later j07 L0) (hN.later j08 L0) hv hl hn
 go_enter Tryz.func62,Tryz.ntmps62
 go_wp2_with fail;refine hr.mono ?_
 rintro e w1 ⟨rfl,hb1⟩
 have L1:=j01 L0 hb1
 obtain⟨y0,y1,y2,y3,y4⟩:=(k0.later hb1).four'
 have hrl:(((kids.map (kkAt t)).map rl)).length<=1048576:=by simp;exact hl
 have HI:Hid (kidB 18 (kids.map (kkAt t))=decide ((kids.map (kkAt t)).map rl=[119,111,98])):=j0u (j0s [4,5,3] (λn=>by simp[shp]) (by decide))
 generalize hR:(kids.map (kkAt t)).map rl=R at hrl HI ⊢
 clear hr x0 x1 x2 x3 x4;by_cases h1:R=[119,111,98]
 ·
  subst h1
  go_wp2_with fail;go_ret;exact⟨j03 (by rw[HI.out];rfl),L1⟩
 have q1:=j1o h1
 have H1:Hid (¬R=[119,111,98]):=h1
 clear h1;go_wp2_with fail;go_ret;exact⟨j03 (by rw[HI.out,decide_eq_false H1.out]),L1⟩
theorem jil (t:Tre) (tx:ByteArray) (q:Int) (s s1:Option Addr) (c c1:Nat) (kids:List Int) (B C:Nat) (w:World) (hL:Els 1 cInt w B s kids) (hN:Els 4 j1r w C s1 t.nodes) (hv:∀x∈kids,∃m:Nat,x=m/\m<t.nodes.length) (hl:kids.length<=1048576) (hn:t.nodes.length<=1048576) :
  Calls Tryz.prog 62 #[.agg #[.int .i64 19,.string tx,.int .i64 q,.slice s kids.length c],.slice s1 t.nodes.length c1] w (j10 t 19 kids w):=by
 have k0:=Blk.new w #[.int .i64 19,.string tx,.int .i64 q,.slice s kids.length c] 73
 have L0:=j00 (Below.refl _ w) (.cells #[.int .i64 19,.string tx,.int .i64 q,.slice s kids.length c] 73)
 obtain⟨x0,x1,x2,x3,x4⟩:=k0.four'
 have hr:=j0a t s s1 c c1 kids B C _ (hL.later j07 L0) (hN.later j08 L0) hv hl hn
 go_enter Tryz.func62,Tryz.ntmps62
 go_wp2_with fail;refine hr.mono ?_
 rintro e w1 ⟨rfl,hb1⟩
 have L1:=j01 L0 hb1
 obtain⟨y0,y1,y2,y3,y4⟩:=(k0.later hb1).four'
 have hrl:(((kids.map (kkAt t)).map rl)).length<=1048576:=by simp;exact hl
 have HI:Hid (kidB 19 (kids.map (kkAt t))=decide ((kids.map (kkAt t)).map rl=[101])):=j0u (j0s [1] (λn=>by simp[shp]) (by decide))
 generalize hR:(kids.map (kkAt t)).map rl=R at hrl HI ⊢
 clear hr x0 x1 x2 x3 x4;by_cases h1:R=[101]
 ·
  subst h1
  go_wp2_with fail;go_ret;exact⟨j03 (by rw[HI.out];rfl),L1⟩
 have q1:=j1o h1
 have H1:Hid (¬R=[101]):=h1
 clear h1;go_wp2_with fail;go_ret;exact⟨j03 (by rw[HI.out,decide_eq_false H1.out]),L1⟩
theorem ji4 (t:Tre) (tx:ByteArray) (q:Int) (s s1:Option Addr) (c c1:Nat) (kids:List Int) (B C:Nat) (w:World) (hL:Els 1 cInt w B s kids) (hN:Els 4 j1r w C s1 t.nodes) (hv:∀x∈kids,∃m:Nat,x=m/\m<t.nodes.length) (hl:kids.length<=1048576) (hn:t.nodes.length<=1048576) :
  Calls Tryz.prog 62 #[.agg #[.int .i64 20,.string tx,.int .i64 q,.slice s kids.length c],.slice s1 t.nodes.length c1] w (j10 t 20 kids w):=by
 have k0:=Blk.new w #[.int .i64 20,.string tx,.int .i64 q,.slice s kids.length c] 73
 have L0:=j00 (Below.refl _ w) (.cells #[.int .i64 20,.string tx,.int .i64 q,.slice s kids.length c] 73)
 obtain⟨x0,x1,x2,x3,x4⟩:=k0.four'
 have hr:=j0a t s s1 c c1 kids B C _ (hL.later j07 L0) (hN.later j08 L0) hv hl hn
 go_enter Tryz.func62,Tryz.ntmps62
 go_wp2_with fail;refine hr.mono ?_
 rintro e w1 ⟨rfl,hb1⟩
 have L1:=j01 L0 hb1
 obtain⟨y0,y1,y2,y3,y4⟩:=(k0.later hb1).four'
 have hrl:(((kids.map (kkAt t)).map rl)).length<=1048576:=by simp;exact hl
 have HI:Hid (kidB 20 (kids.map (kkAt t))=decide ((kids.map (kkAt t)).map rl=[110,98])):=j0u (j0s [6,3] (λn=>by simp[shp]) (by decide))
 generalize hR:(kids.map (kkAt t)).map rl=R at hrl HI ⊢
 clear hr x0 x1 x2 x3 x4;by_cases h1:R=[110,98]
 ·
  subst h1
  go_wp2_with fail;go_ret;exact⟨j03 (by rw[HI.out];rfl),L1⟩
 have q1:=j1o h1
 have H1:Hid (¬R=[110,98]):=h1
 clear h1;go_wp2_with fail;go_ret;exact⟨j03 (by rw[HI.out,decide_eq_false H1.out]),L1⟩
theorem jhv (t:Tre) (tx:ByteArray) (q:Int) (s s1:Option Addr) (c c1:Nat) (kids:List Int) (B C:Nat) (w:World) (hL:Els 1 cInt w B s kids) (hN:Els 4 j1r w C s1 t.nodes) (hv:∀x∈kids,∃m:Nat,x=m/\m<t.nodes.length) (hl:kids.length<=1048576) (hn:t.nodes.length<=1048576) :
  Calls Tryz.prog 62 #[.agg #[.int .i64 21,.string tx,.int .i64 q,.slice s kids.length c],.slice s1 t.nodes.length c1] w (j10 t 21 kids w):=by
 have k0:=Blk.new w #[.int .i64 21,.string tx,.int .i64 q,.slice s kids.length c] 73
 have L0:=j00 (Below.refl _ w) (.cells #[.int .i64 21,.string tx,.int .i64 q,.slice s kids.length c] 73)
 obtain⟨x0,x1,x2,x3,x4⟩:=k0.four'
 have hr:=j0a t s s1 c c1 kids B C _ (hL.later j07 L0) (hN.later j08 L0) hv hl hn
 go_enter Tryz.func62,Tryz.ntmps62
 go_wp2_with fail;refine hr.mono ?_
 rintro e w1 ⟨rfl,hb1⟩
 have L1:=j01 L0 hb1
 obtain⟨y0,y1,y2,y3,y4⟩:=(k0.later hb1).four'
 have hrl:(((kids.map (kkAt t)).map rl)).length<=1048576:=by simp;exact hl
 have HI:Hid (kidB 21 (kids.map (kkAt t))=decide (∀b∈(kids.map (kkAt t)).map rl,b=99)):=j0u (j6a (c:=8) (λn=>by simp[shp]) (by decide))
 generalize hR:(kids.map (kkAt t)).map rl=R at hrl HI ⊢
 clear hr x0 x1 x2 x3 x4;go_wp2_with (go_at_call 63;refine(j42 _ 99 (by decide) hrl _).mono ?_;rintro e w2 ⟨rfl,hb2⟩)
 go_ret;exact⟨j03 (by rw[HI.out]),j01 L1 hb2⟩
theorem jiv (t:Tre) (tx:ByteArray) (q:Int) (s s1:Option Addr) (c c1:Nat) (kids:List Int) (B C:Nat) (w:World) (hL:Els 1 cInt w B s kids) (hN:Els 4 j1r w C s1 t.nodes) (hv:∀x∈kids,∃m:Nat,x=m/\m<t.nodes.length) (hl:kids.length<=1048576) (hn:t.nodes.length<=1048576) :
  Calls Tryz.prog 62 #[.agg #[.int .i64 22,.string tx,.int .i64 q,.slice s kids.length c],.slice s1 t.nodes.length c1] w (j10 t 22 kids w):=by
 have k0:=Blk.new w #[.int .i64 22,.string tx,.int .i64 q,.slice s kids.length c] 73
 have L0:=j00 (Below.refl _ w) (.cells #[.int .i64 22,.string tx,.int .i64 q,.slice s kids.length c] 73)
 obtain⟨x0,x1,x2,x3,x4⟩:=k0.four'
 have hr:=j0a t s s1 c c1 kids B C _ (hL.later j07 L0) (hN.later j08 L0) hv hl hn
 go_enter Tryz.func62,Tryz.ntmps62
 go_wp2_with fail;refine hr.mono ?_
 rintro e w1 ⟨rfl,hb1⟩
 have L1:=j01 L0 hb1
 obtain⟨y0,y1,y2,y3,y4⟩:=(k0.later hb1).four'
 have hrl:(((kids.map (kkAt t)).map rl)).length<=1048576:=by simp;exact hl
 have HI:Hid (kidB 22 (kids.map (kkAt t))=decide ((kids.map (kkAt t)).map rl=[])):=j0u (j0s [] (λn=>by simp[shp]) (by decide))
 generalize hR:(kids.map (kkAt t)).map rl=R at hrl HI ⊢
 clear hr x0 x1 x2 x3 x4;by_cases h1:R=[]
 ·
  subst h1
  go_wp2_with fail;go_ret;exact⟨j03 (by rw[HI.out];rfl),L1⟩
 have q1:=j0d (j0r h1)
 have H1:Hid (¬R=[]):=h1
 clear h1;go_wp2_with fail;go_ret;exact⟨j03 (by rw[HI.out,decide_eq_false H1.out];have h9:=j0d (j0r H1.out);simpa using h9),L1⟩
theorem jiw (t:Tre) (tx:ByteArray) (q:Int) (s s1:Option Addr) (c c1:Nat) (kids:List Int) (B C:Nat) (w:World) (hL:Els 1 cInt w B s kids) (hN:Els 4 j1r w C s1 t.nodes) (hv:∀x∈kids,∃m:Nat,x=m/\m<t.nodes.length) (hl:kids.length<=1048576) (hn:t.nodes.length<=1048576) :
  Calls Tryz.prog 62 #[.agg #[.int .i64 23,.string tx,.int .i64 q,.slice s kids.length c],.slice s1 t.nodes.length c1] w (j10 t 23 kids w):=by
 have k0:=Blk.new w #[.int .i64 23,.string tx,.int .i64 q,.slice s kids.length c] 73
 have L0:=j00 (Below.refl _ w) (.cells #[.int .i64 23,.string tx,.int .i64 q,.slice s kids.length c] 73)
 obtain⟨x0,x1,x2,x3,x4⟩:=k0.four'
 have hr:=j0a t s s1 c c1 kids B C _ (hL.later j07 L0) (hN.later j08 L0) hv hl hn
 go_enter Tryz.func62,Tryz.ntmps62
 go_wp2_with fail;refine hr.mono ?_
 rintro e w1 ⟨rfl,hb1⟩
 have L1:=j01 L0 hb1
 obtain⟨y0,y1,y2,y3,y4⟩:=(k0.later hb1).four'
 have hrl:(((kids.map (kkAt t)).map rl)).length<=1048576:=by simp;exact hl
 have HI:Hid (kidB 23 (kids.map (kkAt t))=decide ((kids.map (kkAt t)).map rl=[101])):=j0u (j0s [1] (λn=>by simp[shp]) (by decide))
 generalize hR:(kids.map (kkAt t)).map rl=R at hrl HI ⊢
 clear hr x0 x1 x2 x3 x4;by_cases h1:R=[101]
 ·
  subst h1
  go_wp2_with fail;go_ret;exact⟨j03 (by rw[HI.out];rfl),L1⟩
 have q1:=j1o h1
 have H1:Hid (¬R=[101]):=h1
 clear h1;go_wp2_with fail;go_ret;exact⟨j03 (by rw[HI.out,decide_eq_false H1.out]),L1⟩
theorem jiq (t:Tre) (tx:ByteArray) (q:Int) (s s1:Option Addr) (c c1:Nat) (kids:List Int) (B C:Nat) (w:World) (hL:Els 1 cInt w B s kids) (hN:Els 4 j1r w C s1 t.nodes) (hv:∀x∈kids,∃m:Nat,x=m/\m<t.nodes.length) (hl:kids.length<=1048576) (hn:t.nodes.length<=1048576) :
  Calls Tryz.prog 62 #[.agg #[.int .i64 24,.string tx,.int .i64 q,.slice s kids.length c],.slice s1 t.nodes.length c1] w (j10 t 24 kids w):=by
 have k0:=Blk.new w #[.int .i64 24,.string tx,.int .i64 q,.slice s kids.length c] 73
 have L0:=j00 (Below.refl _ w) (.cells #[.int .i64 24,.string tx,.int .i64 q,.slice s kids.length c] 73)
 obtain⟨x0,x1,x2,x3,x4⟩:=k0.four'
 have hr:=j0a t s s1 c c1 kids B C _ (hL.later j07 L0) (hN.later j08 L0) hv hl hn
 go_enter Tryz.func62,Tryz.ntmps62
 go_wp2_with fail;refine hr.mono ?_
 rintro e w1 ⟨rfl,hb1⟩
 have L1:=j01 L0 hb1
 obtain⟨y0,y1,y2,y3,y4⟩:=(k0.later hb1).four'
 have hrl:(((kids.map (kkAt t)).map rl)).length<=1048576:=by simp;exact hl
 have HI:Hid (kidB 24 (kids.map (kkAt t))=decide ((kids.map (kkAt t)).map rl=[])):=j0u (j0s [] (λn=>by simp[shp]) (by decide))
 generalize hR:(kids.map (kkAt t)).map rl=R at hrl HI ⊢
 clear hr x0 x1 x2 x3 x4;by_cases h1:R=[]
 ·
  subst h1
  go_wp2_with fail;go_ret;exact⟨j03 (by rw[HI.out];rfl),L1⟩
 have q1:=j0d (j0r h1)
 have H1:Hid (¬R=[]):=h1
 clear h1;go_wp2_with fail;go_ret;exact⟨j03 (by rw[HI.out,decide_eq_false H1.out];have h9:=j0d (j0r H1.out);simpa using h9),L1⟩
theorem ji6 (t:Tre) (tx:ByteArray) (q:Int) (s s1:Option Addr) (c c1:Nat) (kids:List Int) (B C:Nat) (w:World) (hL:Els 1 cInt w B s kids) (hN:Els 4 j1r w C s1 t.nodes) (hv:∀x∈kids,∃m:Nat,x=m/\m<t.nodes.length) (hl:kids.length<=1048576) (hn:t.nodes.length<=1048576) :
  Calls Tryz.prog 62 #[.agg #[.int .i64 25,.string tx,.int .i64 q,.slice s kids.length c],.slice s1 t.nodes.length c1] w (j10 t 25 kids w):=by
 have k0:=Blk.new w #[.int .i64 25,.string tx,.int .i64 q,.slice s kids.length c] 73
 have L0:=j00 (Below.refl _ w) (.cells #[.int .i64 25,.string tx,.int .i64 q,.slice s kids.length c] 73)
 obtain⟨x0,x1,x2,x3,x4⟩:=k0.four'
 have hr:=j0a t s s1 c c1 kids B C _ (hL.later j07 L0) (hN.later j08 L0) hv hl hn
 go_enter Tryz.func62,Tryz.ntmps62
 go_wp2_with fail;refine hr.mono ?_
 rintro e w1 ⟨rfl,hb1⟩
 have L1:=j01 L0 hb1
 obtain⟨y0,y1,y2,y3,y4⟩:=(k0.later hb1).four'
 have hrl:(((kids.map (kkAt t)).map rl)).length<=1048576:=by simp;exact hl
 have HI:Hid (kidB 25 (kids.map (kkAt t))=decide ((kids.map (kkAt t)).map rl=[101]/\(kids.map (kkAt t))[0]?=some 7)):=j0u jj2
 generalize hR:(kids.map (kkAt t)).map rl=R at hrl HI ⊢
 have HR:Hid ((kids.map (kkAt t)).map rl=R):=hR
 clear hR;clear hr x0 x1 x2 x3 x4;by_cases h1:R=[101]
 ·
  subst h1
  have hl1:kids.length=1:=by have:=congrArg List.length HR.out;simpa using this
  obtain⟨x,hx⟩:=j0q (show 0<kids.length by omega)
  obtain⟨m,rfl,hm⟩:=hv x (List.mem_of_getElem? hx)
  obtain⟨nd,hnd⟩:=j0q hm
  obtain⟨kb,ko,rfl,_,hkb,p0⟩:=j05 (hL.later j07 L1) hx
  obtain⟨b,o,rfl,_,hb,s9,c9,e0,_,_,_,_⟩:=j15 (hN.later j08 L1) hnd
  have HK:Hid ((kids.map (kkAt t))[0]?=some nd.kind):=by show _=_;simp[List.getElem?_map,hx,kkAt,hnd]
  have hmI:(m:Int)<(t.nodes.length:Int):=by omega
  have hl2:0<kids.length:=by omega
  simp only[Nat.add_zero] at p0
  clear hv hx hnd hL hN hl1;cases q7:(nd.kind ==7)
  ·
   have HE:Hid (¬nd.kind=7):=by show¬_;simpa using q7
   go_wp2_with fail;go_ret;exact⟨j03 (by rw[HI.out,HK.out,decide_eq_false (λg=>HE.out (by simpa using g.2))]),L1⟩
  have HE:Hid (nd.kind=7):=by show _=_;simpa using q7
  go_wp2_with fail;go_ret;exact⟨j03 (by rw[HI.out,HK.out,HE.out];rfl),L1⟩
 have q1:=j1o h1
 have H1:Hid (¬R=[101]):=h1
 clear h1;go_wp2_with fail;go_ret;exact⟨j03 (by rw[HI.out,decide_eq_false (λg=>H1.out g.1)]),L1⟩
theorem ji0 (t:Tre) (tx:ByteArray) (q:Int) (s s1:Option Addr) (c c1:Nat) (kids:List Int) (B C:Nat) (w:World) (hL:Els 1 cInt w B s kids) (hN:Els 4 j1r w C s1 t.nodes) (hv:∀x∈kids,∃m:Nat,x=m/\m<t.nodes.length) (hl:kids.length<=1048576) (hn:t.nodes.length<=1048576) :
  Calls Tryz.prog 62 #[.agg #[.int .i64 26,.string tx,.int .i64 q,.slice s kids.length c],.slice s1 t.nodes.length c1] w (j10 t 26 kids w):=by
 have k0:=Blk.new w #[.int .i64 26,.string tx,.int .i64 q,.slice s kids.length c] 73
 have L0:=j00 (Below.refl _ w) (.cells #[.int .i64 26,.string tx,.int .i64 q,.slice s kids.length c] 73)
 obtain⟨x0,x1,x2,x3,x4⟩:=k0.four'
 have hr:=j0a t s s1 c c1 kids B C _ (hL.later j07 L0) (hN.later j08 L0) hv hl hn
 go_enter Tryz.func62,Tryz.ntmps62
 go_wp2_with fail;refine hr.mono ?_
 rintro e w1 ⟨rfl,hb1⟩
 have L1:=j01 L0 hb1
 obtain⟨y0,y1,y2,y3,y4⟩:=(k0.later hb1).four'
 have hrl:(((kids.map (kkAt t)).map rl)).length<=1048576:=by simp;exact hl
 have HI:Hid (kidB 26 (kids.map (kkAt t))=decide ((kids.map (kkAt t)).map rl=[101])):=j0u (j0s [1] (λn=>by simp[shp]) (by decide))
 generalize hR:(kids.map (kkAt t)).map rl=R at hrl HI ⊢
 clear hr x0 x1 x2 x3 x4;by_cases h1:R=[101]
 ·
  subst h1
  go_wp2_with fail;go_ret;exact⟨j03 (by rw[HI.out];rfl),L1⟩
 have q1:=j1o h1
 have H1:Hid (¬R=[101]):=h1
 clear h1;go_wp2_with fail;go_ret;exact⟨j03 (by rw[HI.out,decide_eq_false H1.out]),L1⟩
theorem jic (t:Tre) (tx:ByteArray) (q:Int) (s s1:Option Addr) (c c1:Nat) (kids:List Int) (B C:Nat) (w:World) (hL:Els 1 cInt w B s kids) (hN:Els 4 j1r w C s1 t.nodes) (hv:∀x∈kids,∃m:Nat,x=m/\m<t.nodes.length) (hl:kids.length<=1048576) (hn:t.nodes.length<=1048576) :
  Calls Tryz.prog 62 #[.agg #[.int .i64 27,.string tx,.int .i64 q,.slice s kids.length c],.slice s1 t.nodes.length c1] w (j10 t 27 kids w):=by
 have k0:=Blk.new w #[.int .i64 27,.string tx,.int .i64 q,.slice s kids.length c] 73
 have L0:=j00 (Below.refl _ w) (.cells #[.int .i64 27,.string tx,.int .i64 q,.slice s kids.length c] 73)
 obtain⟨x0,x1,x2,x3,x4⟩:=k0.four'
 have hr:=j0a t s s1 c c1 kids B C _ (hL.later j07 L0) (hN.later j08 L0) hv hl hn
 go_enter Tryz.func62,Tryz.ntmps62
 go_wp2_with fail;refine hr.mono ?_
 rintro e w1 ⟨rfl,hb1⟩
 have L1:=j01 L0 hb1
 obtain⟨y0,y1,y2,y3,y4⟩:=(k0.later hb1).four'
 have hrl:(((kids.map (kkAt t)).map rl)).length<=1048576:=by simp;exact hl
 have HI:Hid (kidB 27 (kids.map (kkAt t))=decide (∀b∈(kids.map (kkAt t)).map rl,b=115)):=j0u (j6a (c:=2) (λn=>by simp[shp]) (by decide))
 generalize hR:(kids.map (kkAt t)).map rl=R at hrl HI ⊢
 clear hr x0 x1 x2 x3 x4;go_wp2_with (go_at_call 63;refine(j42 _ 115 (by decide) hrl _).mono ?_;rintro e w2 ⟨rfl,hb2⟩)
 go_ret;exact⟨j03 (by rw[HI.out]),j01 L1 hb2⟩
theorem jib (t:Tre) (tx:ByteArray) (q:Int) (s s1:Option Addr) (c c1:Nat) (kids:List Int) (B C:Nat) (w:World) (hL:Els 1 cInt w B s kids) (hN:Els 4 j1r w C s1 t.nodes) (hv:∀x∈kids,∃m:Nat,x=m/\m<t.nodes.length) (hl:kids.length<=1048576) (hn:t.nodes.length<=1048576) :
  Calls Tryz.prog 62 #[.agg #[.int .i64 28,.string tx,.int .i64 q,.slice s kids.length c],.slice s1 t.nodes.length c1] w (j10 t 28 kids w):=by
 have k0:=Blk.new w #[.int .i64 28,.string tx,.int .i64 q,.slice s kids.length c] 73
 have L0:=j00 (Below.refl _ w) (.cells #[.int .i64 28,.string tx,.int .i64 q,.slice s kids.length c] 73)
 obtain⟨x0,x1,x2,x3,x4⟩:=k0.four'
 have hr:=j0a t s s1 c c1 kids B C _ (hL.later j07 L0) (hN.later j08 L0) hv hl hn
 go_enter Tryz.func62,Tryz.ntmps62
 go_wp2_with fail;refine hr.mono ?_
 rintro e w1 ⟨rfl,hb1⟩
 have L1:=j01 L0 hb1
 obtain⟨y0,y1,y2,y3,y4⟩:=(k0.later hb1).four'
 have hrl:(((kids.map (kkAt t)).map rl)).length<=1048576:=by simp;exact hl
 have HI:Hid (kidB 28 (kids.map (kkAt t))=decide ((kids.map (kkAt t)).map rl=[101])):=j0u (j0s [1] (λn=>by simp[shp]) (by decide))
 generalize hR:(kids.map (kkAt t)).map rl=R at hrl HI ⊢
 clear hr x0 x1 x2 x3 x4;by_cases h1:R=[101]
 ·
  subst h1
  go_wp2_with fail;go_ret;exact⟨j03 (by rw[HI.out];rfl),L1⟩
 have q1:=j1o h1
 have H1:Hid (¬R=[101]):=h1
 clear h1;go_wp2_with fail;go_ret;exact⟨j03 (by rw[HI.out,decide_eq_false H1.out]),L1⟩
theorem jjn (t:Tre) (tx:ByteArray) (q:Int) (s s1:Option Addr) (c c1:Nat) (kids:List Int) (B C:Nat) (w:World) (hL:Els 1 cInt w B s kids) (hN:Els 4 j1r w C s1 t.nodes) (hv:∀x∈kids,∃m:Nat,x=m/\m<t.nodes.length) (hl:kids.length<=1048576) (hn:t.nodes.length<=1048576) :
  Calls Tryz.prog 62 #[.agg #[.int .i64 29,.string tx,.int .i64 q,.slice s kids.length c],.slice s1 t.nodes.length c1] w (j10 t 29 kids w):=by
 have k0:=Blk.new w #[.int .i64 29,.string tx,.int .i64 q,.slice s kids.length c] 73
 have L0:=j00 (Below.refl _ w) (.cells #[.int .i64 29,.string tx,.int .i64 q,.slice s kids.length c] 73)
 obtain⟨x0,x1,x2,x3,x4⟩:=k0.four'
 have hr:=j0a t s s1 c c1 kids B C _ (hL.later j07 L0) (hN.later j08 L0) hv hl hn
 go_enter Tryz.func62,Tryz.ntmps62
 go_wp2_with fail;refine hr.mono ?_
 rintro e w1 ⟨rfl,hb1⟩
 have L1:=j01 L0 hb1
 obtain⟨y0,y1,y2,y3,y4⟩:=(k0.later hb1).four'
 have hrl:(((kids.map (kkAt t)).map rl)).length<=1048576:=by simp;exact hl
 have HI:Hid (kidB 29 (kids.map (kkAt t))=decide (¬(kids.map (kkAt t)).map rl=[]/\∀b∈(kids.map (kkAt t)).map rl,b=110)):=j0u je9
 generalize hR:(kids.map (kkAt t)).map rl=R at hrl HI ⊢
 clear hr x0 x1 x2 x3 x4;by_cases h1:R=[]
 ·
  subst h1
  go_wp2_with fail;go_ret;exact⟨j03 (by rw[HI.out];rfl),L1⟩
 have q1:=j0d (j0r h1)
 have H1:Hid (¬R=[]):=h1
 clear h1;go_wp2_with (go_at_call 63;refine(j42 _ 110 (by decide) hrl _).mono ?_;rintro e w2 ⟨rfl,hb2⟩)
 go_ret;refine⟨j03 ?_,j01 L1 hb2⟩
 rw[HI.out]
 have h5:=H1.out
 simp[h5]
theorem jj6 (t:Tre) (tx:ByteArray) (q:Int) (s s1:Option Addr) (c c1:Nat) (kids:List Int) (B C:Nat) (w:World) (hL:Els 1 cInt w B s kids) (hN:Els 4 j1r w C s1 t.nodes) (hv:∀x∈kids,∃m:Nat,x=m/\m<t.nodes.length) (hl:kids.length<=1048576) (hn:t.nodes.length<=1048576) :
  Calls Tryz.prog 62 #[.agg #[.int .i64 30,.string tx,.int .i64 q,.slice s kids.length c],.slice s1 t.nodes.length c1] w (j10 t 30 kids w):=by
 have k0:=Blk.new w #[.int .i64 30,.string tx,.int .i64 q,.slice s kids.length c] 73
 have L0:=j00 (Below.refl _ w) (.cells #[.int .i64 30,.string tx,.int .i64 q,.slice s kids.length c] 73)
 obtain⟨x0,x1,x2,x3,x4⟩:=k0.four'
 have hr:=j0a t s s1 c c1 kids B C _ (hL.later j07 L0) (hN.later j08 L0) hv hl hn
 go_enter Tryz.func62,Tryz.ntmps62
 go_wp2_with fail;refine hr.mono ?_
 rintro e w1 ⟨rfl,hb1⟩
 have L1:=j01 L0 hb1
 obtain⟨y0,y1,y2,y3,y4⟩:=(k0.later hb1).four'
 have hrl:(((kids.map (kkAt t)).map rl)).length<=1048576:=by simp;exact hl
 have HI:Hid (kidB 30 (kids.map (kkAt t))=decide (∀b∈(kids.map (kkAt t)).map rl,b=110)):=j0u (j6a (c:=6) (λn=>by simp[shp]) (by decide))
 generalize hR:(kids.map (kkAt t)).map rl=R at hrl HI ⊢
 clear hr x0 x1 x2 x3 x4;go_wp2_with (go_at_call 63;refine(j42 _ 110 (by decide) hrl _).mono ?_;rintro e w2 ⟨rfl,hb2⟩)
 go_ret;exact⟨j03 (by rw[HI.out]),j01 L1 hb2⟩
theorem jjk (t:Tre) (tx:ByteArray) (q:Int) (s s1:Option Addr) (c c1:Nat) (kids:List Int) (B C:Nat) (w:World) (hL:Els 1 cInt w B s kids) (hN:Els 4 j1r w C s1 t.nodes) (hv:∀x∈kids,∃m:Nat,x=m/\m<t.nodes.length) (hl:kids.length<=1048576) (hn:t.nodes.length<=1048576) :
  Calls Tryz.prog 62 #[.agg #[.int .i64 31,.string tx,.int .i64 q,.slice s kids.length c],.slice s1 t.nodes.length c1] w (j10 t 31 kids w):=by
 have k0:=Blk.new w #[.int .i64 31,.string tx,.int .i64 q,.slice s kids.length c] 73
 have L0:=j00 (Below.refl _ w) (.cells #[.int .i64 31,.string tx,.int .i64 q,.slice s kids.length c] 73)
 obtain⟨x0,x1,x2,x3,x4⟩:=k0.four'
 have hr:=j0a t s s1 c c1 kids B C _ (hL.later j07 L0) (hN.later j08 L0) hv hl hn
 go_enter Tryz.func62,Tryz.ntmps62
 go_wp2_with fail;refine hr.mono ?_
 rintro e w1 ⟨rfl,hb1⟩
 have L1:=j01 L0 hb1
 obtain⟨y0,y1,y2,y3,y4⟩:=(k0.later hb1).four'
 have hrl:(((kids.map (kkAt t)).map rl)).length<=1048576:=by simp;exact hl
 have HI:Hid (kidB 31 (kids.map (kkAt t))=decide ((kids.map (kkAt t)).map rl=[])):=j0u (j0s [] (λn=>by simp[shp]) (by decide))
 generalize hR:(kids.map (kkAt t)).map rl=R at hrl HI ⊢
 clear hr x0 x1 x2 x3 x4;by_cases h1:R=[]
 ·
  subst h1
  go_wp2_with fail;go_ret;exact⟨j03 (by rw[HI.out];rfl),L1⟩
 have q1:=j0d (j0r h1)
 have H1:Hid (¬R=[]):=h1
 clear h1;go_wp2_with fail;go_ret;exact⟨j03 (by rw[HI.out,decide_eq_false H1.out];have h9:=j0d (j0r H1.out);simpa using h9),L1⟩
theorem ji5 (t:Tre) (tx:ByteArray) (q:Int) (s s1:Option Addr) (c c1:Nat) (kids:List Int) (B C:Nat) (w:World) (hL:Els 1 cInt w B s kids) (hN:Els 4 j1r w C s1 t.nodes) (hv:∀x∈kids,∃m:Nat,x=m/\m<t.nodes.length) (hl:kids.length<=1048576) (hn:t.nodes.length<=1048576) :
  Calls Tryz.prog 62 #[.agg #[.int .i64 32,.string tx,.int .i64 q,.slice s kids.length c],.slice s1 t.nodes.length c1] w (j10 t 32 kids w):=by
 have k0:=Blk.new w #[.int .i64 32,.string tx,.int .i64 q,.slice s kids.length c] 73
 have L0:=j00 (Below.refl _ w) (.cells #[.int .i64 32,.string tx,.int .i64 q,.slice s kids.length c] 73)
 obtain⟨x0,x1,x2,x3,x4⟩:=k0.four'
 have hr:=j0a t s s1 c c1 kids B C _ (hL.later j07 L0) (hN.later j08 L0) hv hl hn
 go_enter Tryz.func62,Tryz.ntmps62
 go_wp2_with fail;refine hr.mono ?_
 rintro e w1 ⟨rfl,hb1⟩
 have L1:=j01 L0 hb1
 obtain⟨y0,y1,y2,y3,y4⟩:=(k0.later hb1).four'
 have hrl:(((kids.map (kkAt t)).map rl)).length<=1048576:=by simp;exact hl
 have HI:Hid (kidB 32 (kids.map (kkAt t))=decide ((kids.map (kkAt t)).map rl=[])):=j0u (j0s [] (λn=>by simp[shp]) (by decide))
 generalize hR:(kids.map (kkAt t)).map rl=R at hrl HI ⊢
 clear hr x0 x1 x2 x3 x4;by_cases h1:R=[]
 ·
  subst h1
  go_wp2_with fail;go_ret;exact⟨j03 (by rw[HI.out];rfl),L1⟩
 have q1:=j0d (j0r h1)
 have H1:Hid (¬R=[]):=h1
 clear h1;go_wp2_with fail;go_ret;exact⟨j03 (by rw[HI.out,decide_eq_false H1.out];have h9:=j0d (j0r H1.out);simpa using h9),L1⟩
theorem jig (t:Tre) (tx:ByteArray) (q:Int) (s s1:Option Addr) (c c1:Nat) (kids:List Int) (B C:Nat) (w:World) (hL:Els 1 cInt w B s kids) (hN:Els 4 j1r w C s1 t.nodes) (hv:∀x∈kids,∃m:Nat,x=m/\m<t.nodes.length) (hl:kids.length<=1048576) (hn:t.nodes.length<=1048576) :
  Calls Tryz.prog 62 #[.agg #[.int .i64 33,.string tx,.int .i64 q,.slice s kids.length c],.slice s1 t.nodes.length c1] w (j10 t 33 kids w):=by
 have k0:=Blk.new w #[.int .i64 33,.string tx,.int .i64 q,.slice s kids.length c] 73
 have L0:=j00 (Below.refl _ w) (.cells #[.int .i64 33,.string tx,.int .i64 q,.slice s kids.length c] 73)
 obtain⟨x0,x1,x2,x3,x4⟩:=k0.four'
 have hr:=j0a t s s1 c c1 kids B C _ (hL.later j07 L0) (hN.later j08 L0) hv hl hn
 go_enter Tryz.func62,Tryz.ntmps62
 go_wp2_with fail;refine hr.mono ?_
 rintro e w1 ⟨rfl,hb1⟩
 have L1:=j01 L0 hb1
 obtain⟨y0,y1,y2,y3,y4⟩:=(k0.later hb1).four'
 have hrl:(((kids.map (kkAt t)).map rl)).length<=1048576:=by simp;exact hl
 have HI:Hid (kidB 33 (kids.map (kkAt t))=@decide (∃r,(kids.map (kkAt t)).map rl=r++[98]/\∀b∈r,b=112) (Classical.propDecidable _)):=by classical exact j0u jjj
 generalize hR:(kids.map (kkAt t)).map rl=R at hrl HI ⊢
 clear hr x0 x1 x2 x3 x4;have hT:=λW=>Any.strings_TrimLeft_one Tryz.laysTrimLeft ⟨R.toArray⟩ 112 (by decide) W
 have hE:(⟨R.toArray⟩:ByteArray).data.toList=R:=by simp
 simp only[hE] at hT
 by_cases h1:Lib.trimLeftB R 112=[98]
 ·
  have HX:Hid (∃r,R=r++[98]/\∀b∈r,b=112):=⟨R.takeWhile (· ==112),by rw[<-h1];exact(List.takeWhile_append_dropWhile (p:=(· ==112)) (l:=R)).symm,λb hb=>by
   have:=List.all_takeWhile (p:=(· ==(112:UInt8))) (l:=R)
   rw[List.all_eq_true] at this
   simpa using this b hb⟩
  rw[h1] at hT
  clear h1;go_wp2_with (go_at_call 79;refine(hT _).mono ?_;rintro e w2 ⟨rfl,rfl⟩)
  go_ret;exact⟨j03 (by rw[HI.out];symm;exact @decide_eq_true _ (Classical.propDecidable _) HX.out),L1⟩
 have HX:Hid (¬∃r,R=r++[98]/\∀b∈r,b=112):=by
  rintro⟨r,e,hr⟩
  apply h1
  rw[e]
  unfold Lib.trimLeftB
  rw[List.dropWhile_append,j3y.2 (λb hb=>by simp[hr b hb])]
  all_goals rfl
 have q1:=j1o h1
 generalize Lib.trimLeftB R 112=T at hT q1
 clear h1;go_wp2_with (go_at_call 79;refine(hT _).mono ?_;rintro e w2 ⟨rfl,rfl⟩)
 go_ret;exact⟨j03 (by rw[HI.out];symm;exact @decide_eq_false _ (Classical.propDecidable _) HX.out),L1⟩
theorem jj4 (t:Tre) (tx:ByteArray) (q:Int) (s s1:Option Addr) (c c1:Nat) (kids:List Int) (B C:Nat) (w:World) (hL:Els 1 cInt w B s kids) (hN:Els 4 j1r w C s1 t.nodes) (hv:∀x∈kids,∃m:Nat,x=m/\m<t.nodes.length) (hl:kids.length<=1048576) (hn:t.nodes.length<=1048576) :
  Calls Tryz.prog 62 #[.agg #[.int .i64 34,.string tx,.int .i64 q,.slice s kids.length c],.slice s1 t.nodes.length c1] w (j10 t 34 kids w):=by
 have k0:=Blk.new w #[.int .i64 34,.string tx,.int .i64 q,.slice s kids.length c] 73
 have L0:=j00 (Below.refl _ w) (.cells #[.int .i64 34,.string tx,.int .i64 q,.slice s kids.length c] 73)
 obtain⟨x0,x1,x2,x3,x4⟩:=k0.four'
 have hr:=j0a t s s1 c c1 kids B C _ (hL.later j07 L0) (hN.later j08 L0) hv hl hn
 go_enter Tryz.func62,Tryz.ntmps62
 go_wp2_with fail;refine hr.mono ?_
 rintro e w1 ⟨rfl,hb1⟩
 have L1:=j01 L0 hb1
 obtain⟨y0,y1,y2,y3,y4⟩:=(k0.later hb1).four'
 have hrl:(((kids.map (kkAt t)).map rl)).length<=1048576:=by simp;exact hl
 have HI:Hid (kidB 34 (kids.map (kkAt t))=decide ((kids.map (kkAt t)).map rl=[98])):=j0u (j0s [3] (λn=>by simp[shp]) (by decide))
 generalize hR:(kids.map (kkAt t)).map rl=R at hrl HI ⊢
 clear hr x0 x1 x2 x3 x4;by_cases h1:R=[98]
 ·
  subst h1
  go_wp2_with fail;go_ret;exact⟨j03 (by rw[HI.out];rfl),L1⟩
 have q1:=j1o h1
 have H1:Hid (¬R=[98]):=h1
 clear h1;go_wp2_with fail;go_ret;exact⟨j03 (by rw[HI.out,decide_eq_false H1.out]),L1⟩
theorem j5y (k:Int) (hk:k<1\/34<k) (t:Tre) (tx:ByteArray) (q:Int) (s s1:Option Addr) (c c1:Nat) (kids:List Int) (B C:Nat) (w:World) (hL:Els 1 cInt w B s kids) (hN:Els 4 j1r w C s1 t.nodes) (hv:∀x∈kids,∃m:Nat,x=m/\m<t.nodes.length) (hl:kids.length<=1048576) (hn:t.nodes.length<=1048576) :
  Calls Tryz.prog 62 #[.agg #[.int .i64 k,.string tx,.int .i64 q,.slice s kids.length c],.slice s1 t.nodes.length c1] w (j10 t k kids w):=by
 have k0:=Blk.new w #[.int .i64 k,.string tx,.int .i64 q,.slice s kids.length c] 73
 have L0:=j00 (Below.refl _ w) (.cells #[.int .i64 k,.string tx,.int .i64 q,.slice s kids.length c] 73)
 obtain⟨x0,x1,x2,x3,x4⟩:=k0.four'
 have hr:=j0a t s s1 c c1 kids B C _ (hL.later j07 L0) (hN.later j08 L0) hv hl hn
 have HN:=j0p hk
 have g7:=HN.ne 7 (by omega) (by omega)
 have g8:=HN.ne 8 (by omega) (by omega)
 have g9:=HN.ne 9 (by omega) (by omega)
 have g10:=HN.ne 10 (by omega) (by omega)
 have g11:=HN.ne 11 (by omega) (by omega)
 have g12:=HN.ne 12 (by omega) (by omega)
 have g13:=HN.ne 13 (by omega) (by omega)
 have g14:=HN.ne 14 (by omega) (by omega)
 have g15:=HN.ne 15 (by omega) (by omega)
 have g16:=HN.ne 16 (by omega) (by omega)
 have g17:=HN.ne 17 (by omega) (by omega)
 have g18:=HN.ne 18 (by omega) (by omega)
 have g19:=HN.ne 19 (by omega) (by omega)
 have g20:=HN.ne 20 (by omega) (by omega)
 have g21:=HN.ne 21 (by omega) (by omega)
 have g23:=HN.ne 23 (by omega) (by omega)
 have g25:=HN.ne 25 (by omega) (by omega)
 have g26:=HN.ne 26 (by omega) (by omega)
 have g27:=HN.ne 27 (by omega) (by omega)
 have g28:=HN.ne 28 (by omega) (by omega)
 have g29:=HN.ne 29 (by omega) (by omega)
 have g30:=HN.ne 30 (by omega) (by omega)
 have g33:=HN.ne 33 (by omega) (by omega)
 have g34:=HN.ne 34 (by omega) (by omega)
 clear HN;go_enter Tryz.func62,Tryz.ntmps62
 go_wp2_with fail;refine hr.mono ?_
 rintro e w1 ⟨rfl,hb1⟩
 have L1:=j01 L0 hb1
 obtain⟨y0,y1,y2,y3,y4⟩:=(k0.later hb1).four'
 have hrl:(((kids.map (kkAt t)).map rl)).length<=1048576:=by simp;exact hl
 have HI:Hid (kidB k (kids.map (kkAt t))=decide ((kids.map (kkAt t)).map rl=[])):=j0u (jf0 hk)
 generalize hR:(kids.map (kkAt t)).map rl=R at hrl HI ⊢
 clear hr x0 x1 x2 x3 x4;by_cases h1:R=[]
 ·
  subst h1
  go_wp2_with fail;go_ret;exact⟨j03 (by rw[HI.out];rfl),L1⟩
 have q1:=j0d (j0r h1)
 have H1:Hid (¬R=[]):=h1
 clear h1;go_wp2_with fail;go_ret;exact⟨j03 (by rw[HI.out,decide_eq_false H1.out];have h9:=j0d (j0r H1.out);simpa using h9),L1⟩
theorem j6n (k:Int) (t:Tre) (tx:ByteArray) (q:Int) (s s1:Option Addr) (c c1:Nat) (kids:List Int) (B C:Nat) (w:World) (hL:Els 1 cInt w B s kids) (hN:Els 4 j1r w C s1 t.nodes) (hv:∀x∈kids,∃m:Nat,x=m/\m<t.nodes.length) (hl:kids.length<=1048576) (hn:t.nodes.length<=1048576) :
  Calls Tryz.prog 62 #[.agg #[.int .i64 k,.string tx,.int .i64 q,.slice s kids.length c],.slice s1 t.nodes.length c1] w (j10 t k kids w):=by
 rcases j4o k with h|h|rfl|rfl|rfl|rfl|rfl|rfl|rfl|rfl|rfl|rfl|rfl|rfl|rfl|rfl|rfl|rfl|rfl|rfl|rfl|rfl|rfl|rfl|rfl|rfl|rfl|rfl|rfl|rfl|rfl|rfl|rfl|rfl|rfl|rfl
 ·
  exact j5y k (Or.inl h) t tx q s s1 c c1 kids B C w hL hN hv hl hn
 ·
  exact j5y k (Or.inr h) t tx q s s1 c c1 kids B C w hL hN hv hl hn
 ·
  exact jjs t tx q s s1 c c1 kids B C w hL hN hv hl hn
 ·
  exact jld t tx q s s1 c c1 kids B C w hL hN hv hl hn
 ·
  exact jlj t tx q s s1 c c1 kids B C w hL hN hv hl hn
 ·
  exact jl6 t tx q s s1 c c1 kids B C w hL hN hv hl hn
 ·
  exact jle t tx q s s1 c c1 kids B C w hL hN hv hl hn
 ·
  exact jki t tx q s s1 c c1 kids B C w hL hN hv hl hn
 ·
  exact jl0 t tx q s s1 c c1 kids B C w hL hN hv hl hn
 ·
  exact jkl t tx q s s1 c c1 kids B C w hL hN hv hl hn
 ·
  exact jl7 t tx q s s1 c c1 kids B C w hL hN hv hl hn
 ·
  exact jjp t tx q s s1 c c1 kids B C w hL hN hv hl hn
 ·
  exact jin t tx q s s1 c c1 kids B C w hL hN hv hl hn
 ·
  exact jhw t tx q s s1 c c1 kids B C w hL hN hv hl hn
 ·
  exact jie t tx q s s1 c c1 kids B C w hL hN hv hl hn
 ·
  exact jjd t tx q s s1 c c1 kids B C w hL hN hv hl hn
 ·
  exact ji7 t tx q s s1 c c1 kids B C w hL hN hv hl hn
 ·
  exact jjm t tx q s s1 c c1 kids B C w hL hN hv hl hn
 ·
  exact jip t tx q s s1 c c1 kids B C w hL hN hv hl hn
 ·
  exact jjo t tx q s s1 c c1 kids B C w hL hN hv hl hn
 ·
  exact jil t tx q s s1 c c1 kids B C w hL hN hv hl hn
 ·
  exact ji4 t tx q s s1 c c1 kids B C w hL hN hv hl hn
 ·
  exact jhv t tx q s s1 c c1 kids B C w hL hN hv hl hn
 ·
  exact jiv t tx q s s1 c c1 kids B C w hL hN hv hl hn
 ·
  exact jiw t tx q s s1 c c1 kids B C w hL hN hv hl hn
 ·
  exact jiq t tx q s s1 c c1 kids B C w hL hN hv hl hn
 ·
  exact ji6 t tx q s s1 c c1 kids B C w hL hN hv hl hn
 ·
  exact ji0 t tx q s s1 c c1 kids B C w hL hN hv hl hn
 ·
  exact jic t tx q s s1 c c1 kids B C w hL hN hv hl hn
 ·
  exact jib t tx q s s1 c c1 kids B C w hL hN hv hl hn
 ·
  exact jjn t tx q s s1 c c1 kids B C w hL hN hv hl hn
 ·
  exact jj6 t tx q s s1 c c1 kids B C w hL hN hv hl hn
 ·
  exact jjk t tx q s s1 c c1 kids B C w hL hN hv hl hn
 ·
  exact ji5 t tx q s s1 c c1 kids B C w hL hN hv hl hn
 ·
  exact jig t tx q s s1 c c1 kids B C w hL hN hv hl hn
 exact jj4 t tx q s s1 c c1 kids B C w hL hN hv hl hn
end
section
open Go.RowKit
theorem jaw {s a b:ByteArray} (hc:jaa s a b) (h1:j3g a 9=true) (h2:j3z b 6=true):j2u s a.size b.size/\(a++b).data.toList=s.data.toList.take a.size++s.data.toList.drop (a.size+1):=by
 unfold j3g j3z at h1
 unfold j3z at h2
 simp only[Bool.and_eq_true,Bool.or_eq_true,decide_eq_true_eq,Bool.not_eq_true',decide_eq_false_iff_not] at h1 h2
 obtain⟨⟨⟨a1,a2⟩,a3⟩,a4⟩:=h1
 obtain⟨⟨b1,b2⟩,b3⟩:=h2
 rcases hc with ⟨i,hi,hp,hno,rfl,rfl⟩|⟨_,_,rfl⟩
 ·
  have sA:(s.extract 0 i).size=i:=by rw[j2e (by omega)];omega
  have sB:(s.extract (i+1) s.size).size=s.size-(i+1):=by rw[j2e (by omega)]
  rw[sA] at a1 a2 a3 a4 ⊢
  rw[sB] at b1 b2 b3 ⊢
  refine⟨⟨by omega,by omega,by omega,by omega,by omega,hp,λj hj=>?_,λj h1 h2=>?_,?_⟩,?_⟩
  ·
   have:=a3 j hj
   rw[j2j (by omega) (by omega)] at this
   simpa using this
  ·
   have:=b3 (j-(i+1)) (by omega)
   rw[j2j (by omega) (by omega)] at this
   rw[show i+1+(j-(i+1))=j by omega] at this
   exact this
  ·
   rcases a4 with h|h
   ·
    exact Or.inl h
   right
   rw[j52 (by omega) (by omega)] at h
   simpa using h
  rw[jan,j3f (by omega),j3f (by omega)]
  congr 1
  exact List.take_of_length_le (by rw[List.length_drop,j5g];omega)
 simp at b1
theorem j6t {s a b:ByteArray} (hc:jaa s a b) {n k:Nat} (h:j2u s n k):j3g a 9=true/\j3z b 6=true:=by
 have hz:=h.size
 have ha1:=h.a1
 have ha9:=h.a9
 have hk1:=h.k1
 have hk6:=h.k6
 rcases hc with ⟨i,hi,hp,hno,rfl,rfl⟩|⟨hno,_,_⟩
 ·
  have hin:i=n:=by
   by_cases h1:i<n
   ·
    have:=h.fst i h1
    rw[jj3 hp] at this;cases this
   by_cases h2:n<i
   ·
    exact absurd h.pt (hno n h2)
   omega
  subst hin
  have sA:(s.extract 0 i).size=i:=by rw[j2e (by omega)];omega
  have sB:(s.extract (i+1) s.size).size=k:=by rw[j2e (by omega)];omega
  have dA:∀j,j<i->dgAt (s.extract 0 i) j=true:=λj hj=>by
   rw[j2j (by omega) (by omega)]
   exact h.fst _ (by omega)
  have dB:∀j,j<k->dgAt (s.extract (i+1) s.size) j=true:=λj hj=>by
   rw[j2j (by omega) (by omega)]
   exact h.snd _ (by omega) (by omega)
  unfold j3g j3z
  simp only[Bool.and_eq_true,Bool.or_eq_true,decide_eq_true_eq,Bool.not_eq_true',decide_eq_false_iff_not]
  rw[sA,sB]
  refine⟨⟨⟨⟨by omega,by omega⟩,dA⟩,?_⟩,⟨by omega,by omega⟩,dB⟩
  rcases h.nz with e|e
  ·
   exact Or.inl e
  right
  rw[j52 (by omega) (by omega)]
  simpa using e
 exact absurd h.pt (hno n (by omega))
theorem j7l (s:ByteArray) (hs:s.size<=1048576) (w:World) :
  Calls Tryz.prog 77 #[.string s] w λe w'=>j2d s e/\Below w.heap.size w w':=by
 go_enter Tryz.func77,Tryz.ntmps77
 go_wp2_with fail;refine(jit s hs _).mono ?_
 rintro e w1 ⟨⟨a,b,fd,rfl,hc⟩,hb1⟩
 have HC:Hid (jaa s a b):=hc
 clear hc;go_wp2_with fail;refine(j6q a 9 _).mono ?_
 rintro e w2 ⟨rfl,hb2⟩
 have hb2:=j01 hb1 hb2
 clear hb1;cases h1:j3g a 9
 ·
  have F:j2d s (.returned (.tuple #[.float .f64 0,.bool false])):=Or.inl ⟨λ⟨n,k,h⟩=>(by have:=(j6t HC.out h).1;rw[h1] at this;cases this),rfl⟩
  go_wp2_with fail;go_ret2
  exact⟨F,hb2⟩
 go_wp2_with fail;refine(j4v b 6 _).mono ?_
 rintro e w3 ⟨rfl,hb3⟩
 have hb3:=j01 hb2 hb3
 clear hb2;cases h2:j3z b 6
 ·
  have F:j2d s (.returned (.tuple #[.float .f64 0,.bool false])):=Or.inl ⟨λ⟨n,k,h⟩=>(by have:=(j6t HC.out h).2;rw[h2] at this;cases this),rfl⟩
  go_wp2_with fail;go_ret2
  exact⟨F,hb3⟩
 obtain⟨HR,hL⟩:=jaw HC.out h1 h2
 have HA:Hid (j2u s a.size b.size):=HR
 obtain⟨m,n,A,B,hA,hB,nm,nn,bm,bn,HS,-,-⟩:=j5u HR
 have hN:=HS _ rfl
 rw[<-hL] at hN
 have HN:Hid (j9c (a++b) (m*10 ^ b.size+n)):=hN
 have k6:=HR.k6
 have k1:=HR.k1
 have sz:(a++b).size=a.size+b.size:=by simp[ByteArray.size_append]
 have a9:=HR.a9
 have db:Hid (∀j,j<b.size->byA b j<128):=by
  intro j hj
  unfold j3z at h2
  simp only[Bool.and_eq_true,decide_eq_true_eq] at h2
  have:dgB (byA b j)=true:=h2.2 j hj
  rw[j8y] at this;omega
 obtain⟨N,hNN⟩:∃N,Hid (m*10 ^ b.size+n=N):=⟨_,(rfl:m*10 ^ b.size+n=m*10 ^ b.size+n)⟩
 rw[hNN.out] at HN hN
 obtain⟨r,hr,br⟩:=j6y (N:Int) (k:=b.size) k6
 have FIN:Hid (j2d s (.returned (.tuple #[.float .f64 r,.bool true]))):=by
  refine Or.inr ⟨a.size,b.size,N,r,HA.out,?_,hr,br,rfl⟩
  rw[<-hL];exact hN
 have hq:=λw=>run_float_arith (P:=Tryz.prog) w .quo 157 .f64 _ _ r hr
 clear hr HS hA hB nm nn bm bn hN hL HR h1 h2;go_wp2_with fail;go_loopw [7] (λtv wr=>∃k:Nat,k<=b.size/\wr=w3.iter b k/\tv=.float .f64 (tenF k)) (λ_ wr=>b.size-wr.iterPos w3.heap.size)
 case atStart=>exact⟨0,Nat.zero_le _,rfl,rfl⟩
 obtain⟨k,hk,rfl,rfl⟩:=hrel
 by_cases hlt:k<b.size
 ·
  have hnx:=λty=>run_next_ascii (P:=Tryz.prog) w3 b k ty hlt (by rw[j6j hlt];exact db.out k hlt)
  have hm:=λw=>run_float_arith (P:=Tryz.prog) w .mul 157 .f64 _ _ _ (jdc (k:=k) (by omega))
  go_wp2_with fail;go_roundw
  case rel=>exact⟨k+1,by omega,rfl,rfl⟩
  case measure=>simp;omega
 have hnx:=λty=>run_next_end (P:=Tryz.prog) w3 b k ty hlt
 have hkb:Hid (k=b.size):=by show _=_;omega
 rw[hkb.out] at hnx ⊢
 go_wp2_with fail;refine(j98 (a++b) N (by omega) (by omega) HN.out _).mono ?_
 rintro e w4 ⟨rfl,hb4⟩
 have hb4:=j01 (j00 hb3 (.stringIter b b.size)) hb4
 go_wp2_with fail;go_ret2
 exact⟨FIN.out,hb4⟩
end
section
open Go.RowKit
noncomputable def tfB (k:Int) (t:ByteArray):Bool:=if k=2 then j8h t else if j48 k then j1p t else decide (t=⟨#[]⟩)
def loK (k:Int):Int:=if k=8\/k=9\/k=32\/k=33 then 1 else 0
def hiK (k:Int):Int:=if k=1 then 999999999999999 else if k=3 then 1 else if k=8 then 9 else if k=9 then 6 else if k=32\/k=33 then 4 else 0
def nfB (k q:Int):Bool:=decide (loK k<=q)&&decide (q<=hiK k)
theorem jb7 (k q:Int):numB k q=nfB k q:=by
 have h0:(q ==0)=(decide ((0:Int)<=q)&&decide (q<=0)):=by rw[Bool.eq_iff_iff];simp;omega
 have h1:(q ==0 || q ==1)=(decide ((0:Int)<=q)&&decide (q<=1)):=by rw[Bool.eq_iff_iff];simp;omega
 unfold numB nfB loK hiK
 by_cases e1:k=1
 ·
  subst e1;rfl
 by_cases e3:k=3
 ·
  subst e3;exact h1
 by_cases e8:k=8
 ·
  subst e8;rfl
 by_cases e9:k=9
 ·
  subst e9;rfl
 by_cases e32:k=32\/k=33
 ·
  rw[if_neg e1,if_neg e3,if_neg e8,if_neg e9,if_pos e32,if_pos (by omega),if_neg e1,if_neg e3,if_neg e8,if_neg e9,if_pos e32]
 rw[if_neg e1,if_neg e3,if_neg e8,if_neg e9,if_neg e32,if_neg (by omega),if_neg e1,if_neg e3,if_neg e8,if_neg e9,if_neg e32]
 exact h0
theorem j58 (k:Int) (t:ByteArray) (q:Int):hasB k t q=(tfB k t&&nfB k q):=by
 unfold hasB tfB
 by_cases e2:k=2
 ·
  subst e2
  rw[if_pos rfl,if_pos rfl,<-jb7]
  all_goals rfl
 rw[if_neg e2,if_neg e2,jb7]
 split<;>rfl
theorem jal {k:Int} (h:j48 k=true):k=4\/k=5\/k=6\/k=7\/k=12\/k=13\/k=14\/k=15\/k=19\/k=20\/k=23\/k=24\/k=28\/k=31\/k=32\/k=33\/k=34:=by simpa[j48] using h
theorem jes {k:Int} (h:j48 k=false):¬(k=4\/k=5\/k=6\/k=7\/k=12\/k=13\/k=14\/k=15\/k=19\/k=20\/k=23\/k=24\/k=28\/k=31\/k=32\/k=33\/k=34):=by
 intro g
 have:j48 k=true:=by unfold j48;exact decide_eq_true g
 rw[h] at this
 cases this
theorem j3m (k:Int) (t:ByteArray) (q:Int) (s:Option Addr) (kn c:Nat) (w:World) :
  Calls Tryz.prog 61 #[.agg #[.int .i64 k,.string t,.int .i64 q,.slice s kn c]] w λe w'=>e=.returned (.bool (nfB k q))/\Below w.heap.size w w':=by
 have k0:=Blk.new w #[.int .i64 k,.string t,.int .i64 q,.slice s kn c] 73
 have L0:=j00 (Below.refl _ w) (.cells #[.int .i64 k,.string t,.int .i64 q,.slice s kn c] 73)
 by_cases hs:k=1\/k=3\/k=8\/k=9\/k=32\/k=33
 ·
  rcases hs with rfl|rfl|rfl|rfl|rfl|rfl
  ·
   have HE:Hid (nfB 1 q=(decide (0<=q)&&decide (q<=999999999999999))):=rfl
   obtain⟨x0,x1,x2,x3,x4⟩:=k0.four'
   by_cases h1:0<=q
   ·
    go_enter Tryz.func61,Tryz.ntmps61
    go_wp2_with fail;go_ret;exact⟨j03 (by rw[HE.out];simp[h1]),L0⟩
   go_enter Tryz.func61,Tryz.ntmps61
   go_wp2_with fail;go_ret;exact⟨j03 (by rw[HE.out];symm;rw[Bool.and_eq_false_iff];left;exact decide_eq_false (by omega)),L0⟩
  ·
   have HE:Hid (nfB 3 q=(decide (0<=q)&&decide (q<=1))):=rfl
   obtain⟨x0,x1,x2,x3,x4⟩:=k0.four'
   by_cases h1:0<=q
   ·
    go_enter Tryz.func61,Tryz.ntmps61
    go_wp2_with fail;go_ret;exact⟨j03 (by rw[HE.out];simp[h1]),L0⟩
   go_enter Tryz.func61,Tryz.ntmps61
   go_wp2_with fail;go_ret;exact⟨j03 (by rw[HE.out];symm;rw[Bool.and_eq_false_iff];left;exact decide_eq_false (by omega)),L0⟩
  ·
   have HE:Hid (nfB 8 q=(decide (1<=q)&&decide (q<=9))):=rfl
   obtain⟨x0,x1,x2,x3,x4⟩:=k0.four'
   by_cases h1:1<=q
   ·
    go_enter Tryz.func61,Tryz.ntmps61
    go_wp2_with fail;go_ret;exact⟨j03 (by rw[HE.out];simp[h1]),L0⟩
   go_enter Tryz.func61,Tryz.ntmps61
   go_wp2_with fail;go_ret;exact⟨j03 (by rw[HE.out];symm;rw[Bool.and_eq_false_iff];left;exact decide_eq_false (by omega)),L0⟩
  ·
   have HE:Hid (nfB 9 q=(decide (1<=q)&&decide (q<=6))):=rfl
   obtain⟨x0,x1,x2,x3,x4⟩:=k0.four'
   by_cases h1:1<=q
   ·
    go_enter Tryz.func61,Tryz.ntmps61
    go_wp2_with fail;go_ret;exact⟨j03 (by rw[HE.out];simp[h1]),L0⟩
   go_enter Tryz.func61,Tryz.ntmps61
   go_wp2_with fail;go_ret;exact⟨j03 (by rw[HE.out];symm;rw[Bool.and_eq_false_iff];left;exact decide_eq_false (by omega)),L0⟩
  ·
   have HE:Hid (nfB 32 q=(decide (1<=q)&&decide (q<=4))):=rfl
   obtain⟨x0,x1,x2,x3,x4⟩:=k0.four'
   by_cases h1:1<=q
   ·
    go_enter Tryz.func61,Tryz.ntmps61
    go_wp2_with fail;go_ret;exact⟨j03 (by rw[HE.out];simp[h1]),L0⟩
   go_enter Tryz.func61,Tryz.ntmps61
   go_wp2_with fail;go_ret;exact⟨j03 (by rw[HE.out];symm;rw[Bool.and_eq_false_iff];left;exact decide_eq_false (by omega)),L0⟩
  have HE:Hid (nfB 33 q=(decide (1<=q)&&decide (q<=4))):=rfl
  obtain⟨x0,x1,x2,x3,x4⟩:=k0.four'
  by_cases h1:1<=q
  ·
   go_enter Tryz.func61,Tryz.ntmps61
   go_wp2_with fail;go_ret;exact⟨j03 (by rw[HE.out];simp[h1]),L0⟩
  go_enter Tryz.func61,Tryz.ntmps61
  go_wp2_with fail;go_ret;exact⟨j03 (by rw[HE.out];symm;rw[Bool.and_eq_false_iff];left;exact decide_eq_false (by omega)),L0⟩
 have e1:(k ==1)=false:=by simp;omega
 have e3:(k ==3)=false:=by simp;omega
 have e8:(k ==8)=false:=by simp;omega
 have e9:(k ==9)=false:=by simp;omega
 have e32:(k ==32)=false:=by simp;omega
 have e33:(k ==33)=false:=by simp;omega
 have HE:Hid (nfB k q=(decide (0<=q)&&decide (q<=0))):=by
  show _=_
  unfold nfB loK hiK
  rw[if_neg (by omega),if_neg (by omega),if_neg (by omega),if_neg (by omega),if_neg (by omega),if_neg (by omega)]
 obtain⟨x0,x1,x2,x3,x4⟩:=k0.four'
 clear hs k0;by_cases h1:0<=q
 ·
  go_enter Tryz.func61,Tryz.ntmps61
  go_wp2_with fail;go_ret;exact⟨j03 (by rw[HE.out];simp[h1]),L0⟩
 go_enter Tryz.func61,Tryz.ntmps61
 go_wp2_with fail;go_ret;exact⟨j03 (by rw[HE.out];symm;rw[Bool.and_eq_false_iff];left;exact decide_eq_false (by omega)),L0⟩
theorem j3l (k:Int) (t:ByteArray) (ht:t.size<=1048576) (q:Int) (s:Option Addr) (kn c mb:Nat) (w:World) (hm:w.ownsMap Tryz.prog 9 (unitElem (H:=Unit)) mb 32 (j30 words (.map []))) :
  Calls Tryz.prog 60 #[.agg #[.int .i64 k,.string t,.int .i64 q,.slice s kn c],.map (some mb)] w λe w'=>e=.returned (.bool (tfB k t))/\Below w.heap.size w w':=by
 have hal:=alloc_old
 have haf:=j04
 have k0:=Blk.new w #[.int .i64 k,.string t,.int .i64 q,.slice s kn c] 73
 have L0:=j00 (Below.refl _ w) (.cells #[.int .i64 k,.string t,.int .i64 q,.slice s kn c] 73)
 by_cases h2:k=2
 ·
  subst h2
  obtain⟨x0,x1,x2,x3,x4⟩:=k0.four'
  have HE:Hid (tfB 2 t=j8h t):=rfl
  clear hm;go_enter Tryz.func60,Tryz.ntmps60
  go_wp2_with fail;refine(j7l t ht _).mono ?_
  rintro e w1 ⟨hr,hb1⟩
  obtain⟨r,rfl⟩:=hr.flag
  go_wp2_with fail;go_ret;exact⟨j03 (by rw[HE.out]),j01 L0 hb1⟩
 cases hn:j48 k
 ·
  have hp:=jes hn
  have HE:Hid (tfB k t=decide (t=⟨#[]⟩)):=by show _=_;unfold tfB;rw[if_neg h2,hn];rfl
  have g2:(k ==2)=false:=by simp[h2]
  have g4:(k ==4)=false:=by simp;omega
  have g5:(k ==5)=false:=by simp;omega
  have g6:(k ==6)=false:=by simp;omega
  have g7:(k ==7)=false:=by simp;omega
  have g12:(k ==12)=false:=by simp;omega
  have g13:(k ==13)=false:=by simp;omega
  have g14:(k ==14)=false:=by simp;omega
  have g15:(k ==15)=false:=by simp;omega
  have g19:(k ==19)=false:=by simp;omega
  have g20:(k ==20)=false:=by simp;omega
  have g23:(k ==23)=false:=by simp;omega
  have g24:(k ==24)=false:=by simp;omega
  have g28:(k ==28)=false:=by simp;omega
  have g31:(k ==31)=false:=by simp;omega
  have g32:(k ==32)=false:=by simp;omega
  have g33:(k ==33)=false:=by simp;omega
  have g34:(k ==34)=false:=by simp;omega
  obtain⟨x0,x1,x2,x3,x4⟩:=k0.four'
  clear hm hp hn h2 k0;by_cases he:t=⟨#[]⟩
  ·
   subst he
   go_enter Tryz.func60,Tryz.ntmps60
   go_wp2_with fail;go_ret;exact⟨j03 (by rw[HE.out];simp),L0⟩
  have q9:=j0d he
  have HN:Hid (¬t=⟨#[]⟩):=he
  clear he;go_enter Tryz.func60,Tryz.ntmps60
  go_wp2_with fail;go_ret;exact⟨j03 (by rw[HE.out];simp[HN.out];have h9:=j0d HN.out;simpa using h9),L0⟩
 have HE:Hid (tfB k t=(j1t t&&!isW t)):=by show _=_;unfold tfB;rw[if_neg h2,hn];rfl
 have hlk:=j9b (hm.alloc (.cells #[.int .i64 k,.string t,.int .i64 q,.slice s kn c] 73)) t (by unfold maxLen;omega)
 have HS:=jal hn
 clear hn h2 hm;cases hw:isW t<;>rw[hw] at hlk
 all_goals
  rcases HS with rfl|rfl|rfl|rfl|rfl|rfl|rfl|rfl|rfl|rfl|rfl|rfl|rfl|rfl|rfl|rfl|rfl
 all_goals
  obtain⟨x0,x1,x2,x3,x4⟩:=k0.four'
  go_enter Tryz.func60,Tryz.ntmps60
  go_wp2_with fail;refine(j33 t _).mono ?_
  rintro e w1 ⟨rfl,hb1,_⟩
  cases hl:j1t t <;>
  ·
   go_wp2_with fail;go_ret;exact⟨j03 (by rw[HE.out,hl,hw];rfl),j01 (j00 L0 _) hb1⟩
end
end Go.Proofs.YtjbbagcpcepkoaaGreatDoor
