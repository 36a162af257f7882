/- A part of what the last text of the claim imports: texts laid together, and made small, by a program. -/
import Derived.Laws.AppendOwn
import Derived.Shelf.Strings.OnBuilder
import Derived.Test.YtkmoglhgkcnalaaDoorOwn11
set_option maxHeartbeats 16000000
set_option maxRecDepth 100000
namespace Go.Proofs.YtkmoglhgkcnalaaDoor.L1
open Go Go.Conc Go.RowKit Go.Proofs.YtkmoglhgkcnalaaDoor
def uA(f:Func):Code:= .seq (.seq (.region 4 (ae f 4) false) (.cond (.tmp 14) .skip (.exit 2))) (.seq (.block 3 (.seq (.region 6 (ae f 6) true) (.cond (.tmp 30) .ret .skip))) (.region 5 (ae f 5) false))
def uv(f:Func):Code:= .seq (.region 1 (ae f 1) false) (.seq (.cond (.tmp 9) .skip (.exit 0)) (.seq (.block 1 (.seq (.region 2 (ae f 2) false) (.seq (.region 3 (ae f 3) false) (.block 2 (.loop (uA f)))))) (.region 7 (ae f 7) false)))
theorem Ii:Tryd.f89.body=some (.seq (.region 0 (ae Tryd.f89 0) false) (.block 0 (.loop (uv Tryd.f89)))):=by kernel_rfl
def tI(wd k:Nat):Int:=8- wd- k*wd
theorem zU{wd k:Nat}(hw:pZ wd)(hk:k<8/wd):tI wd k=((8- wd- k*wd:Nat):Int):=by
 unfold tI
 rcases hw with rfl|rfl|rfl<;>simp at hk<;>omega
theorem GA{wd:Nat}(hw:pZ wd):¬tI wd (8/wd)≥0:=by
 unfold tI
 rcases hw with rfl|rfl|rfl<;>decide
theorem E5(wd k:Nat):tI wd k- wd=tI wd (k+1):=by
 unfold tI
 rw[Int.natCast_add,Int.add_mul]
 omega
theorem tH{wd k:Nat}(hw:pZ wd)(hk:k<=8/wd): -9<=tI wd k/\tI wd k<9:=by
 unfold tI
 rcases hw with rfl|rfl|rfl<;>simp at hk<;>omega
def Ju(l i:Nat)(b:ByteArray)(wd k:Nat):List Value:=
 [.func (.yield l) #[] #[], .string b, .int .i64 i, .int .u8 ((b.data.toList.getD i 0).toNat:Int), .int .i64 ((b.data.toList.getD i 0).toNat:Int), .int .i64 (tI wd k), .int .i64 (((b.data.toList.getD i 0).toNat/2^(8- wd- k*wd):Nat):Int), .int .i64 wd, .int .i64 ((2^wd:Nat):Int), .int .i64 (ck wd), .int .i64 (cn b.data.toList wd (i*(8/wd)+k))]
theorem zQ(b:ByteArray)(i:Nat)(h:i<b.size):b[i]=b.data.toList.getD i 0:=by
 rw[List.getD_eq_getElem?_getD,List.getElem?_eq_getElem (by simpa using h)]
 rfl
section
variable{Goal:Goroutine->World->Prop}{cs:List Frame}{Inv:Nat->World->Prop}{l:Nat}{r:Loop}{b:ByteArray}{wd bb bw:Nat}(hw:pZ wd)
 (hstr:∀c w,Inv c w->w.heap[bb]?=some (.cells #[.string b] 9)) (hwid:∀c w,Inv c w->w.heap[bw]?=some (.cells #[.int .i64 wd] 3))
 (G:pR (ac true Tryd.prog) Goal cs (λc=>#[.int .i64 (cn b.data.toList wd c)]) (b.size*(8/wd)) l r Inv)
include hw hstr hwid G
theorem I4{i k:Nat}(hi:i<b.size)(hk:k<8/wd){K:List Item}{a:Act}{w:World}(hI:Inv (i*(8/wd)+k) w)
 (hF:aM [(0, .func (.yield l) #[] #[]),(1, .pt bb),(2, .pt bw),(4, .int .i64 i),(5, .int .i64 (tI wd k)),(7, .int .i64 b.size),(8, .int .i64 i)] 32 [] a)
 (next:∀a w,Inv (i*(8/wd)+k+1) w->aM [(30, .bool false),(0, .func (.yield l) #[] #[]),(1, .pt bb),(2, .pt bw),(4, .int .i64 i),(5, .int .i64 (tI wd k)),(7, .int .i64 b.size),(8, .int .i64 i)] 32 [] a->Rn (ac true Tryd.prog) Goal ((base 89).atR a K) cs w):
 Rn (ac true Tryd.prog) Goal ((base 89).atR a (.code (.region 6 (ae Tryd.f89 6) true)::K)) cs w:=by
 have hper:0<8/wd:=by omega
 have hc:i*(8/wd)+k<b.size*(8/wd):=by
  have:(i+1)*(8/wd)<=b.size*(8/wd):=Nat.mul_le_mul_right _ hi
  rw[Nat.add_mul]at this
  omega
 have hx:(b.data.toList.getD i 0).toNat<256:=(b.data.toList.getD i 0).toNat_lt
 have hsm:=tH hw (Nat.le_of_lt hk)
 have hnat:=zU hw hk
 have hdig:cn b.data.toList wd (i*(8/wd)+k)=(b.data.toList.getD i 0).toNat/2^(8- wd- k*wd)%2^wd:=by
  rw[Gn _ hw i k hk (by simpa using hi)]
  rw[List.getD_eq_getElem?_getD,List.getElem?_eq_getElem (by simpa using hi)]
  rfl
 have hwd:wd<=8:=by rcases hw with rfl|rfl|rfl<;>decide
 have htop:=mw hw
 have h2w:2^wd<=256:=by rcases hw with rfl|rfl|rfl<;>decide
 have h2t:ck wd=2^wd- 1:=rfl
 refine Rn.grows (fx:=[(0, .func (.yield l) #[] #[]),(1, .pt bb),(2, .pt bw),(4, .int .i64 i),(5, .int .i64 (tI wd k)),(7, .int .i64 b.size),(8, .int .i64 i)]) (ds:=[18,19,20,21,22,23,24,25,26,27,28]) (N:=32) (df:=[])
  (G:=λn v _=>(Ju l i b wd k)[n]?=some v) (by kernel_rfl) (by kernel_rfl) (λn v w w' h _=>h) (λn o a w' hn ho hb hfx hne=> ?_)
  (λn a w'=>(n=11/\aM [(28, .int .i64 (cn b.data.toList wd (i*(8/wd)+k))),(18, .func (.yield l) #[] #[]),(0, .func (.yield l) #[] #[]),(1, .pt bb),(2, .pt bw),(4, .int .i64 i),(5, .int .i64 (tI wd k)),(7, .int .i64 b.size),(8, .int .i64 i)] 32 [] a/\Inv (i*(8/wd)+k) w')\/
    (n=12/\aM [(29, .bool true),(0, .func (.yield l) #[] #[]),(1, .pt bb),(2, .pt bw),(4, .int .i64 i),(5, .int .i64 (tI wd k)),(7, .int .i64 b.size),(8, .int .i64 i)] 32 [] a/\Inv (i*(8/wd)+k+1) w')\/
    (n=13/\aM [(30, .bool false),(0, .func (.yield l) #[] #[]),(1, .pt bb),(2, .pt bw),(4, .int .i64 i),(5, .int .i64 (tI wd k)),(7, .int .i64 b.size),(8, .int .i64 i)] 32 [] a/\Inv (i*(8/wd)+k+1) w'))
  (λa w' hG=> ?_) (λn o a w' rest hn ho hS hgo=> ?_) (λa w' hS=> ?_) hF.defers hF.size (hF.all (by simp))
 ·have hI':=G.below _ _ _ hI hb
  have f0:=hfx _ (mG (i:=0) rfl)
  have f1:=hfx _ (mG (i:=1) rfl)
  have f2:=hfx _ (mG (i:=2) rfl)
  have f4:=hfx _ (mG (i:=3) rfl)
  have f5:=hfx _ (mG (i:=4) rfl)
  have get:∀m d v,[18,19,20,21,22,23,24,25,26,27,28][m]?=some d->jN (ae Tryd.f89 6) n m=true->(Ju l i b wd k)[m]?=some v->a.eval (.tmp d)=v:=λm d v hd hm hv=>by
   obtain⟨u,hu,hu2⟩:=hne m d hd hm
   rw[hv]at hu2
   cases hu2
   exact C5 hu
  have hlt:n<11:=hn
  rcases(by omega:n=0\/n=1\/n=2\/n=3\/n=4\/n=5\/n=6\/n=7\/n=8\/n=9\/n=10)with rfl|rfl|rfl|rfl|rfl|rfl|rfl|rfl|rfl|rfl|rfl
  ·have e2:=aP ho 18 ( .move (.tmp 0))
   exact EU (.inl e2) f0 ⟨rfl,bR⟩
  ·have e2:=aP ho 19 ( .load 9 (.tmp 1))
   exact af (ay bC e2 (C5 f1) ((am (hstr _ _ hI') 0).trans rfl)).1 ⟨rfl,bR⟩
  ·have e2:=aP ho 20 ( .move (.tmp 4))
   exact EU (.inl e2) f4 ⟨rfl,bR⟩
  ·have e2:=aP ho 21 ( .index 9 (.tmp 19) (.tmp 20))
   exact af (vD e2 (get 1 19 _ rfl (by kernel_rfl) rfl) (get 2 20 _ rfl (by kernel_rfl) rfl) hi) ⟨by rw[zQ b i hi];rfl,bR⟩
  ·have e2:=aP ho 22 ( .convert 5 3 (.tmp 21))
   exact af (zp e2 (get 3 21 _ rfl (by kernel_rfl) rfl)) ⟨rfl,bR⟩
  ·have e2:=aP ho 23 ( .move (.tmp 5))
   exact EU (.inl e2) f5 ⟨rfl,bR⟩
  ·have e2:=aP ho 24 ( .binOp .shr 3 (.tmp 22) (.tmp 23) 3)
   refine af (CM (k:=8- wd- k*wd) e2 (get 4 22 _ rfl (by kernel_rfl) rfl) ((get 5 23 _ rfl (by kernel_rfl) rfl).trans (by rw[hnat])) (by omega)) ⟨?_,bR⟩
   show some _=some _
   rw[Int.natCast_ediv,Int.natCast_pow]
   rfl
  ·have e2:=aP ho 25 ( .load 3 (.tmp 2))
   exact af (ay aQ e2 (C5 f2) ((am (hwid _ _ hI') 0).trans rfl)).1 ⟨rfl,bR⟩
  ·have e2:=aP ho 26 ( .binOp .shl 3 (.const (.int .i64 1)) (.tmp 25) 3)
   have hp:(1:Int)*2^wd=((2^wd:Nat):Int):=by rw[Int.one_mul,Int.natCast_pow];rfl
   refine af (ji (m:=1) (k:=wd) e2 rfl (get 7 25 _ rfl (by kernel_rfl) rfl) (by omega) (by rw[hp];omega)) ⟨?_,bR⟩
   rw[hp]
   rfl
  ·have e2:=aP ho 27 ( .binOp .sub 3 (.tmp 26) (.const (.int .i64 1)) 3)
   refine af (jh e2 (get 8 26 _ rfl (by kernel_rfl) rfl) rfl (by omega)) ⟨?_,bR⟩
   have hp:((2^wd:Nat):Int)- 1=(ck wd:Int):=by rw[h2t];have:=Nat.two_pow_pos wd;omega
   rw[hp]
   rfl
  ·have e2:=aP ho 28 ( .binOp .and 3 (.tmp 24) (.tmp 27) 3)
   refine af (CV e2 (get 6 24 _ rfl (by kernel_rfl) rfl) (get 9 27 _ rfl (by kernel_rfl) rfl)) ⟨?_,bR⟩
   rw[zX _ wd (Nat.lt_of_le_of_lt (Nat.div_le_self _ _) (by omega)) hw,←hdig]
   rfl
 ·obtain⟨u,hu,hu2⟩:=hG.come 10 28 rfl trivial
  obtain⟨v,hv,hv2⟩:=hG.come 0 18 rfl trivial
  cases hu2
  cases hv2
  exact .inl ⟨rfl,(hG.base.more hv).more hu,G.below _ _ _ hI hG.old⟩
 ·rcases hS with⟨rfl,hF,hI⟩|⟨rfl,hF,hI⟩|⟨rfl,hF,hI⟩
  ·refine Rn.given (c:=i*(8/wd)+k) G hF 29 18 (xs:=#[.tmp 28]) (ats:=#[3]) (by decide) (by kernel_rfl) rfl (by simp[hF.get (d:=28) rfl]) hc hI λa' w' hF hI=>hgo a' w' (.inr (.inl ⟨rfl,hF.only ⟨rfl,rfl,rfl,rfl,rfl,rfl,rfl,rfl,trivial⟩,hI⟩))
  ·refine Rn.o hF 30 (.unOp .not 4 (.tmp 29)) (λo ho=>(lb ho (hF.get (d:=29) rfl)).1) λa hF=>hgo a w' (.inr (.inr ⟨rfl,hF.only ⟨rfl,rfl,rfl,rfl,rfl,rfl,rfl,rfl,trivial⟩,hI⟩))
  ·exact absurd (gA ho).1 (by decide)
 ·rcases hS with⟨h,_⟩|⟨h,_⟩|⟨_,hF,hI⟩
  ·exact absurd h (by decide)
  ·exact absurd h (by decide)
  ·exact next a w' hI hF
theorem yu{i:Nat}(hi:i<b.size){K:List Item}(next:∀a w,Inv ((i+1)*(8/wd)) w->aM [(0, .func (.yield l) #[] #[]),(1, .pt bb),(2, .pt bw),(7, .int .i64 b.size),(8, .int .i64 i)] 32 [] a->Rn (ac true Tryd.prog) Goal ((base 89).atR a K) cs w):
 ∀(j k:Nat) (a:Act) (w:World),8/wd- k=j->k<=8/wd->Inv (i*(8/wd)+k) w->
  aM [(0, .func (.yield l) #[] #[]),(1, .pt bb),(2, .pt bw),(4, .int .i64 i),(5, .int .i64 (tI wd k)),(7, .int .i64 b.size),(8, .int .i64 i)] 32 [] a->
  Rn (ac true Tryd.prog) Goal ((base 89).atR a (.code (uA Tryd.f89):: .inLoop (uA Tryd.f89):: .inBlock 2::K)) cs w:=by
 intro j
 induction j with
 |zero=>
  intro k a w hj hk hI hF
  have hkp:k=8/wd:=by omega
  subst hkp
  refine Rn.p rfl (Rn.p rfl (Rn.r (L:=[0,1]) rfl ?_))
  refine Rn.y hF 13 5 rfl λa hF=> ?_
  refine Rn.o hF 14 (.binOp .geq 3 (.tmp 13) (.const (.int .i64 0)) 3) (λo ho=>xN ho (hF.get (d:=13) rfl) rfl) λa hF=> ?_
  refine Rn.p rfl (Rn.cond _ (hF.get (d:=14) rfl) ?_)
  rw[decide_eq_false (GA hw)]
  refine Rn.p rfl (next a w ?_ (hF.only ⟨rfl,rfl,rfl,rfl,rfl,trivial⟩))
  rw[Nat.add_mul,Nat.one_mul]
  exact hI
 |succ j ih=>
  intro k a w hj hk hI hF
  have hkp:k<8/wd:=by omega
  have hsm:=tH hw hk
  have hwd:wd<=8:=by rcases hw with rfl|rfl|rfl<;>decide
  refine Rn.p rfl (Rn.p rfl (Rn.r (L:=[0,1]) rfl ?_))
  refine Rn.y hF 13 5 rfl λa hF=> ?_
  refine Rn.o hF 14 (.binOp .geq 3 (.tmp 13) (.const (.int .i64 0)) 3) (λo ho=>xN ho (hF.get (d:=13) rfl) rfl) λa hF=> ?_
  refine Rn.p rfl (Rn.cond _ (hF.get (d:=14) rfl) ?_)
  rw[decide_eq_true (show tI wd k≥0 from by rw[zU hw hkp];omega)]
  refine Rn.p rfl (Rn.p rfl (Rn.p rfl (Rn.p rfl ?_)))
  refine I4 hw hstr hwid G hi hkp hI (hF.only ⟨rfl,rfl,rfl,rfl,rfl,rfl,rfl,trivial⟩) λa w hI hF=> ?_
  refine Rn.cond false (hF.get (d:=30) rfl) (Rn.p rfl (Rn.p rfl (Rn.r (L:=[0,1,2,3]) rfl ?_)))
  refine Rn.y hF 15 5 rfl λa hF=> ?_
  refine Rn.o hF 16 (.load 3 (.tmp 2)) (λo ho=>(ay aQ ho (hF.get (d:=2) rfl) ((am (hwid _ _ hI) 0).trans rfl)).1) λa hF=> ?_
  refine Rn.o hF 17 (.binOp .sub 3 (.tmp 15) (.tmp 16) 3) (λo ho=>jh ho (hF.get (d:=15) rfl) (hF.get (d:=16) rfl) (by omega)) λa hF=> ?_
  refine Rn.s hF 5 17 rfl λa hF=> ?_
  refine Rn.p rfl (Rn.p rfl (ih (k+1) a w (by omega) (by omega) hI (hF.only ⟨rfl,rfl,rfl,rfl, ?_,rfl,rfl,trivial⟩)))
  rw[←E5]
  rfl
theorem y3(hs:b.size<4611686018427387904){K:List Item}(next:∀a w,Inv (b.size*(8/wd)) w->a.defers=[]->Rn (ac true Tryd.prog) Goal ((base 89).atR a K) cs w):
 ∀(j i:Nat) (a:Act) (w:World),b.size- i=j->i<=b.size->Inv (i*(8/wd)) w->
  aM [(0, .func (.yield l) #[] #[]),(1, .pt bb),(2, .pt bw),(7, .int .i64 b.size),(8, .int .i64 i)] 32 [] a->
  Rn (ac true Tryd.prog) Goal ((base 89).atR a (.code (uv Tryd.f89):: .inLoop (uv Tryd.f89):: .inBlock 0::K)) cs w:=by
 intro j
 induction j with
 |zero=>
  intro i a w hj hi hI hF
  have hin:i=b.size:=by omega
  subst hin
  refine Rn.p rfl (Rn.r (L:=[0]) rfl ?_)
  refine Rn.o hF 9 (.binOp .lss 3 (.tmp 8) (.tmp 7) 3) (λo ho=>(cQ ho (hF.get (d:=8) rfl) (hF.get (d:=7) rfl)).1) λa hF=> ?_
  refine Rn.p rfl (Rn.p rfl (Rn.cond _ (hF.get (d:=9) rfl) ?_))
  rw[decide_eq_false (by omega)]
  exact Rn.p rfl (next a w hI hF.defers)
 |succ j ih=>
  intro i a w hj hi hI hF
  have hin:i<b.size:=by omega
  have hwd:wd<=8:=by rcases hw with rfl|rfl|rfl<;>decide
  refine Rn.p rfl (Rn.r (L:=[0]) rfl ?_)
  refine Rn.o hF 9 (.binOp .lss 3 (.tmp 8) (.tmp 7) 3) (λo ho=>(cQ ho (hF.get (d:=8) rfl) (hF.get (d:=7) rfl)).1) λa hF=> ?_
  refine Rn.p rfl (Rn.p rfl (Rn.cond _ (hF.get (d:=9) rfl) ?_))
  rw[decide_eq_true (by omega)]
  refine Rn.p rfl (Rn.p rfl (Rn.p rfl (Rn.p rfl (Rn.r (L:=[0,1]) rfl ?_))))
  refine Rn.y hF 10 8 rfl λa hF=> ?_
  refine Rn.s hF 4 10 rfl λa hF=> ?_
  refine Rn.p rfl (Rn.p rfl (Rn.r (L:=[0,1,2]) rfl ?_))
  refine Rn.o hF 11 (.load 3 (.tmp 2)) (λo ho=>(ay aQ ho (hF.get (d:=2) rfl) ((am (hwid _ _ hI) 0).trans rfl)).1) λa hF=> ?_
  refine Rn.o hF 12 (.binOp .sub 3 (.const (.int .i64 8)) (.tmp 11) 3) (λo ho=>jh (m:=8) ho rfl (hF.get (d:=11) rfl) (by omega)) λa hF=> ?_
  refine Rn.s hF 5 12 rfl λa hF=> ?_
  refine Rn.p rfl (Rn.p rfl (Rn.p rfl ?_))
  refine yu hw hstr hwid G hin (λa w hI hF=> ?_) (8/wd) 0 a w rfl (Nat.zero_le _) hI (hF.only ⟨rfl,rfl,rfl,rfl, ?_,rfl,rfl,trivial⟩)
  ·refine Rn.p rfl (Rn.r (L:=[0,1]) rfl ?_)
   refine Rn.o hF 31 (.binOp .add 3 (.tmp 8) (.const (.int .i64 1)) 3) (λo ho=>da (m:=i) (n:=1) ho (hF.get (d:=8) rfl) rfl (by omega)) λa hF=> ?_
   refine Rn.y hF 8 31 rfl λa hF=> ?_
   refine Rn.p rfl (Rn.p rfl (ih (i+1) a w (by omega) (by omega) hI (hF.only ⟨rfl,rfl,rfl,rfl, ?_,trivial⟩)))
   rw[Int.natCast_add]
   rfl
  ·unfold tI
   simp
end
theorem pH{Goal:Goroutine->World->Prop}{cf:Frame}{cs:List Frame}{Inv:Nat->World->Prop}{l:Nat}{r:Loop}{b:ByteArray}{wd bb bw:Nat}(hw:pZ wd)(hs:b.size<4611686018427387904)
 (hstr:∀c w,Inv c w->w.heap[bb]?=some (.cells #[.string b] 9)) (hwid:∀c w,Inv c w->w.heap[bw]?=some (.cells #[.int .i64 wd] 3))
 (G:pR (ac true Tryd.prog) Goal (cf::cs) (λc=>#[.int .i64 (cn b.data.toList wd c)]) (b.size*(8/wd)) l r Inv) {w:World} (hI:Inv 0 w)
 (hend:∀w,Inv (b.size*(8/wd)) w->Rn (ac true Tryd.prog) Goal (cf.finish (.tuple #[])) cs w):
 Rn (ac true Tryd.prog) Goal (Frame.enter (ac true Tryd.prog) 89 #[.func (.yield l) #[] #[], .pointer (some ⟨bb,0,none⟩), .pointer (some ⟨bw,0,none⟩)] .normal) (cf::cs) w:=by
 rw[bW (N:=32) [.func (.yield l) #[] #[], .pointer (some ⟨bb,0,none⟩), .pointer (some ⟨bw,0,none⟩)] Lf.func89 Ii rfl]
 have hF:=bm [.func (.yield l) #[] #[], .pointer (some ⟨bb,0,none⟩), .pointer (some ⟨bw,0,none⟩)] 32 (by simp)
 refine Rn.p rfl (Rn.r (L:=[0,1,2]) rfl ?_)
 refine Rn.o hF 6 (.load 9 (.tmp 1)) (λo ho=>(ay bC ho (hF.get (d:=1) rfl) ((am (hstr _ _ hI) 0).trans rfl)).1) λa hF=> ?_
 refine Rn.o hF 7 (.call {callee:= .builtin .len,args:=#[.tmp 6],argTypes:=#[9]}) (λo ho=>qO ho (hF.get (d:=6) rfl)) λa hF=> ?_
 refine Rn.mvc hF 8 (.int .i64 0) (by decide) (by kernel_rfl) λa hF=> ?_
 refine Rn.p rfl (Rn.p rfl (Rn.p rfl ?_))
 refine y3 hw hstr hwid G hs (λa w hI hd=> ?_) b.size 0 a w rfl (Nat.zero_le _) (by rw[Nat.zero_mul];exact hI) (hF.only ⟨rfl,rfl,rfl,rfl,rfl,trivial⟩)
 exact Rn.ends rfl (.inl rfl) (Rn.leave (.tuple #[]) rfl hd Lf.func89 (results_none rfl _ _ w) (events_results_none rfl _ _) (hend w hI))
end Go.Proofs.YtkmoglhgkcnalaaDoor.L1
namespace Go.Proofs.YtkmoglhgkcnalaaDoor
open Go Go.Conc Go.RowKit
section
variable{w w':World}{base:Nat}{e:TypeId}{size:Nat}{v:Value}{n:Nat}{xs:List Value}
theorem kw(h:w.ownsRow base e size v n xs){b:Nat}{o:Obj}(ho:w.heap[b]?=some o)(hne:∀cur,o≠ .cells cur e (0,0)):some b≠v.ownBlock:=λq=>by
 rcases h.2 with⟨rfl,_⟩|⟨g,cap,cur,rfl,_,hg,_⟩
 ·cases q
 ·cases q
  rw[ho]at hg
  cases hg
  exact hne _ rfl
theorem gq(h:w.ownsRow base e size v n xs)(hs:∀g,v.ownBlock=some g->w'.heap[g]?=w.heap[g]?):w'.ownsRow base e size v n xs:=by
 refine⟨h.1, ?_⟩
 rcases h.2 with h|⟨g,cap,cur,rfl,h1,hg,h2⟩
 ·exact .inl h
 ·exact .inr ⟨g,cap,cur,rfl,h1,(hs g rfl).trans hg,h2⟩
theorem pA{N:Nat}{w0:World}{row:Option Nat}(h:Below N w0 w)(hg:w.grownBy w' row)(hrow:∀k,row=some k->N<=k)(hN:N<=w.heap.size):Below N w0 w':=
 ⟨hg.os.trans h.os,hg.tape.trans h.tape,hg.output.trans h.output,Nat.le_trans h.size hg.size,λk hk=>(hg.block k (by omega) (λq=>by have:=hrow k q.symm;omega)).trans (h.block k hk)⟩
end
structure Ap (ti ts:TypeId) (D:Nat->Value) (b2 l ld:Nat) (r:Loop) (w0:World) (c:Nat) (w:World):Prop where
 old:Below w0.heap.size w0 w
 row:∃v,w.heap[b2]?=some (.cells #[v] ts)/\w.ownsRow w0.heap.size ti 1 v c ((List.range c).map D)
 loop:w.heap[l]?=some (.loop r)
 list:w.heap[ld]?=some (.deferred (some []))
theorem Ap.below{ti ts:TypeId}{D:Nat->Value}{b2 l ld:Nat}{r:Loop}{w0:World}{c:Nat}{w w':World}(h:Ap ti ts D b2 l ld r w0 c w)(hb:Below w.heap.size w w'):Ap ti ts D b2 l ld r w0 c w':=by
 have g:∀{b:Nat} {o:Obj},w.heap[b]?=some o->w'.heap[b]?=some o:=λ{b o} ho=>(hb.block b (gA ho).1).trans ho
 obtain⟨v,h1,h2⟩:=h.row
 exact⟨ah h.old h.old.size hb,⟨v,g h1,gq h2 λk hk=>hb.block k (h2.lt k hk).2⟩,g h.loop,g h.list⟩
end Go.Proofs.YtkmoglhgkcnalaaDoor
namespace Go.Proofs.YtkmoglhgkcnalaaDoor.L1
open Go Go.Conc Go.RowKit Go.Proofs.YtkmoglhgkcnalaaDoor
def wZ(f:Func)(T:Array Value)(ld:Nat)(st:LoopState):Loop:={state:=st,pending:=none,fn:=90,tmps:=T,params:=#[7],assign:= .region 2 (ae f 2) false,body:= .block 1 (.region 3 (ae f 3) false),defers:=ld}
theorem Ih:Tryd.f90.body=some (.seq (.region 0 (ae Tryd.f90 0) false) (.seq (.seq (.region 1 (ae Tryd.f90 1) false) (.block 0 (.rangeFunc (.tmp 6) #[7] (.region 2 (ae Tryd.f90 2) false) (.block 1 (.region 3 (ae Tryd.f90 3) false)))))
 (.seq (.region 4 (ae Tryd.f90 4) false) .ret))):=by kernel_rfl
theorem wn:∃i,(ac true Tryd.prog).info? 3=some i/\i.zero=some (.int .i64 0)/\i.size=1/\i.bytes=8:=by
 have h:((ac true Tryd.prog).info? 3).map (λi=>(i.zero,i.size,i.bytes))=some (some (.int .i64 0),1,8):=by kernel_rfl
 obtain⟨i,hi,hz⟩:=Option.map_eq_some_iff.1 h
 simp only[Prod.mk.injEq]at hz
 exact⟨i,hi,hz.1,hz.2.1,hz.2.2⟩
theorem CO{w:World}{ev:Operand->Value}{o:Oper}{x:Operand}{i:Int}(hop:o.op= .buildSlice 22 1 #[(0,x)])(hx:ev x= .int .i64 i):
 (execOp ev o).run (ac true Tryd.prog) w= .ok (.value (.slice (some ⟨w.heap.size,0,none⟩) 1 1)) (w.alloc (.cells #[.int .i64 i] 3)):=by
 have e:execOp ev o=(do pure (.value (←Instr.buildSlice 22 1 #[(0, .int .i64 i)]))):=by simp[execOp,hop,hx]
 have h2:(do pure (.value (←Instr.buildSlice 22 1 #[(0, .int .i64 i)])):Sem Next).run (ac true Tryd.prog) w= .ok (.value (.slice (some ⟨w.heap.size,0,none⟩) 1 1)) (w.alloc (.cells #[.int .i64 i] 3)):=by kernel_rfl
 rw[e,h2]
section
variable{Goal:Goroutine->World->Prop}{cs:List Frame}{T:Array Value}{b2 l ld:Nat}{w0:World}{d:Nat->Int}
theorem Ff(hT:aM [(2, .pt b2)] 13 [] ⟨T,[]⟩)(hb2:w0.heap.size<=b2)(hl:w0.heap.size<=l){c:Nat}(hc:c<1000000){cf:Frame}{w:World}(hI:Ap 3 22 (λi=> .int .i64 (d i)) b2 l ld (wZ Tryd.f90 T ld .ready) w0 c w)
 (next:∀w',Ap 3 22 (λi=> .int .i64 (d i)) b2 l ld (wZ Tryd.f90 T ld .ready) w0 (c+1) w'->Rn (ac true Tryd.prog) Goal (cf.finish (.bool true)) cs w'):
 Rn (ac true Tryd.prog) Goal (Frame.round l 90 (((#[7]:Array Tmp).zip #[.int .i64 (d c)]).foldl (λtmps (t,a)=>tmps.setIfInBounds t a) T) (.region 2 (ae Tryd.f90 2) false) (.block 1 (.region 3 (ae Tryd.f90 3) false)) .normal) (cf::cs) w:=by
 have hF:=hT.put (d:=7) (by decide) (.int .i64 (d c))
 have ez:((#[7]:Array Tmp).zip #[.int .i64 (d c)]).foldl (λ(tmps:Array Value) (x:Tmp×Value)=>match x with|(t,a)=>tmps.setIfInBounds t a) T=T.setIfInBounds 7 (.int .i64 (d c)):=by simp
 rw[ez]
 show Rn _ Goal ((rb 90 l).atR (Act.put ⟨T,[]⟩ (some 7) (.int .i64 (d c))) [.code (.region 2 (ae Tryd.f90 2) false), .beginRound, .code (.block 1 (.region 3 (ae Tryd.f90 3) false))]) (cf::cs) w
 revert hF
 generalize Act.put ⟨T,[]⟩ (some 7) (.int .i64 (d c))=a
 intro hF
 refine Rn.r (L:=[0]) rfl (Rn.s hF 5 7 rfl λa hF=> ?_)
 refine Rn.p rfl (Rn.rounds (r:=wZ Tryd.f90 T ld .ready) rfl hI.loop rfl ?_)
 obtain⟨v,hv,hown⟩:=hI.row
 have n2l:b2≠l:=λe=>by subst e;rw[hI.loop]at hv;cases hv
 have ndl:ld≠l:=λe=>by subst e;have:=hI.list;rw[hI.loop]at this;cases this
 have n2d:ld≠b2:=λe=>by subst e;have:=hI.list;rw[hv]at this;cases this
 have hv1:(aX w l (wZ Tryd.f90 T ld .busy)).heap[b2]?=some (.cells #[v] 22):=(aW w _ n2l).trans hv
 have hl1:(aX w l (wZ Tryd.f90 T ld .busy)).heap[l]?=some (.loop (wZ Tryd.f90 T ld .busy)):=ii hI.loop
 have hd1:(aX w l (wZ Tryd.f90 T ld .busy)).heap[ld]?=some (.deferred (some [])):=(aW w _ ndl).trans hI.list
 have hown1:(aX w l (wZ Tryd.f90 T ld .busy)).ownsRow w0.heap.size 3 1 v c ((List.range c).map λi=> .int .i64 (d i)):=gq hown λg hg=>aW w _ λe=>kw hown hI.loop (by intro cur q;cases q) (by rw[←e];exact hg.symm)
 have hold1:Below w0.heap.size w0 (aX w l (wZ Tryd.f90 T ld .busy)):=hI.old.trans (eG w l _ hl)
 show Rn _ Goal _ _ (aX w l (wZ Tryd.f90 T ld .busy))
 revert hv1 hl1 hd1 hown1 hold1
 generalize aX w l (wZ Tryd.f90 T ld .busy)=w1
 intro hv1 hl1 hd1 hown1 hold1
 refine Rn.p rfl (Rn.r (L:=[0,1,2,3,4]) rfl ?_)
 refine Rn.o hF 8 (.load 22 (.tmp 2)) (λo ho=>(ay nI ho (hF.get (d:=2) rfl) ((am hv1 0).trans rfl)).1) λa hF=> ?_
 refine Rn.y hF 9 5 rfl λa hF=> ?_
 refine Rn.o hF 10 (.buildSlice 22 1 #[(0, .tmp 9)]) (λo ho=>CO ho (hF.get (d:=9) rfl)) λa hF=> ?_
 have hb2':=an w1 (.cells #[.int .i64 (d c)] 3)
 have g:∀{b:Nat} {o:Obj},w1.heap[b]?=some o->(w1.alloc (.cells #[.int .i64 (d c)] 3)).heap[b]?=some o:=λ{b o} ho=>(hb2'.block b (gA ho).1).trans ho
 have hv2:=g hv1
 have hl2:=g hl1
 have hd2:=g hd1
 have hown2:(w1.alloc (.cells #[.int .i64 (d c)] 3)).ownsRow w0.heap.size 3 1 v c ((List.range c).map λi=> .int .i64 (d i)):=gq hown1 λk hk=>hb2'.block k (hown1.lt k hk).2
 have hold2:Below w0.heap.size w0 (w1.alloc (.cells #[.int .i64 (d c)] 3)):=ah hold1 hold1.size hb2'
 have hnew:=aC w1 (.cells #[.int .i64 (d c)] 3)
 obtain⟨ti,hti,hz,hsz,hby⟩:=wn
 have happ:=λty=>run_append_own (P:=ac true Tryd.prog) (w1.alloc (.cells #[.int .i64 (d c)] 3)) w0.heap.size 22 ty 3 ti (.int .i64 0) 1 8 (by kernel_rfl) hti hz hsz hby rfl (by decide) v c _ hown2 ⟨w1.heap.size,0,none⟩ 1 1 [.int .i64 (d c)] rfl
  (λj u hj=>by
    have hj0:j=0:=by have:=(List.getElem?_eq_some_iff.1 hj).1;simp at this;omega
    subst hj0
    cases hj
    rw[nb,am hnew]
    rfl) (λu hu=>by simp at hu;subst hu;rfl) (by simp only[maxLen];omega) (by omega) hold2.size
 cases ho:(ae Tryd.f90 3)[3]? with
 |none=>exact absurd ho (by simp;decide)
 |some o=>
 obtain⟨e1,e2,e3⟩:=aJ (d:=some 11) (p:= .call {callee:= .builtin .append,args:=#[.tmp 8, .tmp 10],argTypes:=#[22,22]}) ho (by kernel_rfl)
 obtain⟨v',w3,hrun,hown3,hgr,_⟩:=happ o.type
 have hr:(execOp a.eval o).run (ac true Tryd.prog) (w1.alloc (.cells #[.int .i64 (d c)] 3))= .ok (.value v') w3:=by
  have x8:=hF.get (d:=8) rfl
  have x10:=hF.get (d:=10) rfl
  simp[execOp,e2,resolve,x8,x10,invoke,builtin,hrun]
 refine Rn.ran ho (e3 _) (by rw[e2];simp) hr ?_
 rw[e1]
 have hF:=hF.put (d:=11) (by decide) v'
 revert hF
 generalize a.put (some 11) v'=a
 intro hF
 have q2:=kw hown2 hv2 (by intro cur q;cases q)
 have ql:=kw hown2 hl2 (by intro cur q;cases q)
 have qd:=kw hown2 hd2 (by intro cur q;cases q)
 have hv3:=(hgr.block b2 (gA hv2).1 q2).trans hv2
 have hl3:=(hgr.block l (gA hl2).1 ql).trans hl2
 have hd3:=(hgr.block ld (gA hd2).1 qd).trans hd2
 have hold3:Below w0.heap.size w0 w3:=pA hold2 hgr (λk hk=>(hown2.lt k hk).1) hold2.size
 clear hrun happ hr hgr q2 ql qd hnew e1 e2 e3 ho
 have hcells:v'.cells=#[v']/\v'.oneCell'=true:=by
  rcases hown3.2 with⟨rfl,_⟩|⟨g,cap,cur,rfl,_⟩<;>exact⟨rfl,rfl⟩
 refine Rn.does0 hF (.store 22 (.tmp 2) (.tmp 11)) (by kernel_rfl) (by simp) (λo ho=>(eX (w:=w3) (b:=b2) (k:=0) (v:=v') (v0:=v) hcells.1 hcells.2 (by kernel_rfl) ho (hF.get (d:=2) rfl) (hF.get (d:=11) rfl) ((am hv3 0).trans rfl) (by simp[World.frozen?,hv3])).1) λa hF=> ?_
 refine Rn.p rfl (Rn.p rfl ?_)
 have hl4:(w3.setCell ⟨b2,0,none⟩ v').heap[l]?=some (.loop (wZ Tryd.f90 T ld .busy)):=(bV w3 _ (Ne.symm n2l)).trans hl3
 refine Rn.through rfl rfl hl4 (next _ ⟨?_,⟨v',(aW _ _ n2l).trans (kg hv3), ?_⟩,ii hl4,(aW _ _ ndl).trans ((bV w3 _ n2d).trans hd3)⟩)
 ·exact(hold3.trans (dw _ _ _ hb2)).trans (eG _ _ _ hl)
 ·rw[List.range_succ,List.map_append]
  refine gq hown3 λk hk=> ?_
  have k1:k≠l:=λe=>kw hown3 hl3 (by intro cur q;cases q) (by rw[←e];exact hk.symm)
  have k2:k≠b2:=λe=>kw hown3 hv3 (by intro cur q;cases q) (by rw[←e];exact hk.symm)
  exact(aW _ _ k1).trans (bV w3 _ k2)
end
def jV(b:ByteArray)(wd n:Nat):List Value:=(List.range n).map λi=> .int .i64 (cn b.data.toList wd i)
theorem Fb(b:ByteArray)(wd bb bw:Nat)(w:World)(hw:pZ wd)(hs:b.size<=1000)(hbb:w.heap[bb]?=some (.cells #[.string b] 9))(hbw:w.heap[bw]?=some (.cells #[.int .i64 wd] 3)):
 Calls (ac true Tryd.prog) 90 #[.slice none 0 0, .func (.func 89) #[] #[.pointer (some ⟨bb,0,none⟩), .pointer (some ⟨bw,0,none⟩)]] w λe w'=>∃v,e= .returned v/\w'.ownsRow w.heap.size 3 1 v (b.size*(8/wd)) (jV b wd (b.size*(8/wd)))/\Below w.heap.size w w':=by
 refine bF (t:=4) Lf.func90 rfl λcs=> ?_
 rw[bW (N:=13) [.slice none 0 0, .func (.func 89) #[] #[.pointer (some ⟨bb,0,none⟩), .pointer (some ⟨bw,0,none⟩)]] Lf.func90 Ih rfl]
 have hF:=bm [.slice none 0 0, .func (.func 89) #[] #[.pointer (some ⟨bb,0,none⟩), .pointer (some ⟨bw,0,none⟩)]] 13 (by simp)
 refine Rn.p rfl (Rn.r (L:=[0,1]) rfl ?_)
 refine Rn.z hF 2 0 22 rfl λa hF=> ?_
 show Rn _ _ _ _ (w.alloc (.cells #[.slice none 0 0] 22))
 refine Rn.c hF 4 (.slice none 0 0) λa hF=> ?_
 refine Rn.p rfl (Rn.p rfl (Rn.p rfl (Rn.r (L:=[0]) rfl ?_)))
 refine Rn.y hF 6 1 rfl λa hF=> ?_
 have hsz1:=ak w (.cells #[.slice none 0 0] 22)
 have hb1:=an w (.cells #[.slice none 0 0] 22)
 have h21:=aC w (.cells #[.slice none 0 0] 22)
 have hbb1:=(hb1.block bb (gA hbb).1).trans hbb
 have hbw1:=(hb1.block bw (gA hbw).1).trans hbw
 revert hsz1 hb1 h21 hbb1 hbw1
 generalize w.alloc (.cells #[.slice none 0 0] 22)=w1
 intro hsz1 hb1 h21 hbb1 hbw1
 refine Rn.p rfl (Rn.p rfl ?_)
 refine Rn.rangeAs (wZ Tryd.f90 a.tmps w1.heap.size .ready) (args:=#[.func (.yield (w1.heap.size+1)) #[] #[], .pointer (some ⟨bb,0,none⟩), .pointer (some ⟨bw,0,none⟩)]) rfl rfl Lf.func89 (by kernel_rfl) (by kernel_rfl) (hF.get (d:=6) rfl) (by simp) ?_
 have hltb:=(gA hbb).1
 have hltw:=(gA hbw).1
 have hper:8/wd<=4:=by rcases hw with rfl|rfl|rfl<;>decide
 have hn:b.size*(8/wd)<=4000:=Nat.le_trans (Nat.mul_le_mul hs hper) (by decide)
 have hT:aM [(2, .pt w.heap.size)] 13 [] ⟨a.tmps,[]⟩:=⟨rfl,hF.size,(hF.only (G:=[(2, .pt w.heap.size)]) ⟨rfl,trivial⟩).slot⟩
 have G:∀Goal,pR (ac true Tryd.prog) Goal (((base 90).atR ⟨a.tmps,{target:= .collected w1.heap.size,args:=#[]}::a.defers⟩ (.inRangeFunc (w1.heap.size+1)::[.inBlock 0, .code (.seq (.region 4 (ae Tryd.f90 4) false) .ret)]))::cs) (λc=>#[.int .i64 (cn b.data.toList wd c)]) (b.size*(8/wd)) (w1.heap.size+1) (wZ Tryd.f90 a.tmps w1.heap.size .ready)
  (Ap 3 22 (λi=> .int .i64 (cn b.data.toList wd i:Nat)) w.heap.size (w1.heap.size+1) w1.heap.size (wZ Tryd.f90 a.tmps w1.heap.size .ready) w):=
  λGoal=>
  {below:=λc w w' h hb=>h.below hb
   loop:=λc w h=>h.loop
   size:=λc=>rfl
   round:=λc w' cf hc hI next=>Ff (d:=λc=>(cn b.data.toList wd c:Nat)) hT (Nat.le_refl _) (by omega) (by omega) hI next}
 refine pH hw (by omega) (λc w' h=>(h.old.block bb hltb).trans hbb) (λc w' h=>(h.old.block bw hltw).trans hbw) (G _) ⟨ah hb1 (by omega) (i9 w1 _),⟨.slice none 0 0,(bv w1 _ (by omega)).trans h21,World.ownsRow_nil _ _ _ _⟩,fy w1 _,fz w1 _⟩ λw2 hI=> ?_
 show Rn _ _ ((base 90).atR ⟨a.tmps,{target:= .collected w1.heap.size,args:=#[]}::a.defers⟩ (.endRangeFunc (w1.heap.size+1)::_)) cs w2
 refine Rn.rangeOver hI.loop rfl rfl ?_
 obtain⟨v,hv,hown⟩:=hI.row
 have hG:aM [(2, .pt w.heap.size)] 13 [{target:= .collected w1.heap.size,args:=#[]}] ⟨a.tmps,{target:= .collected w1.heap.size,args:=#[]}::a.defers⟩:=⟨by rw[hF.defers],hF.size,hT.slot⟩
 revert hG
 generalize (Act.mk a.tmps ({target:= .collected w1.heap.size,args:=#[]}::a.defers))=a2
 intro hG
 have hld:=(aW w2 (l:=w1.heap.size+1) (b:=w1.heap.size) {wZ Tryd.f90 a.tmps w1.heap.size .ready with state:= .exhausted} (by omega)).trans hI.list
 have hv3:=(aW w2 (l:=w1.heap.size+1) (b:=w.heap.size) {wZ Tryd.f90 a.tmps w1.heap.size .ready with state:= .exhausted} (by omega)).trans hv
 refine Rn.p rfl (Rn.p rfl (Rn.r (L:=[0,1]) rfl ?_))
 refine Rn.o hG 12 (.load 22 (.tmp 2)) (λo ho=>(ay nI ho (hG.get (d:=2) rfl) ((am hv3 0).trans rfl)).1) λa3 hG=> ?_
 refine Rn.s hG 4 12 rfl λa4 hG=> ?_
 refine Rn.p rfl (Rn.ends rfl (.inr ⟨_,rfl⟩) (Rn.take (ds:=[]) hG.defers hld (Rn.now ⟨⟨a4.tmps,[]⟩,_,v,rfl,rfl,hG.slot 4 _ rfl,v,rfl, ?_, ?_⟩)))
 ·refine gq hown λk hk=> ?_
  have k1:k≠w1.heap.size+1:=λe=>kw hown hI.loop (by intro cur q;cases q) (by rw[←e];exact hk.symm)
  have k2:k≠w1.heap.size:=λe=>kw hown hI.list (by intro cur q;cases q) (by rw[←e];exact hk.symm)
  show(Array.setIfInBounds _ _ _)[k]?=_
  rw[sN (Ne.symm k2)]
  exact aW _ _ k1
 ·exact(hI.old.trans (eG _ _ _ (by omega))).trans (kN _ _ (by omega))
theorem Ip:Tryd.f79.body=some (.seq (.region 0 (ae Tryd.f79 0) false) (.seq (.region 1 (ae Tryd.f79 1) false) .ret)):=by kernel_rfl
theorem wO(b:ByteArray)(wd bb bw:Nat)(w:World)(hw:pZ wd)(hs:b.size<=1000)(hbb:w.heap[bb]?=some (.cells #[.string b] 9))(hbw:w.heap[bw]?=some (.cells #[.int .i64 wd] 3)):
 Calls (ac true Tryd.prog) 79 #[.func (.func 89) #[] #[.pointer (some ⟨bb,0,none⟩), .pointer (some ⟨bw,0,none⟩)]] w λe w'=>∃v,e= .returned v/\w'.ownsRow w.heap.size 3 1 v (b.size*(8/wd)) (jV b wd (b.size*(8/wd)))/\Below w.heap.size w w':=by
 refine bF (t:=2) Lf.func79 rfl λcs=> ?_
 rw[bW (N:=5) [.func (.func 89) #[] #[.pointer (some ⟨bb,0,none⟩), .pointer (some ⟨bw,0,none⟩)]] Lf.func79 Ip rfl]
 have hF:=bm [.func (.func 89) #[] #[.pointer (some ⟨bb,0,none⟩), .pointer (some ⟨bw,0,none⟩)]] 5 (by simp)
 refine Rn.p rfl (Rn.r (L:=[0]) rfl ?_)
 refine Rn.c hF 2 (.slice none 0 0) λa hF=> ?_
 refine Rn.p rfl (Rn.p rfl (Rn.r (L:=[0,1,2]) rfl ?_))
 refine Rn.y hF 3 0 rfl λa hF=> ?_
 refine Rn.calls (f:=90) (xs:=#[.const (.slice none 0 0), .tmp 3]) (ats:=#[22,115]) (args:=#[.slice none 0 0, .func (.func 89) #[] #[.pointer (some ⟨bb,0,none⟩), .pointer (some ⟨bw,0,none⟩)]]) hF 4 (by decide) (by kernel_rfl) (by simp[hF.get (d:=3) rfl];rfl) Lf.func90 (by kernel_rfl) (by kernel_rfl)
  (Fb b wd bb bw w hw hs hbb hbw) λv w' hv a hF=> ?_
 refine Rn.s hF 2 4 rfl λa hF=> ?_
 exact Rn.p rfl (Rn.ends rfl (.inr ⟨_,rfl⟩) (Rn.now ⟨a,_,v,rfl,hF.defers,hF.slot 2 _ rfl,v,rfl,hv⟩))
theorem Iq:Tryd.f77.body=some (.seq (.region 0 (ae Tryd.f77 0) false) (.seq (.region 1 (ae Tryd.f77 1) false) .ret)):=by kernel_rfl
theorem rx(b:ByteArray)(wd:Nat)(w:World):
 Calls (ac true Tryd.prog) 77 #[.string b, .int .i64 wd] w λe w'=>e= .returned (.func (.func 89) #[] #[.pointer (some ⟨w.heap.size,0,none⟩), .pointer (some ⟨w.heap.size+1,0,none⟩)])/\w'=(w.alloc (.cells #[.string b] 9)).alloc (.cells #[.int .i64 wd] 3):=by
 refine bF (t:=4) Lf.func77 rfl λcs=> ?_
 rw[bW (N:=6) [.string b, .int .i64 wd] Lf.func77 Iq rfl]
 have hF:=bm [.string b, .int .i64 wd] 6 (by simp)
 refine Rn.p rfl (Rn.r (L:=[0,1,2]) rfl ?_)
 refine Rn.z hF 2 0 9 rfl λa hF=> ?_
 show Rn _ _ _ _ (w.alloc (.cells #[.string b] 9))
 refine Rn.z hF 3 1 3 rfl λa hF=> ?_
 rw[ak]at hF
 show Rn _ _ _ _ ((w.alloc (.cells #[.string b] 9)).alloc (.cells #[.int .i64 wd] 3))
 refine Rn.c hF 4 .nilFunc λa hF=> ?_
 refine Rn.p rfl (Rn.p rfl (Rn.r (L:=[0,1]) rfl ?_))
 refine Rn.o hF 5 (.makeFunc (.func 89) #[] #[.tmp 2, .tmp 3]) (v:= .func (.func 89) #[] #[.pointer (some ⟨w.heap.size,0,none⟩), .pointer (some ⟨w.heap.size+1,0,none⟩)]) (w':=(w.alloc (.cells #[.string b] 9)).alloc (.cells #[.int .i64 wd] 3)) (λo ho=> ?_) λa hF=> ?_
 ·have h:=(j5 (ac true Tryd.prog) (w:=(w.alloc (.cells #[.string b] 9)).alloc (.cells #[.int .i64 wd] 3)) (ev:=a.eval) ho).1
  rw[h]
  simp[hF.get (d:=2) rfl,hF.get (d:=3) rfl]
 refine Rn.s hF 4 5 rfl λa hF=> ?_
 exact Rn.p rfl (Rn.ends rfl (.inr ⟨_,rfl⟩) (Rn.now ⟨a,_,_,rfl,hF.defers,hF.slot 4 _ rfl,rfl,rfl⟩))
end Go.Proofs.YtkmoglhgkcnalaaDoor.L1
namespace Go.Proofs.YtkmoglhgkcnalaaDoor
open Go Go.Conc Go.RowKit
structure Sm (ts tk ti:TypeId) (Q:ByteArray) (wd:Nat) (key:Array Value) (r:Loop) (w0:World) (S:Nat) (w:World):Prop where
 old:Below w0.heap.size w0 w
 key:w.heap[w0.heap.size]?=some (.cells key tk)
 five:w.heap[w0.heap.size+1]?=some (.cells #[.int .i64 S] ti)
 str:w.heap[w0.heap.size+2]?=some (.cells #[.string Q] ts)
 wid:w.heap[w0.heap.size+3]?=some (.cells #[.int .i64 wd] ti)
 list:w.heap[w0.heap.size+4]?=some (.deferred (some []))
 loop:w.heap[w0.heap.size+5]?=some (.loop r)
section
variable{ts tk ti:TypeId}{Q:ByteArray}{wd:Nat}{key:Array Value}{r:Loop}{w0:World}{S:Nat}{w w':World}
theorem Sm.below(h:Sm ts tk ti Q wd key r w0 S w)(hb:Below w.heap.size w w'):Sm ts tk ti Q wd key r w0 S w':=by
 have g:∀{b:Nat} {o:Obj},w.heap[b]?=some o->w'.heap[b]?=some o:=λ{b o} ho=>(hb.block b (gA ho).1).trans ho
 exact⟨ah h.old h.old.size hb,g h.key,g h.five,g h.str,g h.wid,g h.list,g h.loop⟩
theorem Sm.turn(h:Sm ts tk ti Q wd key r w0 S w)(r':Loop):Sm ts tk ti Q wd key r' w0 S (aX w (w0.heap.size+5) r'):=
 ⟨h.old.trans (eG w _ _ (by omega)),(aW w _ (by omega)).trans h.key,(aW w _ (by omega)).trans h.five,(aW w _ (by omega)).trans h.str,(aW w _ (by omega)).trans h.wid,(aW w _ (by omega)).trans h.list,ii h.loop⟩
theorem Sm.put(h:Sm ts tk ti Q wd key r w0 S w)(S':Nat):Sm ts tk ti Q wd key r w0 S' (w.setCell ⟨w0.heap.size+1,0,none⟩ (.int .i64 S')):=
 ⟨h.old.trans (dw w _ _ (by show _<=w0.heap.size+1;omega)),(bV w _ (by show _≠w0.heap.size+1;omega)).trans h.key,kg h.five,(bV w _ (by show _≠w0.heap.size+1;omega)).trans h.str,(bV w _ (by show _≠w0.heap.size+1;omega)).trans h.wid,(bV w _ (by show _≠w0.heap.size+1;omega)).trans h.list,(bV w _ (by show _≠w0.heap.size+1;omega)).trans h.loop⟩
end
end Go.Proofs.YtkmoglhgkcnalaaDoor
namespace Go.Proofs.YtkmoglhgkcnalaaDoor.L1
open Go Go.Conc Go.RowKit Go.Proofs.YtkmoglhgkcnalaaDoor
def va(f:Func)(T:Array Value)(ld:Nat)(st:LoopState):Loop:={state:=st,pending:=none,fn:=65,tmps:=T,params:=#[12],assign:= .region 3 (ae f 3) false,body:= .block 1 (.region 4 (ae f 4) true),defers:=ld}
theorem It:Tryd.f65.body=some (.seq (.region 0 (ae Tryd.f65 0) false) (.seq (.region 1 (ae Tryd.f65 1) false) (.seq (.seq (.region 2 (ae Tryd.f65 2) false) (.block 0 (.rangeFunc (.tmp 11) #[12] (.region 3 (ae Tryd.f65 3) false) (.block 1 (.region 4 (ae Tryd.f65 4) true)))))
 (.seq (.region 5 (ae Tryd.f65 5) false) (.seq (.region 6 (ae Tryd.f65 6) true) .ret))))):=by kernel_rfl
section
variable{w:World}{ev:Operand->Value}{o:Oper}{x y:Operand}{b:Nat}
theorem cO(j:Nat)(hj:j<8)(hop:o.op= .fieldAddr 78 x j)(hx:ev x= .pointer (some ⟨b,0,none⟩)):(execOp ev o).run (ac true Tryd.prog) w= .ok (.value (.pointer (some ⟨b,j,none⟩))) w:=by
 have e:execOp ev o=(do pure (.value (←Instr.fieldAt 78 (.pointer (some ⟨b,0,none⟩)) j))):=by simp only[execOp,hop,hx]
 have h2:(do pure (.value (←Instr.fieldAt 78 (.pointer (some ⟨b,0,none⟩)) j)):Sem Next).run (ac true Tryd.prog) w= .ok (.value (.pointer (some ⟨b,j,none⟩))) w:=by
  rcases(by omega:j=0\/j=1\/j=2\/j=3\/j=4\/j=5\/j=6\/j=7)with rfl|rfl|rfl|rfl|rfl|rfl|rfl|rfl<;>kernel_rfl
 rw[e,h2]
theorem CS{g:Addr}{len cap n:Nat}(hop:o.op= .slice 22 x none (some y) none)(hx:ev x= .slice (some g) len cap)(hy:ev y= .int .i64 n)(h:n<=cap):(execOp ev o).run (ac true Tryd.prog) w= .ok (.value (.slice (some g) n cap)) w:=by
 have hu:(ac true Tryd.prog).underlying 22=some (.slice 3):=by kernel_rfl
 have hz:∀w:World,(sizeOf 3).run (ac true Tryd.prog) w= .ok 1 w:=λw=>by kernel_rfl
 simp[execOp,hop,hx,hy,Instr.sliceAt,Instr.slice,Instr.sliceBounds,run_underlying hu,Instr.sliceBound,asIntOf,h,hz,go_sem]
end
section
variable{Goal:Goroutine->World->Prop}{cs:List Frame}{T:Array Value}{w0:World}{s:cq}{Q:ByteArray}{wd:Nat}
theorem Fj(hw:pZ wd)(hwd:s.width=wd)(hT:aM [(2, .pt w0.heap.size),(5, .pt (w0.heap.size+1))] 34 [] ⟨T,[]⟩){c:Nat}(hc:c<1000000){cf:Frame}{w:World}
 (hI:Sm 9 78 3 Q wd s.key (va Tryd.f65 T (w0.heap.size+4) .ready) w0 (dk Q.data.toList wd c) w)
 (next:∀w',Sm 9 78 3 Q wd s.key (va Tryd.f65 T (w0.heap.size+4) .ready) w0 (dk Q.data.toList wd (c+1)) w'->Rn (ac true Tryd.prog) Goal (cf.finish (.bool true)) cs w'):
 Rn (ac true Tryd.prog) Goal (Frame.round (w0.heap.size+5) 65 (((#[12]:Array Tmp).zip #[.int .i64 (cn Q.data.toList wd c)]).foldl (λtmps (t,a)=>tmps.setIfInBounds t a) T) (.region 3 (ae Tryd.f65 3) false) (.block 1 (.region 4 (ae Tryd.f65 4) true)) .normal) (cf::cs) w:=by
 have hF:=hT.put (d:=12) (by decide) (.int .i64 (cn Q.data.toList wd c))
 have ez:((#[12]:Array Tmp).zip #[.int .i64 (cn Q.data.toList wd c)]).foldl (λ(tmps:Array Value) (x:Tmp×Value)=>match x with|(t,a)=>tmps.setIfInBounds t a) T=T.setIfInBounds 12 (.int .i64 (cn Q.data.toList wd c)):=by simp
 rw[ez]
 show Rn _ Goal ((rb 65 (w0.heap.size+5)).atR (Act.put ⟨T,[]⟩ (some 12) (.int .i64 (cn Q.data.toList wd c))) [.code (.region 3 (ae Tryd.f65 3) false), .beginRound, .code (.block 1 (.region 4 (ae Tryd.f65 4) true))]) (cf::cs) w
 revert hF
 generalize Act.put ⟨T,[]⟩ (some 12) (.int .i64 (cn Q.data.toList wd c))=a
 intro hF
 refine Rn.r (L:=[0]) rfl (Rn.s hF 6 12 rfl λa hF=> ?_)
 refine Rn.p rfl (Rn.rounds (r:=va Tryd.f65 T (w0.heap.size+4) .ready) rfl hI.loop rfl ?_)
 have hI1:=hI.turn (va Tryd.f65 T (w0.heap.size+4) .busy)
 show Rn _ Goal _ _ (aX w (w0.heap.size+5) (va Tryd.f65 T (w0.heap.size+4) .busy))
 revert hI1
 generalize aX w (w0.heap.size+5) (va Tryd.f65 T (w0.heap.size+4) .busy)=w1
 intro hI1
 have hS:=nk Q.data.toList hw c
 have htop:=mw hw
 have hdt:=nS Q.data.toList wd c
 have hF:aM [(2, .pt w0.heap.size),(5, .pt (w0.heap.size+1)),(6, .int .i64 (cn Q.data.toList wd c))] 34 [] a:=hF.only ⟨rfl,rfl,rfl,trivial⟩
 refine Rn.p rfl ?_
 refine Rn.grows (fx:=[(2, .pt w0.heap.size),(5, .pt (w0.heap.size+1)),(6, .int .i64 (cn Q.data.toList wd c))]) (ds:=[13,14,15,16,17,18]) (N:=34) (df:=[])
  (G:=λn v _=>([.int .i64 (dk Q.data.toList wd c), .agg s.key, .int .i64 (ck wd), .int .i64 (cn Q.data.toList wd c), .int .i64 ((ck wd- cn Q.data.toList wd c:Nat):Int), .int .i64 (dk Q.data.toList wd (c+1))]:List Value)[n]?=some v) (by kernel_rfl) (by kernel_rfl) (λn v w w' h _=>h) (λn o a w' hn ho hb hfx hne=> ?_)
  (λn a w'=>(n=6/\aM [(18, .int .i64 (dk Q.data.toList wd (c+1))),(2, .pt w0.heap.size),(5, .pt (w0.heap.size+1)),(6, .int .i64 (cn Q.data.toList wd c))] 34 [] a/\Sm 9 78 3 Q wd s.key (va Tryd.f65 T (w0.heap.size+4) .busy) w0 (dk Q.data.toList wd c) w')\/
    (n=7/\Sm 9 78 3 Q wd s.key (va Tryd.f65 T (w0.heap.size+4) .busy) w0 (dk Q.data.toList wd (c+1)) w'))
  (λa w' hG=> ?_) (λn o a w' rest hn ho hS hgo=> ?_) (λa w' hS=> ?_) hF.defers hF.size (hF.all (by simp))
 ·have hI':=hI1.below hb
  have f2:=hfx _ (mG (i:=0) rfl)
  have f5:=hfx _ (mG (i:=1) rfl)
  have f6:=hfx _ (mG (i:=2) rfl)
  have get:∀m d v,[13,14,15,16,17,18][m]?=some d->jN (ae Tryd.f65 4) n m=true->([.int .i64 (dk Q.data.toList wd c), .agg s.key, .int .i64 (ck wd), .int .i64 (cn Q.data.toList wd c), .int .i64 ((ck wd- cn Q.data.toList wd c:Nat):Int), .int .i64 (dk Q.data.toList wd (c+1))]:List Value)[m]?=some v->a.eval (.tmp d)=v:=λm d v hd hm hv=>by
   obtain⟨u,hu,hu2⟩:=hne m d hd hm
   rw[hv]at hu2
   cases hu2
   exact C5 hu
  have hlt:n<6:=hn
  rcases(by omega:n=0\/n=1\/n=2\/n=3\/n=4\/n=5)with rfl|rfl|rfl|rfl|rfl|rfl
  ·have e2:=aP ho 13 ( .load 3 (.tmp 5))
   exact af (ay aQ e2 (C5 f5) ((am hI'.five 0).trans rfl)).1 ⟨rfl,bR⟩
  ·have e2:=aP ho 14 ( .load 78 (.tmp 2))
   exact af (fV (s:=s) e2 (C5 f2) hI'.key λ_ _=>rfl) ⟨rfl,bR⟩
  ·have e2:=aP ho 15 ( .call {callee:= .value (.func 78),args:=#[.tmp 14],argTypes:=#[78]})
   have a1:=get 1 14 _ rfl (by kernel_rfl) rfl
   have hr:=az (w:=w') e2 (show(#[Operand.tmp 14]:Array Operand).map a.eval=#[.agg s.key]from by simp[a1]) (rI (P:=ac true Tryd.prog) Lf.func78 _)
   refine .inr ⟨_,_,hr.1,(zl s wd hwd (by rcases hw with rfl|rfl|rfl<;>decide) w').mono λe w'' h=>⟨_,h.1,rfl,h.2⟩⟩
  ·have e2:=aP ho 16 ( .move (.tmp 6))
   exact EU (.inl e2) f6 ⟨rfl,bR⟩
  ·have e2:=aP ho 17 ( .binOp .sub 3 (.tmp 15) (.tmp 16) 3)
   refine af (jh e2 (get 2 15 _ rfl (by kernel_rfl) rfl) (get 3 16 _ rfl (by kernel_rfl) rfl) (by omega)) ⟨?_,bR⟩
   rw[←Int.ofNat_sub hdt]
   rfl
  ·have e2:=aP ho 18 ( .binOp .add 3 (.tmp 13) (.tmp 17) 3)
   refine af (da e2 (get 0 13 _ rfl (by kernel_rfl) rfl) (get 4 17 _ rfl (by kernel_rfl) rfl) (by omega)) ⟨?_,bR⟩
   rw[←Int.natCast_add]
   rfl
 ·obtain⟨u,hu,hu2⟩:=hG.come 5 18 rfl trivial
  cases hu2
  exact .inl ⟨rfl,hG.base.more hu,hI1.below hG.old⟩
 ·rcases hS with⟨rfl,hF,hI⟩|⟨rfl,hI⟩
  ·refine Rn.does0 hF (.store 3 (.tmp 5) (.tmp 18)) (by kernel_rfl) (by simp) (λo ho=>(eX (w:=w') (b:=w0.heap.size+1) (k:=0) (v:= .int .i64 (dk Q.data.toList wd (c+1))) (v0:= .int .i64 (dk Q.data.toList wd c)) rfl rfl (by kernel_rfl) ho (hF.get (d:=5) rfl) (hF.get (d:=18) rfl) ((am hI.five 0).trans rfl) (by simp[World.frozen?,hI.five])).1) λa hF=>hgo a _ (.inr ⟨rfl,hI.put _⟩)
  ·exact absurd (gA ho).1 (by decide)
 ·rcases hS with⟨h,_⟩|⟨_,hI⟩
  ·exact absurd h (by decide)
  ·exact Rn.p rfl (Rn.through rfl rfl hI.loop (next _ (hI.turn _)))
end
def j1(n:Nat)(d:Nat->Nat)(v:Value)(w:World):Prop:=∃gb cap,v= .slice (some ⟨gb,0,none⟩) n cap/\gb<w.heap.size/\∀c,c<n->w.cell? ⟨gb,c,none⟩=some (.int .i64 (d c))
theorem j1.mono{n:Nat}{d:Nat->Nat}{v:Value}{w w':World}(h:j1 n d v w)(hb:Below w.heap.size w w'):j1 n d v w':=by
 obtain⟨gb,cap,rfl,hlt,h⟩:=h
 refine⟨gb,cap,rfl,Nat.lt_of_lt_of_le hlt hb.size,λc hc=> ?_⟩
 rw[←h c hc]
 unfold World.cell?
 rw[show w'.heap[(⟨gb,c,none⟩:Addr).block]?=_ from hb.block gb hlt]
def KL(N:Nat)(al:ByteArray)(wd n:Nat):Nat->Value->World->Prop
 |0,v,_=>v= .string al
 |1,v,_=>v= .pointer (some ⟨N,5,none⟩)
 |2,v,_=>v= .int .i64 wd
 |3,v,w=>∃p,v= .func (.func 89) #[] #[.pointer (some ⟨p,0,none⟩), .pointer (some ⟨p+1,0,none⟩)]/\w.heap[p]?=some (.cells #[.string al] 9)/\w.heap[p+1]?=some (.cells #[.int .i64 wd] 3)
 |4,v,w=>∃B,w.ownsRow B 3 1 v (al.size*(8/wd)) (jV al wd (al.size*(8/wd)))
 |5,v,_=>v= .pointer (some ⟨N,6,none⟩)
 |6,v,_=>v= .int .i64 n
 |_,v,w=>j1 n (λc=>cn al.data.toList wd c) v w
theorem Dy{N:Nat}{al:ByteArray}{wd n:Nat}(k:Nat)(v:Value)(w w':World)(h:KL N al wd n k v w)(hb:Below w.heap.size w w'):KL N al wd n k v w':=by
 have g:∀{b:Nat} {o:Obj},w.heap[b]?=some o->w'.heap[b]?=some o:=λ{b o} ho=>(hb.block b (gA ho).1).trans ho
 match k,h with
 |0,h|1,h|2,h=>exact h
 |3,⟨p,h1,h2,h3⟩=>exact⟨p,h1,g h2,g h3⟩
 |4,⟨B,h⟩=>exact⟨B,gq h λk hk=>hb.block k (h.lt k hk).2⟩
 |5,h|6,h=>exact h
 |k+7,h=>exact j1.mono h hb
section
variable{Goal:Goroutine->World->Prop}{cs:List Frame}{s:cq}{al:ByteArray}{wd n N:Nat}
theorem I5(hw:pZ wd)(hwd:s.width=wd)(hn:s.count=n)(hal:al.size<=1000)(hn1:1<=n)(hn2:n<=al.size*(8/wd)){K:List Item}{a:Act}{w:World}{ds:List Deferred}(hkey:w.heap[N]?=some (.cells s.key 78))
 (hF:aM [(2, .pt N),(7, .string al)] 34 ds a)
 (next:∀a w' v,j1 n (λc=>cn al.data.toList wd c) v w'->Below w.heap.size w w'->aM [(4,v)] 34 ds a->Rn (ac true Tryd.prog) Goal ((base 65).atR a K) cs w'):
 Rn (ac true Tryd.prog) Goal ((base 65).atR a (.code (.region 6 (ae Tryd.f65 6) true)::K)) cs w:=by
 refine Rn.grows (fx:=[(2, .pt N),(7, .string al)]) (ds:=[26,27,28,29,30,31,32,33,4]) (N:=34) (df:=ds)
  (G:=KL N al wd n) (by kernel_rfl) (by kernel_rfl) Dy (λm o a w' hm ho hb hfx hne=> ?_)
  (λm a w'=>m=9/\Below w.heap.size w w'/\∃v,j1 n (λc=>cn al.data.toList wd c) v w'/\aM [(4,v)] 34 ds a) (λa w' hG=> ?_) (λm o a w' rest hm ho hS hgo=> ?_) (λa w' hS=> ?_) hF.defers hF.size (hF.all (by simp))
 ·have hkey':=(hb.block N (gA hkey).1).trans hkey
  have f2:=hfx _ (mG (i:=0) rfl)
  have f7:=hfx _ (mG (i:=1) rfl)
  have hlt:m<9:=hm
  rcases(by omega:m=0\/m=1\/m=2\/m=3\/m=4\/m=5\/m=6\/m=7\/m=8)with rfl|rfl|rfl|rfl|rfl|rfl|rfl|rfl|rfl
  ·have e2:=aP ho 26 ( .move (.tmp 7))
   exact EU (.inl e2) f7 ⟨rfl,bR⟩
  ·have e2:=aP ho 27 ( .fieldAddr 78 (.tmp 2) 5)
   exact af (cO 5 (by decide) e2 (C5 f2)) ⟨rfl,bR⟩
  ·have e2:=aP ho 28 ( .load 3 (.tmp 27))
   obtain⟨u,hu,rfl⟩:=nE hne 1 27
   exact af (ay (v:= .int .i64 wd) aQ e2 (C5 hu) ((am hkey' 5).trans (by rw[←hwd];rfl))).1 ⟨rfl,bR⟩
  ·have e2:=aP ho 29 ( .call {callee:= .value (.func 77),args:=#[.tmp 26, .tmp 28],argTypes:=#[9,3]})
   obtain⟨u,hu,rfl⟩:=nE hne 0 26
   obtain⟨u2,hu2,rfl⟩:=nE hne 2 28
   have hr:=az (w:=w') e2 (show(#[Operand.tmp 26, .tmp 28]:Array Operand).map a.eval=#[.string al, .int .i64 wd]from by simp[C5 hu,C5 hu2]) (rI (P:=ac true Tryd.prog) Lf.func77 _)
   refine .inr ⟨_,_,hr.1,(rx al wd w').mono λe w'' h=>⟨_,h.1,⟨w'.heap.size,rfl, ?_, ?_⟩, ?_⟩⟩
   ·rw[h.2]
    exact(bH _ _ (by rw[ak];omega)).trans (aC w' _)
   ·rw[h.2]
    have:=aC (w'.alloc (.cells #[.string al] 9)) (.cells #[.int .i64 wd] 3)
    rw[ak]at this
    exact this
   ·rw[h.2]
    exact ah (an w' _) (by rw[ak];omega) (an _ _)
  ·have e2:=aP ho 30 ( .call {callee:= .value (.func 79),args:=#[.tmp 29],argTypes:=#[115]})
   obtain⟨u,hu,p,rfl,h1,h2⟩:=nE hne 3 29
   have hr:=az (w:=w') e2 (show(#[Operand.tmp 29]:Array Operand).map a.eval=#[.func (.func 89) #[] #[.pointer (some ⟨p,0,none⟩), .pointer (some ⟨p+1,0,none⟩)]]from by simp[C5 hu]) (rI (P:=ac true Tryd.prog) Lf.func79 _)
   exact .inr ⟨_,_,hr.1,(wO al wd p (p+1) w' hw hal h1 h2).mono λe w'' ⟨v,h1,h2,h3⟩=>⟨v,h1,⟨_,h2⟩,h3⟩⟩
  ·have e2:=aP ho 31 ( .fieldAddr 78 (.tmp 2) 6)
   exact af (cO 6 (by decide) e2 (C5 f2)) ⟨rfl,bR⟩
  ·have e2:=aP ho 32 ( .load 3 (.tmp 31))
   obtain⟨u,hu,rfl⟩:=nE hne 5 31
   exact af (ay (v:= .int .i64 n) aQ e2 (C5 hu) ((am hkey' 6).trans (by rw[←hn];rfl))).1 ⟨rfl,bR⟩
  ·have e2:=aP ho 33 ( .slice 22 (.tmp 30) none (some (.tmp 32)) none)
   obtain⟨u,hu,B,hown⟩:=nE hne 4 30
   obtain⟨u2,hu2,rfl⟩:=nE hne 6 32
   rcases hown.2 with⟨_,h0⟩|⟨g,cap,cur,rfl,_,hg,hnc,_,hcs,htake⟩
   ·omega
   ·refine af (CS e2 (C5 hu) (C5 hu2) (by omega)) ⟨⟨g,cap,rfl,(gA hg).1,λc hc=> ?_⟩,bR⟩
    rw[am hg]
    have hl:c<al.size*(8/wd):=by omega
    have h1:(cur.toList.take (al.size*(8/wd)*1))[c]?=(jV al wd (al.size*(8/wd)))[c]?:=by rw[htake]
    rw[List.getElem?_take_of_lt (by omega)]at h1
    rw[←Array.getElem?_toList,h1]
    simp[jV,hl]
  ·have e2:=aP ho 4 ( .assign (.tmp 33))
   obtain⟨u,hu,hgone⟩:=nE hne 7 33
   exact EU (.inr e2) hu ⟨hgone,bR⟩
 ·obtain⟨u,hu,hu2⟩:=hG.come 8 4 rfl trivial
  exact⟨rfl,hG.old,u,hu2,aM.mem hG.defers hG.size λp hp=>by simp at hp;subst hp;exact hu⟩
 ·exact absurd (gA ho).1 (by obtain⟨rfl,_⟩:=hS;decide)
 ·obtain⟨_,hb,v,hv,hF⟩:=hS
  exact next a w' v hv hb hF
end
theorem uJ(s:cq)(wd sh n:Nat)(Q:ByteArray)(w:World)(hw:pZ wd)(hwd:s.width=wd)(hsh:s.shift=sh)(hsh2:sh<=8)(hn:s.count=n)(hn1:1<=n)(hn2:n<=34*(8/wd))(hQ:Q.size=32):
 Calls (ac true Tryd.prog) 65 #[.agg s.key, .string Q] w λe w'=>∃v,e= .returned v/\j1 n (λc=>cn (iO Q.data.toList wd sh) wd c) v w'/\Below w.heap.size w w':=by
 refine bF (t:=4) Lf.func65 rfl λcs=> ?_
 rw[bW (N:=34) [.agg s.key, .string Q] Lf.func65 It rfl]
 have hF:=bm [.agg s.key, .string Q] 34 (by simp)
 have h256:Q.size*(8/wd)=256/wd:=by rw[hQ];rcases hw with rfl|rfl|rfl<;>decide
 refine Rn.p rfl (Rn.r (L:=[0,1]) rfl ?_)
 refine Rn.z hF 2 0 78 rfl λa hF=> ?_
 show Rn _ _ _ _ (w.alloc (.cells s.key 78))
 refine Rn.c hF 4 (.slice none 0 0) λa hF=> ?_
 refine Rn.p rfl (Rn.p rfl (Rn.r (L:=[0,1]) rfl ?_))
 refine Rn.o hF 5 (.alloc 3) (λo ho=>(gZ ho).1) λa hF=> ?_
 rw[ak]at hF
 have h5:=aC (w.alloc (.cells s.key 78)) (.cells #[.int .i64 0] 3)
 rw[ak]at h5
 have h2:=(bH (w.alloc (.cells s.key 78)) (.cells #[.int .i64 0] 3) (b:=w.heap.size) (by rw[ak];omega)).trans (aC w _)
 have hb2:Below w.heap.size w ((w.alloc (.cells s.key 78)).alloc (.cells #[.int .i64 0] 3)):=ah (an w _) (by rw[ak];omega) (an _ _)
 have hs2:((w.alloc (.cells s.key 78)).alloc (.cells #[.int .i64 0] 3)).heap.size=w.heap.size+2:=by rw[ak,ak]
 revert h5 h2 hb2 hs2
 generalize (w.alloc (.cells s.key 78)).alloc (.cells #[.int .i64 0] 3)=w2
 intro h5 h2 hb2 hs2
 refine Rn.does0 hF (.store 3 (.tmp 5) (.const (.int .i64 0))) (by kernel_rfl) (by simp) (λo ho=>(eX (w:=w2) (b:=w.heap.size+1) (k:=0) (v:= .int .i64 0) (v0:= .int .i64 0) rfl rfl (by kernel_rfl) ho (hF.get (d:=5) rfl) rfl ((am h5 0).trans rfl) (by simp[World.frozen?,h5])).1) λa hF=> ?_
 have h5':=kg (v:= .int .i64 0) h5
 have h2':=(bV w2 (a:=⟨w.heap.size+1,0,none⟩) (b:=w.heap.size) (.int .i64 0) (by show _≠w.heap.size+1;omega)).trans h2
 have hb2':Below w.heap.size w (w2.setCell ⟨w.heap.size+1,0,none⟩ (.int .i64 0)):=hb2.trans (dw w2 _ _ (by show _<=w.heap.size+1;omega))
 have hs2':(w2.setCell ⟨w.heap.size+1,0,none⟩ (.int .i64 0)).heap.size=w.heap.size+2:=by rw[←hs2];simp[World.setCell]
 revert h5' h2' hb2' hs2'
 generalize w2.setCell ⟨w.heap.size+1,0,none⟩ (.int .i64 0)=w3
 intro h5' h2' hb2' hs2'
 refine Rn.p rfl (Rn.p rfl (Rn.p rfl (Rn.r (L:=[0,1,2,3]) rfl ?_)))
 refine Rn.y hF 8 1 rfl λa hF=> ?_
 refine Rn.o hF 9 (.fieldAddr 78 (.tmp 2) 5) (λo ho=>cO 5 (by decide) ho (hF.get (d:=2) rfl)) λa hF=> ?_
 refine Rn.o hF 10 (.load 3 (.tmp 9)) (λo ho=>(ay (v:= .int .i64 wd) aQ ho (hF.get (d:=9) rfl) ((am h2' 5).trans (by rw[←hwd];rfl))).1) λa hF=> ?_
 refine Rn.calls (f:=77) (xs:=#[.tmp 8, .tmp 10]) (ats:=#[9,3]) (args:=#[.string Q, .int .i64 wd]) hF 11 (by decide) (by kernel_rfl) (by simp[hF.get (d:=8) rfl,hF.get (d:=10) rfl]) Lf.func77 (by kernel_rfl) (by kernel_rfl)
  (R:=λv w'=>v= .func (.func 89) #[] #[.pointer (some ⟨w3.heap.size,0,none⟩), .pointer (some ⟨w3.heap.size+1,0,none⟩)]/\w'=(w3.alloc (.cells #[.string Q] 9)).alloc (.cells #[.int .i64 wd] 3)) ((rx Q wd w3).mono λe w' h=>⟨_,h.1,rfl,h.2⟩) λv w4 hv a hF=> ?_
 obtain⟨rfl,hw4⟩:=hv
 rw[hs2']at hF
 have hb4:Below w3.heap.size w3 w4:=by rw[hw4];exact ah (an w3 _) (by rw[ak];omega) (an _ _)
 have hs4:w4.heap.size=w.heap.size+4:=by rw[hw4,ak,ak,hs2']
 have k2:w4.heap[w.heap.size+2]?=some (.cells #[.string Q] 9):=by
  rw[hw4,←hs2']
  exact(bH _ _ (by rw[ak];omega)).trans (aC w3 _)
 have k3:w4.heap[w.heap.size+3]?=some (.cells #[.int .i64 wd] 3):=by
  rw[hw4,show w.heap.size+3=w3.heap.size+1 from by omega]
  have:=aC (w3.alloc (.cells #[.string Q] 9)) (.cells #[.int .i64 wd] 3)
  rw[ak]at this
  exact this
 have k0:=(hb4.block _ (by omega)).trans h2'
 have k1:=(hb4.block _ (by omega)).trans h5'
 have hold4:Below w.heap.size w w4:=ah hb2' (by omega) hb4
 clear hw4 h5' h2' hb2' hb4 h5 h2 hb2 hs2
 refine Rn.p rfl (Rn.p rfl ?_)
 refine Rn.rangeAs (va Tryd.f65 a.tmps w4.heap.size .ready) (args:=#[.func (.yield (w4.heap.size+1)) #[] #[], .pointer (some ⟨w.heap.size+2,0,none⟩), .pointer (some ⟨w.heap.size+2+1,0,none⟩)]) rfl rfl Lf.func89 (by kernel_rfl) (by kernel_rfl) (hF.get (d:=11) rfl) (by simp) ?_
 have hI0:Sm 9 78 3 Q wd s.key (va Tryd.f65 a.tmps (w.heap.size+4) .ready) w (dk Q.data.toList wd 0) (cp w4 (va Tryd.f65 a.tmps w4.heap.size .ready)):=by
  have hl:=fy w4 (va Tryd.f65 a.tmps w4.heap.size .ready)
  have hd:=fz w4 (va Tryd.f65 a.tmps w4.heap.size .ready)
  rw[hs4]at hl hd⊢
  exact⟨ah hold4 (by omega) (i9 w4 _),(bv w4 _ (by omega)).trans k0,(bv w4 _ (by omega)).trans k1,(bv w4 _ (by omega)).trans k2,(bv w4 _ (by omega)).trans k3,hd,hl⟩
 rw[hs4]at hI0⊢
 have hT:aM [(2, .pt w.heap.size),(5, .pt (w.heap.size+1))] 34 [] ⟨a.tmps,[]⟩:=⟨rfl,hF.size,(hF.only (G:=[(2, .pt w.heap.size),(5, .pt (w.heap.size+1))]) ⟨rfl,rfl,trivial⟩).slot⟩
 have hcnt:Q.size*(8/wd)<=128:=by rw[hQ];rcases hw with rfl|rfl|rfl<;>decide
 have G:∀Goal,pR (ac true Tryd.prog) Goal (((base 65).atR ⟨a.tmps,{target:= .collected (w.heap.size+4),args:=#[]}::a.defers⟩ (.inRangeFunc (w.heap.size+4+1)::[.inBlock 0, .code (.seq (.region 5 (ae Tryd.f65 5) false) (.seq (.region 6 (ae Tryd.f65 6) true) .ret))]))::cs) (λc=>#[.int .i64 (cn Q.data.toList wd c)]) (Q.size*(8/wd)) (w.heap.size+4+1) (va Tryd.f65 a.tmps (w.heap.size+4) .ready)
  (λc=>Sm 9 78 3 Q wd s.key (va Tryd.f65 a.tmps (w.heap.size+4) .ready) w (dk Q.data.toList wd c)):=
  λGoal=>
  {below:=λc w w' h hb=>h.below hb
   loop:=λc w h=>h.loop
   size:=λc=>rfl
   round:=λc w' cf hc hI next=>Fj hw hwd hT (by omega) hI next}
 refine pH hw (by omega) (λc w' h=>h.str) (λc w' h=>h.wid) (G _) hI0 λw5 hI=> ?_
 show Rn _ _ ((base 65).atR ⟨a.tmps,{target:= .collected (w.heap.size+4),args:=#[]}::a.defers⟩ (.endRangeFunc (w.heap.size+4+1)::_)) cs w5
 refine Rn.rangeOver hI.loop rfl rfl ?_
 have hI6:=hI.turn (va Tryd.f65 a.tmps (w.heap.size+4) .exhausted)
 show Rn _ _ _ _ (aX w5 (w.heap.size+4+1) (va Tryd.f65 a.tmps (w.heap.size+4) .exhausted))
 have hG:aM [(1, .string Q),(2, .pt w.heap.size),(5, .pt (w.heap.size+1))] 34 [{target:= .collected (w.heap.size+4),args:=#[]}] ⟨a.tmps,{target:= .collected (w.heap.size+4),args:=#[]}::a.defers⟩:=⟨by rw[hF.defers],hF.size,(hF.only (G:=[(1, .string Q),(2, .pt w.heap.size),(5, .pt (w.heap.size+1))]) ⟨rfl,rfl,rfl,trivial⟩).slot⟩
 revert hG hI6
 generalize aX w5 (w.heap.size+4+1) (va Tryd.f65 a.tmps (w.heap.size+4) .exhausted)=w6
 generalize (Act.mk a.tmps ({target:= .collected (w.heap.size+4),args:=#[]}::a.defers))=a2
 intro hI6 hG
 have hS:=nk Q.data.toList hw (Q.size*(8/wd))
 have hSm:dk Q.data.toList wd (Q.size*(8/wd))<=32640:=by omega
 have h2s:2^sh<=256:=Nat.le_trans (Nat.pow_le_pow_right (by decide) hsh2) (by decide)
 have hmul:dk Q.data.toList wd (Q.size*(8/wd))*2^sh<=32640*256:=Nat.mul_le_mul hSm h2s
 have hcast:(dk Q.data.toList wd (Q.size*(8/wd)):Int)*2^sh=((dk Q.data.toList wd (Q.size*(8/wd))*2^sh:Nat):Int):=by rw[Int.natCast_mul,Int.natCast_pow];rfl
 refine Rn.p rfl (Rn.p rfl (Rn.r (L:=[0,1,2,3,4,5,6,7]) rfl ?_))
 refine Rn.y hG 19 1 rfl λa hG=> ?_
 refine Rn.o hG 20 (.load 3 (.tmp 5)) (λo ho=>(ay aQ ho (hG.get (d:=5) rfl) ((am hI6.five 0).trans rfl)).1) λa hG=> ?_
 refine Rn.o hG 21 (.fieldAddr 78 (.tmp 2) 7) (λo ho=>cO 7 (by decide) ho (hG.get (d:=2) rfl)) λa hG=> ?_
 refine Rn.o hG 22 (.load 3 (.tmp 21)) (λo ho=>(ay (v:= .int .i64 sh) aQ ho (hG.get (d:=21) rfl) ((am hI6.key 7).trans (by rw[←hsh];rfl))).1) λa hG=> ?_
 refine Rn.o hG 23 (.binOp .shl 3 (.tmp 20) (.tmp 22) 3) (λo ho=>ji (k:=sh) ho (hG.get (d:=20) rfl) (hG.get (d:=22) rfl) (by omega) (by rw[hcast];omega)) λa hG=> ?_
 rw[hcast]at hG
 refine Rn.calls (f:=66) (xs:=#[.tmp 23]) (ats:=#[3]) (args:=#[.int .i64 ((dk Q.data.toList wd (Q.size*(8/wd))*2^sh:Nat):Int)]) hG 24 (by decide) (by kernel_rfl) (by simp[hG.get (d:=23) rfl]) Lf.func66 (by kernel_rfl) (by kernel_rfl)
  (R:=λv w'=>v= .string ⟨(cg (dk Q.data.toList wd (Q.size*(8/wd))*2^sh) 2).toArray⟩/\Below w6.heap.size w6 w') ((lR _ (by omega) w6).mono λe w' h=>⟨_,h.1,rfl,h.2⟩) λv w7 hv a hG=> ?_
 obtain⟨rfl,hb7⟩:=hv
 have hsz:(Q++(⟨(cg (dk Q.data.toList wd (Q.size*(8/wd))*2^sh) 2).toArray⟩:ByteArray)).size=34:=by rw[ByteArray.size_append,hQ,jL]
 have hlist:(Q++(⟨(cg (dk Q.data.toList wd (Q.size*(8/wd))*2^sh) 2).toArray⟩:ByteArray)).data.toList=iO Q.data.toList wd sh:=by
  simp[iO,h256]
 refine Rn.o hG 25 (.binOp .add 9 (.tmp 19) (.tmp 24) 9) (λo ho=>cu ho (hG.get (d:=19) rfl) (hG.get (d:=24) rfl) (by rw[hQ,jL];decide)) λa hG=> ?_
 refine Rn.s hG 7 25 rfl λa hG=> ?_
 have hI7:=hI6.below hb7
 refine Rn.p rfl (Rn.p rfl ?_)
 refine I5 (n:=n) hw hwd hn (by omega) hn1 (by rw[hsz];exact hn2) hI7.key (hG.only ⟨rfl,rfl,trivial⟩) λa8 w8 v hgone hb8 hG=> ?_
 have hI8:=hI7.below hb8
 rw[hlist]at hgone
 refine Rn.ends rfl (.inr ⟨_,rfl⟩) (Rn.take (ds:=[]) hG.defers hI8.list (Rn.now ⟨⟨a8.tmps,[]⟩,_,v,rfl,rfl,hG.slot 4 _ rfl,v,rfl, ?_,hI8.old.trans (kN _ _ (by omega))⟩))
 obtain⟨gb,cap,rfl,hlt,hc⟩:=hgone
 refine⟨gb,cap,rfl,by simpa using hlt,λc hcn=> ?_⟩
 have hne:gb≠w.heap.size+4:=λe=>by
  have:=hc c hcn
  subst e
  unfold World.cell? at this
  simp only[hI8.list]at this
  cases this
 refine(World.cell?_of_block (w:=w8) (a:=⟨gb,c,none⟩) ?_).trans (hc c hcn)
 exact sN (Ne.symm hne)
section
variable{Goal:Goroutine->World->Prop}{b:Frame}{a:Act}{k:List Item}{cs:List Frame}{w:World}{F:List (Nat×Value)}{N:Nat}{ds:List Deferred}{ops:Array Oper}{m:Nat}{rest:List Nat}
theorem mI(hF:aM F N ds a)(d x:Nat){s:ByteArray}(hd:d<N)(hx:F.lookup x=some (.string s))(h:(ops[m]?).map (λo=>(o.dst,o.op,o.guard))=some (some d,gX x,none))
 (next:∀a',aM ((d, .int .i64 s.size)::F) N ds a'->Rn (ac true Tryd.prog) Goal (b.atR a' (.inRegion ops rest::k)) cs w):Rn (ac true Tryd.prog) Goal (b.atR a (.inRegion ops (m::rest)::k)) cs w:=by
 have hu:(ac true Tryd.prog).underlying 9=some .string:=by kernel_rfl
 refine Rn.op hF d (gX x) hd h (by simp[gX]) (λo ho=> ?_) next
 have hx:=hF.get hx
 simp[execOp,ho,gX,resolve,hx,invoke,builtin,Builtin.len_,run_underlying hu,goInt]
theorem iz(hF:aM F N ds a)(d x:Nat)(c:Int){i:Int}(hd:d<N)(hx:F.lookup x=some (.int .i64 i))(h:(ops[m]?).map (λo=>(o.dst,o.op,o.guard))=some (some d,fh x c,none))
 (next:∀a',aM ((d, .bool (decide (i<c)))::F) N ds a'->Rn (ac true Tryd.prog) Goal (b.atR a' (.inRegion ops rest::k)) cs w):Rn (ac true Tryd.prog) Goal (b.atR a (.inRegion ops (m::rest)::k)) cs w:=
 Rn.op hF d (fh x c) hd h (by simp[fh]) (λo ho=>(cQ ho (hF.get hx) rfl).1) next
theorem vC{q:Bool}{x:Nat}(hF:aM F N ds a)(hx:F.lookup x=some (.bool q))(hq:q=true)(next:Rn (ac true Tryd.prog) Goal (b.atR a k) cs w):Rn (ac true Tryd.prog) Goal (b.atR a (.code (.cond (.tmp x) .skip (.refuse ""))::k)) cs w:=by
 subst hq
 exact Rn.cond true (hF.get hx) (Rn.p rfl next)
theorem lU{q:Bool}{x:Nat}(hF:aM F N ds a)(hx:F.lookup x=some (.bool q))(hq:q=false)(next:Rn (ac true Tryd.prog) Goal (b.atR a k) cs w):Rn (ac true Tryd.prog) Goal (b.atR a (.code (.cond (.tmp x) (.refuse "") .skip)::k)) cs w:=by
 subst hq
 exact Rn.cond false (hF.get hx) (Rn.p rfl next)
theorem KB{s:cq}{v1:Value}(hF:aM [(0, .agg s.cells),(1,v1)] 36 [] a)(h1:1<=s.count)(h2:s.count<65537)(hwd:0<=s.width/\s.width<9)(hqq:0<=s.q/\s.q<4294967296)(hid:s.id.size<65536)
 (next:∀a',aM [(1,v1),(3, .agg s.cells),(10, .int .i64 s.count),(13, .string s.links)] 36 [] a'->Rn (ac true Tryd.prog) Goal (b.atR a' (.code (.seq (.region 1 Kz false) (.seq (.block 0 (.loop mF)) (.seq (.region 5 Ky false) .ret)))::k)) cs (w.alloc (.cells s.cells 82))):
 Rn (ac true Tryd.prog) Goal (b.atR a (.code ll::k)) cs w:=by
 obtain⟨s0,s1,s2,s3,i4,i5,n,i7,i8,s9,s10,s11⟩:=s
 refine Rn.p rfl (Rn.r (L:=[0,1,2,3,4,5,6,7,8,9,10,11,12,13,14,15,16,17,18,19,20,21,22,23,24,25,26,27,28,29,30,31]) rfl ?_)
 refine Rn.op hF 6 (.field 82 (.tmp 0) 4) (by decide) rfl (by simp) (λo ho=>KF ho (hF.get (d:=0) rfl)) λa hF=> ?_
 refine Rn.op hF 2 (.box 82 (.tmp 0)) (by decide) rfl (by simp) (v:= .pointer (some ⟨w.heap.size,0,none⟩)) (w':=w.alloc (.cells (cq.mk s0 s1 s2 s3 i4 i5 n i7 i8 s9 s10 s11).cells 82)) (λo ho=> ?_) λa hF=> ?_
 ·have h:=(lx (ac true Tryd.prog) (w:=w) (ev:=a.eval) ho).1
  rw[hF.get (d:=0) rfl]at h
  exact h
 have hat:=aC w (.cells (cq.mk s0 s1 s2 s3 i4 i5 n i7 i8 s9 s10 s11).cells 82)
 revert next hat
 generalize w.alloc (.cells (cq.mk s0 s1 s2 s3 i4 i5 n i7 i8 s9 s10 s11).cells 82)=w1
 intro next hat
 refine Rn.op hF 3 (.load 82 (.tmp 2)) (by decide) rfl (by simp) (λo ho=>Do (r:=[]) ho (hF.get (d:=2) rfl) hat) λa hF=> ?_
 refine Rn.op hF 5 (.field 82 (.tmp 3) 0) (by decide) rfl (by simp) (λo ho=>L2 ho (hF.get (d:=3) rfl)) λa hF=> ?_
 refine Rn.op hF 6 (.field 78 (.tmp 5) 0) (by decide) rfl (by simp) (λo ho=>Lh ho (hF.get (d:=5) rfl)) λa hF=> ?_
 refine mI hF 7 6 (by decide) rfl rfl λa hF=> ?_
 refine Rn.op hF 6 (.field 78 (.tmp 5) 1) (by decide) rfl (by simp) (λo ho=>Le ho (hF.get (d:=5) rfl)) λa hF=> ?_
 refine mI hF 7 6 (by decide) rfl rfl λa hF=> ?_
 refine Rn.op hF 8 (.field 78 (.tmp 5) 2) (by decide) rfl (by simp) (λo ho=>Ld ho (hF.get (d:=5) rfl)) λa hF=> ?_
 refine mI hF 9 8 (by decide) rfl rfl λa hF=> ?_
 refine Rn.op hF 6 (.field 78 (.tmp 5) 3) (by decide) rfl (by simp) (λo ho=>Lc ho (hF.get (d:=5) rfl)) λa hF=> ?_
 refine mI hF 7 6 (by decide) rfl rfl λa hF=> ?_
 refine Rn.op hF 6 (.field 78 (.tmp 5) 4) (by decide) rfl (by simp) (λo ho=>La ho (hF.get (d:=5) rfl)) λa hF=> ?_
 refine iz hF 7 6 0 (by decide) rfl rfl λa hF=> ?_
 refine Rn.op hF 11 (.field 78 (.tmp 5) 5) (by decide) rfl (by simp) (λo ho=>L9 ho (hF.get (d:=5) rfl)) λa hF=> ?_
 refine iz hF 16 11 0 (by decide) rfl rfl λa hF=> ?_
 refine Rn.op hF 10 (.field 78 (.tmp 5) 6) (by decide) rfl (by simp) (λo ho=>L8 ho (hF.get (d:=5) rfl)) λa hF=> ?_
 refine iz hF 15 10 65537 (by decide) rfl rfl λa hF=> ?_
 refine Rn.op hF 6 (.field 78 (.tmp 5) 7) (by decide) rfl (by simp) (λo ho=>L6 ho (hF.get (d:=5) rfl)) λa hF=> ?_
 refine iz hF 7 6 0 (by decide) rfl rfl λa hF=> ?_
 refine Rn.op hF 12 (.field 82 (.tmp 3) 1) (by decide) rfl (by simp) (λo ho=>L0 ho (hF.get (d:=3) rfl)) λa hF=> ?_
 refine iz hF 18 12 0 (by decide) rfl rfl λa hF=> ?_
 refine Rn.op hF 6 (.field 82 (.tmp 3) 2) (by decide) rfl (by simp) (λo ho=>KZ ho (hF.get (d:=3) rfl)) λa hF=> ?_
 refine mI hF 7 6 (by decide) rfl rfl λa hF=> ?_
 refine Rn.op hF 13 (.field 82 (.tmp 3) 3) (by decide) rfl (by simp) (λo ho=>KY ho (hF.get (d:=3) rfl)) λa hF=> ?_
 refine mI hF 7 13 (by decide) rfl rfl λa hF=> ?_
 refine Rn.op hF 6 (.field 82 (.tmp 3) 4) (by decide) rfl (by simp) (λo ho=>KF ho (hF.get (d:=3) rfl)) λa hF=> ?_
 refine mI hF 7 6 (by decide) rfl rfl λa hF=> ?_
 refine iz hF 14 10 1 (by decide) rfl rfl λa hF=> ?_
 refine iz hF 17 11 9 (by decide) rfl rfl λa hF=> ?_
 refine iz hF 19 12 4294967296 (by decide) rfl rfl λa hF=> ?_
 refine iz hF 20 9 65536 (by decide) rfl rfl λa hF=> ?_
 have h1:1<=n:=h1
 have h2:n<65537:=h2
 have hwd:0<=i5/\i5<9:=hwd
 have hqq:0<=i8/\i8<4294967296:=hqq
 have hid:s2.size<65536:=hid
 refine Rn.p rfl (Rn.p rfl ?_)
 refine lU hF (x:=14) rfl (decide_eq_false (by omega)) (Rn.p rfl ?_)
 refine vC hF (x:=15) rfl (decide_eq_true (by omega)) (Rn.p rfl ?_)
 refine lU hF (x:=16) rfl (decide_eq_false (by omega)) (Rn.p rfl ?_)
 refine vC hF (x:=17) rfl (decide_eq_true (by omega)) (Rn.p rfl ?_)
 refine lU hF (x:=18) rfl (decide_eq_false (by omega)) (Rn.p rfl ?_)
 refine vC hF (x:=19) rfl (decide_eq_true (by omega)) (Rn.p rfl ?_)
 refine vC hF (x:=20) rfl (decide_eq_true (by omega)) ?_
 exact next a (hF.only ⟨rfl,rfl,rfl,rfl,trivial⟩)
end
section
variable{Goal:Goroutine->World->Prop}{b:Frame}{k:List Item}{cs:List Frame}{KS:List Int}(hKl:KS.length=64){wE:World}(hK:wE.rangeAt 0 0 (aj KS))(h0:0<wE.heap.size){s:cq}{n bL gb glen gcap:Nat}{dig:Nat->Int}
 (hn:s.count=n) (hn2:n<65537) (hwd:0<=s.width/\s.width<9) (hqq:0<=s.q/\s.q<4294967296) (hid:s.id.size<65536) (hlk:n*32<=s.links.size) (hbL:wE.heap.size<=bL)
 (hgb:gb<wE.heap.size) (hglen:n<=glen) (hdig:∀c,c<n->(0<=dig c/\dig c<256)/\wE.cell? ⟨gb,c,none⟩=some (.int .i64 (dig c)))
include hKl hK h0 hn hn2 hwd hqq hid hlk hbL hgb hglen hdig
theorem Fq(next:∀(a:Act) (w:World),Below wE.heap.size wE w->w.heap[bL]?=some (.cells (l6 KS s dig n n) 9)->aM [(23, .slice (some ⟨bL,0,none⟩) n n)] 36 [] a->Rn (ac true Tryd.prog) Goal (b.atR a k) cs w):
 ∀(j i:Nat) (a:Act) (w:World),n- i=j->i<=n->Below wE.heap.size wE w->w.heap[bL]?=some (.cells (l6 KS s dig n i) 9)->
  aM [(1, .slice (some ⟨gb,0,none⟩) glen gcap),(3, .agg s.cells),(10, .int .i64 n),(13, .string s.links),(23, .slice (some ⟨bL,0,none⟩) n n),(24, .int .i64 i)] 36 [] a->Rn (ac true Tryd.prog) Goal (b.atR a (.code mF:: .inLoop mF:: .inBlock 0::k)) cs w:=by
 intro j
 induction j with
 |zero=>
  intro i a w hj hi hbel hlist hF
  have hin:i=n:=by omega
  subst hin
  refine Rn.p rfl (Rn.p rfl (Rn.r (L:=[0]) rfl ?_))
  refine Rn.op hF 25 (.binOp .lss 3 (.tmp 24) (.tmp 10) 3) (by decide) rfl (by simp) (λo ho=>(cQ ho (hF.get (d:=24) rfl) (hF.get (d:=10) rfl)).1) λa hF=> ?_
  refine Rn.p rfl (Rn.cond (decide ((i:Int)<i)) (hF.get (d:=25) rfl) ?_)
  rw[show(decide ((i:Int)<i))=false by simp]
  exact Rn.p rfl (next a w hbel hlist (hF.only ⟨rfl,trivial⟩))
 |succ j ih=>
  intro i a w hj hi hbel hlist hF
  have hin:i<n:=by omega
  obtain⟨hd,hcell⟩:=hdig i hin
  refine Rn.p rfl (Rn.p rfl (Rn.r (L:=[0]) rfl ?_))
  refine Rn.op hF 25 (.binOp .lss 3 (.tmp 24) (.tmp 10) 3) (by decide) rfl (by simp) (λo ho=>(cQ ho (hF.get (d:=24) rfl) (hF.get (d:=10) rfl)).1) λa hF=> ?_
  refine Rn.p rfl (Rn.cond (decide ((i:Int)<n)) (hF.get (d:=25) rfl) ?_)
  rw[show(decide ((i:Int)<n))=true by simpa using hin]
  refine Rn.p rfl (Rn.p rfl (Rn.r (L:=[0,1,2,3]) rfl ?_))
  refine Rn.op hF 26 (.indexAddr 22 (.tmp 1) (.tmp 24)) (by decide) rfl (by simp) (λo ho=>(gp (w:=w) (t:=22) (e:=3) (by kernel_rfl) (λw=>by kernel_rfl) ho (hF.get (d:=1) rfl) (hF.get (d:=24) rfl) (by omega)).1) λa hF=> ?_
  have hcell':w.cell? ((⟨gb,0,none⟩:Addr).add i)=some (.int .i64 (dig i)):=by
   rw[nb,Nat.zero_add]
   unfold World.cell? at hcell⊢
   rw[show w.heap[(⟨gb,i,none⟩:Addr).block]?=_ from hbel.block gb hgb]
   exact hcell
  refine Rn.op hF 27 (.load 3 (.tmp 26)) (by decide) rfl (by simp) (λo ho=>(ay aQ ho (hF.get (d:=26) rfl) hcell').1) λa hF=> ?_
  refine iz hF 28 27 0 (by decide) rfl rfl λa hF=> ?_
  refine iz hF 29 27 256 (by decide) rfl rfl λa hF=> ?_
  refine Rn.p rfl (Rn.p rfl ?_)
  refine lU hF (x:=28) rfl (decide_eq_false (by omega)) (Rn.p rfl ?_)
  refine vC hF (x:=29) rfl (decide_eq_true (by omega)) ?_
  refine Rn.r (L:=[0,1,2,3,4,5,6,7]) rfl ?_
  refine Rn.op hF 30 (.binOp .mul 3 (.tmp 24) (.const (.int .i64 32)) 3) (by decide) rfl (by simp) (λo ho=>(dA ho (hF.get (d:=24) rfl) rfl (by omega)).1) λa hF=> ?_
  refine Rn.op hF 31 (.binOp .add 3 (.tmp 24) (.const (.int .i64 1)) 3) (by decide) rfl (by simp) (λo ho=>(lc ho (hF.get (d:=24) rfl) rfl (by omega)).1) λa hF=> ?_
  refine Rn.op hF 32 (.binOp .mul 3 (.tmp 31) (.const (.int .i64 32)) 3) (by decide) rfl (by simp) (λo ho=>(dA ho (hF.get (d:=31) rfl) rfl (by omega)).1) λa hF=> ?_
  have g30:a.eval (.tmp 30)= .int .i64 ((i*32:Nat):Int):=(hF.get (d:=30) rfl).trans (by rw[Int.natCast_mul];rfl)
  have g32:a.eval (.tmp 32)= .int .i64 (((i+1)*32:Nat):Int):=(hF.get (d:=32) rfl).trans (by rw[Int.natCast_mul,Int.natCast_add];rfl)
  refine Rn.op hF 33 (.slice 9 (.tmp 13) (some (.tmp 30)) (some (.tmp 32)) none) (by decide) rfl (by simp) (λo ho=>(cN ho (hF.get (d:=13) rfl) g30 g32 (by omega) (by omega)).1) λa hF=> ?_
  have hfine:zg s i (dig i) (s.links.extract (i*32) ((i+1)*32)):=⟨hwd,hqq,hid,by omega,hd,by rw[ByteArray.size_extract];omega⟩
  refine Rn.calls (f:=84) (xs:=#[.tmp 3, .tmp 24, .tmp 27, .tmp 33]) (ats:=#[82,3,3,9]) (args:=#[.agg s.cells, .int .i64 i, .int .i64 (dig i), .string (s.links.extract (i*32) ((i+1)*32))]) hF 34 (by decide) rfl (by simp[hF.get (d:=3) rfl,hF.get (d:=24) rfl,hF.get (d:=27) rfl,hF.get (d:=33) rfl]) Lf.func84 (by kernel_rfl) (by kernel_rfl)
   (R:=λv w'=>v= .string (iZ KS s i (dig i) (s.links.extract (i*32) ((i+1)*32)))/\Below w.heap.size w w') ((zK KS s i (dig i) _ hfine w (Mc h0 hbel hK) hKl (Nat.lt_of_lt_of_le h0 hbel.size)).mono λe w' h=>⟨_,h.1,rfl,h.2⟩) λv w2 hv a hF=> ?_
  obtain⟨rfl,hbel2⟩:=hv
  have hlist2:=(hbel2.block bL (gA hlist).1).trans hlist
  refine Rn.op hF 35 (.indexAddr 70 (.tmp 23) (.tmp 24)) (by decide) rfl (by simp) (λo ho=>(gp (w:=w2) (t:=70) (e:=9) (by kernel_rfl) (λw=>by kernel_rfl) ho (hF.get (d:=23) rfl) (hF.get (d:=24) rfl) hin).1) λa hF=> ?_
  refine Rn.does0 hF (.store 9 (.tmp 35) (.tmp 34)) rfl (by simp) (λo ho=>(eX (w:=w2) (b:=bL) (k:=i) (v:= .string (iZ KS s i (dig i) (s.links.extract (i*32) ((i+1)*32)))) (v0:= .string ⟨#[]⟩) rfl rfl (by kernel_rfl) ho
   ((hF.get (d:=35) rfl).trans (by rw[nb,Nat.zero_add])) (hF.get (d:=34) rfl) (by rw[am hlist2];simp[l6,hin]) (by simp[World.frozen?,hlist2])).1) λa hF=> ?_
  refine Rn.mv hF 24 31 (by decide) rfl rfl λa hF=> ?_
  refine Rn.p rfl (Rn.p rfl ?_)
  refine ih (i+1) a _ (by omega) (by omega) ((ah hbel hbel.size hbel2).trans (dw _ _ _ hbL)) ?_ (hF.only ⟨rfl,rfl,rfl,rfl,rfl, ?_,trivial⟩)
  ·rw[iw hlist2,←wX (dig':=dig) λ_ _=>rfl]
   unfold uf
   simp
  ·rw[Int.natCast_add]
   rfl
end
theorem DX(KS:List Int)(hKl:KS.length=64)(s:cq)(n gb glen gcap:Nat)(dig:Nat->Int)(w:World)(hK:w.rangeAt 0 0 (aj KS))(h0:0<w.heap.size)(hn:s.count=n)(hn1:1<=n)(hn2:n<65537)(hwd:0<=s.width/\s.width<9)(hqq:0<=s.q/\s.q<4294967296)(hid:s.id.size<65536)(hlk:n*32<=s.links.size)
 (hgb:gb<w.heap.size) (hglen:n<=glen) (hdig:∀c,c<n->(0<=dig c/\dig c<256)/\w.cell? ⟨gb,c,none⟩=some (.int .i64 (dig c))):
 Calls (ac true Tryd.prog) 68 #[.agg s.cells, .slice (some ⟨gb,0,none⟩) glen gcap] w λe w'=>∃bL,e= .returned (.slice (some ⟨bL,0,none⟩) n n)/\w'.heap[bL]?=some (.cells (Array.ofFn λc:Fin n=>uf KS s dig c.val) 9)/\Below w.heap.size w w':=by
 refine bF (fn:=qC) (t:=4) py rfl λcs=> ?_
 rw[bW (c:=ll) (N:=36) [.agg s.cells, .slice (some ⟨gb,0,none⟩) glen gcap] py rfl rfl]
 have hF:=bm [.agg s.cells, .slice (some ⟨gb,0,none⟩) glen gcap] 36 (by simp)
 refine KB hF (by omega) (by omega) hwd hqq hid λa hF=> ?_
 rw[hn]at hF
 have hsz:=ak w (.cells s.cells 82)
 have hb1:=an w (.cells s.cells 82)
 refine Rn.p rfl (Rn.r (L:=[0,1,2,3]) rfl ?_)
 refine Rn.op hF 21 (.binOp .mul 3 (.tmp 10) (.const (.int .i64 32)) 3) (by decide) rfl (by simp) (λo ho=>(dA ho (hF.get (d:=10) rfl) rfl (by omega)).1) λa hF=> ?_
 have g21:a.eval (.tmp 21)= .int .i64 ((n*32:Nat):Int):=(hF.get (d:=21) rfl).trans (by rw[Int.natCast_mul];rfl)
 have hu:(ac true Tryd.prog).underlying 9=some .string:=by kernel_rfl
 refine Rn.op hF 22 (.slice 9 (.tmp 13) none (some (.tmp 21)) none) (v:= .string (s.links.extract 0 (n*32))) (w':=w.alloc (.cells s.cells 82)) (by decide) rfl (by simp) (λo ho=> ?_) λa hF=> ?_
 ·have hx:=hF.get (d:=13) rfl
  have hlk':(n:Int)*32<=(s.links.size:Int):=by omega
  have h0':(0:Int)<=(n:Int)*32:=by omega
  have ht:((n:Int)*32).toNat=n*32:=by omega
  simp[execOp,ho,hx,g21,Instr.sliceAt,Instr.slice,Instr.sliceBounds,run_underlying hu,Instr.sliceBound,asIntOf,hlk',h0',ht]
 refine Rn.op hF 23 (.makeSlice 70 (.tmp 10) (.tmp 10)) (by decide) rfl (by simp) (λo ho=>zy (by omega) (by omega) ho (hF.get (d:=10) rfl) (hF.get (d:=10) rfl)) λa hF=> ?_
 refine Rn.mvc hF 24 (.int .i64 0) (by decide) rfl λa hF=> ?_
 refine Rn.p rfl (Rn.p rfl (Rn.p rfl (Rn.p rfl ?_)))
 have hb2:=an (w.alloc (.cells s.cells 82)) (.cells (Array.replicate n (.string ⟨#[]⟩)) 9)
 have hl2:=aC (w.alloc (.cells s.cells 82)) (.cells (Array.replicate n (.string ⟨#[]⟩)) 9)
 refine Fq hKl hK h0 hn hn2 hwd hqq hid hlk (bL:=(w.alloc (.cells s.cells 82)).heap.size) (by rw[hsz];omega) hgb hglen hdig ?_ n 0 a _ rfl (Nat.zero_le _) (ah hb1 hb1.size hb2) (by rw[wW];exact hl2) (hF.only ⟨rfl,rfl,rfl,rfl,rfl,rfl,trivial⟩)
 intro a w' hbel hlist hF
 refine Rn.p rfl (Rn.r (L:=[0]) rfl ?_)
 refine Rn.mv hF 4 23 (by decide) rfl rfl λa hF=> ?_
 refine Rn.p rfl (Rn.ends rfl (.inr ⟨_,rfl⟩) (Rn.now ⟨a,_, .slice (some ⟨(w.alloc (.cells s.cells 82)).heap.size,0,none⟩) n n,rfl,hF.defers,hF.slot 4 _ rfl,_,rfl, ?_,hbel⟩))
 rw[←wY]
 exact hlist
def jI(p:ByteArray):Nat->ByteArray
 |0=>p
 |c+1=>(jI p c).extract 32 (jI p c).size
theorem qP(p:ByteArray):∀c,(jI p c).size=p.size- 32*c
 |0=>rfl
 |c+1=>by
  have:=qP p c
  simp only[jI,ByteArray.size_extract]
  omega
def dq(n:Nat):Nat->Nat
 |0=>n
 |c+1=>dq n c/2
theorem ra(n:Nat):∀c,dq n c=n/2^c
 |0=>by simp[dq]
 |c+1=>by rw[dq,ra n c,Nat.div_div_eq_div_mul,Nat.pow_succ]
theorem AU{n h c:Nat}(hn:2^h<=n)(hc:c<h):1<dq n c:=by
 rw[ra]
 refine(Nat.le_div_iff_mul_le (Nat.two_pow_pos c)).2 ?_
 have:2^(c+1)<=2^h:=Nat.pow_le_pow_right (by decide) hc
 rw[Nat.pow_succ]at this
 omega
theorem AV{n h:Nat}(hn:n<2^(h+1)):¬1<dq n h:=by
 rw[ra]
 have:n/2^h<2:=Nat.div_lt_of_lt_mul (by rw[Nat.pow_succ]at hn;exact hn)
 omega
theorem nL(n:Nat):∀c,dq n c<=n
 |0=>Nat.le_refl _
 |c+1=>by
  have:=nL n c
  simp only[dq]
  omega
def yj(f:Func):Code:= .seq (.seq (.region 2 (ae f 2) false) (.cond (.tmp 10) .skip (.exit 0))) (.seq (.block 1 (.seq (.seq (.region 4 (ae f 4) false) (.cond (.tmp 18) .ret .skip)) (.region 5 (ae f 5) false))) (.region 3 (ae f 3) false))
theorem Ij:Tryd.f86.body=some (.seq (.region 0 (ae Tryd.f86 0) false) (.seq (.region 1 (ae Tryd.f86 1) false) (.block 0 (.loop (yj Tryd.f86))))):=by kernel_rfl
section
variable{w:World}{ev:Operand->Value}{o:Oper}{x y:Operand}
theorem CQ{b:Nat}(hop:o.op= .fieldAddr 82 x 4)(hx:ev x= .pointer (some ⟨b,0,none⟩)):(execOp ev o).run (ac true Tryd.prog) w= .ok (.value (.pointer (some ⟨b,11,none⟩))) w:=by
 have e:execOp ev o=(do pure (.value (←Instr.fieldAt 82 (.pointer (some ⟨b,0,none⟩)) 4))):=by simp only[execOp,hop,hx]
 have h2:(do pure (.value (←Instr.fieldAt 82 (.pointer (some ⟨b,0,none⟩)) 4)):Sem Next).run (ac true Tryd.prog) w= .ok (.value (.pointer (some ⟨b,11,none⟩))) w:=by kernel_rfl
 rw[e,h2]
theorem ul{t:ByteArray}{n:Nat}(hop:o.op= .slice 9 x none (some y) none)(hx:ev x= .string t)(hy:ev y= .int .i64 n)(h:n<=t.size):(execOp ev o).run (ac true Tryd.prog) w= .ok (.value (.string (t.extract 0 n))) w:=by
 have hu:(ac true Tryd.prog).underlying 9=some .string:=by kernel_rfl
 simp[execOp,hop,hx,hy,Instr.sliceAt,Instr.slice,Instr.sliceBounds,run_underlying hu,Instr.sliceBound,asIntOf,h]
theorem ny{t:ByteArray}{n:Nat}(hop:o.op= .slice 9 x (some y) none none)(hx:ev x= .string t)(hy:ev y= .int .i64 n)(h:n<=t.size):(execOp ev o).run (ac true Tryd.prog) w= .ok (.value (.string (t.extract n t.size))) w:=by
 have hu:(ac true Tryd.prog).underlying 9=some .string:=by kernel_rfl
 simp[execOp,hop,hx,hy,Instr.sliceAt,Instr.slice,Instr.sliceBounds,run_underlying hu,Instr.sliceBound,asIntOf,h]
end
section
variable{Goal:Goroutine->World->Prop}{cs:List Frame}{Inv:Nat->World->Prop}{l:Nat}{r:Loop}{p:ByteArray}{n h:Nat}(hp:p.size=32*h)(hn:2^h<=n)(hn2:n<2^(h+1))(hn3:n<9223372036854775808)
 (G:pR (ac true Tryd.prog) Goal cs (λc=>#[.int .i64 (dq n c), .string ((jI p c).extract 0 32)]) h l r Inv)
include hp hn hn2 hn3 G
theorem B5{K:List Item}(next:∀a w,Inv h w->a.defers=[]->Rn (ac true Tryd.prog) Goal ((base 86).atR a K) cs w):
 ∀(j c:Nat) (a:Act) (w:World),h- c=j->c<=h->Inv c w->aM [(0, .func (.yield l) #[] #[]),(4, .string (jI p c)),(5, .int .i64 (dq n c))] 21 [] a->
  Rn (ac true Tryd.prog) Goal ((base 86).atR a (.code (yj Tryd.f86):: .inLoop (yj Tryd.f86):: .inBlock 0::K)) cs w:=by
 intro j
 induction j with
 |zero=>
  intro c a w hj hc hI hF
  have hch:c=h:=by omega
  subst hch
  refine Rn.p rfl (Rn.p rfl (Rn.r (L:=[0,1]) rfl ?_))
  refine Rn.y hF 9 5 rfl λa hF=> ?_
  refine Rn.o hF 10 (.binOp .gtr 3 (.tmp 9) (.const (.int .i64 1)) 3) (λo ho=>um ho (hF.get (d:=9) rfl) rfl) λa hF=> ?_
  refine Rn.p rfl (Rn.cond _ (hF.get (d:=10) rfl) ?_)
  rw[decide_eq_false (by have:=AV hn2;omega)]
  exact Rn.p rfl (next a w hI hF.defers)
 |succ j ih=>
  intro c a w hj hc hI hF
  have hch:c<h:=by omega
  have h2:=AU hn hch
  have hle:=nL n c
  have hsz:=qP p c
  refine Rn.p rfl (Rn.p rfl (Rn.r (L:=[0,1]) rfl ?_))
  refine Rn.y hF 9 5 rfl λa hF=> ?_
  refine Rn.o hF 10 (.binOp .gtr 3 (.tmp 9) (.const (.int .i64 1)) 3) (λo ho=>um ho (hF.get (d:=9) rfl) rfl) λa hF=> ?_
  refine Rn.p rfl (Rn.cond _ (hF.get (d:=10) rfl) ?_)
  rw[decide_eq_true (by omega)]
  refine Rn.p rfl (Rn.p rfl (Rn.p rfl (Rn.p rfl (Rn.p rfl (Rn.r (L:=[0,1,2,3,4,5]) rfl ?_)))))
  refine Rn.y hF 13 0 rfl λa hF=> ?_
  refine Rn.y hF 14 5 rfl λa hF=> ?_
  refine Rn.y hF 15 4 rfl λa hF=> ?_
  refine Rn.o hF 16 (.slice 9 (.tmp 15) none (some (.const (.int .i64 32))) none) (λo ho=>ul (n:=32) ho (hF.get (d:=15) rfl) rfl (by omega)) λa hF=> ?_
  refine Rn.given (c:=c) G hF 17 13 (xs:=#[.tmp 14, .tmp 16]) (ats:=#[3,9]) (by decide) (by kernel_rfl) rfl (by simp[hF.get (d:=14) rfl,hF.get (d:=16) rfl]) hch hI λa w hF hI=> ?_
  refine Rn.o hF 18 (.unOp .not 4 (.tmp 17)) (λo ho=>(lb ho (hF.get (d:=17) rfl)).1) λa hF=> ?_
  refine Rn.p rfl (Rn.cond false (hF.get (d:=18) rfl) (Rn.p rfl (Rn.r (L:=[0,1,2]) rfl ?_)))
  refine Rn.y hF 19 4 rfl λa hF=> ?_
  refine Rn.o hF 20 (.slice 9 (.tmp 19) (some (.const (.int .i64 32))) none none) (λo ho=>ny (n:=32) ho (hF.get (d:=19) rfl) rfl (by omega)) λa hF=> ?_
  refine Rn.s hF 4 20 rfl λa hF=> ?_
  refine Rn.p rfl (Rn.p rfl (Rn.r (L:=[0,1,2]) rfl ?_))
  refine Rn.y hF 11 5 rfl λa hF=> ?_
  refine Rn.o hF 12 (.binOp .quo 3 (.tmp 11) (.const (.int .i64 2)) 3) (λo ho=>qN ho (hF.get (d:=11) rfl) rfl (by omega) (by omega)) λa hF=> ?_
  refine Rn.s hF 5 12 rfl λa hF=> ?_
  refine Rn.p rfl (Rn.p rfl (ih (c+1) a w (by omega) (by omega) hI (hF.only ⟨rfl,rfl, ?_,trivial⟩)))
  show some _=some _
  rw[dq,Int.natCast_ediv]
  rfl
end
theorem Cd{Goal:Goroutine->World->Prop}{cf:Frame}{cs:List Frame}{Inv:Nat->World->Prop}{l:Nat}{r:Loop}{s:cq}{n h bs bn:Nat}(hp:s.path.size=32*h)(hn:2^h<=n)(hn2:n<2^(h+1))(hn3:n<9223372036854775808)
 (G:pR (ac true Tryd.prog) Goal (cf::cs) (λc=>#[.int .i64 (dq n c), .string ((jI s.path c).extract 0 32)]) h l r Inv) {w:World} (hI:Inv 0 w) (hs:w.heap[bs]?=some (.cells s.cells 82)) (hl:w.heap[bn]?=some (.cells #[.int .i64 n] 3))
 (hend:∀w,Inv h w->Rn (ac true Tryd.prog) Goal (cf.finish (.tuple #[])) cs w):
 Rn (ac true Tryd.prog) Goal (Frame.enter (ac true Tryd.prog) 86 #[.func (.yield l) #[] #[], .pointer (some ⟨bs,0,none⟩), .pointer (some ⟨bn,0,none⟩)] .normal) (cf::cs) w:=by
 rw[bW (N:=21) [.func (.yield l) #[] #[], .pointer (some ⟨bs,0,none⟩), .pointer (some ⟨bn,0,none⟩)] Lf.func86 Ij rfl]
 have hF:=bm [.func (.yield l) #[] #[], .pointer (some ⟨bs,0,none⟩), .pointer (some ⟨bn,0,none⟩)] 21 (by simp)
 refine Rn.p rfl (Rn.r (L:=[0,1,2]) rfl ?_)
 refine Rn.o hF 6 (.fieldAddr 82 (.tmp 1) 4) (λo ho=>CQ ho (hF.get (d:=1) rfl)) λa hF=> ?_
 refine Rn.o hF 7 (.load 9 (.tmp 6)) (λo ho=>(ay bC ho (hF.get (d:=6) rfl) ((am hs 11).trans rfl)).1) λa hF=> ?_
 refine Rn.s hF 4 7 rfl λa hF=> ?_
 refine Rn.p rfl (Rn.p rfl (Rn.r (L:=[0,1]) rfl ?_))
 refine Rn.o hF 8 (.load 3 (.tmp 2)) (λo ho=>(ay aQ ho (hF.get (d:=2) rfl) ((am hl 0).trans rfl)).1) λa hF=> ?_
 refine Rn.s hF 5 8 rfl λa hF=> ?_
 refine Rn.p rfl (Rn.p rfl (Rn.p rfl ?_))
 refine B5 hp hn hn2 hn3 G (λa w hI hd=> ?_) h 0 a w rfl (Nat.zero_le _) hI (hF.only ⟨rfl,rfl,rfl,trivial⟩)
 exact Rn.ends rfl (.inl rfl) (Rn.leave (.tuple #[]) rfl hd Lf.func86 (results_none rfl _ _ w) (events_results_none rfl _ _) (hend w hI))
end Go.Proofs.YtkmoglhgkcnalaaDoor.L1
namespace Go.Proofs.YtkmoglhgkcnalaaDoor
open Go Go.RowKit Go.Lib Go.Shelf
def Lf.ren156:Go.Shelf.Ren:=⟨λ|156=>67|165=>59|166=>60|169=>62|240=>75|241=>76|276=>87|277=>88|n=>n,λ|31=>70|9=>9|3=>3|4=>4|0=>0|20=>20|72=>94|76=>98|70=>92|37=>51|75=>97|127=>113|164=>128|5=>5|80=>31|n=>n,λ|n=>n⟩
theorem Lf.lays156{q:Bool}:Go.Proofs.Lays.n156 (ac q Tryd.prog) Lf.ren156:=by
 cases q<;>constructor
 all_goals first|(rw[qh];kernel_rfl)|kernel_rfl|(intro w;kernel_rfl)
theorem Lf.extra156{q:Bool}:Builder.Extra (ac q Tryd.prog) Lf.ren156:=by
 cases q<;>constructor
 all_goals first|kernel_rfl|(intro w;kernel_rfl)|decide|(constructor<;>first|kernel_rfl|(intro w;kernel_rfl)|decide)
theorem Lf.strings_Join{q:Bool}(bk o c:Nat)(xs:List ByteArray)(sep:ByteArray)(w:World)(hcells:∀(j:Nat) x,xs[j]?=some x->w.cell? ⟨bk,o+j,none⟩=some (.string x))(hbk:bk<w.heap.size)(hN:xs.length<=140737488355328)(hcap:xs.length<=c)(hlen:(Lib.join (xs.map (·.data.toList)) sep.data.toList).length<=140737488355328):
 Calls (ac q Tryd.prog) 67 #[.slice (some ⟨bk,o,none⟩) xs.length c, .string sep] w λe w'=>e= .returned (.string ⟨(Lib.join (xs.map (·.data.toList)) sep.data.toList).toArray⟩)/\Below w.heap.size w w':=Any.strings_Join Lf.lays156 Lf.extra156 bk o c xs sep w hcells hbk hN hcap hlen
end Go.Proofs.YtkmoglhgkcnalaaDoor
namespace Go.Proofs.YtkmoglhgkcnalaaDoor
open Go Go.Conc Go.RowKit
def ob(n k:Nat):ByteArray:=⟨(cg n k).toArray⟩
theorem aG(n k:Nat):(ob n k).size=k:=jL n k
def Bs(n:Nat)(cells:Array Value)(ty:TypeId)(v:Value)(w:World):Prop:=∃p,v= .slice (some ⟨p,0,none⟩) n n/\w.heap[p]?=some (.cells cells ty)
theorem Bs.mono{n:Nat}{cells:Array Value}{ty:TypeId}{v:Value}{w w':World}(h:Bs n cells ty v w)(hb:Below w.heap.size w w'):Bs n cells ty v w':=by
 obtain⟨p,h1,h2⟩:=h
 exact⟨p,h1,(hb.block p (gA h2).1).trans h2⟩
def Bx(N:Nat)(cells:Array Value)(ty:TypeId)(v:Value)(w:World):Prop:=∃p,v= .pointer (some ⟨p,0,none⟩)/\N<=p/\w.heap[p]?=some (.cells cells ty)
theorem Bx.mono{N:Nat}{cells:Array Value}{ty:TypeId}{v:Value}{w w':World}(h:Bx N cells ty v w)(hb:Below w.heap.size w w'):Bx N cells ty v w':=by
 obtain⟨p,h1,h2,h3⟩:=h
 exact⟨p,h1,h2,(hb.block p (gA h3).1).trans h3⟩
theorem B9(L:List (List UInt8)):Lib.join L []=L.flatten:=by
 cases L with
 |nil=>rfl
 |cons x r=>rw[Lib.join_cons,Lib.joinTail];simp
end Go.Proofs.YtkmoglhgkcnalaaDoor
namespace Go.Proofs.YtkmoglhgkcnalaaDoor.L1
open Go Go.Conc Go.RowKit Go.Proofs.YtkmoglhgkcnalaaDoor
section
variable{w:World}{ev:Operand->Value}{o:Oper}{x y z u v:Operand}{b:Nat}
theorem gY(j k:Nat)(hj:(j=0/\k=0)\/(j=1/\k=8)\/(j=2/\k=9))(hop:o.op= .fieldAddr 82 x j)(hx:ev x= .pointer (some ⟨b,0,none⟩)):(execOp ev o).run (ac true Tryd.prog) w= .ok (.value (.pointer (some ⟨b,k,none⟩))) w:=by
 have e:execOp ev o=(do pure (.value (←Instr.fieldAt 82 (.pointer (some ⟨b,0,none⟩)) j))):=by simp only[execOp,hop,hx]
 have h2:(do pure (.value (←Instr.fieldAt 82 (.pointer (some ⟨b,0,none⟩)) j)):Sem Next).run (ac true Tryd.prog) w= .ok (.value (.pointer (some ⟨b,k,none⟩))) w:=by
  rcases hj with⟨rfl,rfl⟩|⟨rfl,rfl⟩|⟨rfl,rfl⟩<;>kernel_rfl
 rw[e,h2]
theorem zn{a1 a2 a3 a4:ByteArray}(hop:o.op= .buildSlice 70 4 #[(0,x),(1,y),(2,z),(3,u)])(h1:ev x= .string a1)(h2:ev y= .string a2)(h3:ev z= .string a3)(h4:ev u= .string a4):
 (execOp ev o).run (ac true Tryd.prog) w= .ok (.value (.slice (some ⟨w.heap.size,0,none⟩) 4 4)) (w.alloc (.cells #[.string a1, .string a2, .string a3, .string a4] 9)):=by
 have e:execOp ev o=(do pure (.value (←Instr.buildSlice 70 4 #[(0, .string a1),(1, .string a2),(2, .string a3),(3, .string a4)]))):=by simp[execOp,hop,h1,h2,h3,h4]
 have h2:(do pure (.value (←Instr.buildSlice 70 4 #[(0, .string a1),(1, .string a2),(2, .string a3),(3, .string a4)])):Sem Next).run (ac true Tryd.prog) w= .ok (.value (.slice (some ⟨w.heap.size,0,none⟩) 4 4)) (w.alloc (.cells #[.string a1, .string a2, .string a3, .string a4] 9)):=by kernel_rfl
 rw[e,h2]
theorem zo{a1 a2 a3 a4 a5:ByteArray}(hop:o.op= .buildSlice 70 5 #[(0,x),(1,y),(2,z),(3,u),(4,v)])(h1:ev x= .string a1)(h2:ev y= .string a2)(h3:ev z= .string a3)(h4:ev u= .string a4)(h5:ev v= .string a5):
 (execOp ev o).run (ac true Tryd.prog) w= .ok (.value (.slice (some ⟨w.heap.size,0,none⟩) 5 5)) (w.alloc (.cells #[.string a1, .string a2, .string a3, .string a4, .string a5] 9)):=by
 have e:execOp ev o=(do pure (.value (←Instr.buildSlice 70 5 #[(0, .string a1),(1, .string a2),(2, .string a3),(3, .string a4),(4, .string a5)]))):=by simp[execOp,hop,h1,h2,h3,h4,h5]
 have h2:(do pure (.value (←Instr.buildSlice 70 5 #[(0, .string a1),(1, .string a2),(2, .string a3),(3, .string a4),(4, .string a5)])):Sem Next).run (ac true Tryd.prog) w= .ok (.value (.slice (some ⟨w.heap.size,0,none⟩) 5 5)) (w.alloc (.cells #[.string a1, .string a2, .string a3, .string a4, .string a5] 9)):=by kernel_rfl
 rw[e,h2]
theorem qg(KS:List Int)(ps:List ByteArray)(ws:Array Value)(w:World)(p n:Nat)(hws:ws=(ps.map Value.string).toArray)(hn:n=ps.length)(hp:w.heap[p]?=some (.cells ws 9))(hK:w.rangeAt 0 0 (aj KS))(hKl:KS.length=64)(hlen:(ps.flatMap λp=>p.data.toList).length<=576460752303423488)(hsmall:ps.length<=10):
 Calls (ac true Tryd.prog) 26 #[.slice (some ⟨p,0,none⟩) n n] w λe w'=>∃v,e= .returned v/\v= .string ⟨(fk KS (ps.flatMap λp=>p.data.toList)).toArray⟩/\Below w.heap.size w w':=by
 subst hn
 subst hws
 have hcat:de ps ps.length=ps.flatMap λp=>p.data.toList:=by simp[de]
 refine(D9 KS ps ps.length w p (gA hp).1 (λk hk=> ?_) hK hKl (by rw[hcat];exact hlen) (by omega)).mono λe w' h=>⟨_,h.1,by rw[hcat],h.2⟩
 rw[am hp]
 simp[hk]
end
theorem BO(s:cq):∀i,i<8->s.cells[i]?=s.key[i]?:=by
 intro i hi
 rcases(by omega:i=0\/i=1\/i=2\/i=3\/i=4\/i=5\/i=6\/i=7)with rfl|rfl|rfl|rfl|rfl|rfl|rfl|rfl<;>rfl
theorem qE(KS:List Int)(L:List UInt8):(⟨(fk KS L).toArray⟩:ByteArray).size=32:=by show(fk KS L).toArray.size=32;simp[fk]
def J2(s:cq)(wd sh n q N:Nat)(msg Qb:ByteArray):Nat->Value->World->Prop
 |0,v,_=>v= .pointer (some ⟨N,0,none⟩)
 |1,v,_=>v= .agg s.key
 |2,v,_=>v= .pointer (some ⟨N,0,none⟩)
 |3,v,_=>v= .pointer (some ⟨N,2,none⟩)
 |4,v,_=>v= .string (s.id)
 |5,v,_=>v= .string (ob q 4)
 |6,v,_=>v= .string (ob 33153 2)
 |7,v,_=>v= .pointer (some ⟨N,9,none⟩)
 |8,v,_=>v= .string (s.salt)
 |9,v,_=>v= .string (msg)
 |10,v,w=>Bs 5 #[.string s.id, .string (ob q 4), .string (ob 33153 2), .string s.salt, .string msg] 9 v w
 |11,v,_=>v= .string Qb
 |12,v,w=>j1 n (λc=>cn (iO Qb.data.toList wd sh) wd c) v w
 |_,v,w=>j1 n (λc=>cn (iO Qb.data.toList wd sh) wd c) v w
theorem Bl{s:cq}{wd sh n q N:Nat}{msg Qb:ByteArray}(k:Nat)(v:Value)(w w':World)(hg:J2 s wd sh n q N msg Qb k v w)(hb:Below w.heap.size w w'):J2 s wd sh n q N msg Qb k v w':=by
 match k,hg with
 |0,hg|1,hg|2,hg|3,hg|4,hg|5,hg|6,hg|7,hg|8,hg|9,hg=>exact hg
 |10,hg=>exact Bs.mono hg hb
 |11,hg=>exact hg
 |12,hg=>exact j1.mono hg hb
 |k+13,hg=>exact j1.mono hg hb
theorem Ge{KS:List Int}{s:cq}{wd sh n q N:Nat}{msg Qb:ByteArray}(hQb:Qb=⟨(fk KS ([s.id,ob q 4,ob 33153 2,s.salt,msg].flatMap λp=>p.data.toList)).toArray⟩)(hKl:KS.length=64)(hw:pZ wd)(hwd:s.width=wd)(hsh:s.shift=sh)(hsh2:sh<=8)(hn:s.count=n)(hn1:1<=n)(hn2:n<=34*(8/wd))(hlen:([s.id,ob q 4,ob 33153 2,s.salt,msg].flatMap λp=>p.data.toList).length<=576460752303423488){fr:Frame}{Goal:Goroutine->World->Prop}{cs:List Frame}{K:List Item}{a:Act}{w:World}{ds:List Deferred}(hK:w.rangeAt 0 0 (aj KS))(h0:0<w.heap.size)(hsig:w.heap[N]?=some (.cells s.cells 82))
 (hF:aM [(1, .string (msg)),(2, .pt N),(5, .string (ob q 4))] 81 ds a)
 (next:∀a w',(Below w.heap.size w w'/\∃v,j1 n (λc=>cn (iO Qb.data.toList wd sh) wd c) v w'/\aM [(6,v),(1, .string msg),(2, .pt N),(5, .string (ob q 4))] 81 ds a)->Rn (ac true Tryd.prog) Goal (fr.atR a K) cs w'):
 Rn (ac true Tryd.prog) Goal (fr.atR a (.code (.region 2 (ae Tryd.f51 2) true)::K)) cs w:=by
 refine Rn.grows (fx:=[(1, .string (msg)),(2, .pt N),(5, .string (ob q 4))]) (ds:=[17,18,19,20,21,22,23,24,25,26,27,28,29,6]) (N:=81) (df:=ds) (G:=J2 s wd sh n q N msg Qb) (by kernel_rfl) (by kernel_rfl) Bl (λm o a w' hm ho hb hfx hne=> ?_)
  (λm a w'=>m=14/\Below w.heap.size w w'/\∃v,j1 n (λc=>cn (iO Qb.data.toList wd sh) wd c) v w'/\aM [(6,v),(1, .string msg),(2, .pt N),(5, .string (ob q 4))] 81 ds a) (λa w' hG=> ?_) (λm o a w' rest hm ho hS hgo=> ?_) (λa w' hS=> ?_) hF.defers hF.size (hF.all (by simp))
 ·have hsig':=(hb.block N (gA hsig).1).trans hsig
  have hlt:m<14:=hm
  rcases(by omega:m=0\/m=1\/m=2\/m=3\/m=4\/m=5\/m=6\/m=7\/m=8\/m=9\/m=10\/m=11\/m=12\/m=13)with rfl|rfl|rfl|rfl|rfl|rfl|rfl|rfl|rfl|rfl|rfl|rfl|rfl|rfl
  ·have e2:=aP ho 17 ( .fieldAddr 82 (.tmp 2) 0)
   exact af (gY 0 0 (by decide) e2 (C5 (hfx _ (mG (i:=1) rfl)))) ⟨rfl,bR⟩
  ·have e2:=aP ho 18 ( .load 78 (.tmp 17))
   obtain⟨u,hu,rfl⟩:=nE hne 0 17
   exact af (fV (s:=s) e2 (C5 hu) hsig' (BO s)) ⟨rfl,bR⟩
  ·have e2:=aP ho 19 ( .fieldAddr 82 (.tmp 2) 0)
   exact af (gY 0 0 (by decide) e2 (C5 (hfx _ (mG (i:=1) rfl)))) ⟨rfl,bR⟩
  ·have e2:=aP ho 20 ( .fieldAddr 78 (.tmp 19) 2)
   obtain⟨u,hu,rfl⟩:=nE hne 2 19
   exact af (cO 2 (by decide) e2 (C5 hu)) ⟨rfl,bR⟩
  ·have e2:=aP ho 21 ( .load 9 (.tmp 20))
   obtain⟨u,hu,rfl⟩:=nE hne 3 20
   exact af (ay bC e2 (C5 hu) ((am hsig' 2).trans rfl)).1 ⟨rfl,bR⟩
  ·have e2:=aP ho 22 ( .move (.tmp 5))
   exact EU (.inl e2) (hfx _ (mG (i:=2) rfl)) ⟨rfl,bR⟩
  ·have e2:=aP ho 23 ( .call {callee:= .value (.func 66),args:=#[.const (.int .i64 33153)],argTypes:=#[3]})
   have hr:=az (w:=w') e2 (show(#[Operand.const (.int .i64 33153)]:Array Operand).map a.eval=#[.int .i64 ((33153:Nat):Int)]from by simp;rfl) (rI (P:=ac true Tryd.prog) Lf.func66 _)
   exact .inr ⟨_,_,hr.1,(lR 33153 (by decide) w').mono λe w'' h=>⟨_,h.1,rfl,h.2⟩⟩
  ·have e2:=aP ho 24 ( .fieldAddr 82 (.tmp 2) 2)
   exact af (gY 2 9 (by decide) e2 (C5 (hfx _ (mG (i:=1) rfl)))) ⟨rfl,bR⟩
  ·have e2:=aP ho 25 ( .load 9 (.tmp 24))
   obtain⟨u,hu,rfl⟩:=nE hne 7 24
   exact af (ay bC e2 (C5 hu) ((am hsig' 9).trans rfl)).1 ⟨rfl,bR⟩
  ·have e2:=aP ho 26 ( .move (.tmp 1))
   exact EU (.inl e2) (hfx _ (mG (i:=0) rfl)) ⟨rfl,bR⟩
  ·have e2:=aP ho 27 ( .buildSlice 70 5 #[(0, .tmp 21),(1, .tmp 22),(2, .tmp 23),(3, .tmp 25),(4, .tmp 26)])
   obtain⟨u0,hu0,rfl⟩:=nE hne 4 21
   obtain⟨u1,hu1,rfl⟩:=nE hne 5 22
   obtain⟨u2,hu2,rfl⟩:=nE hne 6 23
   obtain⟨u3,hu3,rfl⟩:=nE hne 8 25
   obtain⟨u4,hu4,rfl⟩:=nE hne 9 26
   exact af (zo e2 (C5 hu0) (C5 hu1) (C5 hu2) (C5 hu3) (C5 hu4)) ⟨⟨w'.heap.size,rfl,aC w' _⟩,an w' _⟩
  ·have e2:=aP ho 28 ( .call {callee:= .value (.func 26),args:=#[.tmp 27],argTypes:=#[70]})
   obtain⟨u,hu,p,rfl,hp⟩:=nE hne 10 27
   have hr:=az (w:=w') e2 (show(#[Operand.tmp 27]:Array Operand).map a.eval=#[.slice (some ⟨p,0,none⟩) 5 5]from by simp[C5 hu]) (rI (P:=ac true Tryd.prog) Lf.func26 _)
   exact .inr ⟨_,_,hr.1,(qg KS [s.id,ob q 4,ob 33153 2,s.salt,msg] _ w' p 5 rfl rfl hp (Mc h0 hb hK) hKl hlen (by simp)).mono λe w'' ⟨v,h1,h2,h3⟩=>⟨v,h1,h2.trans (by rw[hQb]),h3⟩⟩
  ·have e2:=aP ho 29 ( .call {callee:= .value (.func 65),args:=#[.tmp 18, .tmp 28],argTypes:=#[78,9]})
   obtain⟨u,hu,rfl⟩:=nE hne 1 18
   obtain⟨u2,hu2,rfl⟩:=nE hne 11 28
   have hr:=az (w:=w') e2 (show(#[Operand.tmp 18, .tmp 28]:Array Operand).map a.eval=#[.agg s.key, .string Qb]from by simp[C5 hu,C5 hu2]) (rI (P:=ac true Tryd.prog) Lf.func65 _)
   exact .inr ⟨_,_,hr.1,uJ s wd sh n Qb w' hw hwd hsh hsh2 hn hn1 hn2 (by rw[hQb];exact qE KS _)⟩
  ·have e2:=aP ho 6 ( .assign (.tmp 29))
   obtain⟨u,hu,hG⟩:=nE hne 12 29
   exact EU (.inr e2) hu ⟨hG,bR⟩
 ·obtain⟨u,hu,hu2⟩:=hG.come 13 6 rfl trivial
  exact⟨rfl,hG.old,u,hu2,hG.base.more hu⟩
 ·exact absurd (gA ho).1 (by obtain⟨rfl,_⟩:=hS;decide)
 ·exact next a w' hS.2
theorem BC(KS:List Int)(s:cq)(dg:Nat->Int)(n:Nat):Lib.join (((List.range n).map λc=>iZ KS s c (dg c) (s.links.extract (c*32) ((c+1)*32))).map (·.data.toList)) ([]:List UInt8)=jU KS s dg n:=by
 rw[B9,jU,List.flatMap_def,List.map_map]
 rfl
theorem tC(KS:List Int)(pre:List UInt8):∀(n j:Nat) (x:List UInt8),x.length=32->(gR KS pre n j x).length=32
 |0,_,_,h=>h
 |n+1,j,_,_=>tC KS pre n (j+1) _ (nl _ _ _ _)
theorem G4(KS:List Int)(s:cq)(c:Nat)(d:Int)(link:ByteArray)(h:link.size=32):(iZ KS s c d link).data.toList.length=32:=by
 have hl:link.data.toList.length=32:=by simpa using h
 simpa[iZ]using tC KS (iE s c) (ck s.width.toNat- d.toNat) d.toNat link.data.toList hl
theorem rr(KS:List Int)(s:cq)(dg:Nat->Int):∀n,n*32<=s.links.size->(jU KS s dg n).length=32*n
 |0,_=>by simp[jU]
 |n+1,h=>by
  have ih:=rr KS s dg n (by omega)
  have he:=G4 KS s n (dg n) (s.links.extract (n*32) ((n+1)*32)) (by rw[ByteArray.size_extract];omega)
  unfold jU at ih⊢
  rw[List.range_succ,List.flatMap_append,List.length_append,ih,List.flatMap_singleton,he]
  omega
def J1(KS:List Int)(s:cq)(n q N:Nat)(dg:Nat->Nat)(vg:Value)(En Xn:ByteArray):Nat->Value->World->Prop
 |0,v,_=>v= .pointer (some ⟨N,0,none⟩)
 |1,v,_=>v= .pointer (some ⟨N,2,none⟩)
 |2,v,_=>v= .string (s.id)
 |3,v,_=>v= .string (ob q 4)
 |4,v,_=>v= .string (ob 32896 2)
 |5,v,_=>v= .agg s.cells
 |6,v,_=>v=vg
 |7,v,w=>Bs n (Array.ofFn λc:Fin n=>uf KS s (λc=>(dg c:Nat)) c.val) 9 v w
 |8,v,_=>v= .string En
 |9,v,w=>Bs 4 #[.string s.id, .string (ob q 4), .string (ob 32896 2), .string En] 9 v w
 |10,v,_=>v= .string Xn
 |_,v,_=>v= .string Xn
theorem Bj{KS:List Int}{s:cq}{n q N:Nat}{dg:Nat->Nat}{vg:Value}{En Xn:ByteArray}(k:Nat)(v:Value)(w w':World)(hg:J1 KS s n q N dg vg En Xn k v w)(hb:Below w.heap.size w w'):J1 KS s n q N dg vg En Xn k v w':=by
 match k,hg with
 |0,hg|1,hg|2,hg|3,hg|4,hg|5,hg|6,hg=>exact hg
 |7,hg=>exact Bs.mono hg hb
 |8,hg=>exact hg
 |9,hg=>exact Bs.mono hg hb
 |10,hg|k+11,hg=>exact hg
theorem G9{KS:List Int}{s:cq}{n q N:Nat}{dg:Nat->Nat}{vg:Value}{En Xn:ByteArray}(hEn:En=⟨(jU KS s (λc=>(dg c:Nat)) n).toArray⟩)(hX:Xn=⟨(fk KS ([s.id,ob q 4,ob 32896 2,En].flatMap λp=>p.data.toList)).toArray⟩)(hKl:KS.length=64)(hwd:0<=s.width/\s.width<9)(hqq:0<=s.q/\s.q<4294967296)(hid:s.id.size<65536)(hn:s.count=n)(hn1:1<=n)(hnb:n<65537)(hlk:n*32<=s.links.size)(hd8:∀c,dg c<256)(hlen:([s.id,ob q 4,ob 32896 2,En].flatMap λp=>p.data.toList).length<=576460752303423488){fr:Frame}{Goal:Goroutine->World->Prop}{cs:List Frame}{K:List Item}{a:Act}{w:World}{ds:List Deferred}(hK:w.rangeAt 0 0 (aj KS))(h0:0<w.heap.size)(hgone:j1 n dg vg w)(hsig:w.heap[N]?=some (.cells s.cells 82))
 (hF:aM [(2, .pt N),(5, .string (ob q 4)),(6,vg)] 81 ds a)
 (next:∀a w',(Below w.heap.size w w'/\aM [(7, .string Xn),(2, .pt N),(5, .string (ob q 4)),(6,vg)] 81 ds a)->Rn (ac true Tryd.prog) Goal (fr.atR a K) cs w'):
 Rn (ac true Tryd.prog) Goal (fr.atR a (.code (.region 3 (ae Tryd.f51 3) true)::K)) cs w:=by
 refine Rn.grows (fx:=[(2, .pt N),(5, .string (ob q 4)),(6,vg)]) (ds:=[30,31,32,33,34,35,36,37,38,39,40,7]) (N:=81) (df:=ds) (G:=J1 KS s n q N dg vg En Xn) (by kernel_rfl) (by kernel_rfl) Bj (λm o a w' hm ho hb hfx hne=> ?_)
  (λm a w'=>m=12/\Below w.heap.size w w'/\aM [(7, .string Xn),(2, .pt N),(5, .string (ob q 4)),(6,vg)] 81 ds a) (λa w' hG=> ?_) (λm o a w' rest hm ho hS hgo=> ?_) (λa w' hS=> ?_) hF.defers hF.size (hF.all (by simp))
 ·have hsig':=(hb.block N (gA hsig).1).trans hsig
  have hlt:m<12:=hm
  rcases(by omega:m=0\/m=1\/m=2\/m=3\/m=4\/m=5\/m=6\/m=7\/m=8\/m=9\/m=10\/m=11)with rfl|rfl|rfl|rfl|rfl|rfl|rfl|rfl|rfl|rfl|rfl|rfl
  ·have e2:=aP ho 30 ( .fieldAddr 82 (.tmp 2) 0)
   exact af (gY 0 0 (by decide) e2 (C5 (hfx _ (mG (i:=0) rfl)))) ⟨rfl,bR⟩
  ·have e2:=aP ho 31 ( .fieldAddr 78 (.tmp 30) 2)
   obtain⟨u,hu,rfl⟩:=nE hne 0 30
   exact af (cO 2 (by decide) e2 (C5 hu)) ⟨rfl,bR⟩
  ·have e2:=aP ho 32 ( .load 9 (.tmp 31))
   obtain⟨u,hu,rfl⟩:=nE hne 1 31
   exact af (ay bC e2 (C5 hu) ((am hsig' 2).trans rfl)).1 ⟨rfl,bR⟩
  ·have e2:=aP ho 33 ( .move (.tmp 5))
   exact EU (.inl e2) (hfx _ (mG (i:=1) rfl)) ⟨rfl,bR⟩
  ·have e2:=aP ho 34 ( .call {callee:= .value (.func 66),args:=#[.const (.int .i64 32896)],argTypes:=#[3]})
   have hr:=az (w:=w') e2 (show(#[Operand.const (.int .i64 32896)]:Array Operand).map a.eval=#[.int .i64 ((32896:Nat):Int)]from by simp;rfl) (rI (P:=ac true Tryd.prog) Lf.func66 _)
   exact .inr ⟨_,_,hr.1,(lR 32896 (by decide) w').mono λe w'' h=>⟨_,h.1,rfl,h.2⟩⟩
  ·have e2:=aP ho 35 ( .load 82 (.tmp 2))
   exact af (jy (ex:=#[]) e2 (C5 (hfx _ (mG (i:=0) rfl))) (by rw[Array.append_empty];exact hsig')).1 ⟨rfl,bR⟩
  ·have e2:=aP ho 36 ( .move (.tmp 6))
   exact EU (.inl e2) (hfx _ (mG (i:=2) rfl)) ⟨rfl,bR⟩
  ·have e2:=aP ho 37 ( .call {callee:= .value (.func 68),args:=#[.tmp 35, .tmp 36],argTypes:=#[82,22]})
   obtain⟨u,hu,rfl⟩:=nE hne 5 35
   obtain⟨u2,hu2,rfl⟩:=nE hne 6 36
   obtain⟨gb,gcap,rfl,hgb,hdg⟩:=hgone.mono hb
   have hr:=az (w:=w') e2 (show(#[Operand.tmp 35, .tmp 36]:Array Operand).map a.eval=#[.agg s.cells, .slice (some ⟨gb,0,none⟩) n gcap]from by simp[C5 hu,C5 hu2]) (rI (P:=ac true Tryd.prog) py _)
   exact .inr ⟨_,_,hr.1,(DX KS hKl s n gb n gcap (λc=>(dg c:Nat)) w' (Mc h0 hb hK) (Nat.lt_of_lt_of_le h0 hb.size) hn hn1 hnb hwd hqq hid hlk hgb (Nat.le_refl _) (λc hc=>⟨⟨by omega,by have:=hd8 c;omega⟩,hdg c hc⟩)).mono λe w'' ⟨bL,h1,h2,h3⟩=>⟨_,h1,⟨bL,rfl,h2⟩,h3⟩⟩
  ·have e2:=aP ho 38 ( .call {callee:= .value (.func 67),args:=#[.tmp 37, .const (.string ⟨#[]⟩)],argTypes:=#[70,9]})
   obtain⟨u,hu,p,rfl,hp⟩:=nE hne 7 37
   have hr:=az (w:=w') e2 (show(#[Operand.tmp 37, .const (.string ⟨#[]⟩)]:Array Operand).map a.eval=#[.slice (some ⟨p,0,none⟩) n n, .string ⟨#[]⟩]from by simp[C5 hu];rfl) (rI (P:=ac true Tryd.prog) Lf.func67 _)
   refine .inr ⟨_,_,hr.1, ?_⟩
   have hj:=BC KS s (λc=>(dg c:Nat)) n
   have hjl:=rr KS s (λc=>(dg c:Nat)) n hlk
   have hxl:((List.range n).map λc=>iZ KS s c ((dg c:Nat):Int) (s.links.extract (c*32) ((c+1)*32))).length=n:=by simp
   have hJ:=Lf.strings_Join (q:=true) p 0 n ((List.range n).map λc=>iZ KS s c ((dg c:Nat):Int) (s.links.extract (c*32) ((c+1)*32))) ⟨#[]⟩ w' (λj y hx=>by
    have hj:j<n:=by have:=(List.getElem?_eq_some_iff.1 hx).1;rw[hxl]at this;exact this
    rw[Nat.zero_add,am hp]
    simp[hj]at hx⊢
    rw[←hx]
    rfl) (gA hp).1 (by rw[hxl];omega) (by rw[hxl];exact Nat.le_refl _) (by rw[hj];omega)
   rw[hxl,hj]at hJ
   exact hJ.mono λe w'' h=>⟨_,h.1,congrArg Value.string hEn.symm,h.2⟩
  ·have e2:=aP ho 39 ( .buildSlice 70 4 #[(0, .tmp 32),(1, .tmp 33),(2, .tmp 34),(3, .tmp 38)])
   obtain⟨u0,hu0,rfl⟩:=nE hne 2 32
   obtain⟨u1,hu1,rfl⟩:=nE hne 3 33
   obtain⟨u2,hu2,rfl⟩:=nE hne 4 34
   obtain⟨u3,hu3,rfl⟩:=nE hne 8 38
   exact af (zn e2 (C5 hu0) (C5 hu1) (C5 hu2) (C5 hu3)) ⟨⟨w'.heap.size,rfl,aC w' _⟩,an w' _⟩
  ·have e2:=aP ho 40 ( .call {callee:= .value (.func 26),args:=#[.tmp 39],argTypes:=#[70]})
   obtain⟨u,hu,p,rfl,hp⟩:=nE hne 9 39
   have hr:=az (w:=w') e2 (show(#[Operand.tmp 39]:Array Operand).map a.eval=#[.slice (some ⟨p,0,none⟩) 4 4]from by simp[C5 hu]) (rI (P:=ac true Tryd.prog) Lf.func26 _)
   exact .inr ⟨_,_,hr.1,(qg KS [s.id,ob q 4,ob 32896 2,En] _ w' p 4 rfl rfl hp (Mc h0 hb hK) hKl hlen (by simp)).mono λe w'' ⟨v,h1,h2,h3⟩=>⟨v,h1,h2.trans (by rw[hX]),h3⟩⟩
  ·have e2:=aP ho 7 ( .assign (.tmp 40))
   obtain⟨u,hu,hG⟩:=nE hne 10 40
   exact EU (.inr e2) hu ⟨hG,bR⟩
 ·obtain⟨u,hu,hu2⟩:=hG.come 11 7 rfl trivial
  obtain rfl:=hu2
  exact⟨rfl,hG.old,hG.base.more hu⟩
 ·exact absurd (gA ho).1 (by obtain⟨rfl,_⟩:=hS;decide)
 ·exact next a w' hS.2
end Go.Proofs.YtkmoglhgkcnalaaDoor.L1
