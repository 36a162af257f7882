/- A part of what the last text of the claim imports: texts laid together, and made small, by a program. -/
import Derived.Test.YtkmoglhgkcnalaaDoorOwn12
set_option maxHeartbeats 16000000
set_option maxRecDepth 100000
namespace Go.Proofs.YtkmoglhgkcnalaaDoor.L1
open Go Go.Conc Go.RowKit Go.Proofs.YtkmoglhgkcnalaaDoor
def J0(N h q H2:Nat):Nat->Value->World->Prop
 |0,v,_=>v= .pointer (some ⟨N,0,none⟩)
 |1,v,_=>v= .pointer (some ⟨N,4,none⟩)
 |2,v,_=>v= .int .i64 h
 |3,v,_=>v= .int .i64 (H2:Int)
 |4,v,_=>v= .pointer (some ⟨N,8,none⟩)
 |5,v,_=>v= .int .i64 q
 |6,v,_=>v= .int .i64 ((H2+q:Nat):Int)
 |_,v,_=>v= .int .i64 ((H2+q:Nat):Int)
theorem Bi{N h q H2:Nat}(k:Nat)(v:Value)(w w':World)(hg:J0 N h q H2 k v w)(_:Below w.heap.size w w'):J0 N h q H2 k v w':=by
 match k,hg with
 |0,hg|1,hg|2,hg|3,hg|4,hg|5,hg|6,hg|k+7,hg=>exact hg
theorem G8{s:cq}{N h q H2:Nat}{v7:Value}(hH2:H2=2^h)(hh:s.height=h)(hh8:h<=8)(h2h:H2<=256)(hq:s.q=q)(hq2:q<4294967296){fr:Frame}{Goal:Goroutine->World->Prop}{cs:List Frame}{K:List Item}{a:Act}{w:World}{ds:List Deferred}(hsig:w.heap[N]?=some (.cells s.cells 82))
 (hF:aM [(2, .pt N),(7,v7)] 81 ds a)
 (next:∀a w',(Below w.heap.size w w'/\aM [(8, .int .i64 ((H2+q:Nat):Int)),(2, .pt N),(7,v7)] 81 ds a)->Rn (ac true Tryd.prog) Goal (fr.atR a K) cs w'):
 Rn (ac true Tryd.prog) Goal (fr.atR a (.code (.region 4 (ae Tryd.f51 4) true)::K)) cs w:=by
 refine Rn.grows (fx:=[(2, .pt N),(7,v7)]) (ds:=[41,42,43,44,45,46,47,8]) (N:=81) (df:=ds) (G:=J0 N h q H2) (by kernel_rfl) (by kernel_rfl) Bi (λm o a w' hm ho hb hfx hne=> ?_)
  (λm a w'=>m=8/\Below w.heap.size w w'/\aM [(8, .int .i64 ((H2+q:Nat):Int)),(2, .pt N),(7,v7)] 81 ds a) (λa w' hG=> ?_) (λm o a w' rest hm ho hS hgo=> ?_) (λa w' hS=> ?_) hF.defers hF.size (hF.all (by simp))
 ·have hsig':=(hb.block N (gA hsig).1).trans hsig
  have hlt:m<8:=hm
  rcases(by omega:m=0\/m=1\/m=2\/m=3\/m=4\/m=5\/m=6\/m=7)with rfl|rfl|rfl|rfl|rfl|rfl|rfl|rfl
  ·have e2:=aP ho 41 ( .fieldAddr 82 (.tmp 2) 0)
   exact af (gY 0 0 (by decide) e2 (C5 (hfx _ (mG (i:=0) rfl)))) ⟨rfl,bR⟩
  ·have e2:=aP ho 42 ( .fieldAddr 78 (.tmp 41) 4)
   obtain⟨u,hu,rfl⟩:=nE hne 0 41
   exact af (cO 4 (by decide) e2 (C5 hu)) ⟨rfl,bR⟩
  ·have e2:=aP ho 43 ( .load 3 (.tmp 42))
   obtain⟨u,hu,rfl⟩:=nE hne 1 42
   exact af (ay (v:= .int .i64 h) aQ e2 (C5 hu) ((am hsig' 4).trans (by rw[←hh];rfl))).1 ⟨rfl,bR⟩
  ·have e2:=aP ho 44 ( .binOp .shl 3 (.const (.int .i64 1)) (.tmp 43) 3)
   obtain⟨u,hu,rfl⟩:=nE hne 2 43
   have hp:(1:Int)*2^h=(H2:Int):=by rw[Int.one_mul,hH2,Int.natCast_pow];rfl
   refine af (ji (m:=1) (k:=h) e2 rfl (C5 hu) (by omega) (by rw[hp];omega)) ⟨?_,bR⟩
   rw[hp]
   rfl
  ·have e2:=aP ho 45 ( .fieldAddr 82 (.tmp 2) 1)
   exact af (gY 1 8 (by decide) e2 (C5 (hfx _ (mG (i:=0) rfl)))) ⟨rfl,bR⟩
  ·have e2:=aP ho 46 ( .load 3 (.tmp 45))
   obtain⟨u,hu,rfl⟩:=nE hne 4 45
   exact af (ay (v:= .int .i64 q) aQ e2 (C5 hu) ((am hsig' 8).trans (by rw[←hq];rfl))).1 ⟨rfl,bR⟩
  ·have e2:=aP ho 47 ( .binOp .add 3 (.tmp 44) (.tmp 46) 3)
   obtain⟨u,hu,rfl⟩:=nE hne 3 44
   obtain⟨u2,hu2,rfl⟩:=nE hne 5 46
   refine af (da e2 (C5 hu) (C5 hu2) (by omega)) ⟨?_,bR⟩
   rw[←Int.natCast_add]
   rfl
  ·have e2:=aP ho 8 ( .assign (.tmp 47))
   obtain⟨u,hu,hG⟩:=nE hne 6 47
   exact EU (.inr e2) hu ⟨hG,bR⟩
 ·obtain⟨u,hu,hu2⟩:=hG.come 7 8 rfl trivial
  obtain rfl:=hu2
  exact⟨rfl,hG.old,hG.base.more hu⟩
 ·exact absurd (gA ho).1 (by obtain⟨rfl,_⟩:=hS;decide)
 ·exact next a w' hS.2
def IZ(s:cq)(N lf M:Nat)(en Xn:ByteArray):Nat->Value->World->Prop
 |0,v,_=>v= .pointer (some ⟨N,0,none⟩)
 |1,v,_=>v= .pointer (some ⟨N,2,none⟩)
 |2,v,_=>v= .string (s.id)
 |3,v,_=>v= .int .i64 (lf:Int)
 |4,v,_=>v= .string (ob lf 4)
 |5,v,_=>v= .string (ob 33410 2)
 |6,v,_=>v= .string (en)
 |7,v,w=>Bs 4 #[.string s.id, .string (ob lf 4), .string (ob 33410 2), .string en] 9 v w
 |8,v,_=>v= .string Xn
 |_,v,w=>Bx M #[.string ⟨#[]⟩] 9 v w
theorem Bh{s:cq}{N lf M:Nat}{en Xn:ByteArray}(k:Nat)(v:Value)(w w':World)(hg:IZ s N lf M en Xn k v w)(hb:Below w.heap.size w w'):IZ s N lf M en Xn k v w':=by
 match k,hg with
 |0,hg|1,hg|2,hg|3,hg|4,hg|5,hg|6,hg=>exact hg
 |7,hg=>exact Bs.mono hg hb
 |8,hg=>exact hg
 |k+9,hg=>exact Bx.mono hg hb
theorem G7{KS:List Int}{s:cq}{N lf M:Nat}{en Xn:ByteArray}(hX:Xn=⟨(fk KS ([s.id,ob lf 4,ob 33410 2,en].flatMap λp=>p.data.toList)).toArray⟩)(hKl:KS.length=64)(hlf:lf<9223372036854775808)(hlen:([s.id,ob lf 4,ob 33410 2,en].flatMap λp=>p.data.toList).length<=576460752303423488){fr:Frame}{Goal:Goroutine->World->Prop}{cs:List Frame}{K:List Item}{a:Act}{w:World}{ds:List Deferred}(hK:w.rangeAt 0 0 (aj KS))(h0:0<w.heap.size)(hsig:w.heap[N]?=some (.cells s.cells 82))
 (hM:M=w.heap.size)
 (hF:aM [(2, .pt N),(7, .string (en)),(8, .int .i64 (lf:Int))] 81 ds a)
 (next:∀a w',(∃b9 w1,M<=b9/\Below w.heap.size w w1/\w1.heap[b9]?=some (.cells #[.string ⟨#[]⟩] 9)/\w'=w1.setCell ⟨b9,0,none⟩ (.string Xn)/\aM [(9, .pt b9),(56, .string Xn),(2, .pt N),(7, .string en),(8, .int .i64 (lf:Int))] 81 ds a)->Rn (ac true Tryd.prog) Goal (fr.atR a K) cs w'):
 Rn (ac true Tryd.prog) Goal (fr.atR a (.code (.region 5 (ae Tryd.f51 5) true)::K)) cs w:=by
 refine Rn.grows (fx:=[(2, .pt N),(7, .string (en)),(8, .int .i64 (lf:Int))]) (ds:=[48,49,50,51,52,53,54,55,56,9]) (N:=81) (df:=ds) (G:=IZ s N lf M en Xn) (by kernel_rfl) (by kernel_rfl) Bh (λm o a w' hm ho hb hfx hne=> ?_)
  (λm a w'=>(m=10/\∃b9,M<=b9/\Below w.heap.size w w'/\w'.heap[b9]?=some (.cells #[.string ⟨#[]⟩] 9)/\aM [(9, .pt b9),(56, .string Xn),(2, .pt N),(7, .string en),(8, .int .i64 (lf:Int))] 81 ds a)\/(m=11/\∃b9 w1,M<=b9/\Below w.heap.size w w1/\w1.heap[b9]?=some (.cells #[.string ⟨#[]⟩] 9)/\w'=w1.setCell ⟨b9,0,none⟩ (.string Xn)/\aM [(9, .pt b9),(56, .string Xn),(2, .pt N),(7, .string en),(8, .int .i64 (lf:Int))] 81 ds a)) (λa w' hG=> ?_) (λm o a w' rest hm ho hS hgo=> ?_) (λa w' hS=> ?_) hF.defers hF.size (hF.all (by simp))
 ·have hsig':=(hb.block N (gA hsig).1).trans hsig
  have hlt:m<10:=hm
  rcases(by omega:m=0\/m=1\/m=2\/m=3\/m=4\/m=5\/m=6\/m=7\/m=8\/m=9)with rfl|rfl|rfl|rfl|rfl|rfl|rfl|rfl|rfl|rfl
  ·have e2:=aP ho 48 ( .fieldAddr 82 (.tmp 2) 0)
   exact af (gY 0 0 (by decide) e2 (C5 (hfx _ (mG (i:=0) rfl)))) ⟨rfl,bR⟩
  ·have e2:=aP ho 49 ( .fieldAddr 78 (.tmp 48) 2)
   obtain⟨u,hu,rfl⟩:=nE hne 0 48
   exact af (cO 2 (by decide) e2 (C5 hu)) ⟨rfl,bR⟩
  ·have e2:=aP ho 50 ( .load 9 (.tmp 49))
   obtain⟨u,hu,rfl⟩:=nE hne 1 49
   exact af (ay bC e2 (C5 hu) ((am hsig' 2).trans rfl)).1 ⟨rfl,bR⟩
  ·have e2:=aP ho 51 ( .move (.tmp 8))
   exact EU (.inl e2) (hfx _ (mG (i:=2) rfl)) ⟨rfl,bR⟩
  ·have e2:=aP ho 52 ( .call {callee:= .value (.func 64),args:=#[.tmp 51],argTypes:=#[3]})
   obtain⟨u,hu,rfl⟩:=nE hne 3 51
   have hr:=az (w:=w') e2 (show(#[Operand.tmp 51]:Array Operand).map a.eval=#[.int .i64 ((lf:Nat):Int)]from by simp[C5 hu]) (rI (P:=ac true Tryd.prog) Lf.func64 _)
   exact .inr ⟨_,_,hr.1,(qc (lf) (by omega) w').mono λe w'' h=>⟨_,h.1,rfl,h.2⟩⟩
  ·have e2:=aP ho 53 ( .call {callee:= .value (.func 66),args:=#[.const (.int .i64 33410)],argTypes:=#[3]})
   have hr:=az (w:=w') e2 (show(#[Operand.const (.int .i64 33410)]:Array Operand).map a.eval=#[.int .i64 ((33410:Nat):Int)]from by simp;rfl) (rI (P:=ac true Tryd.prog) Lf.func66 _)
   exact .inr ⟨_,_,hr.1,(lR 33410 (by decide) w').mono λe w'' h=>⟨_,h.1,rfl,h.2⟩⟩
  ·have e2:=aP ho 54 ( .move (.tmp 7))
   exact EU (.inl e2) (hfx _ (mG (i:=1) rfl)) ⟨rfl,bR⟩
  ·have e2:=aP ho 55 ( .buildSlice 70 4 #[(0, .tmp 50),(1, .tmp 52),(2, .tmp 53),(3, .tmp 54)])
   obtain⟨u0,hu0,rfl⟩:=nE hne 2 50
   obtain⟨u1,hu1,rfl⟩:=nE hne 4 52
   obtain⟨u2,hu2,rfl⟩:=nE hne 5 53
   obtain⟨u3,hu3,rfl⟩:=nE hne 6 54
   exact af (zn e2 (C5 hu0) (C5 hu1) (C5 hu2) (C5 hu3)) ⟨⟨w'.heap.size,rfl,aC w' _⟩,an w' _⟩
  ·have e2:=aP ho 56 ( .call {callee:= .value (.func 26),args:=#[.tmp 55],argTypes:=#[70]})
   obtain⟨u,hu,p,rfl,hp⟩:=nE hne 7 55
   have hr:=az (w:=w') e2 (show(#[Operand.tmp 55]:Array Operand).map a.eval=#[.slice (some ⟨p,0,none⟩) 4 4]from by simp[C5 hu]) (rI (P:=ac true Tryd.prog) Lf.func26 _)
   exact .inr ⟨_,_,hr.1,(qg KS [s.id,ob lf 4,ob 33410 2,en] _ w' p 4 rfl rfl hp (Mc h0 hb hK) hKl hlen (by simp)).mono λe w'' ⟨v,h1,h2,h3⟩=>⟨v,h1,h2.trans (by rw[hX]),h3⟩⟩
  ·have e2:=aP ho 9 ( .alloc 9)
   exact af (ta e2).1 ⟨⟨w'.heap.size,rfl,by have:=hb.size;omega,aC w' _⟩,an w' _⟩
 ·obtain⟨u,hu,b9,rfl,h1,h2⟩:=hG.come 9 9 rfl trivial
  obtain⟨u2,hu2,rfl⟩:=hG.come 8 56 rfl trivial
  exact .inl ⟨rfl,b9,h1,hG.old,h2,(hG.base.more hu2).more hu⟩
 ·rcases hS with⟨rfl,b9,h1,h2,h3,hF⟩|⟨rfl,_⟩
  ·refine Rn.does0 hF (.store 9 (.tmp 9) (.tmp 56)) (by kernel_rfl) (by simp) (λo ho=>(eX (w:=w') (b:=b9) (k:=0) (v:= .string Xn) (v0:= .string ⟨#[]⟩) rfl rfl (by kernel_rfl) ho (hF.get (d:=9) rfl) (hF.get (d:=56) rfl) ((am h3 0).trans rfl) (by simp[World.frozen?,h3])).1) λa hF=>hgo a _ (.inr ⟨rfl,b9,w',h1,h2,h3,rfl,hF⟩)
  ·exact absurd (gA ho).1 (by decide)
 ·rcases hS with⟨h,_⟩|⟨_,h⟩
  ·exact absurd h (by decide)
  ·exact next a w' h
def IY(vb:Value)(x:ByteArray):Nat->Value->World->Prop
 |0,v,_=>v=vb
 |1,v,_=>v= .string (x)
 |2,v,_=>v=vb
 |_,v,_=>v= .string (x)
theorem Bg{vb:Value}{x:ByteArray}(k:Nat)(v:Value)(w w':World)(hg:IY vb x k v w)(_:Below w.heap.size w w'):IY vb x k v w':=by
 match k,hg with
 |0,hg|1,hg|2,hg|k+3,hg=>exact hg
theorem LH{N b9:Nat}{vn vb:Value}{x:ByteArray}{fr:Frame}{Goal:Goroutine->World->Prop}{cs:List Frame}{K:List Item}{a:Act}{w:World}{ds:List Deferred}(hnine:w.heap[b9]?=some (.cells #[.string x] 9))
 (hF:aM [(2, .pt N),(9, .pt b9),(10,vn),(11,vb)] 81 ds a)
 (next:∀a w',(Below w.heap.size w w'/\aM [(12,vb),(13, .string x),(2, .pt N),(9, .pt b9),(10,vn),(11,vb)] 81 ds a)->Rn (ac true Tryd.prog) Goal (fr.atR a K) cs w'):
 Rn (ac true Tryd.prog) Goal (fr.atR a (.code (.region 11 (ae Tryd.f51 11) true)::K)) cs w:=by
 refine Rn.grows (fx:=[(2, .pt N),(9, .pt b9),(10,vn),(11,vb)]) (ds:=[67,68,12,13]) (N:=81) (df:=ds) (G:=IY vb x) (by kernel_rfl) (by kernel_rfl) Bg (λm o a w' hm ho hb hfx hne=> ?_)
  (λm a w'=>m=4/\Below w.heap.size w w'/\aM [(12,vb),(13, .string x),(2, .pt N),(9, .pt b9),(10,vn),(11,vb)] 81 ds a) (λa w' hG=> ?_) (λm o a w' rest hm ho hS hgo=> ?_) (λa w' hS=> ?_) hF.defers hF.size (hF.all (by simp))
 ·have hlt:m<4:=hm
  rcases(by omega:m=0\/m=1\/m=2\/m=3)with rfl|rfl|rfl|rfl
  ·have e2:=aP ho 67 ( .move (.tmp 11))
   exact EU (.inl e2) (hfx _ (mG (i:=3) rfl)) ⟨rfl,bR⟩
  ·have e2:=aP ho 68 ( .load 9 (.tmp 9))
   exact af (ay bC e2 (C5 (hfx _ (mG (i:=1) rfl))) ((am ((hb.block b9 (gA hnine).1).trans hnine) 0).trans rfl)).1 ⟨rfl,bR⟩
  ·have e2:=aP ho 12 ( .assign (.tmp 67))
   obtain⟨u,hu,hG⟩:=nE hne 0 67
   exact EU (.inr e2) hu ⟨hG,bR⟩
  ·have e2:=aP ho 13 ( .assign (.tmp 68))
   obtain⟨u,hu,hG⟩:=nE hne 1 68
   exact EU (.inr e2) hu ⟨hG,bR⟩
 ·obtain⟨u,hu,hu2⟩:=hG.come 2 12 rfl trivial
  obtain⟨u3,hu3,hu4⟩:=hG.come 3 13 rfl trivial
  obtain rfl:=hu2
  obtain rfl:=hu4
  exact⟨rfl,hG.old,(hG.base.more hu3).more hu⟩
 ·exact absurd (gA ho).1 (by obtain⟨rfl,_⟩:=hS;decide)
 ·exact next a w' hS.2
def IX(s:cq)(N nn:Nat)(lt rt Xn:ByteArray):Nat->Value->World->Prop
 |0,v,_=>v= .pointer (some ⟨N,0,none⟩)
 |1,v,_=>v= .pointer (some ⟨N,2,none⟩)
 |2,v,_=>v= .string (s.id)
 |3,v,_=>v= .int .i64 (nn:Int)
 |4,v,_=>v= .int .i64 ((nn/2:Nat):Int)
 |5,v,_=>v= .string (ob (nn/2) 4)
 |6,v,_=>v= .string (ob 33667 2)
 |7,v,_=>v= .string (lt)
 |8,v,_=>v= .string (rt)
 |9,v,w=>Bs 5 #[.string s.id, .string (ob (nn/2) 4), .string (ob 33667 2), .string lt, .string rt] 9 v w
 |_,v,_=>v= .string Xn
theorem Bf{s:cq}{N nn:Nat}{lt rt Xn:ByteArray}(k:Nat)(v:Value)(w w':World)(hg:IX s N nn lt rt Xn k v w)(hb:Below w.heap.size w w'):IX s N nn lt rt Xn k v w':=by
 match k,hg with
 |0,hg|1,hg|2,hg|3,hg|4,hg|5,hg|6,hg|7,hg|8,hg=>exact hg
 |9,hg=>exact Bs.mono hg hb
 |k+10,hg=>exact hg
theorem G5{KS:List Int}{s:cq}{N nn b9:Nat}{x lt rt Xn:ByteArray}(hX:Xn=⟨(fk KS ([s.id,ob (nn/2) 4,ob 33667 2,lt,rt].flatMap λp=>p.data.toList)).toArray⟩)(hKl:KS.length=64)(hnn:nn<9223372036854775808)(hlen:([s.id,ob (nn/2) 4,ob 33667 2,lt,rt].flatMap λp=>p.data.toList).length<=576460752303423488){fr:Frame}{Goal:Goroutine->World->Prop}{cs:List Frame}{K:List Item}{a:Act}{w:World}{ds:List Deferred}(hK:w.rangeAt 0 0 (aj KS))(h0:0<w.heap.size)(hsig:w.heap[N]?=some (.cells s.cells 82))
 (hnine:w.heap[b9]?=some (.cells #[.string x] 9))
 (hF:aM [(2, .pt N),(9, .pt b9),(10, .int .i64 (nn:Int)),(12, .string (lt)),(13, .string (rt))] 81 ds a)
 (next:∀a w',(∃w1,Below w.heap.size w w1/\w'=w1.setCell ⟨b9,0,none⟩ (.string Xn))->Rn (ac true Tryd.prog) Goal (fr.atR a K) cs w'):
 Rn (ac true Tryd.prog) Goal (fr.atR a (.code (.region 12 (ae Tryd.f51 12) true)::K)) cs w:=by
 refine Rn.grows (fx:=[(2, .pt N),(9, .pt b9),(10, .int .i64 (nn:Int)),(12, .string (lt)),(13, .string (rt))]) (ds:=[69,70,71,72,73,74,75,76,77,78,79]) (N:=81) (df:=ds) (G:=IX s N nn lt rt Xn) (by kernel_rfl) (by kernel_rfl) Bf (λm o a w' hm ho hb hfx hne=> ?_)
  (λm a w'=>(m=11/\Below w.heap.size w w'/\aM [(79, .string Xn),(2, .pt N),(9, .pt b9),(10, .int .i64 (nn:Int)),(12, .string lt),(13, .string rt)] 81 ds a)\/(m=12/\∃w1,Below w.heap.size w w1/\w'=w1.setCell ⟨b9,0,none⟩ (.string Xn))) (λa w' hG=> ?_) (λm o a w' rest hm ho hS hgo=> ?_) (λa w' hS=> ?_) hF.defers hF.size (hF.all (by simp))
 ·have hsig':=(hb.block N (gA hsig).1).trans hsig
  have hlt:m<11:=hm
  rcases(by omega:m=0\/m=1\/m=2\/m=3\/m=4\/m=5\/m=6\/m=7\/m=8\/m=9\/m=10)with rfl|rfl|rfl|rfl|rfl|rfl|rfl|rfl|rfl|rfl|rfl
  ·have e2:=aP ho 69 ( .fieldAddr 82 (.tmp 2) 0)
   exact af (gY 0 0 (by decide) e2 (C5 (hfx _ (mG (i:=0) rfl)))) ⟨rfl,bR⟩
  ·have e2:=aP ho 70 ( .fieldAddr 78 (.tmp 69) 2)
   obtain⟨u,hu,rfl⟩:=nE hne 0 69
   exact af (cO 2 (by decide) e2 (C5 hu)) ⟨rfl,bR⟩
  ·have e2:=aP ho 71 ( .load 9 (.tmp 70))
   obtain⟨u,hu,rfl⟩:=nE hne 1 70
   exact af (ay bC e2 (C5 hu) ((am hsig' 2).trans rfl)).1 ⟨rfl,bR⟩
  ·have e2:=aP ho 72 ( .move (.tmp 10))
   exact EU (.inl e2) (hfx _ (mG (i:=2) rfl)) ⟨rfl,bR⟩
  ·have e2:=aP ho 73 ( .binOp .quo 3 (.tmp 72) (.const (.int .i64 2)) 3)
   obtain⟨u,hu,rfl⟩:=nE hne 3 72
   refine af (qN e2 (C5 hu) rfl (by omega) (by omega)) ⟨?_,bR⟩
   show _=_
   rw[Int.natCast_ediv]
   rfl
  ·have e2:=aP ho 74 ( .call {callee:= .value (.func 64),args:=#[.tmp 73],argTypes:=#[3]})
   obtain⟨u,hu,rfl⟩:=nE hne 4 73
   have hr:=az (w:=w') e2 (show(#[Operand.tmp 73]:Array Operand).map a.eval=#[.int .i64 ((nn/2:Nat):Int)]from by simp[C5 hu]) (rI (P:=ac true Tryd.prog) Lf.func64 _)
   exact .inr ⟨_,_,hr.1,(qc (nn/2) (by omega) w').mono λe w'' h=>⟨_,h.1,rfl,h.2⟩⟩
  ·have e2:=aP ho 75 ( .call {callee:= .value (.func 66),args:=#[.const (.int .i64 33667)],argTypes:=#[3]})
   have hr:=az (w:=w') e2 (show(#[Operand.const (.int .i64 33667)]:Array Operand).map a.eval=#[.int .i64 ((33667:Nat):Int)]from by simp;rfl) (rI (P:=ac true Tryd.prog) Lf.func66 _)
   exact .inr ⟨_,_,hr.1,(lR 33667 (by decide) w').mono λe w'' h=>⟨_,h.1,rfl,h.2⟩⟩
  ·have e2:=aP ho 76 ( .move (.tmp 12))
   exact EU (.inl e2) (hfx _ (mG (i:=3) rfl)) ⟨rfl,bR⟩
  ·have e2:=aP ho 77 ( .move (.tmp 13))
   exact EU (.inl e2) (hfx _ (mG (i:=4) rfl)) ⟨rfl,bR⟩
  ·have e2:=aP ho 78 ( .buildSlice 70 5 #[(0, .tmp 71),(1, .tmp 74),(2, .tmp 75),(3, .tmp 76),(4, .tmp 77)])
   obtain⟨u0,hu0,rfl⟩:=nE hne 2 71
   obtain⟨u1,hu1,rfl⟩:=nE hne 5 74
   obtain⟨u2,hu2,rfl⟩:=nE hne 6 75
   obtain⟨u3,hu3,rfl⟩:=nE hne 7 76
   obtain⟨u4,hu4,rfl⟩:=nE hne 8 77
   exact af (zo e2 (C5 hu0) (C5 hu1) (C5 hu2) (C5 hu3) (C5 hu4)) ⟨⟨w'.heap.size,rfl,aC w' _⟩,an w' _⟩
  ·have e2:=aP ho 79 ( .call {callee:= .value (.func 26),args:=#[.tmp 78],argTypes:=#[70]})
   obtain⟨u,hu,p,rfl,hp⟩:=nE hne 9 78
   have hr:=az (w:=w') e2 (show(#[Operand.tmp 78]:Array Operand).map a.eval=#[.slice (some ⟨p,0,none⟩) 5 5]from by simp[C5 hu]) (rI (P:=ac true Tryd.prog) Lf.func26 _)
   exact .inr ⟨_,_,hr.1,(qg KS [s.id,ob (nn/2) 4,ob 33667 2,lt,rt] _ w' p 5 rfl rfl hp (Mc h0 hb hK) hKl hlen (by simp)).mono λe w'' ⟨v,h1,h2,h3⟩=>⟨v,h1,h2.trans (by rw[hX]),h3⟩⟩
 ·obtain⟨u2,hu2,rfl⟩:=hG.come 10 79 rfl trivial
  exact .inl ⟨rfl,hG.old,hG.base.more hu2⟩
 ·rcases hS with⟨rfl,h2,hF⟩|⟨rfl,_⟩
  ·have h3:=(h2.block b9 (gA hnine).1).trans hnine
   refine Rn.does0 hF (.store 9 (.tmp 9) (.tmp 79)) (by kernel_rfl) (by simp) (λo ho=>(eX (w:=w') (b:=b9) (k:=0) (v:= .string Xn) (v0:= .string x) rfl rfl (by kernel_rfl) ho (hF.get (d:=9) rfl) (hF.get (d:=79) rfl) ((am h3 0).trans rfl) (by simp[World.frozen?,h3])).1) λa hF=>hgo a _ (.inr ⟨rfl,w',h2,rfl⟩)
  ·exact absurd (gA ho).1 (by decide)
 ·rcases hS with⟨h,_⟩|⟨_,h⟩
  ·exact absurd h (by decide)
  ·exact next a w' h
end Go.Proofs.YtkmoglhgkcnalaaDoor.L1
namespace Go.Proofs.YtkmoglhgkcnalaaDoor
open Go Go.Conc Go.RowKit
def nY(KS:List Int)(ps:List ByteArray):ByteArray:=⟨(fk KS (ps.flatMap λp=>p.data.toList)).toArray⟩
def qB(KS:List Int)(s:cq)(q:Nat)(msg:ByteArray):ByteArray:=nY KS [s.id,ob q 4,ob 33153 2,s.salt,msg]
def Jk(KS:List Int)(s:cq)(wd sh q:Nat)(msg:ByteArray)(c:Nat):Nat:=cn (iO (qB KS s q msg).data.toList wd sh) wd c
def Kq(KS:List Int)(s:cq)(wd sh n q:Nat)(msg:ByteArray):ByteArray:=⟨(jU KS s (λc=>(Jk KS s wd sh q msg c:Nat)) n).toArray⟩
def Ko(KS:List Int)(s:cq)(wd sh n q:Nat)(msg:ByteArray):ByteArray:=nY KS [s.id,ob q 4,ob 32896 2,Kq KS s wd sh n q msg]
def Jm(KS:List Int)(s:cq)(wd sh n q lf:Nat)(msg:ByteArray):ByteArray:=nY KS [s.id,ob lf 4,ob 33410 2,Ko KS s wd sh n q msg]
def EK(KS:List Int)(id:ByteArray)(nn:Nat)(p x:ByteArray):ByteArray:=nY KS [id,ob (nn/2) 4,ob 33667 2,if nn%2=1 then p else x,if nn%2=1 then x else p]
theorem iv(KS:List Int)(ps:List ByteArray):(nY KS ps).size=32:=by show(fk KS _).toArray.size=32;simp[fk]
theorem JL(a b c d e:ByteArray):([a,b,c,d,e].flatMap λp=>p.data.toList).length=a.size+b.size+c.size+d.size+e.size:=by
 simp[List.flatMap_cons]
 omega
theorem JM(a b c d:ByteArray):([a,b,c,d].flatMap λp=>p.data.toList).length=a.size+b.size+c.size+d.size:=by
 simp[List.flatMap_cons]
 omega
structure Cm (ts tg:TypeId) (s:cq) (N b9 l ld:Nat) (r:Loop) (w0:World) (x:ByteArray) (w:World):Prop where
 old:Below w0.heap.size w0 w
 sig:w.heap[N]?=some (.cells s.cells tg)
 nine:w.heap[b9]?=some (.cells #[.string x] ts)
 list:w.heap[ld]?=some (.deferred (some []))
 loop:w.heap[l]?=some (.loop r)
section
variable{ts tg:TypeId}{s:cq}{N b9 l ld:Nat}{r:Loop}{w0 w w':World}{x:ByteArray}
theorem Cm.below(h:Cm ts tg s N b9 l ld r w0 x w)(hb:Below w.heap.size w w'):Cm ts tg s N b9 l ld r w0 x w':=by
 have g:∀{b:Nat} {o:Obj},w.heap[b]?=some o->w'.heap[b]?=some o:=λ{b o} ho=>(hb.block b (gA ho).1).trans ho
 exact⟨ah h.old h.old.size hb,g h.sig,g h.nine,g h.list,g h.loop⟩
theorem Cm.turn(h:Cm ts tg s N b9 l ld r w0 x w)(hl:w0.heap.size<=l)(r':Loop):Cm ts tg s N b9 l ld r' w0 x (aX w l r'):=by
 have n1:N≠l:=λe=>by have:=h.sig;rw[e,h.loop]at this;cases this
 have n2:b9≠l:=λe=>by have:=h.nine;rw[e,h.loop]at this;cases this
 have n3:ld≠l:=λe=>by have:=h.list;rw[e,h.loop]at this;cases this
 exact⟨h.old.trans (eG w _ _ hl),(aW w _ n1).trans h.sig,(aW w _ n2).trans h.nine,(aW w _ n3).trans h.list,ii h.loop⟩
theorem Cm.put(h:Cm ts tg s N b9 l ld r w0 x w)(ht:ts≠tg)(hb:w0.heap.size<=b9)(y:ByteArray):Cm ts tg s N b9 l ld r w0 y (w.setCell ⟨b9,0,none⟩ (.string y)):=by
 have n1:N≠b9:=λe=>by have:=h.sig;rw[e,h.nine]at this;injection this with this;injection this with _ this;exact ht this
 have n2:l≠b9:=λe=>by have:=h.nine;rw[←e,h.loop]at this;cases this
 have n3:ld≠b9:=λe=>by have:=h.nine;rw[←e,h.list]at this;cases this
 exact⟨h.old.trans (dw w _ _ hb),(bV w _ n1).trans h.sig,kg h.nine,(bV w _ n3).trans h.list,(bV w _ n2).trans h.loop⟩
end
end Go.Proofs.YtkmoglhgkcnalaaDoor
namespace Go.Proofs.YtkmoglhgkcnalaaDoor.L1
open Go Go.Conc Go.RowKit Go.Proofs.YtkmoglhgkcnalaaDoor
def qZ(KS:List Int)(id path:ByteArray)(lf:Nat)(x:ByteArray):Nat->ByteArray
 |0=>x
 |c+1=>EK KS id (dq lf c) ((jI path c).extract 0 32) (qZ KS id path lf x c)
theorem y6(KS:List Int)(id path:ByteArray)(lf:Nat)(x:ByteArray)(hx:x.size=32):∀c,(qZ KS id path lf x c).size=32
 |0=>hx
 |_+1=>iv _ _
def uO(f:Func):Code:= .block 1 (.seq (.region 9 (ae f 9) false) (.seq (.seq (.region 10 (ae f 10) false) (.cond (.tmp 66) (.region 11 (ae f 11) true) .skip)) (.region 12 (ae f 12) true)))
def yK(f:Func)(T:Array Value)(ld:Nat)(st:LoopState):Loop:={state:=st,pending:=none,fn:=51,tmps:=T,params:=#[60,61],assign:= .seq (.region 7 (ae f 7) false) (.region 8 (ae f 8) false),body:=uO f,defers:=ld}
section
variable{w:World}{ev:Operand->Value}{o:Oper}{x y:Operand}{u:TypeId}{m n:Int}
theorem CN(hop:o.op= .binOp .rem 3 x y u)(hx:ev x= .int .i64 m)(hy:ev y= .int .i64 2)(h0:0<=m):(execOp ev o).run (ac true Tryd.prog) w= .ok (.value (.int .i64 (m%2))) w:=by
 have e2:m.tmod 2=m%2:=Int.tmod_eq_emod_of_nonneg h0
 simp[execOp,hop,hx,hy,go_sem,e2]
theorem mJ(hop:o.op= .binOp .eql 3 x y u)(hx:ev x= .int .i64 m)(hy:ev y= .int .i64 n):(execOp ev o).run (ac true Tryd.prog) w= .ok (.value (.bool (m==n))) w:=by
 simp[execOp,hop,hx,hy,go_sem]
end
section
variable{Goal:Goroutine->World->Prop}{cs:List Frame}{T:Array Value}{w0:World}{s:cq}{KS:List Int}{N b9 l ld nn:Nat}{p x:ByteArray}
theorem Fo(hKl:KS.length=64)(hK:w0.rangeAt 0 0 (aj KS))(h0:0<w0.heap.size)(hid:s.id.size<65536)(hnn:nn<9223372036854775808)(hp:p.size<=32)(hx:x.size=32)(hb9:w0.heap.size<=b9)(hl:w0.heap.size<=l)
 (hT:aM [(2, .pt N),(9, .pt b9)] 81 [] ⟨T,[]⟩) {cf:Frame} {w:World}
 (hI:Cm 9 82 s N b9 l ld (yK Tryd.f51 T ld .ready) w0 x w)
 (next:∀w',Cm 9 82 s N b9 l ld (yK Tryd.f51 T ld .ready) w0 (EK KS s.id nn p x) w'->Rn (ac true Tryd.prog) Goal (cf.finish (.bool true)) cs w'):
 Rn (ac true Tryd.prog) Goal (Frame.round l 51 (((#[60,61]:Array Tmp).zip #[.int .i64 nn, .string p]).foldl (λtmps (t,a)=>tmps.setIfInBounds t a) T) (.seq (.region 7 (ae Tryd.f51 7) false) (.region 8 (ae Tryd.f51 8) false)) (uO Tryd.f51) .normal) (cf::cs) w:=by
 have hF:=(hT.put (d:=60) (by decide) (.int .i64 nn)).put (d:=61) (by decide) (.string p)
 have ez:((#[60,61]:Array Tmp).zip #[.int .i64 nn, .string p]).foldl (λ(tmps:Array Value) (x:Tmp×Value)=>match x with|(t,a)=>tmps.setIfInBounds t a) T=(T.setIfInBounds 60 (.int .i64 nn)).setIfInBounds 61 (.string p):=by simp
 rw[ez]
 show Rn _ Goal ((rb 51 l).atR (Act.put (Act.put ⟨T,[]⟩ (some 60) (.int .i64 nn)) (some 61) (.string p)) [.code (.seq (.region 7 (ae Tryd.f51 7) false) (.region 8 (ae Tryd.f51 8) false)), .beginRound, .code (uO Tryd.f51)]) (cf::cs) w
 revert hF
 generalize Act.put (Act.put ⟨T,[]⟩ (some 60) (.int .i64 nn)) (some 61) (.string p)=a
 intro hF
 refine Rn.p rfl (Rn.r (L:=[0]) rfl (Rn.s hF 10 60 rfl λa hF=> ?_))
 refine Rn.p rfl (Rn.r (L:=[0]) rfl (Rn.s hF 11 61 rfl λa hF=> ?_))
 refine Rn.p rfl (Rn.rounds (r:=yK Tryd.f51 T ld .ready) rfl hI.loop rfl ?_)
 have hI1:=hI.turn hl (yK Tryd.f51 T ld .busy)
 show Rn _ Goal _ _ (aX w l (yK Tryd.f51 T ld .busy))
 revert hI1
 generalize aX w l (yK Tryd.f51 T ld .busy)=w1
 intro hI1
 refine Rn.p rfl (Rn.p rfl (Rn.r (L:=[0,1,2,3]) rfl ?_))
 refine Rn.o hF 62 (.load 9 (.tmp 9)) (λo ho=>(ay bC ho (hF.get (d:=9) rfl) ((am hI1.nine 0).trans rfl)).1) λa hF=> ?_
 refine Rn.y hF 63 11 rfl λa hF=> ?_
 refine Rn.s hF 12 62 rfl λa hF=> ?_
 refine Rn.s hF 13 63 rfl λa hF=> ?_
 refine Rn.p rfl (Rn.p rfl (Rn.p rfl (Rn.r (L:=[0,1,2]) rfl ?_)))
 refine Rn.y hF 64 10 rfl λa hF=> ?_
 refine Rn.o hF 65 (.binOp .rem 3 (.tmp 64) (.const (.int .i64 2)) 3) (λo ho=>CN ho (hF.get (d:=64) rfl) rfl (by omega)) λa hF=> ?_
 refine Rn.o hF 66 (.binOp .eql 3 (.tmp 65) (.const (.int .i64 1)) 3) (λo ho=>mJ ho (hF.get (d:=65) rfl) rfl) λa hF=> ?_
 have done:∀(lt rt:ByteArray) (a:Act) (w2:World),EK KS s.id nn p x=nY KS [s.id,ob (nn/2) 4,ob 33667 2,lt,rt]->lt.size<=32->rt.size<=32->Cm 9 82 s N b9 l ld (yK Tryd.f51 T ld .busy) w0 x w2->
  aM [(2, .pt N),(9, .pt b9),(10, .int .i64 (nn:Int)),(12, .string lt),(13, .string rt)] 81 [] a->
  Rn (ac true Tryd.prog) Goal ((rb 51 l).atR a [.code (.region 12 (ae Tryd.f51 12) true), .inBlock 1]) (cf::cs) w2:=by
  intro lt rt a w2 hup hlt hrt hI2 hF
  refine G5 (x:=x) (Xn:=EK KS s.id nn p x) hup hKl hnn (by rw[JL,aG,aG];omega) (Mc h0 hI2.old hK) (Nat.lt_of_lt_of_le h0 hI2.old.size) hI2.sig hI2.nine hF λa w3 hw3=> ?_
  obtain⟨w4,hb4,rfl⟩:=hw3
  have hI3:=(hI2.below hb4).put (by decide) hb9 (EK KS s.id nn p x)
  exact Rn.p rfl (Rn.through rfl rfl hI3.loop (next _ (hI3.turn hl _)))
 refine Rn.p rfl (Rn.cond _ (hF.get (d:=66) rfl) ?_)
 by_cases hodd:nn%2=1
 ·rw[show(((nn:Int)%2)==1)=true from by rw[beq_iff_eq];omega]
  refine LH (x:=x) (vb:= .string p) (vn:= .int .i64 nn) (N:=N) hI1.nine (hF.only ⟨rfl,rfl,rfl,rfl,trivial⟩) λa w2 ⟨hb2,hF⟩=> ?_
  exact done p x a w2 (by simp[EK,hodd]) hp (by omega) (hI1.below hb2) (hF.only ⟨rfl,rfl,rfl,rfl,rfl,trivial⟩)
 ·rw[show(((nn:Int)%2)==1)=false from by rw[beq_eq_false_iff_ne];omega]
  refine Rn.p rfl ?_
  exact done x p a w1 (by simp[EK,hodd]) (by omega) hp hI1 (hF.only ⟨rfl,rfl,rfl,rfl,rfl,trivial⟩)
end
theorem Ir:Tryd.f69.body=some (.seq (.region 0 (ae Tryd.f69 0) false) (.seq (.region 1 (ae Tryd.f69 1) false) .ret)):=by kernel_rfl
theorem ET(s:cq)(lf:Nat)(w:World):
 Calls (ac true Tryd.prog) 69 #[.agg s.cells, .int .i64 lf] w λe w'=>e= .returned (.func (.func 86) #[] #[.pointer (some ⟨w.heap.size,0,none⟩), .pointer (some ⟨w.heap.size+1,0,none⟩)])/\w'=(w.alloc (.cells s.cells 82)).alloc (.cells #[.int .i64 lf] 3):=by
 refine bF (t:=4) Lf.func69 rfl λcs=> ?_
 rw[bW (N:=6) [.agg s.cells, .int .i64 lf] Lf.func69 Ir rfl]
 have hF:=bm [.agg s.cells, .int .i64 lf] 6 (by simp)
 refine Rn.p rfl (Rn.r (L:=[0,1,2]) rfl ?_)
 refine Rn.z hF 2 0 82 rfl λa hF=> ?_
 show Rn _ _ _ _ (w.alloc (.cells s.cells 82))
 refine Rn.z hF 3 1 3 rfl λa hF=> ?_
 rw[ak]at hF
 show Rn _ _ _ _ ((w.alloc (.cells s.cells 82)).alloc (.cells #[.int .i64 lf] 3))
 refine Rn.c hF 4 .nilFunc λa hF=> ?_
 refine Rn.p rfl (Rn.p rfl (Rn.r (L:=[0,1]) rfl ?_))
 refine Rn.o hF 5 (.makeFunc (.func 86) #[] #[.tmp 2, .tmp 3]) (v:= .func (.func 86) #[] #[.pointer (some ⟨w.heap.size,0,none⟩), .pointer (some ⟨w.heap.size+1,0,none⟩)]) (w':=(w.alloc (.cells s.cells 82)).alloc (.cells #[.int .i64 lf] 3)) (λo ho=> ?_) λa hF=> ?_
 ·have h:=(j5 (ac true Tryd.prog) (w:=(w.alloc (.cells s.cells 82)).alloc (.cells #[.int .i64 lf] 3)) (ev:=a.eval) ho).1
  rw[h]
  simp[hF.get (d:=2) rfl,hF.get (d:=3) rfl]
 refine Rn.s hF 4 5 rfl λa hF=> ?_
 exact Rn.p rfl (Rn.ends rfl (.inr ⟨_,rfl⟩) (Rn.now ⟨a,_,_,rfl,hF.defers,hF.slot 4 _ rfl,rfl,rfl⟩))
theorem BR:Tryd.f51.body=some (.seq (.region 0 (ae Tryd.f51 0) false) (.seq (.region 1 (ae Tryd.f51 1) false) (.seq (.region 2 (ae Tryd.f51 2) true) (.seq (.region 3 (ae Tryd.f51 3) true)
 (.seq (.region 4 (ae Tryd.f51 4) true) (.seq (.region 5 (ae Tryd.f51 5) true) (.seq (.seq (.region 6 (ae Tryd.f51 6) false) (.block 0 (.rangeFunc (.tmp 59) #[60,61] (.seq (.region 7 (ae Tryd.f51 7) false) (.region 8 (ae Tryd.f51 8) false)) (uO Tryd.f51))))
 (.seq (.region 13 (ae Tryd.f51 13) false) .ret)))))))):=by kernel_rfl
structure K4 (s:cq) (h wd sh n q:Nat):Prop where
 wid:pZ wd
 width:s.width=wd
 shift:s.shift=sh
 shift8:sh<=8
 count:s.count=n
 one:1<=n
 most:n<=34*(8/wd)
 height:s.height=h
 low:h<=5
 qq:s.q=q
 leaf:q<2^h
 id:s.id.size<=1000
 salt:s.salt.size<=1000
 links:n*32<=s.links.size
 path:s.path.size=32*h
def vB(KS:List Int)(s:cq)(h wd sh n q:Nat)(msg:ByteArray):ByteArray:=qZ KS s.id s.path (2^h+q) (Jm KS s wd sh n q (2^h+q) msg) h
theorem wN(KS:List Int)(hKl:KS.length=64)(s:cq)(h wd sh n q:Nat)(f:K4 s h wd sh n q)(msg:ByteArray)(hmsg:msg.size<=140737488355328)(w:World)(hK:w.rangeAt 0 0 (aj KS))(h0:0<w.heap.size):
 Calls (ac true Tryd.prog) 51 #[.agg s.cells, .string msg] w λe w'=>e= .returned (.string (vB KS s h wd sh n q msg))/\Below w.heap.size w w':=by
 have hw8:wd<=8:=by rcases f.wid with h|h|h<;>omega
 have hper:8/wd<=4:=by rcases f.wid with h|h|h<;>subst h<;>decide
 have hn136:n<=136:=Nat.le_trans f.most (Nat.le_trans (Nat.mul_le_mul_left 34 hper) (by decide))
 have h32:2^h<=32:=Nat.le_trans (Nat.pow_le_pow_right (by decide) f.low) (by decide)
 have hq:=f.leaf
 have hid:=f.id
 have hsalt:=f.salt
 have hdg:∀c,Jk KS s wd sh q msg c<256:=λc=>by
  have:=nS (iO (qB KS s q msg).data.toList wd sh) wd c
  have:=mw f.wid
  unfold Jk
  omega
 have hen:(Kq KS s wd sh n q msg).size<=5000:=by
  have:=rr KS s (λc=>(Jk KS s wd sh q msg c:Nat)) n f.links
  show(jU KS s (λc=>(Jk KS s wd sh q msg c:Nat)) n).toArray.size<=5000
  simp only[List.size_toArray]
  omega
 refine bF (t:=4) Lf.func51 rfl λcs=> ?_
 rw[bW (N:=81) [.agg s.cells, .string msg] Lf.func51 BR rfl]
 have hF:=bm [.agg s.cells, .string msg] 81 (by simp)
 refine Rn.p rfl (Rn.r (L:=[0,1]) rfl ?_)
 refine Rn.z hF 2 0 82 rfl λa hF=> ?_
 show Rn _ _ _ _ (w.alloc (.cells s.cells 82))
 have hb1:=an w (.cells s.cells 82)
 have hs1:=aC w (.cells s.cells 82)
 revert hb1 hs1
 generalize w.alloc (.cells s.cells 82)=w1
 intro hb1 hs1
 refine Rn.c hF 4 (.string ⟨#[]⟩) λa hF=> ?_
 refine Rn.p rfl (Rn.p rfl (Rn.r (L:=[0,1,2,3]) rfl ?_))
 refine Rn.o hF 14 (.fieldAddr 82 (.tmp 2) 1) (λo ho=>gY 1 8 (by decide) ho (hF.get (d:=2) rfl)) λa hF=> ?_
 refine Rn.o hF 15 (.load 3 (.tmp 14)) (λo ho=>(ay (v:= .int .i64 q) aQ ho (hF.get (d:=14) rfl) ((am hs1 8).trans (by rw[←f.qq];rfl))).1) λa hF=> ?_
 refine Rn.calls (f:=64) (xs:=#[.tmp 15]) (ats:=#[3]) (args:=#[.int .i64 q]) hF 16 (by decide) (by kernel_rfl) (by simp[hF.get (d:=15) rfl]) Lf.func64 (by kernel_rfl) (by kernel_rfl)
  (R:=λv w'=>v= .string (ob q 4)/\Below w1.heap.size w1 w') ((qc q (by omega) w1).mono λe w' h=>⟨_,h.1,rfl,h.2⟩) λv w2 hv a hF=> ?_
 obtain⟨rfl,hb2⟩:=hv
 refine Rn.s hF 5 16 rfl λa hF=> ?_
 refine Rn.p rfl (Rn.p rfl ?_)
 have hB2:Below w.heap.size w w2:=ah hb1 hb1.size hb2
 have hs2:=(hb2.block _ (gA hs1).1).trans hs1
 clear hb1 hs1 hb2
 have hF:aM [(1, .string msg),(2, .pt w.heap.size),(5, .string (ob q 4))] 81 [] a:=hF.only ⟨rfl,rfl,rfl,trivial⟩
 refine Ge (Qb:=qB KS s q msg) (wd:=wd) (sh:=sh) (n:=n) rfl hKl f.wid f.width f.shift f.shift8 f.count f.one f.most (by rw[JL,aG,aG];omega) (Mc h0 hB2 hK) (Nat.lt_of_lt_of_le h0 hB2.size) hs2 hF λa w3 ⟨hb3,vg,hgone,hF⟩=> ?_
 have hB3:Below w.heap.size w w3:=ah hB2 hB2.size hb3
 have hs3:=(hb3.block _ (gA hs2).1).trans hs2
 clear hb3 hs2
 refine Rn.p rfl ?_
 refine G9 (dg:=Jk KS s wd sh q msg) (En:=Kq KS s wd sh n q msg) (Xn:=Ko KS s wd sh n q msg) rfl rfl hKl ⟨by have:=f.width;omega,by have:=f.width;omega⟩ ⟨by have:=f.qq;omega,by have:=f.qq;omega⟩ (by omega) f.count f.one (by omega) f.links hdg (by rw[JM,aG,aG];omega) (Mc h0 hB3 hK) (Nat.lt_of_lt_of_le h0 hB3.size) hgone hs3 (hF.only ⟨rfl,rfl,rfl,trivial⟩) λa w4 ⟨hb4,hF⟩=> ?_
 have hB4:Below w.heap.size w w4:=ah hB3 hB3.size hb4
 have hs4:=(hb4.block _ (gA hs3).1).trans hs3
 clear hb4 hs3 hgone
 refine Rn.p rfl ?_
 refine G8 (h:=h) (q:=q) (H2:=2^h) rfl f.height (by have:=f.low;omega) (by omega) f.qq (by omega) hs4 (hF.only ⟨rfl,rfl,trivial⟩) λa w5 ⟨hb5,hF⟩=> ?_
 have hB5:Below w.heap.size w w5:=ah hB4 hB4.size hb5
 have hs5:=(hb5.block _ (gA hs4).1).trans hs4
 clear hb5 hs4
 refine Rn.p rfl ?_
 refine G7 (lf:=2^h+q) (en:=Ko KS s wd sh n q msg) (Xn:=Jm KS s wd sh n q (2^h+q) msg) (M:=w5.heap.size) rfl hKl (by omega) (by rw[JM,aG,aG,Ko,iv];omega) (Mc h0 hB5 hK) (Nat.lt_of_lt_of_le h0 hB5.size) hs5 rfl (hF.only ⟨rfl,rfl,rfl,trivial⟩) λa w6 ⟨b9,w5',hb9,hb5,hn5,hw6,hF⟩=> ?_
 have hB5':Below w.heap.size w w5':=ah hB5 hB5.size hb5
 have hsz5:=hB5.size
 have hlt5:=(gA hs5).1
 have hs6:w6.heap[w.heap.size]?=some (.cells s.cells 82):=by
  rw[hw6,bV _ _ (by show _≠b9;omega)]
  exact(hb5.block _ hlt5).trans hs5
 have hn6:w6.heap[b9]?=some (.cells #[.string (Jm KS s wd sh n q (2^h+q) msg)] 9):=by rw[hw6];exact kg hn5
 have hB6:Below w.heap.size w w6:=by rw[hw6];exact hB5'.trans (dw _ _ _ (by show _<=b9;omega))
 clear hw6 hb5 hn5 hB5' hs5
 refine Rn.p rfl (Rn.p rfl (Rn.r (L:=[0,1,2]) rfl ?_))
 refine Rn.o hF 57 (.load 82 (.tmp 2)) (λo ho=>(jy (ex:=#[]) ho (hF.get (d:=2) rfl) (by rw[Array.append_empty];exact hs6)).1) λa hF=> ?_
 refine Rn.y hF 58 8 rfl λa hF=> ?_
 refine Rn.calls (f:=69) (xs:=#[.tmp 57, .tmp 58]) (ats:=#[82,3]) (args:=#[.agg s.cells, .int .i64 ((2^h+q:Nat):Int)]) hF 59 (by decide) (by kernel_rfl) (by simp only[List.map_toArray,List.map_cons,List.map_nil,hF.get (d:=57) rfl,hF.get (d:=58) rfl]) Lf.func69 (by kernel_rfl) (by kernel_rfl)
  (R:=λv w'=>v= .func (.func 86) #[] #[.pointer (some ⟨w6.heap.size,0,none⟩), .pointer (some ⟨w6.heap.size+1,0,none⟩)]/\w'=(w6.alloc (.cells s.cells 82)).alloc (.cells #[.int .i64 ((2^h+q:Nat):Int)] 3)) ((ET s (2^h+q) w6).mono λe w' h=>⟨_,h.1,rfl,h.2⟩) λv w7 hv a hF=> ?_
 obtain⟨rfl,hw7⟩:=hv
 have hb7:Below w6.heap.size w6 w7:=by rw[hw7];exact ah (an w6 _) (by rw[ak];omega) (an _ _)
 have k0:w7.heap[w6.heap.size]?=some (.cells s.cells 82):=by
  rw[hw7]
  exact(bH _ _ (by rw[ak];omega)).trans (aC w6 _)
 have k1:w7.heap[w6.heap.size+1]?=some (.cells #[.int .i64 ((2^h+q:Nat):Int)] 3):=by
  rw[hw7]
  have:=aC (w6.alloc (.cells s.cells 82)) (.cells #[.int .i64 ((2^h+q:Nat):Int)] 3)
  rw[ak]at this
  exact this
 have hB7:Below w.heap.size w w7:=ah hB6 hB6.size hb7
 have hs7:=(hb7.block _ (gA hs6).1).trans hs6
 have hn7:=(hb7.block _ (gA hn6).1).trans hn6
 clear hw7 hb7 hs6 hn6
 have hsz7:=hB7.size
 have hk0lt:=(gA k0).1
 have hk1lt:=(gA k1).1
 have hslt:=(gA hs7).1
 have hnlt:=(gA hn7).1
 refine Rn.p rfl (Rn.p rfl ?_)
 refine Rn.rangeAs (yK Tryd.f51 a.tmps w7.heap.size .ready) (args:=#[.func (.yield (w7.heap.size+1)) #[] #[], .pointer (some ⟨w6.heap.size,0,none⟩), .pointer (some ⟨w6.heap.size+1,0,none⟩)]) rfl rfl Lf.func86 (by kernel_rfl) (by kernel_rfl) (hF.get (d:=59) rfl) (by simp) ?_
 have hT:aM [(2, .pt w.heap.size),(9, .pt b9)] 81 [] ⟨a.tmps,[]⟩:=⟨rfl,hF.size,(hF.only (G:=[(2, .pt w.heap.size),(9, .pt b9)]) ⟨rfl,rfl,trivial⟩).slot⟩
 have hI0:Cm 9 82 s w.heap.size b9 (w7.heap.size+1) w7.heap.size (yK Tryd.f51 a.tmps w7.heap.size .ready) w (qZ KS s.id s.path (2^h+q) (Jm KS s wd sh n q (2^h+q) msg) 0) (cp w7 (yK Tryd.f51 a.tmps w7.heap.size .ready)):=
  ⟨ah hB7 hsz7 (i9 w7 _),(bv w7 _ hslt).trans hs7,(bv w7 _ hnlt).trans hn7,fz w7 _,fy w7 _⟩
 have G:∀Goal,pR (ac true Tryd.prog) Goal (((base 51).atR ⟨a.tmps,{target:= .collected w7.heap.size,args:=#[]}::a.defers⟩ (.inRangeFunc (w7.heap.size+1)::[.inBlock 0, .code (.seq (.region 13 (ae Tryd.f51 13) false) .ret)]))::cs) (λc=>#[.int .i64 (dq (2^h+q) c), .string ((jI s.path c).extract 0 32)]) h (w7.heap.size+1) (yK Tryd.f51 a.tmps w7.heap.size .ready)
  (λc=>Cm 9 82 s w.heap.size b9 (w7.heap.size+1) w7.heap.size (yK Tryd.f51 a.tmps w7.heap.size .ready) w (qZ KS s.id s.path (2^h+q) (Jm KS s wd sh n q (2^h+q) msg) c)):=
  λGoal=>
  {below:=λc w w' h hb=>h.below hb
   loop:=λc w h=>h.loop
   size:=λc=>rfl
   round:=λc w' cf hc hI next=>Fo hKl hK h0 (by omega) (by have:=nL (2^h+q) c;omega) (by rw[ByteArray.size_extract];omega) (y6 _ _ _ _ _ (iv _ _) c) (by omega) (by omega) hT hI next}
 refine Cd (s:=s) f.path (by omega) (by rw[Nat.pow_succ];omega) (by omega) (G _) hI0 ((bv w7 _ hk0lt).trans k0) ((bv w7 _ hk1lt).trans k1) λw8 hI=> ?_
 show Rn _ _ ((base 51).atR ⟨a.tmps,{target:= .collected w7.heap.size,args:=#[]}::a.defers⟩ (.endRangeFunc (w7.heap.size+1)::_)) cs w8
 refine Rn.rangeOver hI.loop rfl rfl ?_
 have hI9:=hI.turn (by omega) (yK Tryd.f51 a.tmps w7.heap.size .exhausted)
 show Rn _ _ _ _ (aX w8 (w7.heap.size+1) (yK Tryd.f51 a.tmps w7.heap.size .exhausted))
 have hG:aM [(9, .pt b9)] 81 [{target:= .collected w7.heap.size,args:=#[]}] ⟨a.tmps,{target:= .collected w7.heap.size,args:=#[]}::a.defers⟩:=⟨by rw[hF.defers],hF.size,(hF.only (G:=[(9, .pt b9)]) ⟨rfl,trivial⟩).slot⟩
 revert hG hI9
 generalize aX w8 (w7.heap.size+1) (yK Tryd.f51 a.tmps w7.heap.size .exhausted)=w9
 generalize (Act.mk a.tmps ({target:= .collected w7.heap.size,args:=#[]}::a.defers))=a2
 intro hI9 hG
 refine Rn.p rfl (Rn.p rfl (Rn.r (L:=[0,1]) rfl ?_))
 refine Rn.o hG 80 (.load 9 (.tmp 9)) (λo ho=>(ay bC ho (hG.get (d:=9) rfl) ((am hI9.nine 0).trans rfl)).1) λa3 hG=> ?_
 refine Rn.s hG 4 80 rfl λa4 hG=> ?_
 exact Rn.p rfl (Rn.ends rfl (.inr ⟨_,rfl⟩) (Rn.take (ds:=[]) hG.defers hI9.list (Rn.now ⟨⟨a4.tmps,[]⟩,_, .string (vB KS s h wd sh n q msg),rfl,rfl,hG.slot 4 _ rfl,rfl,hI9.old.trans (kN _ _ (by omega))⟩)))
end Go.Proofs.YtkmoglhgkcnalaaDoor.L1
namespace Go.Proofs.YtkmoglhgkcnalaaDoor
open Go
def cX(t:Int):Nat:=if t=5 then 5 else if t=226 then 2 else 0
def eW(c:Int):Nat:=if c=2 then 2 else if c=3 then 4 else if c=4 then 8 else 0
def gQ(c:Int):Nat:=if c=2 then 133 else if c=3 then 67 else if c=4 then 34 else 0
def gK(c:Int):Nat:=if c=2 then 6 else if c=3 then 4 else 0
def aN(b:ByteArray)(i j:Nat):Int:=fL (b.extract i j).data.toList
def fM(b:ByteArray):cq:={tree:=b.extract 0 4,chains:=b.extract 4 8,id:=b.extract 8 24,root:=b.extract 24 b.size,height:=cX (aN b 0 4),width:=eW (aN b 4 8),count:=gQ (aN b 4 8),shift:=gK (aN b 4 8),q:=0,salt:=⟨#[]⟩,links:=⟨#[]⟩,path:=⟨#[]⟩}
def dx:Array Value:=#[.string ⟨#[]⟩, .string ⟨#[]⟩, .string ⟨#[]⟩, .string ⟨#[]⟩, .int .i64 0, .int .i64 0, .int .i64 0, .int .i64 0]
def fi(b:ByteArray):Prop:=b.size=56/\cX (aN b 0 4)≠0/\eW (aN b 4 8)≠0
end Go.Proofs.YtkmoglhgkcnalaaDoor
namespace Go.Proofs.YtkmoglhgkcnalaaDoor.L1
open Go Go.Conc Go.RowKit Go.Proofs.YtkmoglhgkcnalaaDoor
section
variable{w:World}{ev:Operand->Value}{o:Oper}{x y z u:Operand}{t:TypeId}{m n:Int}
theorem oa(hop:o.op= .binOp .neq 3 x y t)(hx:ev x= .int .i64 m)(hy:ev y= .int .i64 n):(execOp ev o).run (ac true Tryd.prog) w= .ok (.value (.bool (m !=n))) w:=by
 simp[execOp,hop,hx,hy,go_sem]
theorem nz(hop:o.op= .binOp .eql 55 x y t)(hx:ev x= .int .u64 m)(hy:ev y= .int .u64 n):(execOp ev o).run (ac true Tryd.prog) w= .ok (.value (.bool (m==n))) w:=by
 simp[execOp,hop,hx,hy,go_sem]
theorem yb(hop:o.op= .alloc 78):(execOp ev o).run (ac true Tryd.prog) w= .ok (.value (.pointer (some ⟨w.heap.size,0,none⟩))) (w.alloc (.cells dx 78)):=by
 have e:execOp ev o=(do pure (.value (←Instr.alloc 78 true (.tuple #[])))):=by simp only[execOp,hop]
 have h2:(do pure (.value (←Instr.alloc 78 true (.tuple #[]))):Sem Next).run (ac true Tryd.prog) w= .ok (.value (.pointer (some ⟨w.heap.size,0,none⟩))) (w.alloc (.cells dx 78)):=by kernel_rfl
 rw[e,h2]
theorem CL(hop:o.op= .build 78 #[]):(execOp ev o).run (ac true Tryd.prog) w= .ok (.value (.agg dx)) w:=by
 have e:execOp ev o=(do pure (.value (←Instr.build 78 #[]))):=by simp[execOp,hop]
 have h2:(do pure (.value (←Instr.build 78 #[])):Sem Next).run (ac true Tryd.prog) w= .ok (.value (.agg dx)) w:=by kernel_rfl
 rw[e,h2]
theorem CP{a b c d:ByteArray}(hop:o.op= .build 78 #[(0,x),(1,y),(2,z),(3,u)])(h1:ev x= .string a)(h2:ev y= .string b)(h3:ev z= .string c)(h4:ev u= .string d):
 (execOp ev o).run (ac true Tryd.prog) w= .ok (.value (.agg #[.string a, .string b, .string c, .string d, .int .i64 0, .int .i64 0, .int .i64 0, .int .i64 0])) w:=by
 have e:execOp ev o=(do pure (.value (←Instr.build 78 #[(0, .string a),(1, .string b),(2, .string c),(3, .string d)]))):=by simp[execOp,hop,h1,h2,h3,h4]
 have h2:(do pure (.value (←Instr.build 78 #[(0, .string a),(1, .string b),(2, .string c),(3, .string d)])):Sem Next).run (ac true Tryd.prog) w= .ok (.value (.agg #[.string a, .string b, .string c, .string d, .int .i64 0, .int .i64 0, .int .i64 0, .int .i64 0])) w:=by kernel_rfl
 rw[e,h2]
end
theorem wo:((ac true Tryd.prog).info? 78).map (·.size)=some 8:=by kernel_rfl
theorem iy{Goal:Goroutine->World->Prop}{b:Frame}{a:Act}{k:List Item}{cs:List Frame}{w:World}{F:List (Nat×Value)}{N:Nat}{ds:List Deferred}{ops:Array Oper}{m m1:Nat}{rest:List Nat}(hF:aM F N ds a)(d x j:Nat)(c:Int)(hd:d<N)(hj:j<8){b4:Nat}{cur:Array Value}(hx:F.lookup x=some (.pointer (some ⟨b4,0,none⟩)))
 (h1:(ops[m]?).map (λo=>(o.dst,o.op,o.guard))=some (some d, .fieldAddr 78 (.tmp x) j,none)) (h2:(ops[m1]?).map (λo=>(o.dst,o.op,o.guard))=some (none, .store 3 (.tmp d) (.const (.int .i64 c)),none)) (hb4:w.heap[b4]?=some (.cells cur 78)) {v0:Value} (hcur:cur[j]?=some v0)
 (next:∀a' w',aM F N ds a'->w'.heap[b4]?=some (.cells (cur.setIfInBounds j (.int .i64 c)) 78)->(∀M,M<=b4->Below M w w')->Rn (ac true Tryd.prog) Goal (b.atR a' (.inRegion ops rest::k)) cs w') (hFd:F.lookup d=none):Rn (ac true Tryd.prog) Goal (b.atR a (.inRegion ops (m::m1::rest)::k)) cs w:=by
 refine Rn.op hF d (.fieldAddr 78 (.tmp x) j) hd h1 (by simp) (λo ho=>cO j hj ho (hF.get hx)) λa hF2=> ?_
 refine Rn.does0 hF2 (.store 3 (.tmp d) (.const (.int .i64 c))) h2 (by simp) (λo ho=>(eX (w:=w) (b:=b4) (k:=j) (v:= .int .i64 c) (v0:=v0) rfl rfl (by kernel_rfl) ho (hF2.get (d:=d) (by simp[List.lookup])) rfl (by rw[am hb4];exact hcur) (by simp[World.frozen?,hb4])).1) λa hF3=> ?_
 refine next a _ (hF3.sub λe v he=> ?_) (iw hb4) λM hM=>dw w _ _ hM
 have hne:e≠d:=λq=>by rw[q,hFd]at he;cases he
 simp only[List.lookup,show(e==d)=false from by simpa using hne]
 exact he
def KP(b:ByteArray)(M:Nat):Nat->Value->World->Prop
 |0,v,_=>v= .string b
 |1,v,_=>v= .string (b.extract 0 4)
 |2,v,_=>v= .string b
 |3,v,_=>v= .string (b.extract 4 8)
 |4,v,_=>v= .string b
 |5,v,_=>v= .string (b.extract 8 24)
 |6,v,_=>v= .string b
 |7,v,_=>v= .string (b.extract 24 b.size)
 |8,v,_=>v= .agg #[.string (b.extract 0 4), .string (b.extract 4 8), .string (b.extract 8 24), .string (b.extract 24 b.size), .int .i64 0, .int .i64 0, .int .i64 0, .int .i64 0]
 |_,v,w=>Bx M dx 78 v w
theorem DF{b:ByteArray}{M:Nat}(k:Nat)(v:Value)(w w':World)(h:KP b M k v w)(hb:Below w.heap.size w w'):KP b M k v w':=by
 match k,h with
 |0,h|1,h|2,h|3,h|4,h|5,h|6,h|7,h|8,h=>exact h
 |k+9,h=>exact Bx.mono h hb
theorem I8{b:ByteArray}(hb56:b.size=56){v2:Value}{Goal:Goroutine->World->Prop}{cs:List Frame}{K:List Item}{a:Act}{w:World}(hF:aM [(0, .string b),(2,v2)] 48 [] a)
 (next:∀a w' b4,w.heap.size<=b4->Below w.heap.size w w'->w'.heap[b4]?=some (.cells #[.string (b.extract 0 4), .string (b.extract 4 8), .string (b.extract 8 24), .string (b.extract 24 b.size), .int .i64 0, .int .i64 0, .int .i64 0, .int .i64 0] 78)->aM [(4, .pt b4),(0, .string b),(2,v2)] 48 [] a->Rn (ac true Tryd.prog) Goal ((base 49).atR a K) cs w'):
 Rn (ac true Tryd.prog) Goal ((base 49).atR a (.code (.region 3 (ae Tryd.f49 3) true)::K)) cs w:=by
 refine Rn.grows (fx:=[(0, .string b),(2,v2)]) (ds:=[9,10,11,12,13,14,15,16,17,4]) (N:=48) (df:=[]) (G:=KP b w.heap.size) (by kernel_rfl) (by kernel_rfl) DF (λm o a w' hm ho hb hfx hne=> ?_)
  (λm a w'=>(m=10/\∃b4,w.heap.size<=b4/\Below w.heap.size w w'/\w'.heap[b4]?=some (.cells dx 78)/\aM [(4, .pt b4),(17, .agg #[.string (b.extract 0 4), .string (b.extract 4 8), .string (b.extract 8 24), .string (b.extract 24 b.size), .int .i64 0, .int .i64 0, .int .i64 0, .int .i64 0]),(0, .string b),(2,v2)] 48 [] a)\/
    (m=11/\∃b4,w.heap.size<=b4/\Below w.heap.size w w'/\w'.heap[b4]?=some (.cells #[.string (b.extract 0 4), .string (b.extract 4 8), .string (b.extract 8 24), .string (b.extract 24 b.size), .int .i64 0, .int .i64 0, .int .i64 0, .int .i64 0] 78)/\aM [(4, .pt b4),(0, .string b),(2,v2)] 48 [] a))
  (λa w' hG=> ?_) (λm o a w' rest hm ho hS hgo=> ?_) (λa w' hS=> ?_) hF.defers hF.size (hF.all (by simp))
 ·have f0:=C5 (hfx _ (mG (i:=0) rfl))
  have hlt:m<10:=hm
  rcases(by omega:m=0\/m=1\/m=2\/m=3\/m=4\/m=5\/m=6\/m=7\/m=8\/m=9)with rfl|rfl|rfl|rfl|rfl|rfl|rfl|rfl|rfl|rfl
  ·have e2:=aP ho 9 ( .move (.tmp 0))
   exact af (by rw[bI (.inl e2),f0]) ⟨rfl,bR⟩
  ·have e2:=aP ho 10 ( .slice 9 (.tmp 9) none (some (.const (.int .i64 4))) none)
   obtain⟨u,hu,rfl⟩:=nE hne 0 9
   exact af (ul (n:=4) e2 (C5 hu) rfl (by omega)) ⟨rfl,bR⟩
  ·have e2:=aP ho 11 ( .move (.tmp 0))
   exact af (by rw[bI (.inl e2),f0]) ⟨rfl,bR⟩
  ·have e2:=aP ho 12 ( .slice 9 (.tmp 11) (some (.const (.int .i64 4))) (some (.const (.int .i64 8))) none)
   obtain⟨u,hu,rfl⟩:=nE hne 2 11
   exact af (cN (m:=4) (n:=8) e2 (C5 hu) rfl rfl (by omega) (by omega)).1 ⟨rfl,bR⟩
  ·have e2:=aP ho 13 ( .move (.tmp 0))
   exact af (by rw[bI (.inl e2),f0]) ⟨rfl,bR⟩
  ·have e2:=aP ho 14 ( .slice 9 (.tmp 13) (some (.const (.int .i64 8))) (some (.const (.int .i64 24))) none)
   obtain⟨u,hu,rfl⟩:=nE hne 4 13
   exact af (cN (m:=8) (n:=24) e2 (C5 hu) rfl rfl (by omega) (by omega)).1 ⟨rfl,bR⟩
  ·have e2:=aP ho 15 ( .move (.tmp 0))
   exact af (by rw[bI (.inl e2),f0]) ⟨rfl,bR⟩
  ·have e2:=aP ho 16 ( .slice 9 (.tmp 15) (some (.const (.int .i64 24))) none none)
   obtain⟨u,hu,rfl⟩:=nE hne 6 15
   exact af (ny (n:=24) e2 (C5 hu) rfl (by omega)) ⟨rfl,bR⟩
  ·have e2:=aP ho 17 ( .build 78 #[(0, .tmp 10),(1, .tmp 12),(2, .tmp 14),(3, .tmp 16)])
   obtain⟨u0,hu0,rfl⟩:=nE hne 1 10
   obtain⟨u1,hu1,rfl⟩:=nE hne 3 12
   obtain⟨u2,hu2,rfl⟩:=nE hne 5 14
   obtain⟨u3,hu3,rfl⟩:=nE hne 7 16
   exact af (CP e2 (C5 hu0) (C5 hu1) (C5 hu2) (C5 hu3)) ⟨rfl,bR⟩
  ·have e2:=aP ho 4 ( .alloc 78)
   exact af (yb e2) ⟨⟨w'.heap.size,rfl,hb.size,aC w' _⟩,an w' _⟩
 ·obtain⟨u,hu,b4,rfl,h1,h2⟩:=hG.come 9 4 rfl trivial
  obtain⟨u2,hu2,rfl⟩:=hG.come 8 17 rfl trivial
  exact .inl ⟨rfl,b4,h1,hG.old,h2,(hG.base.more hu2).more hu⟩
 ·rcases hS with⟨rfl,b4,h1,h2,h3,hF⟩|⟨rfl,_⟩
  ·refine Rn.does0 hF (.store 78 (.tmp 4) (.tmp 17)) (by kernel_rfl) (by simp) (λo ho=>cr ho (hF.get (d:=4) rfl) (hF.get (d:=17) rfl) h3 wo rfl (by simp[Value.oneCell'])) λa hF=>hgo a _ (.inr ⟨rfl,b4,h1,h2.trans (cx w' b4 _ h1),setRow_heap w' b4 _ _ _ _ h3,hF.only ⟨rfl,rfl,rfl,trivial⟩⟩)
  ·exact absurd (gA ho).1 (by decide)
 ·rcases hS with⟨h,_⟩|⟨_,b4,h1,h2,h3,hF⟩
  ·exact absurd h (by decide)
  ·exact next a w' b4 h1 h2 h3 hF
def wP(f:Func):Code:= .seq (.seq (.region 10 (ae f 10) false) (.block 1 (.seq (.region 12 (ae f 12) false) (.cond (.tmp 32) (.region 13 (ae f 13) false) (.seq (.region 14 (ae f 14) false) (.cond (.tmp 37) (.region 15 (ae f 15) false) (.seq (.region 16 (ae f 16) false) (.cond (.tmp 42) (.region 17 (ae f 17) false) (.seq (.region 11 (ae f 11) false) .ret))))))))) (.seq (.region 18 (ae f 18) false) .ret)
def CB(f:Func):Code:= .seq (.seq (.region 4 (ae f 4) false) (.block 0 (.seq (.region 6 (ae f 6) false) (.cond (.tmp 22) (.region 7 (ae f 7) false) (.seq (.region 8 (ae f 8) false) (.cond (.tmp 25) (.region 9 (ae f 9) false) (.seq (.region 5 (ae f 5) false) .ret))))))) (wP f)
theorem Ix:Tryd.f49.body=some (.seq (.region 0 (ae Tryd.f49 0) false) (.seq (.seq (.region 1 (ae Tryd.f49 1) false) (.cond (.tmp 7) (.seq (.region 2 (ae Tryd.f49 2) false) .ret) .skip)) (.seq (.region 3 (ae Tryd.f49 3) true) (CB Tryd.f49)))):=by kernel_rfl
def GV(b:ByteArray)(w0:World)(e:Ending)(w':World):Prop:=((fi b/\e= .returned (.tuple #[.agg (fM b).key, .bool true]))\/(¬fi b/\e= .returned (.tuple #[.agg dx, .bool false])))/\Below w0.heap.size w0 w'
def oN(b:ByteArray)(w0:World)(cs:List Frame)(g:Goroutine)(w':World):Prop:=∃(a:Act) (k:List Item) (bk:Nat) (cells:Array Value) (tt:TypeId) (v:Value),g=hU {(base 49).atR a k with mode:= .returning} cs/\a.defers=[]/\a.tmps[2]?=some (.pointer (some ⟨bk,0,none⟩))/\w'.heap[bk]?=some (.cells cells tt)/\cells.size=8/\a.tmps[3]?=some v/\GV b w0 (.returned (.tuple #[.agg cells,v])) w'
section
variable{b:ByteArray}{w0 w:World}{cs:List Frame}{a:Act}{k:List Item}
theorem E4(id d:Nat)(hd:d<48/\d≠2)(hbad:¬fi b)(hF:aM [(2, .pt w0.heap.size)] 48 [] a)(hN:w.heap[w0.heap.size]?=some (.cells dx 78))(hold:Below w0.heap.size w0 w)(hL:List.range (ae Tryd.f49 id).size=[0,1,2])
 (h0:((ae Tryd.f49 id)[0]?).map (λo=>(o.dst,o.op,o.guard))=some (some d, .build 78 #[],none)) (h1:((ae Tryd.f49 id)[1]?).map (λo=>(o.dst,o.op,o.guard))=some (none, .store 78 (.tmp 2) (.tmp d),none)) (h2:((ae Tryd.f49 id)[2]?).map (λo=>(o.dst,o.op,o.guard))=some (some 3, .assign (.const (.bool false)),none)):
 Rn (ac true Tryd.prog) (oN b w0 cs) ((base 49).atR a (.code (.seq (.region id (ae Tryd.f49 id) false) .ret)::k)) cs w:=by
 refine Rn.p rfl (Rn.r hL ?_)
 refine Rn.op hF d (.build 78 #[]) hd.1 h0 (by simp) (λo ho=>CL ho) λa hF=> ?_
 have e2:((d,Value.agg dx)::[(2, .pt w0.heap.size)]:List (Nat×Value)).lookup 2=some (.pointer (some ⟨w0.heap.size,0,none⟩)):=by
  simp[List.lookup,show(2==d)=false from by simpa using Ne.symm hd.2]
 refine Rn.does0 hF (.store 78 (.tmp 2) (.tmp d)) h1 (by simp) (λo ho=>cr (cells:=dx) ho (hF.get (d:=2) e2) (hF.get (d:=d) (by simp[List.lookup])) hN wo rfl (by simp[dx,Value.oneCell'])) λa hF=> ?_
 refine Rn.asc hF 3 (.bool false) (by decide) h2 λa hF=> ?_
 refine Rn.p rfl (Rn.ends rfl (.inr ⟨_,rfl⟩) (Rn.now ⟨a,_,w0.heap.size,dx,78, .bool false,rfl,hF.defers,hF.slot 2 _ ?_,setRow_heap w _ _ _ _ _ hN,rfl,hF.slot 3 _ (by simp[List.lookup]), .inr ⟨hbad,rfl⟩,hold.trans (cx _ _ _ (Nat.le_refl _))⟩))
 simp[List.lookup,show(2==d)=false from by simpa using Ne.symm hd.2]
theorem I0{b4:Nat}(hok:fi b)(hF:aM [(2, .pt w0.heap.size),(4, .pt b4)] 48 [] a)(hN:w.heap[w0.heap.size]?=some (.cells dx 78))(hold:Below w0.heap.size w0 w)(hb4:w.heap[b4]?=some (.cells (fM b).key 78)):
 Rn (ac true Tryd.prog) (oN b w0 cs) ((base 49).atR a (.code (.seq (.region 18 (ae Tryd.f49 18) false) .ret)::k)) cs w:=by
 refine Rn.p rfl (Rn.r (L:=[0,1,2]) rfl ?_)
 refine Rn.o hF 47 (.load 78 (.tmp 4)) (λo ho=>fV (s:=fM b) ho (hF.get (d:=4) rfl) hb4 λ_ _=>rfl) λa hF=> ?_
 refine Rn.does0 hF (.store 78 (.tmp 2) (.tmp 47)) (by kernel_rfl) (by simp) (λo ho=>cr ho (hF.get (d:=2) rfl) (hF.get (d:=47) rfl) hN wo rfl (by simp[cq.key,Value.oneCell'])) λa hF=> ?_
 refine Rn.c hF 3 (.bool true) λa hF=> ?_
 exact Rn.p rfl (Rn.ends rfl (.inr ⟨_,rfl⟩) (Rn.now ⟨a,_,w0.heap.size,(fM b).key,78, .bool true,rfl,hF.defers,hF.slot 2 _ rfl,setRow_heap w _ _ _ _ _ hN,rfl,hF.slot 3 _ rfl, .inl ⟨hok,rfl⟩,hold.trans (cx _ _ _ (Nat.le_refl _))⟩))
def Kp(b:ByteArray)(h w c s:Int):Array Value:=#[.string (b.extract 0 4), .string (b.extract 4 8), .string (b.extract 8 24), .string (b.extract 24 b.size), .int .i64 h, .int .i64 w, .int .i64 c, .int .i64 s]
theorem D4{b4:Nat}(hb:b.size=56)(hH:cX (aN b 0 4)≠0)(hF:aM [(2, .pt w0.heap.size),(4, .pt b4)] 48 [] a)(hN:w.heap[w0.heap.size]?=some (.cells dx 78))(hold:Below w0.heap.size w0 w)(hb4:w.heap[b4]?=some (.cells (Kp b (cX (aN b 0 4)) 0 0 0) 78))(hlt:w0.heap.size<b4):
 Rn (ac true Tryd.prog) (oN b w0 cs) ((base 49).atR a (.code (wP Tryd.f49)::k)) cs w:=by
 have hsz:(b.extract 4 8).size<=8:=by rw[ByteArray.size_extract];omega
 refine Rn.p rfl (Rn.p rfl (Rn.r (L:=[0,1,2]) rfl ?_))
 refine Rn.o hF 28 (.fieldAddr 78 (.tmp 4) 1) (λo ho=>cO 1 (by decide) ho (hF.get (d:=4) rfl)) λa hF=> ?_
 refine Rn.o hF 29 (.load 9 (.tmp 28)) (λo ho=>(ay (v:= .string (b.extract 4 8)) bC ho (hF.get (d:=28) rfl) ((am hb4 1).trans rfl)).1) λa hF=> ?_
 refine Rn.calls (f:=63) (xs:=#[.tmp 29]) (ats:=#[9]) (args:=#[.string (b.extract 4 8)]) hF 30 (by decide) (by kernel_rfl) (by simp[hF.get (d:=29) rfl]) Lf.func63 (by kernel_rfl) (by kernel_rfl)
  (R:=λv w'=>v= .int .u64 (aN b 4 8)/\w'=w) ((ky (b.extract 4 8) w hsz).mono λe w' h=>⟨_,h.1,rfl,h.2⟩) λv w1 hv a hF=> ?_
 obtain⟨rfl,rfl⟩:=hv
 have hF:aM [(30, .int .u64 (aN b 4 8)),(2, .pt w0.heap.size),(4, .pt b4)] 48 [] a:=hF.only ⟨rfl,rfl,rfl,trivial⟩
 have fin:∀(a:Act) (w2:World),fi b->(fM b).key=Kp b (cX (aN b 0 4)) (eW (aN b 4 8)) (gQ (aN b 4 8)) (gK (aN b 4 8))->w2.heap[b4]?=some (.cells (Kp b (cX (aN b 0 4)) (eW (aN b 4 8)) (gQ (aN b 4 8)) (gK (aN b 4 8))) 78)->(∀M,M<=b4->Below M w1 w2)->aM [(2, .pt w0.heap.size),(4, .pt b4)] 48 [] a->
  Rn (ac true Tryd.prog) (oN b w0 cs) ((base 49).atR a (.code (.seq (.region 18 (ae Tryd.f49 18) false) .ret)::k)) cs w2:=by
  intro a w2 hok hkey h4 hB hF
  have hb2:=hB (w0.heap.size+1) (by omega)
  exact I0 hok hF ((hb2.block _ (by omega)).trans hN) (hold.trans (hb2.mono (by omega))) (by rw[hkey];exact h4)
 refine Rn.p rfl (Rn.p rfl (Rn.p rfl (Rn.r (L:=[0,1]) rfl ?_)))
 refine Rn.o hF 33 (.binOp .eql 55 (.tmp 30) (.const (.int .u64 2)) 55) (λo ho=>nz ho (hF.get (d:=30) rfl) rfl) λa hF=> ?_
 refine Rn.s hF 32 33 rfl λa hF=> ?_
 refine Rn.p rfl (Rn.cond _ (hF.get (d:=32) rfl) ?_)
 have e8:∀(x y:Int) (h:x=y),(x==y)=true:=λx y h=>by simpa using h
 have e9:∀(x y:Int) (h:x≠y),(x==y)=false:=λx y h=>by simpa using h
 by_cases c2:aN b 4 8=2
 ·rw[e8 _ _ c2]
  have hF:aM [(2, .pt w0.heap.size),(4, .pt b4)] 48 [] a:=hF.only ⟨rfl,rfl,trivial⟩
  refine Rn.r (L:=[0,1,2,3,4,5]) rfl ?_
  refine iy hF 34 4 5 2 (by decide) (by decide) rfl (by kernel_rfl) (by kernel_rfl) hb4 rfl (λa w2 hF h2 hB2=> ?_) rfl
  refine iy hF 35 4 6 133 (by decide) (by decide) rfl (by kernel_rfl) (by kernel_rfl) h2 rfl (λa w3 hF h3 hB3=> ?_) rfl
  refine iy hF 36 4 7 6 (by decide) (by decide) rfl (by kernel_rfl) (by kernel_rfl) h3 rfl (λa w4 hF h4 hB4=> ?_) rfl
  have hw:eW (aN b 4 8)=2/\gQ (aN b 4 8)=133/\gK (aN b 4 8)=6:=by rw[c2];decide
  refine Rn.p rfl (Rn.p rfl (fin a w4 ⟨hb,hH,by rw[hw.1];decide⟩ rfl ?_ (λM hM=>((hB2 M hM).trans (hB3 M hM)).trans (hB4 M hM)) hF))
  rw[hw.1,hw.2.1,hw.2.2]
  exact h4
 rw[e9 _ _ c2]
 refine Rn.p rfl (Rn.r (L:=[0,1]) rfl ?_)
 refine Rn.o hF 38 (.binOp .eql 55 (.tmp 30) (.const (.int .u64 3)) 55) (λo ho=>nz ho (hF.get (d:=30) rfl) rfl) λa hF=> ?_
 refine Rn.s hF 37 38 rfl λa hF=> ?_
 refine Rn.p rfl (Rn.cond _ (hF.get (d:=37) rfl) ?_)
 by_cases c3:aN b 4 8=3
 ·rw[e8 _ _ c3]
  have hF:aM [(2, .pt w0.heap.size),(4, .pt b4)] 48 [] a:=hF.only ⟨rfl,rfl,trivial⟩
  refine Rn.r (L:=[0,1,2,3,4,5]) rfl ?_
  refine iy hF 39 4 5 4 (by decide) (by decide) rfl (by kernel_rfl) (by kernel_rfl) hb4 rfl (λa w2 hF h2 hB2=> ?_) rfl
  refine iy hF 40 4 6 67 (by decide) (by decide) rfl (by kernel_rfl) (by kernel_rfl) h2 rfl (λa w3 hF h3 hB3=> ?_) rfl
  refine iy hF 41 4 7 4 (by decide) (by decide) rfl (by kernel_rfl) (by kernel_rfl) h3 rfl (λa w4 hF h4 hB4=> ?_) rfl
  have hw:eW (aN b 4 8)=4/\gQ (aN b 4 8)=67/\gK (aN b 4 8)=4:=by rw[c3];decide
  refine Rn.p rfl (Rn.p rfl (fin a w4 ⟨hb,hH,by rw[hw.1];decide⟩ rfl ?_ (λM hM=>((hB2 M hM).trans (hB3 M hM)).trans (hB4 M hM)) hF))
  rw[hw.1,hw.2.1,hw.2.2]
  exact h4
 rw[e9 _ _ c3]
 refine Rn.p rfl (Rn.r (L:=[0,1]) rfl ?_)
 refine Rn.o hF 43 (.binOp .eql 55 (.tmp 30) (.const (.int .u64 4)) 55) (λo ho=>nz ho (hF.get (d:=30) rfl) rfl) λa hF=> ?_
 refine Rn.s hF 42 43 rfl λa hF=> ?_
 refine Rn.p rfl (Rn.cond _ (hF.get (d:=42) rfl) ?_)
 by_cases c4:aN b 4 8=4
 ·rw[e8 _ _ c4]
  have hF:aM [(2, .pt w0.heap.size),(4, .pt b4)] 48 [] a:=hF.only ⟨rfl,rfl,trivial⟩
  refine Rn.r (L:=[0,1,2,3,4,5]) rfl ?_
  refine iy hF 44 4 5 8 (by decide) (by decide) rfl (by kernel_rfl) (by kernel_rfl) hb4 rfl (λa w2 hF h2 hB2=> ?_) rfl
  refine iy hF 45 4 6 34 (by decide) (by decide) rfl (by kernel_rfl) (by kernel_rfl) h2 rfl (λa w3 hF h3 hB3=> ?_) rfl
  refine iy hF 46 4 7 0 (by decide) (by decide) rfl (by kernel_rfl) (by kernel_rfl) h3 rfl (λa w4 hF h4 hB4=> ?_) rfl
  have hw:eW (aN b 4 8)=8/\gQ (aN b 4 8)=34/\gK (aN b 4 8)=0:=by rw[c4];decide
  refine Rn.p rfl (Rn.p rfl (fin a w4 ⟨hb,hH,by rw[hw.1];decide⟩ rfl ?_ (λM hM=>((hB2 M hM).trans (hB3 M hM)).trans (hB4 M hM)) hF))
  rw[hw.1,hw.2.1,hw.2.2]
  exact h4
 rw[e9 _ _ c4]
 refine E4 11 31 (by decide) (λh=>h.2.2 ?_) (hF.only ⟨rfl,trivial⟩) hN hold rfl (by kernel_rfl) (by kernel_rfl) (by kernel_rfl)
 simp[eW,c2,c3,c4]
theorem Ah{b4:Nat}(hb:b.size=56)(hF:aM [(2, .pt w0.heap.size),(4, .pt b4)] 48 [] a)(hN:w.heap[w0.heap.size]?=some (.cells dx 78))(hold:Below w0.heap.size w0 w)(hb4:w.heap[b4]?=some (.cells (Kp b 0 0 0 0) 78))(hlt:w0.heap.size<b4):
 Rn (ac true Tryd.prog) (oN b w0 cs) ((base 49).atR a (.code (CB Tryd.f49)::k)) cs w:=by
 have hsz:(b.extract 0 4).size<=8:=by rw[ByteArray.size_extract];omega
 refine Rn.p rfl (Rn.p rfl (Rn.r (L:=[0,1,2]) rfl ?_))
 refine Rn.o hF 18 (.fieldAddr 78 (.tmp 4) 0) (λo ho=>cO 0 (by decide) ho (hF.get (d:=4) rfl)) λa hF=> ?_
 refine Rn.o hF 19 (.load 9 (.tmp 18)) (λo ho=>(ay (v:= .string (b.extract 0 4)) bC ho (hF.get (d:=18) rfl) ((am hb4 0).trans rfl)).1) λa hF=> ?_
 refine Rn.calls (f:=63) (xs:=#[.tmp 19]) (ats:=#[9]) (args:=#[.string (b.extract 0 4)]) hF 20 (by decide) (by kernel_rfl) (by simp[hF.get (d:=19) rfl]) Lf.func63 (by kernel_rfl) (by kernel_rfl)
  (R:=λv w'=>v= .int .u64 (aN b 0 4)/\w'=w) ((ky (b.extract 0 4) w hsz).mono λe w' h=>⟨_,h.1,rfl,h.2⟩) λv w1 hv a hF=> ?_
 obtain⟨rfl,rfl⟩:=hv
 have hF:aM [(20, .int .u64 (aN b 0 4)),(2, .pt w0.heap.size),(4, .pt b4)] 48 [] a:=hF.only ⟨rfl,rfl,rfl,trivial⟩
 have e8:∀(x y:Int) (h:x=y),(x==y)=true:=λx y h=>by simpa using h
 have e9:∀(x y:Int) (h:x≠y),(x==y)=false:=λx y h=>by simpa using h
 refine Rn.p rfl (Rn.p rfl (Rn.p rfl (Rn.r (L:=[0,1]) rfl ?_)))
 refine Rn.o hF 23 (.binOp .eql 55 (.tmp 20) (.const (.int .u64 5)) 55) (λo ho=>nz ho (hF.get (d:=20) rfl) rfl) λa hF=> ?_
 refine Rn.s hF 22 23 rfl λa hF=> ?_
 refine Rn.p rfl (Rn.cond _ (hF.get (d:=22) rfl) ?_)
 by_cases c5:aN b 0 4=5
 ·rw[e8 _ _ c5]
  have hF:aM [(2, .pt w0.heap.size),(4, .pt b4)] 48 [] a:=hF.only ⟨rfl,rfl,trivial⟩
  refine Rn.r (L:=[0,1]) rfl ?_
  refine iy hF 24 4 4 5 (by decide) (by decide) rfl (by kernel_rfl) (by kernel_rfl) hb4 rfl (λa w2 hF h2 hB2=> ?_) rfl
  have hH:cX (aN b 0 4)=5:=by rw[c5];decide
  have hb2:=hB2 (w0.heap.size+1) (by omega)
  refine Rn.p rfl (Rn.p rfl (D4 hb (by rw[hH];decide) hF ((hb2.block _ (by omega)).trans hN) (hold.trans (hb2.mono (by omega))) ?_ hlt))
  rw[hH]
  exact h2
 rw[e9 _ _ c5]
 refine Rn.p rfl (Rn.r (L:=[0,1]) rfl ?_)
 refine Rn.o hF 26 (.binOp .eql 55 (.tmp 20) (.const (.int .u64 226)) 55) (λo ho=>nz ho (hF.get (d:=20) rfl) rfl) λa hF=> ?_
 refine Rn.s hF 25 26 rfl λa hF=> ?_
 refine Rn.p rfl (Rn.cond _ (hF.get (d:=25) rfl) ?_)
 by_cases c6:aN b 0 4=226
 ·rw[e8 _ _ c6]
  have hF:aM [(2, .pt w0.heap.size),(4, .pt b4)] 48 [] a:=hF.only ⟨rfl,rfl,trivial⟩
  refine Rn.r (L:=[0,1]) rfl ?_
  refine iy hF 27 4 4 2 (by decide) (by decide) rfl (by kernel_rfl) (by kernel_rfl) hb4 rfl (λa w2 hF h2 hB2=> ?_) rfl
  have hH:cX (aN b 0 4)=2:=by rw[c6];decide
  have hb2:=hB2 (w0.heap.size+1) (by omega)
  refine Rn.p rfl (Rn.p rfl (D4 hb (by rw[hH];decide) hF ((hb2.block _ (by omega)).trans hN) (hold.trans (hb2.mono (by omega))) ?_ hlt))
  rw[hH]
  exact h2
 rw[e9 _ _ c6]
 refine E4 5 21 (by decide) (λh=>h.2.1 ?_) (hF.only ⟨rfl,trivial⟩) hN hold rfl (by kernel_rfl) (by kernel_rfl) (by kernel_rfl)
 simp[cX,c5,c6]
end
theorem vE(b:ByteArray)(w:World):Calls (ac true Tryd.prog) 49 #[.string b] w (GV b w):=by
 refine kK (t:=2) (u:=3) (ty:=78) (n:=8) Lf.func49 rfl Lf.underlying78 rfl wo λcs=> ?_
 show Rn _ (oN b w cs) _ cs w
 rw[bW (N:=48) [.string b] Lf.func49 Ix rfl]
 have hF:=bm [.string b] 48 (by simp)
 refine Rn.p rfl (Rn.r (L:=[0,1]) rfl ?_)
 refine Rn.o hF 2 (.alloc 78) (λo ho=>yb ho) λa hF=> ?_
 have hN:=aC w (.cells dx 78)
 have hold:=an w (.cells dx 78)
 have hsz:=ak w (.cells dx 78)
 revert hN hold hsz
 generalize w.alloc (.cells dx 78)=w1
 intro hN hold hsz
 refine Rn.c hF 3 (.bool false) λa hF=> ?_
 refine Rn.p rfl (Rn.p rfl (Rn.p rfl (Rn.r (L:=[0,1,2]) rfl ?_)))
 refine Rn.y hF 5 0 rfl λa hF=> ?_
 refine Rn.o hF 6 (.call {callee:= .builtin .len,args:=#[.tmp 5],argTypes:=#[9]}) (λo ho=>qO ho (hF.get (d:=5) rfl)) λa hF=> ?_
 refine Rn.o hF 7 (.binOp .neq 3 (.tmp 6) (.const (.int .i64 56)) 3) (λo ho=>oa ho (hF.get (d:=6) rfl) rfl) λa hF=> ?_
 refine Rn.p rfl (Rn.cond _ (hF.get (d:=7) rfl) ?_)
 by_cases h56:b.size=56
 ·rw[show((b.size:Int) !=56)=false from by simp;omega]
  refine Rn.p rfl (Rn.p rfl ?_)
  refine I8 h56 (hF.only ⟨rfl,rfl,trivial⟩) λa w2 b4 h1 h2 h3 hF=> ?_
  exact Ah h56 (hF.only ⟨rfl,rfl,trivial⟩) ((h2.block _ (by omega)).trans hN) (ah hold (by omega) h2) h3 (by omega)
 ·rw[show((b.size:Int) !=56)=true from by simp;omega]
  exact E4 2 8 (by decide) (λh=>h56 h.1) (hF.only ⟨rfl,trivial⟩) hN hold rfl (by kernel_rfl) (by kernel_rfl) (by kernel_rfl)
end Go.Proofs.YtkmoglhgkcnalaaDoor.L1
namespace Go.Proofs.YtkmoglhgkcnalaaDoor
open Go
def eI:Array Value:=#[.string ⟨#[]⟩, .string ⟨#[]⟩, .string ⟨#[]⟩, .string ⟨#[]⟩, .int .i64 0, .int .i64 0, .int .i64 0, .int .i64 0, .int .i64 0, .string ⟨#[]⟩, .string ⟨#[]⟩, .string ⟨#[]⟩]
def jE(k:cq)(h n:Nat)(b:ByteArray):Prop:=b.size=44+32*n+32*h/\aN b 0 4<2^h/\(b.extract 4 8).data.toList=k.chains.data.toList/\(b.extract (40+32*n) (44+32*n)).data.toList=k.tree.data.toList
def rU(k:cq)(n:Nat)(b:ByteArray):cq:={k with q:=aN b 0 4,salt:=b.extract 8 40,links:=b.extract 40 (40+32*n),path:=b.extract (44+32*n) b.size}
end Go.Proofs.YtkmoglhgkcnalaaDoor
namespace Go.Proofs.YtkmoglhgkcnalaaDoor.L1
open Go Go.Conc Go.RowKit Go.Proofs.YtkmoglhgkcnalaaDoor
section
variable{w:World}{ev:Operand->Value}{o:Oper}{x y z u v:Operand}{t:TypeId}{m n:Int}
theorem qe{a b:ByteArray}(hop:o.op= .binOp .neq 9 x y t)(hx:ev x= .string a)(hy:ev y= .string b):(execOp ev o).run (ac true Tryd.prog) w= .ok (.value (.bool (a.data.toList !=b.data.toList))) w:=by
 have e1:=ByteArray.toList_eq a
 have e2:=ByteArray.toList_eq b
 simp[execOp,hop,hx,hy,go_sem,e1,e2,bne]
theorem FC(hop:o.op= .binOp .geq 55 x y t)(hx:ev x= .int .u64 m)(hy:ev y= .int .u64 n):(execOp ev o).run (ac true Tryd.prog) w= .ok (.value (.bool (decide (m≥n)))) w:=by
 simp[execOp,hop,hx,hy,go_sem]
theorem Fz{k:Nat}(hop:o.op= .binOp .shl 55 x y t)(hx:ev x= .int .u64 m)(hy:ev y= .int .i64 k)(h:k<=64)(hb:0<=m*2^k/\m*2^k<18446744073709551616):(execOp ev o).run (ac true Tryd.prog) w= .ok (.value (.int .u64 (m*2^k))) w:=by
 have e:IntKind.u64.wrap (m*2^k)=m*2^k:=by rw[IntKind.wrap_u64];omega
 simp[execOp,hop,hx,hy,go_sem,e]
theorem CU(hop:o.op= .convert 55 3 x)(hx:ev x= .int .u64 m)(h:0<=m/\m<9223372036854775808):(execOp ev o).run (ac true Tryd.prog) w= .ok (.value (.int .i64 m)) w:=by
 have h1:(ac true Tryd.prog).underlying 55=some (.int .u64):=by kernel_rfl
 have h2:(ac true Tryd.prog).underlying 3=some (.int .i64):=by kernel_rfl
 have e:IntKind.i64.wrap m=m:=by rw[IntKind.wrap_i64];omega
 simp[execOp,hop,hx,go_sem,h1,h2,e]
theorem CJ(hop:o.op= .build 82 #[]):(execOp ev o).run (ac true Tryd.prog) w= .ok (.value (.agg eI)) w:=by
 have e:execOp ev o=(do pure (.value (←Instr.build 82 #[]))):=by simp[execOp,hop]
 have h2:(do pure (.value (←Instr.build 82 #[])):Sem Next).run (ac true Tryd.prog) w= .ok (.value (.agg eI)) w:=by kernel_rfl
 rw[e,h2]
theorem Dc(hop:o.op= .alloc 82):(execOp ev o).run (ac true Tryd.prog) w= .ok (.value (.pointer (some ⟨w.heap.size,0,none⟩))) (w.alloc (.cells eI 82)):=by
 have e:execOp ev o=(do pure (.value (←Instr.alloc 82 true (.tuple #[])))):=by simp only[execOp,hop]
 have h2:(do pure (.value (←Instr.alloc 82 true (.tuple #[]))):Sem Next).run (ac true Tryd.prog) w= .ok (.value (.pointer (some ⟨w.heap.size,0,none⟩))) (w.alloc (.cells eI 82)):=by kernel_rfl
 rw[e,h2]
theorem Hh{s:cq}(hop:o.op= .build 82 #[(0,x),(1,y),(2,z),(3,u),(4,v)])(h1:ev x= .agg s.key)(h2:ev y= .int .i64 s.q)(h3:ev z= .string s.salt)(h4:ev u= .string s.links)(h5:ev v= .string s.path):
 (execOp ev o).run (ac true Tryd.prog) w= .ok (.value (.agg s.cells)) w:=by
 have e:execOp ev o=(do pure (.value (←Instr.build 82 #[(0, .agg s.key),(1, .int .i64 s.q),(2, .string s.salt),(3, .string s.links),(4, .string s.path)]))):=by simp[execOp,hop,h1,h2,h3,h4,h5]
 have h2:(do pure (.value (←Instr.build 82 #[(0, .agg s.key),(1, .int .i64 s.q),(2, .string s.salt),(3, .string s.links),(4, .string s.path)])):Sem Next).run (ac true Tryd.prog) w= .ok (.value (.agg s.cells)) w:=by kernel_rfl
 rw[e,h2]
end
theorem zC:((ac true Tryd.prog).info? 82).map (·.size)=some 12:=by kernel_rfl
end Go.Proofs.YtkmoglhgkcnalaaDoor.L1
namespace Go.Proofs.YtkmoglhgkcnalaaDoor
open Go
theorem lQ{ops:Array Oper}{o:Oper}{tmps:Array Value}{g d:Nat}{want q:Bool}(hg:o.guard=some (g,want))(hd:(ops[g]?).bind (·.dst)=some d)(hv:tmps[d]?=some (.bool q)):Region.wanted o (yielded ops tmps)=(q==want):=by
 unfold Region.wanted yielded
 rw[hg]
 simp[hd,hv]
end Go.Proofs.YtkmoglhgkcnalaaDoor
namespace Go.Proofs.YtkmoglhgkcnalaaDoor.L1
open Go Go.Conc Go.RowKit Go.Proofs.YtkmoglhgkcnalaaDoor
def KO(k:cq)(b:ByteArray)(N H2 h T:Nat)(c1 n1 n2:Bool):Nat->Value->World->Prop
 |0,v,_=>v= .int .u64 (aN b 0 4)
 |1,v,_=>v= .pointer (some ⟨N,4,none⟩)
 |2,v,_=>v= .int .i64 h
 |3,v,_=>v= .int .u64 (H2:Int)
 |4,v,_=>v= .bool c1
 |5,v,_=>v= .bool c1
 |6,v,_=>c1=false->v= .string b
 |7,v,_=>c1=false->v= .string (b.extract 4 8)
 |8,v,_=>c1=false->v= .pointer (some ⟨N,1,none⟩)
 |9,v,_=>c1=false->v= .string k.chains
 |10,v,_=>c1=false->v= .bool n1
 |11,v,_=>v= .bool (c1||n1)
 |12,v,_=>v= .bool (c1||n1)
 |13,v,_=>(c1||n1)=false->v= .string b
 |14,v,_=>(c1||n1)=false->v= .int .i64 T
 |15,v,_=>(c1||n1)=false->v= .int .i64 ((T+4:Nat):Int)
 |16,v,_=>(c1||n1)=false->v= .string (b.extract T (T+4))
 |17,v,_=>(c1||n1)=false->v= .pointer (some ⟨N,0,none⟩)
 |18,v,_=>(c1||n1)=false->v= .string k.tree
 |19,v,_=>(c1||n1)=false->v= .bool n2
 |_,v,_=>v= .bool (c1||n1||n2)
theorem DD{k:cq}{b:ByteArray}{N H2 h T:Nat}{c1 n1 n2:Bool}(m:Nat)(v:Value)(w w':World)(hg:KO k b N H2 h T c1 n1 n2 m v w):KO k b N H2 h T c1 n1 n2 m v w':=by
 match m,hg with
 |0,h|1,h|2,h|3,h|4,h|5,h|6,h|7,h|8,h|9,h|10,h|11,h|12,h|13,h|14,h|15,h|16,h|17,h|18,h|19,h|_+20,h=>exact h
section
variable{k:cq}{b:ByteArray}{N H2 h T:Nat}{c1 n1 n2:Bool}{Goal:Goroutine->World->Prop}{cs:List Frame}{K:List Item}{a:Act}{w:World}
theorem I7(hH2:H2=2^h)(hh:k.height=h)(hh8:h<=8)(h2h:H2<=256)(hb:T+4<=b.size)(hb8:8<=b.size)(hc1:c1=decide (aN b 0 4≥(H2:Int)))(hn1:n1=((b.extract 4 8).data.toList !=k.chains.data.toList))(hn2:n2=((b.extract T (T+4)).data.toList !=k.tree.data.toList))
 (hkey:w.heap[N]?=some (.cells k.key 78)) (hF:aM [(1, .string b),(2, .pt N),(6, .int .i64 T),(7, .int .i64 ((T+4:Nat):Int)),(8, .int .u64 (aN b 0 4)),(4, .pt (N+1))] 61 [] a)
 (next:∀a w',Below w.heap.size w w'->aM [(47, .bool (c1||n1||n2)),(1, .string b),(2, .pt N),(6, .int .i64 T),(7, .int .i64 ((T+4:Nat):Int)),(8, .int .u64 (aN b 0 4)),(4, .pt (N+1))] 61 [] a->Rn (ac true Tryd.prog) Goal ((base 50).atR a K) cs w'):
 Rn (ac true Tryd.prog) Goal ((base 50).atR a (.code (.region 6 (ae Tryd.f50 6) true)::K)) cs w:=by
 refine Rn.growsG (fx:=[(1, .string b),(2, .pt N),(6, .int .i64 T),(7, .int .i64 ((T+4:Nat):Int)),(8, .int .u64 (aN b 0 4)),(4, .pt (N+1))]) (ds:=[27,28,29,30,31,32,33,34,35,36,37,38,39,40,41,42,43,44,45,46,47]) (N:=61) (df:=[]) (G:=KO k b N H2 h T c1 n1 n2) (by kernel_rfl) (by kernel_rfl) (λm v w w' hg _=>DD m v w w' hg) (λm o a w' hm ho hb' hsz hfx hne=> ?_)
  (λm a w'=>m=21/\Below w.heap.size w w'/\aM [(47, .bool (c1||n1||n2)),(1, .string b),(2, .pt N),(6, .int .i64 T),(7, .int .i64 ((T+4:Nat):Int)),(8, .int .u64 (aN b 0 4)),(4, .pt (N+1))] 61 [] a)
  (λa w' hG=> ?_) (λm o a w' rest hm ho hS hgo=> ?_) (λa w' hS=> ?_) hF.defers hF.size (hF.all (by simp))
 ·have f1:=C5 (hfx _ (mG (i:=0) rfl))
  have f2:=C5 (hfx _ (mG (i:=1) rfl))
  have f6:=C5 (hfx _ (mG (i:=2) rfl))
  have f7:=C5 (hfx _ (mG (i:=3) rfl))
  have f8:=C5 (hfx _ (mG (i:=4) rfl))
  have hkey':=(hb'.block N (gA hkey).1).trans hkey
  have first:∀{o:Oper} {R:Value->World->Prop} (q:Bool) (g d:Nat),o.guard=some (g,false)->((ae Tryd.f50 6)[g]?).bind (·.dst)=some d->a.tmps[d]?=some (.bool q)->(q=false->uY (ac true Tryd.prog) a o w' R)->(q=true->R undef w')->ua (ac true Tryd.prog) (ae Tryd.f50 6) a o w' R:=λ{o R} q g d h1 h2 h3 h4 h5=>by
   have hw:=lQ (ops:=ae Tryd.f50 6) (tmps:=a.tmps) h1 h2 h3
   cases q with
   |false=>exact .inl ⟨hw,h4 rfl⟩
   |true=>exact .inr ⟨hw,h5 rfl⟩
  have gop:∀{m:Nat} {o:Oper} {d:Option Tmp} {p:Op} {g:Nat},(ae Tryd.f50 6)[m]?=some o->((ae Tryd.f50 6)[m]?).map (λo=>(o.dst,o.op,o.guard))=some (d,p,some (g,false))->o.op=p/\o.guard=some (g,false):=λ{m o d p g} ho hmap=>by
   rw[ho]at hmap
   simp only[Option.map_some,Option.some.injEq,Prod.mk.injEq]at hmap
   exact⟨hmap.2.1,hmap.2.2⟩
  have hlt:m<21:=hm
  rcases(by omega:m=0\/m=1\/m=2\/m=3\/m=4\/m=5\/m=6\/m=7\/m=8\/m=9\/m=10\/m=11\/m=12\/m=13\/m=14\/m=15\/m=16\/m=17\/m=18\/m=19\/m=20)with rfl|rfl|rfl|rfl|rfl|rfl|rfl|rfl|rfl|rfl|rfl|rfl|rfl|rfl|rfl|rfl|rfl|rfl|rfl|rfl|rfl
  ·obtain⟨e1,e2,e3⟩:=aJ (d:=some 27) (p:= .move (.tmp 8)) ho (by kernel_rfl)
   exact .inl ⟨e3 _,af (by rw[bI (.inl e2),f8]) ⟨rfl,bR⟩⟩
  ·obtain⟨e1,e2,e3⟩:=aJ (d:=some 28) (p:= .fieldAddr 78 (.tmp 2) 4) ho (by kernel_rfl)
   exact .inl ⟨e3 _,af (cO 4 (by decide) e2 f2) ⟨rfl,bR⟩⟩
  ·obtain⟨e1,e2,e3⟩:=aJ (d:=some 29) (p:= .load 3 (.tmp 28)) ho (by kernel_rfl)
   obtain⟨u,hu,rfl⟩:=nE hne 1 28
   exact .inl ⟨e3 _,af (ay (v:= .int .i64 h) aQ e2 (C5 hu) ((am hkey' 4).trans (by rw[←hh];rfl))).1 ⟨rfl,bR⟩⟩
  ·obtain⟨e1,e2,e3⟩:=aJ (d:=some 30) (p:= .binOp .shl 55 (.const (.int .u64 1)) (.tmp 29) 3) ho (by kernel_rfl)
   obtain⟨u,hu,rfl⟩:=nE hne 2 29
   have hp:(1:Int)*2^h=(H2:Int):=by rw[Int.one_mul,hH2,Int.natCast_pow];rfl
   refine .inl ⟨e3 _,af (Fz (m:=1) (k:=h) e2 rfl (C5 hu) (by omega) (by rw[hp];omega)) ⟨?_,bR⟩⟩
   rw[hp]
   rfl
  ·obtain⟨e1,e2,e3⟩:=aJ (d:=some 31) (p:= .binOp .geq 55 (.tmp 27) (.tmp 30) 55) ho (by kernel_rfl)
   obtain⟨u,hu,rfl⟩:=nE hne 0 27
   obtain⟨u2,hu2,rfl⟩:=nE hne 3 30
   exact .inl ⟨e3 _,af (FC e2 (C5 hu) (C5 hu2)) ⟨by rw[hc1];rfl,bR⟩⟩
  ·obtain⟨e1,e2,e3⟩:=aJ (d:=some 32) (p:= .move (.tmp 31)) ho (by kernel_rfl)
   obtain⟨u,hu,rfl⟩:=nE hne 4 31
   exact .inl ⟨e3 _,EU (.inl e2) hu ⟨rfl,bR⟩⟩
  ·obtain⟨e2,eg⟩:=gop (d:=some 33) (p:= .move (.tmp 1)) ho (by kernel_rfl)
   obtain⟨u,hu,rfl⟩:=nE hne 5 32
   exact first c1 5 32 eg (by kernel_rfl) hu (λ_=>af (by rw[bI (.inl e2),f1]) ⟨λ_=>rfl,bR⟩) λhq=>⟨λhf=>(by rw[hq]at hf;cases hf),bR⟩
  ·obtain⟨e2,eg⟩:=gop (d:=some 34) (p:= .slice 9 (.tmp 33) (some (.const (.int .i64 4))) (some (.const (.int .i64 8))) none) ho (by kernel_rfl)
   obtain⟨u,hu,rfl⟩:=nE hne 5 32
   obtain⟨u1,hu1,h1⟩:=nE hne 6 33
   exact first c1 5 32 eg (by kernel_rfl) hu (λhq=>af (cN (m:=4) (n:=8) e2 ((C5 hu1).trans (h1 hq)) rfl rfl (by omega) (by omega)).1 ⟨λ_=>rfl,bR⟩) λhq=>⟨λhf=>(by rw[hq]at hf;cases hf),bR⟩
  ·obtain⟨e2,eg⟩:=gop (d:=some 35) (p:= .fieldAddr 78 (.tmp 2) 1) ho (by kernel_rfl)
   obtain⟨u,hu,rfl⟩:=nE hne 5 32
   exact first c1 5 32 eg (by kernel_rfl) hu (λ_=>af (cO 1 (by decide) e2 f2) ⟨λ_=>rfl,bR⟩) λhq=>⟨λhf=>(by rw[hq]at hf;cases hf),bR⟩
  ·obtain⟨e2,eg⟩:=gop (d:=some 36) (p:= .load 9 (.tmp 35)) ho (by kernel_rfl)
   obtain⟨u,hu,rfl⟩:=nE hne 5 32
   obtain⟨u1,hu1,h1⟩:=nE hne 8 35
   exact first c1 5 32 eg (by kernel_rfl) hu (λhq=>af (ay (v:= .string k.chains) bC e2 ((C5 hu1).trans (h1 hq)) ((am hkey' 1).trans rfl)).1 ⟨λ_=>rfl,bR⟩) λhq=>⟨λhf=>(by rw[hq]at hf;cases hf),bR⟩
  ·obtain⟨e2,eg⟩:=gop (d:=some 37) (p:= .binOp .neq 9 (.tmp 34) (.tmp 36) 9) ho (by kernel_rfl)
   obtain⟨u,hu,rfl⟩:=nE hne 5 32
   obtain⟨u1,hu1,h1⟩:=nE hne 7 34
   obtain⟨u2,hu2,h2⟩:=nE hne 9 36
   exact first c1 5 32 eg (by kernel_rfl) hu (λhq=>af (qe e2 ((C5 hu1).trans (h1 hq)) ((C5 hu2).trans (h2 hq))) ⟨λ_=>by rw[hn1],bR⟩) λhq=>⟨λhf=>(by rw[hq]at hf;cases hf),bR⟩
  ·obtain⟨e1,e2,e3⟩:=aJ (d:=some 38) (p:= .pick (.tmp 32) (.const (.bool true)) (.tmp 37)) ho (by kernel_rfl)
   obtain⟨u,hu,rfl⟩:=nE hne 5 32
   obtain⟨u1,hu1,h1⟩:=nE hne 10 37
   refine .inl ⟨e3 _,af (jG e2 (C5 hu)) ⟨?_,bR⟩⟩
   cases hq:c1 with
   |true=>rfl
   |false=>exact(C5 hu1).trans (h1 hq)
  ·obtain⟨e1,e2,e3⟩:=aJ (d:=some 39) (p:= .move (.tmp 38)) ho (by kernel_rfl)
   obtain⟨u,hu,rfl⟩:=nE hne 11 38
   exact .inl ⟨e3 _,EU (.inl e2) hu ⟨rfl,bR⟩⟩
  ·obtain⟨e2,eg⟩:=gop (d:=some 40) (p:= .move (.tmp 1)) ho (by kernel_rfl)
   obtain⟨u,hu,rfl⟩:=nE hne 12 39
   exact first (c1||n1) 12 39 eg (by kernel_rfl) hu (λ_=>af (by rw[bI (.inl e2),f1]) ⟨λ_=>rfl,bR⟩) λhq=>⟨λhf=>(by rw[hq]at hf;cases hf),bR⟩
  ·obtain⟨e2,eg⟩:=gop (d:=some 41) (p:= .move (.tmp 6)) ho (by kernel_rfl)
   obtain⟨u,hu,rfl⟩:=nE hne 12 39
   exact first (c1||n1) 12 39 eg (by kernel_rfl) hu (λ_=>af (by rw[bI (.inl e2),f6]) ⟨λ_=>rfl,bR⟩) λhq=>⟨λhf=>(by rw[hq]at hf;cases hf),bR⟩
  ·obtain⟨e2,eg⟩:=gop (d:=some 42) (p:= .move (.tmp 7)) ho (by kernel_rfl)
   obtain⟨u,hu,rfl⟩:=nE hne 12 39
   exact first (c1||n1) 12 39 eg (by kernel_rfl) hu (λ_=>af (by rw[bI (.inl e2),f7]) ⟨λ_=>rfl,bR⟩) λhq=>⟨λhf=>(by rw[hq]at hf;cases hf),bR⟩
  ·obtain⟨e2,eg⟩:=gop (d:=some 43) (p:= .slice 9 (.tmp 40) (some (.tmp 41)) (some (.tmp 42)) none) ho (by kernel_rfl)
   obtain⟨u,hu,rfl⟩:=nE hne 12 39
   obtain⟨u1,hu1,h1⟩:=nE hne 13 40
   obtain⟨u2,hu2,h2⟩:=nE hne 14 41
   obtain⟨u3,hu3,h3⟩:=nE hne 15 42
   exact first (c1||n1) 12 39 eg (by kernel_rfl) hu (λhq=>af (cN (m:=T) (n:=T+4) e2 ((C5 hu1).trans (h1 hq)) ((C5 hu2).trans (h2 hq)) ((C5 hu3).trans (h3 hq)) (by omega) hb).1 ⟨λ_=>rfl,bR⟩) λhq=>⟨λhf=>(by rw[hq]at hf;cases hf),bR⟩
  ·obtain⟨e2,eg⟩:=gop (d:=some 44) (p:= .fieldAddr 78 (.tmp 2) 0) ho (by kernel_rfl)
   obtain⟨u,hu,rfl⟩:=nE hne 12 39
   exact first (c1||n1) 12 39 eg (by kernel_rfl) hu (λ_=>af (cO 0 (by decide) e2 f2) ⟨λ_=>rfl,bR⟩) λhq=>⟨λhf=>(by rw[hq]at hf;cases hf),bR⟩
  ·obtain⟨e2,eg⟩:=gop (d:=some 45) (p:= .load 9 (.tmp 44)) ho (by kernel_rfl)
   obtain⟨u,hu,rfl⟩:=nE hne 12 39
   obtain⟨u1,hu1,h1⟩:=nE hne 17 44
   exact first (c1||n1) 12 39 eg (by kernel_rfl) hu (λhq=>af (ay (v:= .string k.tree) bC e2 ((C5 hu1).trans (h1 hq)) ((am hkey' 0).trans rfl)).1 ⟨λ_=>rfl,bR⟩) λhq=>⟨λhf=>(by rw[hq]at hf;cases hf),bR⟩
  ·obtain⟨e2,eg⟩:=gop (d:=some 46) (p:= .binOp .neq 9 (.tmp 43) (.tmp 45) 9) ho (by kernel_rfl)
   obtain⟨u,hu,rfl⟩:=nE hne 12 39
   obtain⟨u1,hu1,h1⟩:=nE hne 16 43
   obtain⟨u2,hu2,h2⟩:=nE hne 18 45
   exact first (c1||n1) 12 39 eg (by kernel_rfl) hu (λhq=>af (qe e2 ((C5 hu1).trans (h1 hq)) ((C5 hu2).trans (h2 hq))) ⟨λ_=>by rw[hn2],bR⟩) λhq=>⟨λhf=>(by rw[hq]at hf;cases hf),bR⟩
  ·obtain⟨e1,e2,e3⟩:=aJ (d:=some 47) (p:= .pick (.tmp 39) (.const (.bool true)) (.tmp 46)) ho (by kernel_rfl)
   obtain⟨u,hu,rfl⟩:=nE hne 12 39
   obtain⟨u1,hu1,h1⟩:=nE hne 19 46
   refine .inl ⟨e3 _,af (jG e2 (C5 hu)) ⟨?_,bR⟩⟩
   show _=Value.bool ((c1||n1)||n2)
   cases hq:(c1||n1)with
   |true=>rfl
   |false=>exact(C5 hu1).trans (h1 hq)
 ·obtain⟨u,hu,hu2⟩:=hG.come 20 47 rfl trivial
  obtain rfl:=hu2
  exact⟨rfl,hG.old,hG.base.more hu⟩
 ·exact absurd (gA ho).1 (by obtain⟨rfl,_⟩:=hS;decide)
 ·exact next a w' hS.2.1 hS.2.2
end
def J3(k:cq)(b:ByteArray)(T:Nat)(s:cq):Nat->Value->World->Prop
 |0,v,_=>v= .agg k.key
 |1,v,_=>v= .int .u64 (aN b 0 4)
 |2,v,_=>v= .int .i64 (aN b 0 4)
 |3,v,_=>v= .string b
 |4,v,_=>v= .string (b.extract 8 40)
 |5,v,_=>v= .string b
 |6,v,_=>v= .int .i64 T
 |7,v,_=>v= .string (b.extract 40 T)
 |8,v,_=>v= .string b
 |9,v,_=>v= .int .i64 ((T+4:Nat):Int)
 |10,v,_=>v= .string (b.extract (T+4) b.size)
 |_,v,_=>v= .agg s.cells
theorem Bm{k:cq}{b:ByteArray}{T:Nat}{s:cq}(m:Nat)(v:Value)(w w':World)(hg:J3 k b T s m v w):J3 k b T s m v w':=by
 match m,hg with
 |0,h|1,h|2,h|3,h|4,h|5,h|6,h|7,h|8,h|9,h|10,h|_+11,h=>exact h
section
variable{k s:cq}{b:ByteArray}{N n T:Nat}{Goal:Goroutine->World->Prop}{cs:List Frame}{K:List Item}{a:Act}{w:World}
theorem Gf(hs:s=rU k n b)(hT:T=40+32*n)(hb:T+4<=b.size)(hq:0<=aN b 0 4/\aN b 0 4<9223372036854775808)(hkey:w.heap[N]?=some (.cells k.key 78))(hsig:w.heap[N+1]?=some (.cells eI 82))(hF:aM [(1, .string b),(2, .pt N),(6, .int .i64 T),(7, .int .i64 ((T+4:Nat):Int)),(8, .int .u64 (aN b 0 4)),(4, .pt (N+1))] 61 [] a)
 (next:∀a w',Below (N+1) w w'->w'.heap[N+1]?=some (.cells s.cells 82)->aM [(5, .bool true),(4, .pt (N+1))] 61 [] a->Rn (ac true Tryd.prog) Goal ((base 50).atR a K) cs w'):
 Rn (ac true Tryd.prog) Goal ((base 50).atR a (.code (.region 8 (ae Tryd.f50 8) true)::K)) cs w:=by
 have hltN:=(gA hsig).1
 have hlinks:s.links=b.extract 40 T:=by rw[hs,hT];rfl
 have hpath:s.path=b.extract (T+4) b.size:=by rw[hs,hT];show b.extract (44+32*n) b.size=_;rw[show 40+32*n+4=44+32*n from by omega]
 have hsalt:s.salt=b.extract 8 40:=by rw[hs];rfl
 have hsq:s.q=aN b 0 4:=by rw[hs];rfl
 have hskey:s.key=k.key:=by rw[hs];rfl
 refine Rn.grows (fx:=[(1, .string b),(2, .pt N),(6, .int .i64 T),(7, .int .i64 ((T+4:Nat):Int)),(8, .int .u64 (aN b 0 4)),(4, .pt (N+1))]) (ds:=[49,50,51,52,53,54,55,56,57,58,59,60]) (N:=61) (df:=[]) (G:=J3 k b T s) (by kernel_rfl) (by kernel_rfl) (λm v w w' hg _=>Bm m v w w' hg) (λm o a w' hm ho hb' hfx hne=> ?_)
  (λm a w'=>(m=12/\Below w.heap.size w w'/\aM [(60, .agg s.cells),(4, .pt (N+1))] 61 [] a)\/(m=13/\Below (N+1) w w'/\w'.heap[N+1]?=some (.cells s.cells 82)/\aM [(4, .pt (N+1))] 61 [] a)\/(m=14/\Below (N+1) w w'/\w'.heap[N+1]?=some (.cells s.cells 82)/\aM [(5, .bool true),(4, .pt (N+1))] 61 [] a))
  (λa w' hG=> ?_) (λm o a w' rest hm ho hS hgo=> ?_) (λa w' hS=> ?_) hF.defers hF.size (hF.all (by simp))
 ·have f1:=C5 (hfx _ (mG (i:=0) rfl))
  have f2:=C5 (hfx _ (mG (i:=1) rfl))
  have f6:=C5 (hfx _ (mG (i:=2) rfl))
  have f7:=C5 (hfx _ (mG (i:=3) rfl))
  have f8:=C5 (hfx _ (mG (i:=4) rfl))
  have hkey':=(hb'.block N (gA hkey).1).trans hkey
  have hlt:m<12:=hm
  rcases(by omega:m=0\/m=1\/m=2\/m=3\/m=4\/m=5\/m=6\/m=7\/m=8\/m=9\/m=10\/m=11)with rfl|rfl|rfl|rfl|rfl|rfl|rfl|rfl|rfl|rfl|rfl|rfl
  ·have e2:=aP ho 49 ( .load 78 (.tmp 2))
   exact af (fV (s:=k) e2 f2 hkey' λ_ _=>rfl) ⟨rfl,bR⟩
  ·have e2:=aP ho 50 ( .move (.tmp 8))
   exact af (by rw[bI (.inl e2),f8]) ⟨rfl,bR⟩
  ·have e2:=aP ho 51 ( .convert 55 3 (.tmp 50))
   obtain⟨u,hu,rfl⟩:=nE hne 1 50
   exact af (CU e2 (C5 hu) hq) ⟨rfl,bR⟩
  ·have e2:=aP ho 52 ( .move (.tmp 1))
   exact af (by rw[bI (.inl e2),f1]) ⟨rfl,bR⟩
  ·have e2:=aP ho 53 ( .slice 9 (.tmp 52) (some (.const (.int .i64 8))) (some (.const (.int .i64 40))) none)
   obtain⟨u,hu,rfl⟩:=nE hne 3 52
   exact af (cN (m:=8) (n:=40) e2 (C5 hu) rfl rfl (by omega) (by omega)).1 ⟨rfl,bR⟩
  ·have e2:=aP ho 54 ( .move (.tmp 1))
   exact af (by rw[bI (.inl e2),f1]) ⟨rfl,bR⟩
  ·have e2:=aP ho 55 ( .move (.tmp 6))
   exact af (by rw[bI (.inl e2),f6]) ⟨rfl,bR⟩
  ·have e2:=aP ho 56 ( .slice 9 (.tmp 54) (some (.const (.int .i64 40))) (some (.tmp 55)) none)
   obtain⟨u,hu,rfl⟩:=nE hne 5 54
   obtain⟨u2,hu2,rfl⟩:=nE hne 6 55
   exact af (cN (m:=40) (n:=T) e2 (C5 hu) rfl (C5 hu2) (by omega) (by omega)).1 ⟨rfl,bR⟩
  ·have e2:=aP ho 57 ( .move (.tmp 1))
   exact af (by rw[bI (.inl e2),f1]) ⟨rfl,bR⟩
  ·have e2:=aP ho 58 ( .move (.tmp 7))
   exact af (by rw[bI (.inl e2),f7]) ⟨rfl,bR⟩
  ·have e2:=aP ho 59 ( .slice 9 (.tmp 57) (some (.tmp 58)) none none)
   obtain⟨u,hu,rfl⟩:=nE hne 8 57
   obtain⟨u2,hu2,rfl⟩:=nE hne 9 58
   exact af (ny (n:=T+4) e2 (C5 hu) (C5 hu2) hb) ⟨rfl,bR⟩
  ·have e2:=aP ho 60 ( .build 82 #[(0, .tmp 49),(1, .tmp 51),(2, .tmp 53),(3, .tmp 56),(4, .tmp 59)])
   obtain⟨u0,hu0,rfl⟩:=nE hne 0 49
   obtain⟨u1,hu1,rfl⟩:=nE hne 2 51
   obtain⟨u2,hu2,rfl⟩:=nE hne 4 53
   obtain⟨u3,hu3,rfl⟩:=nE hne 7 56
   obtain⟨u4,hu4,rfl⟩:=nE hne 10 59
   exact af (Hh (s:=s) e2 ((C5 hu0).trans (by rw[hskey])) ((C5 hu1).trans (by rw[hsq])) ((C5 hu2).trans (by rw[hsalt])) ((C5 hu3).trans (by rw[hlinks])) ((C5 hu4).trans (by rw[hpath]))) ⟨rfl,bR⟩
 ·obtain⟨u,hu,hu2⟩:=hG.come 11 60 rfl trivial
  obtain rfl:=hu2
  exact .inl ⟨rfl,hG.old,(hG.base.more hu).only ⟨rfl,rfl,trivial⟩⟩
 ·rcases hS with⟨rfl,hB,hF⟩|⟨rfl,hB,h3,hF⟩|⟨rfl,_⟩
  ·have h3:=(hB.block (N+1) hltN).trans hsig
   refine Rn.does0 hF (.store 82 (.tmp 4) (.tmp 60)) (by kernel_rfl) (by simp) (λo ho=>cr (cells:=s.cells) ho (hF.get (d:=4) rfl) (hF.get (d:=60) rfl) h3 zC rfl (by simp[cq.cells,Value.oneCell'])) λa hF=>hgo a _ (.inr (.inl ⟨rfl,(hB.mono (by omega)).trans (cx w' (N+1) _ (Nat.le_refl _)),setRow_heap w' (N+1) _ _ _ _ h3,hF.only ⟨rfl,trivial⟩⟩))
  ·refine Rn.c hF 5 (.bool true) λa hF=>hgo a w' (.inr (.inr ⟨rfl,hB,h3,hF⟩))
  ·exact absurd (gA ho).1 (by decide)
 ·rcases hS with⟨h,_⟩|⟨h,_⟩|⟨_,hB,h3,hF⟩
  ·exact absurd h (by decide)
  ·exact absurd h (by decide)
  ·exact next a w' hB h3 hF
end
theorem Iw:Tryd.f50.body=some (.seq (.region 0 (ae Tryd.f50 0) false) (.seq (.region 1 (ae Tryd.f50 1) false) (.seq (.region 2 (ae Tryd.f50 2) false) (.seq (.seq (.region 3 (ae Tryd.f50 3) false) (.cond (.tmp 22) (.seq (.region 4 (ae Tryd.f50 4) false) .ret) .skip))
 (.seq (.region 5 (ae Tryd.f50 5) false) (.seq (.seq (.region 6 (ae Tryd.f50 6) true) (.cond (.tmp 47) (.seq (.region 7 (ae Tryd.f50 7) false) .ret) .skip)) (.seq (.region 8 (ae Tryd.f50 8) true) .ret))))))):=by kernel_rfl
def GR(k:cq)(h n:Nat)(b:ByteArray)(w0:World)(e:Ending)(w':World):Prop:=((jE k h n b/\e= .returned (.tuple #[.agg (rU k n b).cells, .bool true]))\/(¬jE k h n b/\e= .returned (.tuple #[.agg eI, .bool false])))/\Below w0.heap.size w0 w'
def EE(k:cq)(h n:Nat)(b:ByteArray)(w0:World)(cs:List Frame)(g:Goroutine)(w':World):Prop:=∃(a:Act) (K:List Item) (bk:Nat) (cells:Array Value) (tt:TypeId) (v:Value),g=hU {(base 50).atR a K with mode:= .returning} cs/\a.defers=[]/\a.tmps[4]?=some (.pointer (some ⟨bk,0,none⟩))/\w'.heap[bk]?=some (.cells cells tt)/\cells.size=12/\a.tmps[5]?=some v/\GR k h n b w0 (.returned (.tuple #[.agg cells,v])) w'
section
variable{kk:cq}{h n:Nat}{b:ByteArray}{w0 w:World}{cs:List Frame}{a:Act}{k:List Item}
theorem GQ(id d:Nat)(hd:d<61/\d≠4)(hbad:¬jE kk h n b)(hF:aM [(4, .pt (w0.heap.size+1))] 61 [] a)(hN:w.heap[w0.heap.size+1]?=some (.cells eI 82))(hold:Below w0.heap.size w0 w)(hL:List.range (ae Tryd.f50 id).size=[0,1,2])
 (h0:((ae Tryd.f50 id)[0]?).map (λo=>(o.dst,o.op,o.guard))=some (some d, .build 82 #[],none)) (h1:((ae Tryd.f50 id)[1]?).map (λo=>(o.dst,o.op,o.guard))=some (none, .store 82 (.tmp 4) (.tmp d),none)) (h2:((ae Tryd.f50 id)[2]?).map (λo=>(o.dst,o.op,o.guard))=some (some 5, .assign (.const (.bool false)),none)):
 Rn (ac true Tryd.prog) (EE kk h n b w0 cs) ((base 50).atR a (.code (.seq (.region id (ae Tryd.f50 id) false) .ret)::k)) cs w:=by
 refine Rn.p rfl (Rn.r hL ?_)
 refine Rn.op hF d (.build 82 #[]) hd.1 h0 (by simp) (λo ho=>CJ ho) λa hF=> ?_
 have e2:((d,Value.agg eI)::[(4, .pt (w0.heap.size+1))]:List (Nat×Value)).lookup 4=some (.pointer (some ⟨w0.heap.size+1,0,none⟩)):=by
  simp[List.lookup,show(4==d)=false from by simpa using Ne.symm hd.2]
 refine Rn.does0 hF (.store 82 (.tmp 4) (.tmp d)) h1 (by simp) (λo ho=>cr (cells:=eI) ho (hF.get (d:=4) e2) (hF.get (d:=d) (by simp[List.lookup])) hN zC rfl (by simp[eI,Value.oneCell'])) λa hF=> ?_
 refine Rn.asc hF 5 (.bool false) (by decide) h2 λa hF=> ?_
 refine Rn.p rfl (Rn.ends rfl (.inr ⟨_,rfl⟩) (Rn.now ⟨a,_,w0.heap.size+1,eI,82, .bool false,rfl,hF.defers,hF.slot 4 _ ?_,setRow_heap w _ _ _ _ _ hN,rfl,hF.slot 5 _ (by simp[List.lookup]), .inr ⟨hbad,rfl⟩,hold.trans (cx _ _ _ (by omega))⟩))
 simp[List.lookup,show(4==d)=false from by simpa using Ne.symm hd.2]
end
theorem CZ(k:cq)(h n:Nat)(hh:k.height=h)(hh8:h<=8)(hn:k.count=n)(hn2:n<=1000)(b:ByteArray)(hb:b.size<=1125899906842624)(w:World):Calls (ac true Tryd.prog) 50 #[.agg k.key, .string b] w (GR k h n b w):=by
 refine kK (t:=4) (u:=5) (ty:=82) (n:=12) Lf.func50 rfl Lf.underlying82 rfl zC λcs=> ?_
 show Rn _ (EE k h n b w cs) _ cs w
 rw[bW (N:=61) [.agg k.key, .string b] Lf.func50 Iw rfl]
 have hF:=bm [.agg k.key, .string b] 61 (by simp)
 refine Rn.p rfl (Rn.r (L:=[0,1,2]) rfl ?_)
 refine Rn.z hF 2 0 78 rfl λa hF=> ?_
 show Rn _ _ _ _ (w.alloc (.cells k.key 78))
 refine Rn.o hF 4 (.alloc 82) (λo ho=>Dc ho) λa hF=> ?_
 rw[ak]at hF
 have hkey:=(bH (w.alloc (.cells k.key 78)) (.cells eI 82) (b:=w.heap.size) (by rw[ak];omega)).trans (aC w _)
 have hsig:=aC (w.alloc (.cells k.key 78)) (.cells eI 82)
 rw[ak]at hsig
 have hold:Below w.heap.size w ((w.alloc (.cells k.key 78)).alloc (.cells eI 82)):=ah (an w _) (by rw[ak];omega) (an _ _)
 revert hkey hsig hold
 generalize (w.alloc (.cells k.key 78)).alloc (.cells eI 82)=w1
 intro hkey hsig hold
 have hlt1:=(gA hsig).1
 refine Rn.c hF 5 (.bool false) λa hF=> ?_
 refine Rn.p rfl (Rn.p rfl (Rn.r (L:=[0,1,2,3,4]) rfl ?_))
 refine Rn.o hF 9 (.fieldAddr 78 (.tmp 2) 6) (λo ho=>cO 6 (by decide) ho (hF.get (d:=2) rfl)) λa hF=> ?_
 refine Rn.o hF 10 (.load 3 (.tmp 9)) (λo ho=>(ay (v:= .int .i64 n) aQ ho (hF.get (d:=9) rfl) ((am hkey 6).trans (by rw[←hn];rfl))).1) λa hF=> ?_
 refine Rn.o hF 11 (.binOp .mul 3 (.tmp 10) (.const (.int .i64 32)) 3) (λo ho=>(dA ho (hF.get (d:=10) rfl) rfl (by omega)).1) λa hF=> ?_
 refine Rn.o hF 12 (.binOp .add 3 (.const (.int .i64 40)) (.tmp 11) 3) (λo ho=>da (m:=40) ho rfl (hF.get (d:=11) rfl) (by omega)) λa hF=> ?_
 rw[show(40:Int)+(n:Int)*32=((40+32*n:Nat):Int)from by omega]at hF
 refine Rn.s hF 6 12 rfl λa hF=> ?_
 refine Rn.p rfl (Rn.p rfl (Rn.r (L:=[0,1,2]) rfl ?_))
 refine Rn.y hF 13 6 rfl λa hF=> ?_
 refine Rn.o hF 14 (.binOp .add 3 (.tmp 13) (.const (.int .i64 4)) 3) (λo ho=>da (n:=4) ho (hF.get (d:=13) rfl) rfl (by omega)) λa hF=> ?_
 rw[show((40+32*n:Nat):Int)+4=((40+32*n+4:Nat):Int)from by omega]at hF
 refine Rn.s hF 7 14 rfl λa hF=> ?_
 have hF:aM [(1, .string b),(2, .pt w.heap.size),(6, .int .i64 ((40+32*n:Nat):Int)),(7, .int .i64 ((40+32*n+4:Nat):Int)),(4, .pt (w.heap.size+1))] 61 [] a:=hF.only ⟨rfl,rfl,rfl,rfl,rfl,trivial⟩
 refine Rn.p rfl (Rn.p rfl (Rn.p rfl (Rn.r (L:=[0,1,2,3,4,5,6,7]) rfl ?_)))
 refine Rn.y hF 15 1 rfl λa hF=> ?_
 refine Rn.o hF 16 (.call {callee:= .builtin .len,args:=#[.tmp 15],argTypes:=#[9]}) (λo ho=>qO ho (hF.get (d:=15) rfl)) λa hF=> ?_
 refine Rn.y hF 17 7 rfl λa hF=> ?_
 refine Rn.o hF 18 (.fieldAddr 78 (.tmp 2) 4) (λo ho=>cO 4 (by decide) ho (hF.get (d:=2) rfl)) λa hF=> ?_
 refine Rn.o hF 19 (.load 3 (.tmp 18)) (λo ho=>(ay (v:= .int .i64 h) aQ ho (hF.get (d:=18) rfl) ((am hkey 4).trans (by rw[←hh];rfl))).1) λa hF=> ?_
 refine Rn.o hF 20 (.binOp .mul 3 (.tmp 19) (.const (.int .i64 32)) 3) (λo ho=>(dA ho (hF.get (d:=19) rfl) rfl (by omega)).1) λa hF=> ?_
 refine Rn.o hF 21 (.binOp .add 3 (.tmp 17) (.tmp 20) 3) (λo ho=>da ho (hF.get (d:=17) rfl) (hF.get (d:=20) rfl) (by omega)) λa hF=> ?_
 refine Rn.o hF 22 (.binOp .neq 3 (.tmp 16) (.tmp 21) 3) (λo ho=>oa ho (hF.get (d:=16) rfl) (hF.get (d:=21) rfl)) λa hF=> ?_
 refine Rn.p rfl (Rn.cond _ (hF.get (d:=22) rfl) ?_)
 by_cases hsz:b.size=44+32*n+32*h
 ·rw[show((b.size:Int) !=((40+32*n+4:Nat):Int)+(h:Int)*32)=false from by simp;omega]
  have h0:=lZ (b.extract 0 4).data.toList 4 (by simp;omega)
  have h0':0<=aN b 0 4/\aN b 0 4<4294967296:=⟨h0.1,by have:=h0.2;rw[show(256:Int)^4=4294967296 from by decide]at this;exact this⟩
  refine Rn.p rfl (Rn.p rfl (Rn.r (L:=[0,1,2,3]) rfl ?_))
  refine Rn.y hF 24 1 rfl λa hF=> ?_
  refine Rn.o hF 25 (.slice 9 (.tmp 24) none (some (.const (.int .i64 4))) none) (λo ho=>ul (n:=4) ho (hF.get (d:=24) rfl) rfl (by omega)) λa hF=> ?_
  refine Rn.calls (f:=63) (xs:=#[.tmp 25]) (ats:=#[9]) (args:=#[.string (b.extract 0 4)]) hF 26 (by decide) (by kernel_rfl) (by simp[hF.get (d:=25) rfl]) Lf.func63 (by kernel_rfl) (by kernel_rfl)
   (R:=λv w'=>v= .int .u64 (aN b 0 4)/\w'=w1) ((ky (b.extract 0 4) w1 (by rw[ByteArray.size_extract];omega)).mono λe w' h=>⟨_,h.1,rfl,h.2⟩) λv w2 hv a hF=> ?_
  obtain⟨rfl,rfl⟩:=hv
  refine Rn.s hF 8 26 rfl λa hF=> ?_
  refine Rn.p rfl (Rn.p rfl (Rn.p rfl ?_))
  have h2h:2^h<=256:=Nat.le_trans (Nat.pow_le_pow_right (by decide) hh8) (by decide)
  refine I7 (k:=k) (b:=b) (N:=w.heap.size) (H2:=2^h) (h:=h) (T:=40+32*n) rfl hh hh8 h2h (by omega) (by omega) rfl rfl rfl hkey (hF.only ⟨rfl,rfl,rfl,rfl,rfl,rfl,trivial⟩) λa w3 hb3 hF=> ?_
  have hkey3:=(hb3.block _ (gA hkey).1).trans hkey
  have hsig3:=(hb3.block _ hlt1).trans hsig
  have hold3:Below w.heap.size w w3:=ah hold hold.size hb3
  refine Rn.cond _ (hF.get (d:=47) rfl) ?_
  by_cases hok:jE k h n b
  ·have e:(decide (aN b 0 4≥((2^h:Nat):Int))||((b.extract 4 8).data.toList !=k.chains.data.toList)||((b.extract (40+32*n) (40+32*n+4)).data.toList !=k.tree.data.toList))=false:=by
    obtain⟨_,h1,h2,h3⟩:=hok
    rw[show 44+32*n=40+32*n+4 from by omega]at h3
    have h1':¬aN b 0 4≥((2^h:Nat):Int):=by rw[Int.natCast_pow];exact Int.not_le.2 h1
    rw[decide_eq_false h1',h2,h3]
    simp
   rw[e]
   refine Rn.p rfl (Rn.p rfl ?_)
   refine Gf (k:=k) (s:=rU k n b) (n:=n) rfl rfl (by omega) ⟨h0'.1,by omega⟩ hkey3 hsig3 (hF.only ⟨rfl,rfl,rfl,rfl,rfl,rfl,trivial⟩) λa w4 hb4 hs4 hF=> ?_
   exact Rn.ends rfl (.inr ⟨_,rfl⟩) (Rn.now ⟨a,_,w.heap.size+1,(rU k n b).cells,82, .bool true,rfl,hF.defers,hF.slot 4 _ rfl,hs4,rfl,hF.slot 5 _ rfl, .inl ⟨hok,rfl⟩,hold3.trans (hb4.mono (by omega))⟩)
  ·have e:(decide (aN b 0 4≥((2^h:Nat):Int))||((b.extract 4 8).data.toList !=k.chains.data.toList)||((b.extract (40+32*n) (40+32*n+4)).data.toList !=k.tree.data.toList))=true:=by
    refine Classical.byContradiction λhne=>hok ?_
    rw[Bool.not_eq_true,Bool.or_eq_false_iff,Bool.or_eq_false_iff,decide_eq_false_iff_not,bne_eq_false_iff_eq,bne_eq_false_iff_eq]at hne
    obtain⟨⟨h1,h2⟩,h3⟩:=hne
    refine⟨hsz, ?_,h2, ?_⟩
    ·rw[Int.natCast_pow]at h1
     exact Int.not_le.1 h1
    ·rw[show 44+32*n=40+32*n+4 from by omega]
     exact h3
   rw[e]
   exact GQ 7 48 (by decide) hok (hF.only ⟨rfl,trivial⟩) hsig3 hold3 rfl (by kernel_rfl) (by kernel_rfl) (by kernel_rfl)
 ·rw[show((b.size:Int) !=((40+32*n+4:Nat):Int)+(h:Int)*32)=true from by simp;omega]
  exact GQ 4 23 (by decide) (λh=>hsz h.1) (hF.only ⟨rfl,trivial⟩) hsig hold rfl (by kernel_rfl) (by kernel_rfl) (by kernel_rfl)
def hK(key:ByteArray):Nat:=cX (aN key 0 4)
def wK(key:ByteArray):Nat:=eW (aN key 4 8)
def nK(key:ByteArray):Nat:=gQ (aN key 4 8)
def xK(key:ByteArray):Nat:=gK (aN key 4 8)
def lp(KS:List Int)(key msg sig:ByteArray):ByteArray:=vB KS (rU (fM key) (nK key) sig) (hK key) (wK key) (xK key) (nK key) (aN sig 0 4).toNat msg
def sD(KS:List Int)(key msg sig:ByteArray)(c:Int):Prop:=
 (¬fi key/\c=9)\/(fi key/\¬jE (fM key) (hK key) (nK key) sig/\c=10)\/(fi key/\jE (fM key) (hK key) (nK key) sig/\(lp KS key msg sig).data.toList≠(key.extract 24 key.size).data.toList/\c=10)\/(fi key/\jE (fM key) (hK key) (nK key) sig/\(lp KS key msg sig).data.toList=(key.extract 24 key.size).data.toList/\c=0)
theorem kinds{key:ByteArray}(h:fi key):(hK key=5\/hK key=2)/\((wK key=2/\nK key=133/\xK key=6)\/(wK key=4/\nK key=67/\xK key=4)\/(wK key=8/\nK key=34/\xK key=0)):=by
 obtain⟨_,h1,h2⟩:=h
 constructor
 ·unfold hK cX at*
  split
  ·exact .inl rfl
  ·split
   ·exact .inr rfl
   ·rename_i a b
    simp[a,b]at h1
 ·unfold wK nK xK eW gQ gK at*
  by_cases c2:aN key 4 8=2
  ·rw[c2];exact .inl (by decide)
  ·by_cases c3:aN key 4 8=3
   ·rw[c3];exact .inr (.inl (by decide))
   ·by_cases c4:aN key 4 8=4
    ·rw[c4];exact .inr (.inr (by decide))
    ·simp[c2,c3,c4]at h2
theorem DR{key sig:ByteArray}(h:fi key)(hs:jE (fM key) (hK key) (nK key) sig):K4 (rU (fM key) (nK key) sig) (hK key) (wK key) (xK key) (nK key) (aN sig 0 4).toNat:=by
 obtain⟨hh,hk⟩:=kinds h
 obtain⟨h56,_,_⟩:=h
 obtain⟨hsz,hq,_,_⟩:=hs
 have h0:0<=aN sig 0 4:=(lZ (sig.extract 0 4).data.toList 4 (by simp;omega)).1
 have hq0:((aN sig 0 4).toNat:Int)=aN sig 0 4:=Int.toNat_of_nonneg h0
 exact
  {wid:=by rcases hk with⟨h,_⟩|⟨h,_⟩|⟨h,_⟩<;>rw[h]<;>simp[pZ]
   width:=rfl
   shift:=rfl
   shift8:=by omega
   count:=rfl
   one:=by omega
   most:=by rcases hk with⟨h,h2,_⟩|⟨h,h2,_⟩|⟨h,h2,_⟩<;>rw[h,h2]<;>decide
   height:=rfl
   low:=by omega
   qq:=hq0.symm
   leaf:=by
    have:((aN sig 0 4).toNat:Int)<((2^hK key:Nat):Int):=by rw[hq0,Int.natCast_pow];exact hq
    exact Int.ofNat_lt.1 this
   id:=by show(key.extract 8 24).size<=1000;rw[ByteArray.size_extract];omega
   salt:=by show(sig.extract 8 40).size<=1000;rw[ByteArray.size_extract];omega
   links:=by show nK key*32<=(sig.extract 40 (40+32*nK key)).size;rw[ByteArray.size_extract];omega
   path:=by show(sig.extract (44+32*nK key) sig.size).size=32*hK key;rw[ByteArray.size_extract];omega}
def KU(s:cq)(msg root:ByteArray)(b7:Nat)(rt:ByteArray)(bad ne:Bool):Nat->Value->World->Prop
 |0,v,_=>v= .bool (!bad)
 |1,v,_=>v= .bool bad
 |2,v,_=>v= .bool bad
 |3,v,_=>bad=false->v= .agg s.cells
 |4,v,_=>bad=false->v= .string msg
 |5,v,_=>bad=false->v= .string rt
 |6,v,_=>bad=false->v= .pointer (some ⟨b7,3,none⟩)
 |7,v,_=>bad=false->v= .string root
 |8,v,_=>bad=false->v= .bool ne
 |_,v,_=>v= .bool (bad||ne)
theorem DK{s:cq}{msg root:ByteArray}{b7:Nat}{rt:ByteArray}{bad ne:Bool}(m:Nat)(v:Value)(w w':World)(hg:KU s msg root b7 rt bad ne m v w):KU s msg root b7 rt bad ne m v w':=by
 match m,hg with
 |0,h|1,h|2,h|3,h|4,h|5,h|6,h|7,h|8,h|_+9,h=>exact h
section
variable{s:cq}{msg rt:ByteArray}{k:cq}{b7 b9:Nat}{bad ne:Bool}{Goal:Goroutine->World->Prop}{cs:List Frame}{K:List Item}{a:Act}{w:World}
theorem Ic(hC:bad=false->∀w',Below w.heap.size w w'->Calls (ac true Tryd.prog) 51 #[.agg s.cells, .string msg] w' λe w''=>e= .returned (.string rt)/\Below w'.heap.size w' w'')(hne:ne=(rt.data.toList !=k.root.data.toList))(h7:w.heap[b7]?=some (.cells k.key 78))(h9:bad=false->w.heap[b9]?=some (.cells s.cells 82))
 (hF:aM [(1, .string msg),(7, .pt b7),(8, .bool (!bad)),(9, .pt b9)] 33 [] a)
 (next:∀a w',Below w.heap.size w w'->aM [(32, .bool (bad||ne))] 33 [] a->Rn (ac true Tryd.prog) Goal ((base 32).atR a K) cs w'):
 Rn (ac true Tryd.prog) Goal ((base 32).atR a (.code (.region 5 (ae Tryd.f32 5) true)::K)) cs w:=by
 refine Rn.growsG (fx:=[(1, .string msg),(7, .pt b7),(8, .bool (!bad)),(9, .pt b9)]) (ds:=[23,24,25,26,27,28,29,30,31,32]) (N:=33) (df:=[]) (G:=KU s msg k.root b7 rt bad ne) (by kernel_rfl) (by kernel_rfl) (λm v w w' hg _=>DK m v w w' hg) (λm o a w' hm ho hb' hsz hfx hne'=> ?_)
  (λm a w'=>m=10/\Below w.heap.size w w'/\aM [(32, .bool (bad||ne))] 33 [] a)
  (λa w' hG=> ?_) (λm o a w' rest hm ho hS hgo=> ?_) (λa w' hS=> ?_) hF.defers hF.size (hF.all (by simp))
 ·have f1:=C5 (hfx _ (mG (i:=0) rfl))
  have f7:=C5 (hfx _ (mG (i:=1) rfl))
  have f8:=C5 (hfx _ (mG (i:=2) rfl))
  have f9:=C5 (hfx _ (mG (i:=3) rfl))
  have h7':=(hb'.block b7 (gA h7).1).trans h7
  have first:∀{o:Oper} {R:Value->World->Prop},o.guard=some (2,false)->a.tmps[25]?=some (.bool bad)->(bad=false->uY (ac true Tryd.prog) a o w' R)->(bad=true->R undef w')->ua (ac true Tryd.prog) (ae Tryd.f32 5) a o w' R:=λ{o R} h1 h3 h4 h5=>by
   have hw:=lQ (ops:=ae Tryd.f32 5) (tmps:=a.tmps) (d:=25) h1 (by kernel_rfl) h3
   cases bad with
   |false=>exact .inl ⟨hw,h4 rfl⟩
   |true=>exact .inr ⟨hw,h5 rfl⟩
  have gop:∀{m:Nat} {o:Oper} {d:Option Tmp} {p:Op} {g:Nat},(ae Tryd.f32 5)[m]?=some o->((ae Tryd.f32 5)[m]?).map (λo=>(o.dst,o.op,o.guard))=some (d,p,some (g,false))->o.op=p/\o.guard=some (g,false):=λ{m o d p g} ho hmap=>by
   rw[ho]at hmap
   simp only[Option.map_some,Option.some.injEq,Prod.mk.injEq]at hmap
   exact⟨hmap.2.1,hmap.2.2⟩
  have hlt:m<10:=hm
  rcases(by omega:m=0\/m=1\/m=2\/m=3\/m=4\/m=5\/m=6\/m=7\/m=8\/m=9)with rfl|rfl|rfl|rfl|rfl|rfl|rfl|rfl|rfl|rfl
  ·obtain⟨e1,e2,e3⟩:=aJ (d:=some 23) (p:= .move (.tmp 8)) ho (by kernel_rfl)
   exact .inl ⟨e3 _,af (by rw[bI (.inl e2),f8]) ⟨rfl,bR⟩⟩
  ·obtain⟨e1,e2,e3⟩:=aJ (d:=some 24) (p:= .unOp .not 4 (.tmp 23)) ho (by kernel_rfl)
   obtain⟨u,hu,rfl⟩:=hne' 0 23 rfl (by kernel_rfl)
   exact .inl ⟨e3 _,af (lb e2 (C5 hu)).1 ⟨by show Value.bool (!!bad)=Value.bool bad;rw[Bool.not_not],bR⟩⟩
  ·obtain⟨e1,e2,e3⟩:=aJ (d:=some 25) (p:= .move (.tmp 24)) ho (by kernel_rfl)
   obtain⟨u,hu,rfl⟩:=hne' 1 24 rfl (by kernel_rfl)
   exact .inl ⟨e3 _,EU (.inl e2) hu ⟨rfl,bR⟩⟩
  ·obtain⟨e2,eg⟩:=gop (d:=some 26) (p:= .load 82 (.tmp 9)) ho (by kernel_rfl)
   obtain⟨u,hu,rfl⟩:=hne' 2 25 rfl (by kernel_rfl)
   exact first eg hu (λhq=>af (jy (ex:=#[]) e2 f9 (by rw[Array.append_empty];exact(hb'.block b9 (gA (h9 hq)).1).trans (h9 hq))).1 ⟨λ_=>rfl,bR⟩) λhq=>⟨λhf=>(by rw[hq]at hf;cases hf),bR⟩
  ·obtain⟨e2,eg⟩:=gop (d:=some 27) (p:= .move (.tmp 1)) ho (by kernel_rfl)
   obtain⟨u,hu,rfl⟩:=hne' 2 25 rfl (by kernel_rfl)
   exact first eg hu (λ_=>af (by rw[bI (.inl e2),f1]) ⟨λ_=>rfl,bR⟩) λhq=>⟨λhf=>(by rw[hq]at hf;cases hf),bR⟩
  ·obtain⟨e2,eg⟩:=gop (d:=some 28) (p:= .call {callee:= .value (.func 51),args:=#[.tmp 26, .tmp 27],argTypes:=#[82,9]}) ho (by kernel_rfl)
   obtain⟨u,hu,rfl⟩:=hne' 2 25 rfl (by kernel_rfl)
   obtain⟨u1,hu1,h1⟩:=hne' 3 26 rfl (by kernel_rfl)
   obtain⟨u2,hu2,h2⟩:=hne' 4 27 rfl (by kernel_rfl)
   refine first eg hu (λhq=> ?_) λhq=>⟨λhf=>(by rw[hq]at hf;cases hf),bR⟩
   have hr:=az (w:=w') e2 (show(#[Operand.tmp 26, .tmp 27]:Array Operand).map a.eval=#[.agg s.cells, .string msg]from by simp[C5 hu1,C5 hu2,h1 hq,h2 hq]) (rI (P:=ac true Tryd.prog) Lf.func51 _)
   exact .inr ⟨_,_,hr.1,(hC hq w' hb').mono λe w'' h=>⟨_,h.1,λ_=>rfl,h.2⟩⟩
  ·obtain⟨e2,eg⟩:=gop (d:=some 29) (p:= .fieldAddr 78 (.tmp 7) 3) ho (by kernel_rfl)
   obtain⟨u,hu,rfl⟩:=hne' 2 25 rfl (by kernel_rfl)
   exact first eg hu (λ_=>af (cO 3 (by decide) e2 f7) ⟨λ_=>rfl,bR⟩) λhq=>⟨λhf=>(by rw[hq]at hf;cases hf),bR⟩
  ·obtain⟨e2,eg⟩:=gop (d:=some 30) (p:= .load 9 (.tmp 29)) ho (by kernel_rfl)
   obtain⟨u,hu,rfl⟩:=hne' 2 25 rfl (by kernel_rfl)
   obtain⟨u1,hu1,h1⟩:=hne' 6 29 rfl (by kernel_rfl)
   exact first eg hu (λhq=>af (ay (v:= .string k.root) bC e2 ((C5 hu1).trans (h1 hq)) ((am h7' 3).trans rfl)).1 ⟨λ_=>rfl,bR⟩) λhq=>⟨λhf=>(by rw[hq]at hf;cases hf),bR⟩
  ·obtain⟨e2,eg⟩:=gop (d:=some 31) (p:= .binOp .neq 9 (.tmp 28) (.tmp 30) 9) ho (by kernel_rfl)
   obtain⟨u,hu,rfl⟩:=hne' 2 25 rfl (by kernel_rfl)
   obtain⟨u1,hu1,h1⟩:=hne' 5 28 rfl (by kernel_rfl)
   obtain⟨u2,hu2,h2⟩:=hne' 7 30 rfl (by kernel_rfl)
   exact first eg hu (λhq=>af (qe e2 ((C5 hu1).trans (h1 hq)) ((C5 hu2).trans (h2 hq))) ⟨λ_=>by rw[hne],bR⟩) λhq=>⟨λhf=>(by rw[hq]at hf;cases hf),bR⟩
  ·obtain⟨e1,e2,e3⟩:=aJ (d:=some 32) (p:= .pick (.tmp 25) (.const (.bool true)) (.tmp 31)) ho (by kernel_rfl)
   obtain⟨u,hu,rfl⟩:=hne' 2 25 rfl (by kernel_rfl)
   obtain⟨u1,hu1,h1⟩:=hne' 8 31 rfl (by kernel_rfl)
   refine .inl ⟨e3 _,af (jG e2 (C5 hu)) ⟨?_,bR⟩⟩
   cases hq:bad with
   |true=>rfl
   |false=>exact(C5 hu1).trans (h1 hq)
 ·obtain⟨u,hu,hu2⟩:=hG.come 9 32 rfl trivial
  obtain rfl:=hu2
  exact⟨rfl,hG.old,(hG.base.more hu).only ⟨rfl,trivial⟩⟩
 ·exact absurd (gA ho).1 (by obtain⟨rfl,_⟩:=hS;decide)
 ·exact next a w' hS.2.1 hS.2.2
end
end Go.Proofs.YtkmoglhgkcnalaaDoor.L1
