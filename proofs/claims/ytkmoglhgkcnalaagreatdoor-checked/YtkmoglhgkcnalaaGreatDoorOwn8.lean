/- A part of what the last text of the claim imports: texts laid together, and made small, by a program. -/
import Derived.Test.YtkmoglhgkcnalaaGreatDoorOwn7
set_option maxHeartbeats 16000000
set_option maxRecDepth 100000
open Array renaming length_toList->QB
open ByteArray renaming size_append->Tg
open Go.Act renaming put->Rq
open Go.Instr renaming loadAt->AT,fieldAt->BY,alloc->Qz
open Go.IntKind renaming wrap_i64->Q3,i64->Q4
open Go.Region renaming wanted->Te
open Go.Value renaming agg->S3
open Go.World renaming frozen?->Qa
open Int renaming natCast_pow->Q1,natCast_mul->QK,natCast_ediv->QU
open List renaming lookup->IT,range->Q8,flatMap_cons->S4,range_succ->Sb
open Nat renaming le_refl->T6,lt_of_lt_of_le->T7,le_trans->By,pow_le_pow_right->Qp,zero_le->QH,div_le_self->Ry,mul_le_mul_left->RJ
open Ne renaming symm->QF
open Option renaming map_some->T8
namespace Go.Proofs.YtkmoglhgkcnalaaGreatDoor
open Go
variable{n b i N l m k j b3 b4 b7 b9 Wg wd:Nat}{w w' w0 wL wM wE:World}{fr:Frame}{v:Value}{cs:List Frame}{args cv:Array Value}{V RO D V0:Nat->Prop}{q main listen ql:Bool}{g:Goroutine}{a:Act}{K:List Item}{P PL PM:Program}{x:Operand}{ops:Array Oper}{KS:List Int}{t u:TypeId}{o:Oper}{f:FuncId}{es:Array Event}{Goal:Goroutine->World->Prop}{fn:Func}{rest:List Nat}{ds:List Deferred}{X:aW}{F:List (Nat×Value)}{e:Event}{listed:Array Bool}{c:Int}{s msg key sig:ByteArray}{ρ:Nat->Nat}{ev:Operand->Value}{Post:Value->World->Prop}
namespace L1
open Go.Conc Go.RowKit
def N0(s:dw)(N lf M:Nat)(en Xn:ByteArray):Nat->Value->World->Prop
 |0,v,_=>v= .pk N 0
 |1,v,_=>v= .pk N 2
 |2,v,_=>v= .string (s.id)
 |3,v,_=>v= .int .i64 (lf:Int)
 |4,v,_=>v= .string (ob lf 4)
 |5,v,_=>v= .string (ob 33410 2)
 |6,v,_=>v= .string (en)
 |7,v,w=>Bs 4 #[.string s.id, .string (ob lf 4), .string (ob 33410 2), .string en] 9 v w
 |8,v,_=>v= .string Xn
 |_,v,w=>Bx M #[.string ⟨#[]⟩] 9 v w
theorem ES{s:dw}{lf M:Nat}{en Xn:ByteArray}(k:Nat)(v:Value)(w w':World)(a:N0 s N lf M en Xn k v w)(b:Bw w w'):N0 s N lf M en Xn k v w':=by
 match k,a with
 |0,a|1,a|2,a|3,a|4,a|5,a|6,a=>exact a
 |7,a=>exact Bs.mono a b
 |8,a=>exact a
 |k+9,a=>exact Bx.mono a b
theorem K1{s:dw}{lf M:Nat}{en Xn:ByteArray}(W:Xn=⟨(dU KS ([s.id,ob lf 4,ob 33410 2,en].flatMap λp=>p.data.toList)).toArray⟩)(O:KS.length=64)(V:lf<9223372036854775808)(z:([s.id,ob lf 4,ob 33410 2,en].flatMap λp=>p.data.toList).length<=576460752303423488)(X:w.rangeAt 0 0 (aM KS))(Y:0<w.heap.size)(l:w.heap[N]?=some (.cells s.cells 119))
 (hM:M=w.heap.size)
 (j:Has [(2, .pt N),(7, .s (en)),(8, .i (lf:Int))] 81 ds a)
 (next:∀a w',(∃b9 n,M<=b9/\Bw w n/\n.heap[b9]?=some (.cells #[.string ⟨#[]⟩] 9)/\w'=n.setCell ⟨b9,0,none⟩ (.s Xn)/\Has [(9, .pt b9),(56, .s Xn),(2, .pt N),(7, .s en),(8, .i (lf:Int))] 81 ds a)->Rn lT Goal (fr.atR a K) cs w'):
 Rn lT Goal (fr.atR a (.code (rD Tryz.f71 5)::K)) cs w:=by
 refine Rn.grows (fx:=[(2, .pt N),(7, .s (en)),(8, .i (lf:Int))]) (ds:=[48,49,50,51,52,53,54,55,56,9]) (N:=81) (df:=ds) (G:=N0 s N lf M en Xn) k_ k_ ES (λm o a w' R f J t d=> ?_)
  (λm a w'=>(m=10/\∃b9,M<=b9/\Bw w w'/\w'.heap[b9]?=some (.cells #[.string ⟨#[]⟩] 9)/\Has [(9, .pt b9),(56, .s Xn),(2, .pt N),(7, .s en),(8, .i (lf:Int))] 81 ds a)\/(m=11/\∃b9 n,M<=b9/\Bw w n/\n.heap[b9]?=some (.cells #[.string ⟨#[]⟩] 9)/\w'=n.setCell ⟨b9,0,none⟩ (.s Xn)/\Has [(9, .pt b9),(56, .s Xn),(2, .pt N),(7, .s en),(8, .i (lf:Int))] 81 ds a)) (λa w' D=> ?_) (λm o a w' Q R f L I=> ?_) (λa w' L=> ?_) j.defers j.size (j.all s_)
 ·have r:=(J.block N (gA l).1).trans l;have U:m<10:=R;rcases(o_:m=0\/m=1\/m=2\/m=3\/m=4\/m=5\/m=6\/m=7\/m=8\/m=9)with rfl|rfl|rfl|rfl|rfl|rfl|rfl|rfl|rfl|rfl
  ·have c:=oS f;exact aF (jh 0 0 d_ c (aA (t _ (mG (i:=0) rfl)))) ⟨rfl,bR⟩
  ·have c:=oS f;obtain⟨u,g,rfl⟩:=nE d 0 48;exact aF (eG 2 d_ c (aA g)) ⟨rfl,bR⟩
  ·have c:=oS f;obtain⟨u,g,rfl⟩:=nE d 1 49;exact aF (aN bA c (aA g) ((aH r 2).trans rfl)).1 ⟨rfl,bR⟩
  ·have c:=oS f;exact mp (.inl c) (t _ (mG (i:=2) rfl)) ⟨rfl,bR⟩
  ·have c:=oS f;obtain⟨u,g,rfl⟩:=nE d 3 51;have y:=bG (w:=w') c (show(#[Operand.tmp 51]:Array Operand).map a.eval=#[.i ((lf:Nat):Int)]from by simp[aA g]) (rI (P:=aJ true tP) Lf.func89 _);exact .inr ⟨_,_,y.1,(sO (lf) o_ w').mono λe x h=>⟨_,h.1,rfl,h.2⟩⟩
  ·have c:=oS f;have y:=bG (w:=w') c (show(#[Operand.const (.i 33410)]:Array Operand).map a.eval=#[.i ((33410:Nat):Int)]from by simp;rfl) (rI (P:=aJ true tP) Lf.func92 _);exact .inr ⟨_,_,y.1,(nP 33410 d_ w').mono λe x h=>⟨_,h.1,rfl,h.2⟩⟩
  ·have c:=oS f;exact mp (.inl c) (t _ (mG (i:=1) rfl)) ⟨rfl,bR⟩
  ·have c:=oS f;obtain⟨u0,H,rfl⟩:=nE d 2 50;obtain⟨u1,F,rfl⟩:=nE d 4 52;obtain⟨S,q,rfl⟩:=nE d 5 53;obtain⟨Z,E,rfl⟩:=nE d 6 54;exact aF (CF c (aA H) (aA F) (aA q) (aA E)) ⟨⟨w'.heap.size,rfl,aP w' _⟩,PK w' _⟩
  ·have c:=oS f;obtain⟨u,g,p,rfl,T⟩:=nE d 7 55;have y:=bG (w:=w') c (show(#[Operand.tmp 55]:Array Operand).map a.eval=#[.sk p 4 4]from by simp[aA g]) (rI (P:=aJ true tP) Lf.func91 _);exact .inr ⟨_,_,y.1,(pU KS [s.id,ob lf 4,ob 33410 2,en] _ w' p 4 rfl rfl T (Pq Y J X) O z s_).mono λe x ⟨v,C,B,A⟩=>⟨v,C,B.trans (by rw[W]),A⟩⟩
  ·have c:=oS f;exact aF (qA c).1 ⟨⟨w'.heap.size,rfl,by have:=J.size;omega,aP w' _⟩,PK w' _⟩
 ·obtain⟨u,g,b9,rfl,C,B⟩:=D.come 9 9 rfl trivial;obtain⟨S,q,rfl⟩:=D.come 8 56 rfl trivial;exact .inl ⟨rfl,b9,C,D.old,B,(D.base.more q).more g⟩
 ·rcases L with⟨rfl,b9,C,B,A,j⟩|⟨rfl,_⟩
  ·refine Rn.does0 j (.store 9 (.tmp 9) (.tmp 56)) k_ s_ (λo f=>(dH (w:=w') (b:=b9) (k:=0) (v:= .s Xn) (v0:= .string ⟨#[]⟩) rfl rfl k_ f (j.G 9) (j.G 56) ((aH A 0).trans rfl) (by simp[Qa,A])).1) λa j=>I a _ (.inr ⟨rfl,b9,w',C,B,A,rfl,j⟩)
  ·exact absurd (gA f).1 d_
 ·rcases L with⟨h,_⟩|⟨_,h⟩
  ·exact absurd h d_
  ·exact next a w' h
def MZ(vb:Value)(x:ByteArray):Nat->Value->World->Prop
 |0,v,_=>v=vb
 |1,v,_=>v= .string (x)
 |2,v,_=>v=vb
 |_,v,_=>v= .string (x)
theorem ER{vb:Value}{x:ByteArray}(k:Nat)(v:Value)(w w':World)(a:MZ vb x k v w)(_:Bw w w'):MZ vb x k v w':=by
 match k,a with
 |0,a|1,a|2,a|k+3,a=>exact a
theorem K0{b9:Nat}{vn vb:Value}{x:ByteArray}(b:w.heap[b9]?=some (.cells #[.s x] 9))
 (p:Has [(2, .pt N),(9, .pt b9),(10,vn),(11,vb)] 81 ds a)
 (next:∀a w',(Bw w w'/\Has [(12,vb),(13, .s x),(2, .pt N),(9, .pt b9),(10,vn),(11,vb)] 81 ds a)->Rn lT Goal (fr.atR a K) cs w'):
 Rn lT Goal (fr.atR a (.code (rD Tryz.f71 11)::K)) cs w:=by
 refine Rn.grows (fx:=[(2, .pt N),(9, .pt b9),(10,vn),(11,vb)]) (ds:=[67,68,12,13]) (N:=81) (df:=ds) (G:=MZ vb x) k_ k_ ER (λm o a w' r e v h g=> ?_)
  (λm a w'=>m=4/\Bw w w'/\Has [(12,vb),(13, .s x),(2, .pt N),(9, .pt b9),(10,vn),(11,vb)] 81 ds a) (λa w' c=> ?_) (λm o a w' q r e n t=> ?_) (λa w' n=> ?_) p.defers p.size (p.all s_)
 ·have s:m<4:=r;rcases(o_:m=0\/m=1\/m=2\/m=3)with rfl|rfl|rfl|rfl
  ·have d:=oS e;exact mp (.inl d) (h _ (mG (i:=3) rfl)) ⟨rfl,bR⟩
  ·have d:=oS e;exact aF (aN bA d (aA (h _ (mG (i:=1) rfl))) ((aH ((v.block b9 (gA b).1).trans b) 0).trans rfl)).1 ⟨rfl,bR⟩
  ·have d:=oS e;obtain⟨u,f,c⟩:=nE g 0 67;exact mp (.inr d) f ⟨c,bR⟩
  ·have d:=oS e;obtain⟨u,f,c⟩:=nE g 1 68;exact mp (.inr d) f ⟨c,bR⟩
 ·obtain⟨u,f,l⟩:=c.come 2 12 rfl trivial;obtain⟨y,k,j⟩:=c.come 3 13 rfl trivial;obtain rfl:=l;obtain rfl:=j;exact⟨rfl,c.old,(c.base.more k).more f⟩
 ·exact absurd (gA e).1 (by obtain⟨rfl,_⟩:=n;decide)
 ·exact next a w' n.2
def MY(s:dw)(N nn:Nat)(lt rt Xn:ByteArray):Nat->Value->World->Prop
 |0,v,_=>v= .pk N 0
 |1,v,_=>v= .pk N 2
 |2,v,_=>v= .string (s.id)
 |3,v,_=>v= .int .i64 (nn:Int)
 |4,v,_=>v= .int .i64 ((nn/2:Nat):Int)
 |5,v,_=>v= .string (ob (nn/2) 4)
 |6,v,_=>v= .string (ob 33667 2)
 |7,v,_=>v= .string (lt)
 |8,v,_=>v= .string (rt)
 |9,v,w=>Bs 5 #[.string s.id, .string (ob (nn/2) 4), .string (ob 33667 2), .string lt, .string rt] 9 v w
 |_,v,_=>v= .string Xn
theorem EQ{s:dw}{b:Nat}{lt rt Xn:ByteArray}(k:Nat)(v:Value)(w w':World)(a:MY s N b lt rt Xn k v w)(c:Bw w w'):MY s N b lt rt Xn k v w':=by
 match k,a with
 |0,a|1,a|2,a|3,a|4,a|5,a|6,a|7,a|8,a=>exact a
 |9,a=>exact Bs.mono a c
 |k+10,a=>exact a
theorem JZ{s:dw}{j b9:Nat}{x t rt Xn:ByteArray}(Z:Xn=⟨(dU KS ([s.id,ob (j/2) 4,ob 33667 2,t,rt].flatMap λp=>p.data.toList)).toArray⟩)(Q:KS.length=64)(X:j<9223372036854775808)(D:([s.id,ob (j/2) 4,ob 33667 2,t,rt].flatMap λp=>p.data.toList).length<=576460752303423488)(hK:w.rangeAt 0 0 (aM KS))(h0:0<w.heap.size)(q:w.heap[N]?=some (.cells s.cells 119))
 (g:w.heap[b9]?=some (.cells #[.s x] 9))
 (r:Has [(2, .pt N),(9, .pt b9),(10, .i (j:Int)),(12, .s (t)),(13, .s (rt))] 81 ds a)
 (next:∀a w',(∃A,Bw w A/\w'=A.setCell ⟨b9,0,none⟩ (.s Xn))->Rn lT Goal (fr.atR a K) cs w'):
 Rn lT Goal (fr.atR a (.code (rD Tryz.f71 12)::K)) cs w:=by
 refine Rn.grows (fx:=[(2, .pt N),(9, .pt b9),(10, .i (j:Int)),(12, .s (t)),(13, .s (rt))]) (ds:=[69,70,71,72,73,74,75,76,77,78,79]) (N:=81) (df:=ds) (G:=MY s N j t rt Xn) k_ k_ EQ (λm o a w' T f U n c=> ?_)
  (λm a w'=>(m=11/\Bw w w'/\Has [(79, .s Xn),(2, .pt N),(9, .pt b9),(10, .i (j:Int)),(12, .s t),(13, .s rt)] 81 ds a)\/(m=12/\∃A,Bw w A/\w'=A.setCell ⟨b9,0,none⟩ (.s Xn))) (λa w' R=> ?_) (λm o a w' S T f O M=> ?_) (λa w' O=> ?_) r.defers r.size (r.all s_)
 ·have z:=(U.block N (gA q).1).trans q;have Y:m<11:=T;rcases(o_:m=0\/m=1\/m=2\/m=3\/m=4\/m=5\/m=6\/m=7\/m=8\/m=9\/m=10)with rfl|rfl|rfl|rfl|rfl|rfl|rfl|rfl|rfl|rfl|rfl
  ·have d:=oS f;exact aF (jh 0 0 d_ d (aA (n _ (mG (i:=0) rfl)))) ⟨rfl,bR⟩
  ·have d:=oS f;obtain⟨u,l,rfl⟩:=nE c 0 69;exact aF (eG 2 d_ d (aA l)) ⟨rfl,bR⟩
  ·have d:=oS f;obtain⟨u,l,rfl⟩:=nE c 1 70;exact aF (aN bA d (aA l) ((aH z 2).trans rfl)).1 ⟨rfl,bR⟩
  ·have d:=oS f;exact mp (.inl d) (n _ (mG (i:=2) rfl)) ⟨rfl,bR⟩
  ·have d:=oS f;obtain⟨u,l,rfl⟩:=nE c 3 72;refine aF (xg d (aA l) rfl o_ o_) ⟨?_,bR⟩;show _=_;rw[QU];rfl
  ·have d:=oS f;obtain⟨u,l,rfl⟩:=nE c 4 73;have C:=bG (w:=w') d (show(#[Operand.tmp 73]:Array Operand).map a.eval=#[.i ((j/2:Nat):Int)]from by simp[aA l]) (rI (P:=aJ true tP) Lf.func89 _);exact .inr ⟨_,_,C.1,(sO (j/2) o_ w').mono λe B h=>⟨_,h.1,rfl,h.2⟩⟩
  ·have d:=oS f;have C:=bG (w:=w') d (show(#[Operand.const (.i 33667)]:Array Operand).map a.eval=#[.i ((33667:Nat):Int)]from by simp;rfl) (rI (P:=aJ true tP) Lf.func92 _);exact .inr ⟨_,_,C.1,(nP 33667 d_ w').mono λe B h=>⟨_,h.1,rfl,h.2⟩⟩
  ·have d:=oS f;exact mp (.inl d) (n _ (mG (i:=3) rfl)) ⟨rfl,bR⟩
  ·have d:=oS f;exact mp (.inl d) (n _ (mG (i:=4) rfl)) ⟨rfl,bR⟩
  ·have d:=oS f;obtain⟨u0,L,rfl⟩:=nE c 2 71;obtain⟨u1,J,rfl⟩:=nE c 5 74;obtain⟨V,y,rfl⟩:=nE c 6 75;obtain⟨u3,I,rfl⟩:=nE c 7 76;obtain⟨u4,H,rfl⟩:=nE c 8 77;exact aF (CG d (aA L) (aA J) (aA y) (aA I) (aA H)) ⟨⟨w'.heap.size,rfl,aP w' _⟩,PK w' _⟩
  ·have d:=oS f;obtain⟨u,l,p,rfl,W⟩:=nE c 9 78;have C:=bG (w:=w') d (show(#[Operand.tmp 78]:Array Operand).map a.eval=#[.sk p 5 5]from by simp[aA l]) (rI (P:=aJ true tP) Lf.func91 _);exact .inr ⟨_,_,C.1,(pU KS [s.id,ob (j/2) 4,ob 33667 2,t,rt] _ w' p 5 rfl rfl W (Pq h0 U hK) Q D s_).mono λe B ⟨v,h1,F,E⟩=>⟨v,h1,F.trans (by rw[Z]),E⟩⟩
 ·obtain⟨V,y,rfl⟩:=R.come 10 79 rfl trivial;exact .inl ⟨rfl,R.old,R.base.more y⟩
 ·rcases O with⟨rfl,F,r⟩|⟨rfl,_⟩
  ·have E:=(F.block b9 (gA g).1).trans g;refine Rn.does0 r (.store 9 (.tmp 9) (.tmp 79)) k_ s_ (λo f=>(dH (w:=w') (b:=b9) (k:=0) (v:= .s Xn) (v0:= .s x) rfl rfl k_ f (r.G 9) (r.G 79) ((aH E 0).trans rfl) (by simp[Qa,E])).1) λa r=>M a _ (.inr ⟨rfl,w',F,rfl⟩)
  ·exact absurd (gA f).1 d_
 ·rcases O with⟨h,_⟩|⟨_,h⟩
  ·exact absurd h d_
  ·exact next a w' h
end L1
section
open Go.Conc Go.RowKit
def j8(KS:List Int)(ps:List ByteArray):ByteArray:=⟨(dU KS (ps.flatMap λp=>p.data.toList)).toArray⟩
def qB(KS:List Int)(s:dw)(q:Nat)(msg:ByteArray):ByteArray:=j8 KS [s.id,ob q 4,ob 33153 2,s.salt,msg]
def Nq(KS:List Int)(s:dw)(wd sh q:Nat)(msg:ByteArray)(c:Nat):Nat:=dl (ib (qB KS s q msg).data.toList wd sh) wd c
def OI(KS:List Int)(s:dw)(wd sh n q:Nat)(msg:ByteArray):ByteArray:=⟨(lB KS s (λc=>(Nq KS s wd sh q msg c:Nat)) n).toArray⟩
def OA(KS:List Int)(s:dw)(wd sh n q:Nat)(msg:ByteArray):ByteArray:=j8 KS [s.id,ob q 4,ob 32896 2,OI KS s wd sh n q msg]
def Nv(KS:List Int)(s:dw)(wd sh n q lf:Nat)(msg:ByteArray):ByteArray:=j8 KS [s.id,ob lf 4,ob 33410 2,OA KS s wd sh n q msg]
def DT(KS:List Int)(id:ByteArray)(nn:Nat)(p x:ByteArray):ByteArray:=j8 KS [id,ob (nn/2) 4,ob 33667 2,if nn%2=1 then p else x,if nn%2=1 then x else p]
theorem fH(KS:List Int)(a:List ByteArray):(j8 KS a).size=32:=by show(dU KS _).toArray.size=32;simp[dU]
theorem O4(a b c d e:ByteArray):([a,b,c,d,e].flatMap λp=>p.data.toList).length=a.size+b.size+c.size+d.size+e.size:=by simp[S4];omega
theorem O5(a b c d:ByteArray):([a,b,c,d].flatMap λp=>p.data.toList).length=a.size+b.size+c.size+d.size:=by simp[S4];omega
structure Cm (ts tg:TypeId) (s:dw) (N b9 l ld:Nat) (r:Loop) (w0:World) (x:ByteArray) (w:World):Prop where
 old:Bw w0 w
 sig:w.heap[N]?=some (.cells s.cells tg)
 nine:w.heap[b9]?=some (.cells #[.string x] ts)
 list:w.heap[ld]?=some (.deferred (some []))
 loop:w.heap[l]?=some (.loop r)
section
variable{ts tg:TypeId}{s:dw}{ld:Nat}{r:Loop}{x:ByteArray}
theorem Cm.below(h:Cm ts tg s N b9 l ld r w0 x w)(c:Bw w w'):Cm ts tg s N b9 l ld r w0 x w':=by have g:∀{b:Nat} {o:Obj},w.heap[b]?=some o->w'.heap[b]?=some o:=λ{b o} a=>(c.block b (gA a).1).trans a;exact⟨aE h.old h.old.size c,g h.sig,g h.nine,g h.list,g h.loop⟩
theorem Cm.turn(h:Cm ts tg s N b9 l ld r w0 x w)(f:w0.heap.size<=l)(a:Loop):Cm ts tg s N b9 l ld a w0 x (bX w l a):=by
 have d:N≠l:=λe=>by have:=h.sig;rw[e,h.loop]at this;cases this
 have c:b9≠l:=λe=>by have:=h.nine;rw[e,h.loop]at this;cases this
 have b:ld≠l:=λe=>by have:=h.list;rw[e,h.loop]at this;cases this
 exact⟨h.old.trans (fc w _ _ f),(bM w _ d).trans h.sig,(bM w _ c).trans h.nine,(bM w _ b).trans h.list,ir h.loop⟩
theorem Cm.put(h:Cm ts tg s N b9 l ld r w0 x w)(d:ts≠tg)(f:w0.heap.size<=b9)(y:ByteArray):Cm ts tg s N b9 l ld r w0 y (w.setCell ⟨b9,0,none⟩ (.s y)):=by
 have c:N≠b9:=λe=>by have:=h.sig;rw[e,h.nine]at this;injection this with this;injection this with _ this;exact d this
 have b:l≠b9:=λe=>by have:=h.nine;rw[←e,h.loop]at this;cases this
 have a:ld≠b9:=λe=>by have:=h.nine;rw[←e,h.list]at this;cases this
 exact⟨h.old.trans (cP w _ _ f),(bO w _ c).trans h.sig,jF h.nine,(bO w _ a).trans h.list,(bO w _ b).trans h.loop⟩
end
end
namespace L1
open Go.Conc Go.RowKit
def tS(KS:List Int)(id path:ByteArray)(lf:Nat)(x:ByteArray):Nat->ByteArray
 |0=>x
 |c+1=>DT KS id (dn lf c) ((lm path c).extract 0 32) (tS KS id path lf x c)
theorem Bc(KS:List Int)(id path:ByteArray)(lf:Nat)(x:ByteArray)(a:x.size=32):∀c,(tS KS id path lf x c).size=32
 |0=>a
 |_+1=>fH _ _
def xG(f:Func):Code:= .block 1 (.seq (rG f 9) (.seq (.seq (rG f 10) (.cond (.tmp 66) (rD f 11) .skip)) (rD f 12)))
def BZ(f:Func)(T:Array Value)(ld:Nat)(st:LoopState):Loop:={state:=st,pending:=none,fn:=71,tmps:=T,params:=#[60,61],assign:= .seq (rG f 7) (rG f 8),body:=xG f,defers:=ld}
section
variable{y:Operand}{m n:Int}
theorem OX(a:o.op= .binOp .rem 3 x y u)(c:ev x= .i m)(b:ev y= .i 2)(d:0<=m):(execOp ev o).run lT w= .ok (.value (.i (m%2))) w:=by have e:m.tmod 2=m%2:=Int.tmod_eq_emod_of_nonneg d;simp[execOp,a,c,b,go_sem,e]
theorem OZ(a:o.op= .binOp .eql 3 x y u)(c:ev x= .i m)(b:ev y= .i n):(execOp ev o).run lT w= .ok (.value (.bool (m==n))) w:=by simp[execOp,a,c,b,go_sem]
end
section
variable{T:Array Value}{s:dw}{ld nn:Nat}{p x:ByteArray}
theorem Ji(hKl:KS.length=64)(hK:w0.rangeAt 0 0 (aM KS))(h0:0<w0.heap.size)(hid:s.id.size<65536)(hnn:nn<9223372036854775808)(hp:p.size<=32)(hx:x.size=32)(hb9:w0.heap.size<=b9)(hl:w0.heap.size<=l)
 (hT:Has [(2, .pt N),(9, .pt b9)] 81 [] ⟨T,[]⟩) {cf:Frame}
 (hI:Cm 9 119 s N b9 l ld (BZ Tryz.f71 T ld .ready) w0 x w)
 (next:∀w',Cm 9 119 s N b9 l ld (BZ Tryz.f71 T ld .ready) w0 (DT KS s.id nn p x) w'->Rn lT Goal (cf.finish (.bool true)) cs w'):
 Rn lT Goal (Frame.round l 71 (((#[60,61]:Array Tmp).zip #[.i nn, .s p]).foldl (λtmps (t,a)=>tmps.setIfInBounds t a) T) (.seq (rG Tryz.f71 7) (rG Tryz.f71 8)) (xG Tryz.f71) .normal) (cf::cs) w:=by
 have hF:=(hT.put (d:=60) d_ (.i nn)).put (d:=61) d_ (.s p);have ez:((#[60,61]:Array Tmp).zip #[.i nn, .s p]).foldl (λ(tmps:Array Value) (x:Tmp×Value)=>match x with|(t,a)=>tmps.setIfInBounds t a) T=(T.setIfInBounds 60 (.i nn)).setIfInBounds 61 (.s p):=s_
 rw[ez];show Rn _ Goal ((rb 71 l).atR (Rq (Rq ⟨T,[]⟩ (some 60) (.i nn)) (some 61) (.s p)) [.code (.seq (rG Tryz.f71 7) (rG Tryz.f71 8)), .beginRound, .code (xG Tryz.f71)]) (cf::cs) w;revert hF;generalize Rq (Rq ⟨T,[]⟩ (some 60) (.i nn)) (some 61) (.s p)=a;intro hF;refine Rn.p rfl (Rn.r (L:=[0]) rfl (Rn.S hF 10 60 rfl λa hF=> ?_));refine Rn.p rfl (Rn.r (L:=[0]) rfl (Rn.S hF 11 61 rfl λa hF=> ?_));refine Rn.p rfl (Rn.rounds (r:=BZ Tryz.f71 T ld .ready) rfl hI.loop rfl ?_);have hI1:=hI.turn hl (BZ Tryz.f71 T ld .busy);show Rn _ Goal _ _ (bX w l (BZ Tryz.f71 T ld .busy));revert hI1;generalize bX w l (BZ Tryz.f71 T ld .busy)=w1;intro hI1;refine Rn.vv hF (λo ho=>(aN bA ho (hF.G 9) ((aH hI1.nine 0).trans rfl)).1) λa hF=> ?_
 iterate 4 refine Rn.uu hF λa hF=> ?_
 refine Rn.uu hF λa hF=> ?_;refine Rn.uu hF λa hF=> ?_;have done:∀(lt rt:ByteArray) (a:Act) (w2:World),DT KS s.id nn p x=j8 KS [s.id,ob (nn/2) 4,ob 33667 2,lt,rt]->lt.size<=32->rt.size<=32->Cm 9 119 s N b9 l ld (BZ Tryz.f71 T ld .busy) w0 x w2->
  Has [(2, .pt N),(9, .pt b9),(10, .i (nn:Int)),(12, .s lt),(13, .s rt)] 81 [] a->
  Rn lT Goal ((rb 71 l).atR a [.code (rD Tryz.f71 12), .inBlock 1]) (cf::cs) w2:=by intro lt rt a w2 hup hlt hrt hI2 hF;refine JZ (x:=x) (Xn:=DT KS s.id nn p x) hup hKl hnn (by rw[O4,cE,cE];omega) (Pq h0 hI2.old hK) (T7 h0 hI2.old.size) hI2.sig hI2.nine hF λa w3 hw3=> ?_;obtain⟨w4,hb4,rfl⟩:=hw3;have hI3:=(hI2.below hb4).put d_ hb9 (DT KS s.id nn p x);exact Rn.p rfl (Rn.through rfl rfl hI3.loop (next _ (hI3.turn hl _)))
 refine Rn.p rfl (Rn.cond _ (hF.G 66) ?_);by_cases hodd:nn%2=1
 ·rw[show(((nn:Int)%2)==1)=true from by rw[beq_iff_eq];omega];refine K0 (x:=x) (vb:= .s p) (vn:= .i nn) (N:=N) hI1.nine (hF.only ⟨rfl,rfl,rfl,rfl,trivial⟩) λa w2 ⟨hb2,hF⟩=> ?_;exact done p x a w2 (by simp[DT,hodd]) hp o_ (hI1.below hb2) (hF.only ⟨rfl,rfl,rfl,rfl,rfl,trivial⟩)
 ·rw[show(((nn:Int)%2)==1)=false from by rw[beq_eq_false_iff_ne];omega];refine Rn.p rfl ?_;exact done x p a w1 (by simp[DT,hodd]) o_ hp hI1 (hF.only ⟨rfl,rfl,rfl,rfl,rfl,trivial⟩)
end
theorem Ml:Tryz.f95.body=some (.seq (rG Tryz.f95 0) (.seq (rG Tryz.f95 1) .ret)):=k_
theorem IX(s:dw)(lf:Nat)(w:World):
 Calls lT 95 #[.agg s.cells, .i lf] w λe w'=>e= .returned (.func (.func 122) #[] #[.pk w.heap.size 0, .pk (w.heap.size+1) 0])/\w'=(w.alloc (.cells s.cells 119)).alloc (.cells #[.i lf] 3):=by
 refine bJ (t:=4) Lf.func95 rfl λd=> ?_;rw[bP (N:=6) [.agg s.cells, .i lf] Lf.func95 Ml rfl];have b:=aY [.agg s.cells, .i lf] 6 s_;refine Rn.gr ?_;refine Rn.z b 2 0 119 rfl λa b=> ?_;show Rn _ _ _ _ (w.alloc (.cells s.cells 119));refine Rn.z b 3 1 3 rfl λa b=> ?_;rw[aI]at b;show Rn _ _ _ _ ((w.alloc (.cells s.cells 119)).alloc (.cells #[.i lf] 3));refine Rn.uu b λa b=> ?_;refine Rn.gr ?_;refine Rn.O b 5 (.makeFunc (.func 122) #[] #[.tmp 2, .tmp 3]) (v:= .func (.func 122) #[] #[.pk w.heap.size 0, .pk (w.heap.size+1) 0]) (w':=(w.alloc (.cells s.cells 119)).alloc (.cells #[.i lf] 3)) (λo c=> ?_) λa b=> ?_
 ·have h:=(iW lT (w:=(w.alloc (.cells s.cells 119)).alloc (.cells #[.i lf] 3)) (ev:=a.eval) c).1;rw[h];simp[b.G 2,b.G 3]
 refine Rn.uu b λa b=> ?_;exact Rn.fi b ⟨rfl,rfl⟩
theorem Fq:Tryz.f71.body=some (.seq (rG Tryz.f71 0) (.seq (rG Tryz.f71 1) (.seq (rD Tryz.f71 2) (.seq (rD Tryz.f71 3)
 (.seq (rD Tryz.f71 4) (.seq (rD Tryz.f71 5) (.seq (.seq (rG Tryz.f71 6) (.block 0 (.rangeFunc (.tmp 59) #[60,61] (.seq (rG Tryz.f71 7) (rG Tryz.f71 8)) (xG Tryz.f71))))
 (.seq (rG Tryz.f71 13) .ret)))))))):=k_
structure Ou (s:dw) (h wd sh n q:Nat):Prop where
 wid:qn wd
 width:s.width=wd
 shift:s.shift=sh
 shift8:sh<=8
 count:s.count=n
 one:1<=n
 most:n<=34*(8/wd)
 height:s.height=h
 low:h<=5
 qq:s.q=q
 leaf:q<2^h
 id:s.id.size<=1000
 salt:s.salt.size<=1000
 links:n*32<=s.links.size
 path:s.path.size=32*h
def yx(KS:List Int)(s:dw)(h wd sh n q:Nat)(msg:ByteArray):ByteArray:=tS KS s.id s.path (2^h+q) (Nv KS s wd sh n q (2^h+q) msg) h
theorem zK(KS:List Int)(x:KS.length=64)(s:dw)(h wd sh n q:Nat)(f:Ou s h wd sh n q)(msg:ByteArray)(af:msg.size<=281474976706560)(w:World)(hK:w.rangeAt 0 0 (aM KS))(T:0<w.heap.size):
 Calls lT 71 #[.agg s.cells, .s msg] w λe w'=>e= .returned (.s (yx KS s h wd sh n q msg))/\Bw w w':=by
 have ag:wd<=8:=by rcases f.wid with h|h|h<;>omega
 have X:8/wd<=4:=by rcases f.wid with h|h|h<;>subst h<;>decide
 have ab:n<=136:=By f.most (By (RJ 34 X) d_);have ak:2^h<=32:=By (Qp d_ f.low) d_;have hq:=f.leaf;have ah:=f.id;have aa:=f.salt;have ac:∀c,Nq KS s wd sh q msg c<256:=λc=>by have:=nA (ib (qB KS s q msg).data.toList wd sh) wd c;have:=oI f.wid;unfold Nq;omega
 have ai:(OI KS s wd sh n q msg).size<=5000:=by have:=ue KS s (λc=>(Nq KS s wd sh q msg c:Nat)) n f.links;show(lB KS s (λc=>(Nq KS s wd sh q msg c:Nat)) n).toArray.size<=5000;simp only[List.size_toArray];omega
 refine bJ (t:=4) Lf.func71 rfl λcs=> ?_;rw[bP (N:=81) [.agg s.cells, .s msg] Lf.func71 Fq rfl];have b:=aY [.agg s.cells, .s msg] 81 s_;refine Rn.zz b λw1 a S J _ b=> ?_;refine Rn.C b 4 (.string ⟨#[]⟩) λa b=>Rn.vv b (λo K=>jh 1 8 d_ K (b.G 2)) λa b=> ?_;refine Rn.vv b (λo K=>(aN (v:= .i q) cq K (b.G 14) ((aH J 8).trans (by rw[←f.qq];rfl))).1) λa b=> ?_;refine Rn.cw b Lf.func89 ((sO q o_ w1)) λw2 R a b=> ?_;refine Rn.uu b λa b=> ?_;refine Rn.p rfl (Rn.p rfl ?_);have A:Bw w w2:=aE S S.size R;have I:=bk R J;clear S J R;have b:Has [(1, .s msg),(2, .pt w.heap.size),(5, .s (ob q 4))] 81 [] a:=b.only ⟨rfl,rfl,rfl,trivial⟩;refine K4 (Qb:=qB KS s q msg) (wd:=wd) (sh:=sh) (n:=n) rfl x f.wid f.width f.shift f.shift8 f.count f.one f.most (by rw[O4,cE,cE];omega) (Pq T A hK) (T7 T A.size) I b λa w3 ⟨Q,vg,j,b⟩=> ?_;have z:Bw w w3:=aE A A.size Q;have H:=bk Q I;clear Q I;refine Rn.p rfl ?_;refine K3 (dg:=Nq KS s wd sh q msg) (En:=OI KS s wd sh n q msg) (Xn:=OA KS s wd sh n q msg) rfl rfl x ⟨by have:=f.width;omega,by have:=f.width;omega⟩ ⟨by have:=f.qq;omega,by have:=f.qq;omega⟩ o_ f.count f.one o_ f.links ac (by rw[O5,cE,cE];omega) (Pq T z hK) (T7 T z.size) j H (b.only ⟨rfl,rfl,rfl,trivial⟩) λa w4 ⟨P,b⟩=> ?_;have a8:Bw w w4:=aE z z.size P;have F:=bk P H;clear P H j;refine Rn.p rfl ?_;refine K2 (h:=h) (q:=q) (H2:=2^h) rfl f.height (by have:=f.low;omega) o_ f.qq o_ F (b.only ⟨rfl,rfl,trivial⟩) λa w5 ⟨g,b⟩=> ?_;have l:Bw w w5:=aE a8 a8.size g;have r:=bk g F;clear g F;refine Rn.p rfl ?_;refine K1 (lf:=2^h+q) (en:=OA KS s wd sh n q msg) (Xn:=Nv KS s wd sh n q (2^h+q) msg) (M:=w5.heap.size) rfl x o_ (by rw[O5,cE,cE,OA,fH];omega) (Pq T l hK) (T7 T l.size) r rfl (b.only ⟨rfl,rfl,rfl,trivial⟩) λa i ⟨B,a9,aj,g,a1,p,b⟩=> ?_;have C:Bw w a9:=aE l l.size g;have ae:=l.size;have a5:=(gA r).1;have E:i.heap[w.heap.size]?=some (.cells s.cells 119):=by rw[p,bO _ _ (by show _≠B;omega)];exact(g.block _ a5).trans r
 have a0:i.heap[B]?=some (.cells #[.s (Nv KS s wd sh n q (2^h+q) msg)] 9):=by rw[p];exact jF a1
 have a7:Bw w i:=by rw[p];exact C.trans (cP _ _ _ (by show _<=B;omega))
 clear p g a1 C r;refine Rn.vv b (λo K=>(l6 (ex:=#[]) K (b.G 2) (by rw[Array.append_empty];exact E)).1) λa b=> ?_;refine Rn.uu b λa b=> ?_;refine Rn.cw b Lf.func95 ((IX s (2^h+q) i)) λd m a b=> ?_;have u:Bw i d:=by rw[m];exact aE (PK i _) (by rw[aI];omega) (PK _ _)
 have k0:d.heap[i.heap.size]?=some (.cells s.cells 119):=by rw[m];exact(cm _ _ (by rw[aI];omega)).trans (aP i _)
 have k1:d.heap[i.heap.size+1]?=some (.cells #[.i ((2^h+q:Nat):Int)] 3):=by rw[m];have:=aP (i.alloc (.cells s.cells 119)) (.cells #[.i ((2^h+q:Nat):Int)] 3);rw[aI]at this;exact this
 have a6:Bw w d:=aE a7 a7.size u;have W:=bk u E;have Z:=bk u a0;clear m u E a0;have U:=a6.size;have O:=(gA k0).1;have L:=(gA k1).1;have V:=(gA W).1;have Y:=(gA Z).1;refine Rn.p rfl (Rn.p rfl ?_);refine Rn.rangeAs (BZ Tryz.f71 a.tmps d.heap.size .ready) (args:=#[.func (.yield (d.heap.size+1)) #[] #[], .pk i.heap.size 0, .pk (i.heap.size+1) 0]) rfl rfl Lf.func122 k_ k_ (b.G 59) s_ ?_;have hT:Has [(2, .pt w.heap.size),(9, .pt B)] 81 [] ⟨a.tmps,[]⟩:=⟨rfl,b.size,(b.only (G:=[(2, .pt w.heap.size),(9, .pt B)]) ⟨rfl,rfl,trivial⟩).slot⟩;have ad:Cm 9 119 s w.heap.size B (d.heap.size+1) d.heap.size (BZ Tryz.f71 a.tmps d.heap.size .ready) w (tS KS s.id s.path (2^h+q) (Nv KS s wd sh n q (2^h+q) msg) 0) (di d (BZ Tryz.f71 a.tmps d.heap.size .ready)):=
  ⟨aE a6 U (ia d _),(cb d _ V).trans W,(cb d _ Y).trans Z,fU d _,fT d _⟩
 have G:∀D,sC lT D (((base 71).atR ⟨a.tmps,{target:= .collected d.heap.size,args:=#[]}::a.defers⟩ (.inRangeFunc (d.heap.size+1)::[.inBlock 0, .code (.seq (rG Tryz.f71 13) .ret)]))::cs) (λc=>#[.i (dn (2^h+q) c), .s ((lm s.path c).extract 0 32)]) h (d.heap.size+1) (BZ Tryz.f71 a.tmps d.heap.size .ready)
  (λc=>Cm 9 119 s w.heap.size B (d.heap.size+1) d.heap.size (BZ Tryz.f71 a.tmps d.heap.size .ready) w (tS KS s.id s.path (2^h+q) (Nv KS s wd sh n q (2^h+q) msg) c)):=
  λD=>
  {below:=λc w w' h hb=>h.below hb
   loop:=λc w h=>h.loop
   size:=λc=>rfl
   round:=λc w' cf hc hI next=>Ji x hK T o_ (by have:=pV (2^h+q) c;omega) (by rw[ByteArray.size_extract];omega) (Bc _ _ _ _ _ (fH _ _) c) o_ o_ hT hI next}
 refine FO (s:=s) f.path o_ (by rw[Nat.pow_succ];omega) o_ (G _) ad ((cb d _ O).trans k0) ((cb d _ L).trans k1) λw8 hI=> ?_;show Rn _ _ ((base 71).atR ⟨a.tmps,{target:= .collected d.heap.size,args:=#[]}::a.defers⟩ (.endRangeFunc (d.heap.size+1)::_)) cs w8;refine Rn.rangeOver hI.loop rfl rfl ?_;have k:=hI.turn o_ (BZ Tryz.f71 a.tmps d.heap.size .exhausted);show Rn _ _ _ _ (bX w8 (d.heap.size+1) (BZ Tryz.f71 a.tmps d.heap.size .exhausted));have y:Has [(9, .pt B)] 81 [{target:= .collected d.heap.size,args:=#[]}] ⟨a.tmps,{target:= .collected d.heap.size,args:=#[]}::a.defers⟩:=⟨by rw[b.defers],b.size,(b.only (G:=[(9, .pt B)]) ⟨rfl,trivial⟩).slot⟩;revert y k;generalize bX w8 (d.heap.size+1) (BZ Tryz.f71 a.tmps d.heap.size .exhausted)=w9;generalize (Act.mk a.tmps ({target:= .collected d.heap.size,args:=#[]}::a.defers))=a2;intro k y;refine Rn.gr ?_;refine Rn.O y 80 (.load 9 (.tmp 9)) (λo K=>(aN bA K (y.G 9) ((aH k.nine 0).trans rfl)).1) λa3 y=> ?_;refine Rn.S y 4 80 rfl λa4 y=> ?_;exact Rn.p rfl (Rn.ends rfl (.inr ⟨_,rfl⟩) (Rn.take (ds:=[]) y.defers k.list (Rn.now ⟨⟨a4.tmps,[]⟩,_, .s (yx KS s h wd sh n q msg),rfl,rfl,y.slot 4 _ rfl,rfl,k.old.trans (iI _ _ o_)⟩)))
end L1
section
open Go
def d8(t:Int):Nat:=if t=5 then 5 else if t=226 then 2 else 0
def ee(c:Int):Nat:=if c=2 then 2 else if c=3 then 4 else if c=4 then 8 else 0
def fb(c:Int):Nat:=if c=2 then 133 else if c=3 then 67 else if c=4 then 34 else 0
def eR(c:Int):Nat:=if c=2 then 6 else if c=3 then 4 else 0
def bV(b:ByteArray)(i j:Nat):Int:=cZ (b.extract i j).data.toList
def gY(b:ByteArray):dw:={tree:=b.extract 0 4,chains:=b.extract 4 8,id:=b.extract 8 24,root:=b.extract 24 b.size,height:=d8 (bV b 0 4),width:=ee (bV b 4 8),count:=fb (bV b 4 8),shift:=eR (bV b 4 8),q:=0,salt:=⟨#[]⟩,links:=⟨#[]⟩,path:=⟨#[]⟩}
def gK:Array Value:=#[.string ⟨#[]⟩, .string ⟨#[]⟩, .string ⟨#[]⟩, .string ⟨#[]⟩, .int .i64 0, .int .i64 0, .int .i64 0, .int .i64 0]
def gj(b:ByteArray):Prop:=b.size=56/\d8 (bV b 0 4)≠0/\ee (bV b 4 8)≠0
end
namespace L1
open Go.Conc Go.RowKit
section
variable{y z u:Operand}{m n:Int}
theorem AH(a:o.op= .binOp .neq 3 x y t)(c:ev x= .i m)(b:ev y= .i n):(execOp ev o).run lT w= .ok (.value (.bool (m !=n))) w:=by simp[execOp,a,c,b,go_sem]
theorem OC(a:o.op= .binOp .eql 132 x y t)(c:ev x= .int .u64 m)(b:ev y= .int .u64 n):(execOp ev o).run lT w= .ok (.value (.bool (m==n))) w:=by simp[execOp,a,c,b,go_sem]
theorem Bg(a:o.op= .alloc 115):(execOp ev o).run lT w= .ok (.value (.pk w.heap.size 0)) (w.alloc (.cells gK 115)):=by
 have e:execOp ev o=(do pure (.value (←Qz 115 true (.tuple #[])))):=by simp only[execOp,a]
 have b:(do pure (.value (←Qz 115 true (.tuple #[]))):Sem Next).run lT w= .ok (.value (.pk w.heap.size 0)) (w.alloc (.cells gK 115)):=k_
 rw[e,b]
theorem Ga(a:o.op= .build 115 #[]):(execOp ev o).run lT w= .ok (.value (.agg gK)) w:=by
 have e:execOp ev o=(do pure (.value (←Instr.build 115 #[]))):=by simp[execOp,a]
 have b:(do pure (.value (←Instr.build 115 #[])):Sem Next).run lT w= .ok (.value (.agg gK)) w:=k_
 rw[e,b]
theorem Gh{a b c d:ByteArray}(f:o.op= .build 115 #[(0,x),(1,y),(2,z),(3,u)])(j:ev x= .s a)(g:ev y= .s b)(i:ev z= .s c)(h:ev u= .s d):
 (execOp ev o).run lT w= .ok (.value (.agg #[.s a, .s b, .s c, .s d, .i 0, .i 0, .i 0, .i 0])) w:=by
 have e:execOp ev o=(do pure (.value (←Instr.build 115 #[(0, .s a),(1, .s b),(2, .s c),(3, .s d)]))):=by simp[execOp,f,j,g,i,h]
 have g:(do pure (.value (←Instr.build 115 #[(0, .s a),(1, .s b),(2, .s c),(3, .s d)])):Sem Next).run lT w= .ok (.value (.agg #[.s a, .s b, .s c, .s d, .i 0, .i 0, .i 0, .i 0])) w:=k_
 rw[e,g]
end
theorem zp:(lT.info? 115).map (·.size)=some 8:=k_
theorem jG{b:Frame}{k:List Item}{t:Nat}(u:Has F N ds a)(d x j:Nat)(c:Int)(A:d<N)(z:j<8){b4:Nat}{g:Array Value}(y:F.lookup x=some (.pk b4 0))
 (D:(ops[m]?).map (λo=>(o.dst,o.op,o.guard))=some (some d, .fieldAddr 115 (.tmp x) j,none)) (C:(ops[t]?).map (λo=>(o.dst,o.op,o.guard))=some (none, .store 3 (.tmp d) (.const (.i c)),none)) (f:w.heap[b4]?=some (.cells g 115)) {v0:Value} (h:g[j]?=some v0)
 (next:∀a' w',Has F N ds a'->w'.heap[b4]?=some (.cells (g.setIfInBounds j (.i c)) 115)->(∀M,M<=b4->Below M w w')->Rn lT Goal (b.atR a' (.inRegion ops rest::k)) cs w') (r:F.lookup d=none):Rn lT Goal (b.atR a (.inRegion ops (m::t::rest)::k)) cs w:=by
 refine Rn.op u d (.fieldAddr 115 (.tmp x) j) A D s_ (λo l=>eG j z l (u.get y)) λa i=>Rn.does0 i (.store 3 (.tmp d) (.const (.i c))) C s_ (λo l=>(dH (w:=w) (b:=b4) (k:=j) (v:= .i c) (v0:=v0) rfl rfl k_ l (i.get (d:=d) (by simp[IT])) rfl (by rw[aH f];exact h) (by simp[Qa,f])).1) λa s=>next a _ (s.sub λe v p=> ?_) (iX f) λM B=>cP w _ _ B
 have n:e≠d:=λq=>by rw[q,r]at p;cases p
 simp only[IT,show(e==d)=false from by simpa using n];exact p
def Pg(b:ByteArray)(M:Nat):Nat->Value->World->Prop
 |0,v,_=>v= .string b
 |1,v,_=>v= .string (b.extract 0 4)
 |2,v,_=>v= .string b
 |3,v,_=>v= .string (b.extract 4 8)
 |4,v,_=>v= .string b
 |5,v,_=>v= .string (b.extract 8 24)
 |6,v,_=>v= .string b
 |7,v,_=>v= .string (b.extract 24 b.size)
 |8,v,_=>v= .agg #[.string (b.extract 0 4), .string (b.extract 4 8), .string (b.extract 8 24), .string (b.extract 24 b.size), .int .i64 0, .int .i64 0, .int .i64 0, .int .i64 0]
 |_,v,w=>Bx M gK 115 v w
theorem He{b:ByteArray}{M:Nat}(k:Nat)(v:Value)(w w':World)(h:Pg b M k v w)(a:Bw w w'):Pg b M k v w':=by
 match k,h with
 |0,h|1,h|2,h|3,h|4,h|5,h|6,h|7,h|8,h=>exact h
 |k+9,h=>exact Bx.mono h a
theorem LY{b:ByteArray}(E:b.size=56){p:Value}(g:Has [(0, .s b),(2,p)] 48 [] a)
 (next:∀a w' b4,w.heap.size<=b4->Bw w w'->w'.heap[b4]?=some (.cells #[.s (b.extract 0 4), .s (b.extract 4 8), .s (b.extract 8 24), .s (b.extract 24 b.size), .int .i64 0, .int .i64 0, .int .i64 0, .int .i64 0] 115)->Has [(4, .pt b4),(0, .s b),(2,p)] 48 [] a->Rn (aJ true tP) Goal ((base 69).atR a K) cs w'):
 Rn (aJ true tP) Goal ((base 69).atR a (.code (rD Tryz.f69 3)::K)) cs w:=by
 refine Rn.grows (fx:=[(0, .s b),(2,p)]) (ds:=[9,10,11,12,13,14,15,16,17,4]) (N:=48) (df:=[]) (G:=Pg b w.heap.size) k_ k_ He (λm o a w' D f I A e=> ?_)
  (λm a w'=>(m=10/\∃b4,w.heap.size<=b4/\Bw w w'/\w'.heap[b4]?=some (.cells gK 115)/\Has [(4, .pt b4),(17, .agg #[.s (b.extract 0 4), .s (b.extract 4 8), .s (b.extract 8 24), .s (b.extract 24 b.size), .int .i64 0, .int .i64 0, .int .i64 0, .int .i64 0]),(0, .s b),(2,p)] 48 [] a)\/
    (m=11/\∃b4,w.heap.size<=b4/\Bw w w'/\w'.heap[b4]?=some (.cells #[.s (b.extract 0 4), .s (b.extract 4 8), .s (b.extract 8 24), .s (b.extract 24 b.size), .int .i64 0, .int .i64 0, .int .i64 0, .int .i64 0] 115)/\Has [(4, .pt b4),(0, .s b),(2,p)] 48 [] a))
  (λa w' r=> ?_) (λm o a w' C D f B z=> ?_) (λa w' B=> ?_) g.defers g.size (g.all s_)
 ·have t:=aA (A _ (mG (i:=0) rfl));have H:m<10:=D;rcases(o_:m=0\/m=1\/m=2\/m=3\/m=4\/m=5\/m=6\/m=7\/m=8\/m=9)with rfl|rfl|rfl|rfl|rfl|rfl|rfl|rfl|rfl|rfl
  ·have c:=oS f;exact aF (by rw[bF (.inl c),t]) ⟨rfl,bR⟩
  ·have c:=oS f;obtain⟨u,j,rfl⟩:=nE e 0 9;exact aF (nT (n:=4) c (aA j) rfl o_) ⟨rfl,bR⟩
  ·have c:=oS f;exact aF (by rw[bF (.inl c),t]) ⟨rfl,bR⟩
  ·have c:=oS f;obtain⟨u,j,rfl⟩:=nE e 2 11;exact aF (dR (m:=4) (n:=8) c (aA j) rfl rfl o_ o_).1 ⟨rfl,bR⟩
  ·have c:=oS f;exact aF (by rw[bF (.inl c),t]) ⟨rfl,bR⟩
  ·have c:=oS f;obtain⟨u,j,rfl⟩:=nE e 4 13;exact aF (dR (m:=8) (n:=24) c (aA j) rfl rfl o_ o_).1 ⟨rfl,bR⟩
  ·have c:=oS f;exact aF (by rw[bF (.inl c),t]) ⟨rfl,bR⟩
  ·have c:=oS f;obtain⟨u,j,rfl⟩:=nE e 6 15;exact aF (pI (n:=24) c (aA j) rfl o_) ⟨rfl,bR⟩
  ·have c:=oS f;obtain⟨M,y,rfl⟩:=nE e 1 10;obtain⟨L,x,rfl⟩:=nE e 3 12;obtain⟨F,k,rfl⟩:=nE e 5 14;obtain⟨J,v,rfl⟩:=nE e 7 16;exact aF (Gh c (aA y) (aA x) (aA k) (aA v)) ⟨rfl,bR⟩
  ·have c:=oS f;exact aF (Bg c) ⟨⟨w'.heap.size,rfl,I.size,aP w' _⟩,PK w' _⟩
 ·obtain⟨u,j,b4,rfl,l,q⟩:=r.come 9 4 rfl trivial;obtain⟨F,k,rfl⟩:=r.come 8 17 rfl trivial;exact .inl ⟨rfl,b4,l,r.old,q,(r.base.more k).more j⟩
 ·rcases B with⟨rfl,b4,l,q,s,g⟩|⟨rfl,_⟩
  ·refine Rn.does0 g (.store 115 (.tmp 4) (.tmp 17)) k_ s_ (λo f=>cd f (g.get (d:=4) rfl) (g.get (d:=17) rfl) s zp rfl (by simp[Value.oneCell'])) λa g=>z a _ (.inr ⟨rfl,b4,l,q.trans (bT w' b4 _ l),setRow_heap w' b4 _ _ _ _ s,g.only ⟨rfl,rfl,rfl,trivial⟩⟩)
  ·exact absurd (gA f).1 d_
 ·rcases B with⟨h,_⟩|⟨_,b4,l,q,s,g⟩
  ·exact absurd h d_
  ·exact next a w' b4 l q s g
def zM(f:Func):Code:= .seq (.seq (rG f 10) (.block 1 (.seq (rG f 12) (.cond (.tmp 32) (rG f 13) (.seq (rG f 14) (.cond (.tmp 37) (rG f 15) (.seq (rG f 16) (.cond (.tmp 42) (rG f 17) (.seq (rG f 11) .ret))))))))) (.seq (rG f 18) .ret)
def FV(f:Func):Code:= .seq (.seq (rG f 4) (.block 0 (.seq (rG f 6) (.cond (.tmp 22) (rG f 7) (.seq (rG f 8) (.cond (.tmp 25) (rG f 9) (.seq (rG f 5) .ret))))))) (zM f)
theorem Mr:Tryz.f69.body=some (.seq (rG Tryz.f69 0) (.seq (.seq (rG Tryz.f69 1) (.cond (.tmp 7) (.seq (rG Tryz.f69 2) .ret) .skip)) (.seq (rD Tryz.f69 3) (FV Tryz.f69)))):=k_
def L5(b:ByteArray)(w0:World)(e:Ending)(w':World):Prop:=((gj b/\e= .returned (.tuple #[.agg (gY b).key, .bool true]))\/(¬gj b/\e= .returned (.tuple #[.agg gK, .bool false])))/\Bw w0 w'
def ri(b:ByteArray)(w0:World)(cs:List Frame)(g:Goroutine)(w':World):Prop:=∃(a:Act) (k:List Item) (bk:Nat) (cells:Array Value) (tt:TypeId) (v:Value),g=dN {(base 69).atR a k with mode:= .returning} cs/\a.defers=[]/\a.tmps[2]?=some (.pk bk 0)/\w'.heap[bk]?=some (.cells cells tt)/\cells.size=8/\a.tmps[3]?=some v/\L5 b w0 (.returned (.tuple #[.agg cells,v])) w'
section
variable{b:ByteArray}{k:List Item}
theorem I7(id d:Nat)(h:d<48/\d≠2)(f:¬gj b)(c:Has [(2, .pt w0.heap.size)] 48 [] a)(i:w.heap[w0.heap.size]?=some (.cells gK 115))(e:Bw w0 w)(j:Q8 (bK Tryz.f69 id).size=[0,1,2])
 (n:((bK Tryz.f69 id)[0]?).map (λo=>(o.dst,o.op,o.guard))=some (some d, .build 115 #[],none)) (m:((bK Tryz.f69 id)[1]?).map (λo=>(o.dst,o.op,o.guard))=some (none, .store 115 (.tmp 2) (.tmp d),none)) (l:((bK Tryz.f69 id)[2]?).map (λo=>(o.dst,o.op,o.guard))=some (some 3, .assign (.const (.bool false)),none)):
 Rn lT (ri b w0 cs) ((base 69).atR a (.code (.seq (rG Tryz.f69 id) .ret)::k)) cs w:=by
 refine Rn.p rfl (Rn.r j ?_);refine Rn.op c d (.build 115 #[]) h.1 n s_ (λo g=>Ga g) λa c=> ?_;have p:((d,S3 gK)::[(2, .pt w0.heap.size)]:List (Nat×Value)).lookup 2=some (.pk w0.heap.size 0):=by simp[IT,show(2==d)=false from by simpa using QF h.2]
 refine Rn.does0 c (.store 115 (.tmp 2) (.tmp d)) m s_ (λo g=>cd (cells:=gK) g (c.get (d:=2) p) (c.get (d:=d) (by simp[IT])) i zp rfl (by simp[gK,Value.oneCell'])) λa c=>Rn.asc c 3 (.bool false) d_ l λa c=>Rn.p rfl (Rn.ends rfl (.inr ⟨_,rfl⟩) (Rn.now ⟨a,_,w0.heap.size,gK,115, .bool false,rfl,c.defers,c.slot 2 _ ?_,setRow_heap w _ _ _ _ _ i,rfl,c.slot 3 _ (by simp[IT]), .inr ⟨f,rfl⟩,e.trans (bT _ _ _ (T6 _))⟩));simp[IT,show(2==d)=false from by simpa using QF h.2]
theorem LN{b4:Nat}(f:gj b)(c:Has [(2, .pt w0.heap.size),(4, .pt b4)] 48 [] a)(i:w.heap[w0.heap.size]?=some (.cells gK 115))(e:Bw w0 w)(h:w.heap[b4]?=some (.cells (gY b).key 115)):
 Rn (aJ true tP) (ri b w0 cs) ((base 69).atR a (.code (.seq (rG Tryz.f69 18) .ret)::k)) cs w:=by refine Rn.vv c (λo g=>iy (s:=gY b) g (c.get (d:=4) rfl) h λ_ _=>rfl) λa c=> ?_;refine Rn.nn c (λo g=>cd g (c.get (d:=2) rfl) (c.get (d:=47) rfl) i zp rfl (by simp[dw.key,Value.oneCell'])) λa c=> ?_;refine Rn.uu c λa c=> ?_;exact Rn.p rfl (Rn.ends rfl (.inr ⟨_,rfl⟩) (Rn.now ⟨a,_,w0.heap.size,(gY b).key,115, .bool true,rfl,c.defers,c.slot 2 _ rfl,setRow_heap w _ _ _ _ _ i,rfl,c.slot 3 _ rfl, .inl ⟨f,rfl⟩,e.trans (bT _ _ _ (T6 _))⟩))
def OG(b:ByteArray)(h w c s:Int):Array Value:=#[.string (b.extract 0 4), .string (b.extract 4 8), .string (b.extract 8 24), .string (b.extract 24 b.size), .int .i64 h, .int .i64 w, .int .i64 c, .int .i64 s]
theorem Gw{b4:Nat}(F:b.size=56)(G:d8 (bV b 0 4)≠0)(c:Has [(2, .pt w0.heap.size),(4, .pt b4)] 48 [] a)(L:w.heap[w0.heap.size]?=some (.cells gK 115))(l:Bw w0 w)(n:w.heap[b4]?=some (.cells (OG b (d8 (bV b 0 4)) 0 0 0) 115))(Q:w0.heap.size<b4):
 Rn lT (ri b w0 cs) ((base 69).atR a (.code (zM Tryz.f69)::k)) cs w:=by
 have D:(b.extract 4 8).size<=8:=by rw[ByteArray.size_extract];omega
 refine Rn.vv c (λo P=>eG 1 d_ P (c.G 4)) λa c=> ?_;refine Rn.uu c λa c=> ?_;refine Rn.cl c Lf.func88 (R:=λv K=>v= .int .u64 (bV b 4 8)/\K=w) ((eY (b.extract 4 8) w D).mono λe K h=>⟨_,h.1,rfl,h.2⟩) λv N O a c=> ?_;obtain⟨rfl,rfl⟩:=O;have q:∀(a:Act) (m:World),gj b->(gY b).key=OG b (d8 (bV b 0 4)) (ee (bV b 4 8)) (fb (bV b 4 8)) (eR (bV b 4 8))->m.heap[b4]?=some (.cells (OG b (d8 (bV b 0 4)) (ee (bV b 4 8)) (fb (bV b 4 8)) (eR (bV b 4 8))) 115)->(∀M,M<=b4->Below M N m)->Has [(2, .pt w0.heap.size),(4, .pt b4)] 48 [] a->
  Rn lT (ri b w0 cs) ((base 69).atR a (.code (.seq (rG Tryz.f69 18) .ret)::k)) cs m:=by intro a m E s p S c;have t:=S (w0.heap.size+1) o_;exact LN E c ((t.block _ o_).trans L) (l.trans (t.mono o_)) (by rw[s];exact p)
 iterate 2 refine Rn.uu c λa c=> ?_
 refine Rn.p rfl (Rn.cond _ (c.G 32) ?_);have I:∀(x y:Int) (h:x=y),(x==y)=true:=λx y h=>by simpa using h
 have H:∀(x y:Int) (h:x≠y),(x==y)=false:=λx y h=>by simpa using h
 by_cases C:bV b 4 8=2
 ·rw[I _ _ C];have c:Has [(2, .pt w0.heap.size),(4, .pt b4)] 48 [] a:=c.only ⟨rfl,rfl,trivial⟩;refine Rn.gr ?_;refine jG c 34 4 5 2 d_ d_ rfl k_ k_ n rfl (λa m c z j=> ?_) rfl;refine jG c 35 4 6 133 d_ d_ rfl k_ k_ z rfl (λa J c u i=> ?_) rfl;refine jG c 36 4 7 6 d_ d_ rfl k_ k_ u rfl (λa r c p g=> ?_) rfl;have d:ee (bV b 4 8)=2/\fb (bV b 4 8)=133/\eR (bV b 4 8)=6:=by rw[C];decide
  refine Rn.p rfl (Rn.p rfl (q a r ⟨F,G,by rw[d.1];decide⟩ rfl ?_ (λM f=>((j M f).trans (i M f)).trans (g M f)) c));rw[d.1,d.2.1,d.2.2];exact p
 rw[H _ _ C]
 iterate 2 refine Rn.uu c λa c=> ?_
 refine Rn.p rfl (Rn.cond _ (c.G 37) ?_);by_cases B:bV b 4 8=3
 ·rw[I _ _ B];have c:Has [(2, .pt w0.heap.size),(4, .pt b4)] 48 [] a:=c.only ⟨rfl,rfl,trivial⟩;refine Rn.gr ?_;refine jG c 39 4 5 4 d_ d_ rfl k_ k_ n rfl (λa m c z j=> ?_) rfl;refine jG c 40 4 6 67 d_ d_ rfl k_ k_ z rfl (λa J c u i=> ?_) rfl;refine jG c 41 4 7 4 d_ d_ rfl k_ k_ u rfl (λa r c p g=> ?_) rfl;have d:ee (bV b 4 8)=4/\fb (bV b 4 8)=67/\eR (bV b 4 8)=4:=by rw[B];decide
  refine Rn.p rfl (Rn.p rfl (q a r ⟨F,G,by rw[d.1];decide⟩ rfl ?_ (λM f=>((j M f).trans (i M f)).trans (g M f)) c));rw[d.1,d.2.1,d.2.2];exact p
 rw[H _ _ B]
 iterate 2 refine Rn.uu c λa c=> ?_
 refine Rn.p rfl (Rn.cond _ (c.G 42) ?_);by_cases A:bV b 4 8=4
 ·rw[I _ _ A];have c:Has [(2, .pt w0.heap.size),(4, .pt b4)] 48 [] a:=c.only ⟨rfl,rfl,trivial⟩;refine Rn.gr ?_;refine jG c 44 4 5 8 d_ d_ rfl k_ k_ n rfl (λa m c z j=> ?_) rfl;refine jG c 45 4 6 34 d_ d_ rfl k_ k_ z rfl (λa J c u i=> ?_) rfl;refine jG c 46 4 7 0 d_ d_ rfl k_ k_ u rfl (λa r c p g=> ?_) rfl;have d:ee (bV b 4 8)=8/\fb (bV b 4 8)=34/\eR (bV b 4 8)=0:=by rw[A];decide
  refine Rn.p rfl (Rn.p rfl (q a r ⟨F,G,by rw[d.1];decide⟩ rfl ?_ (λM f=>((j M f).trans (i M f)).trans (g M f)) c));rw[d.1,d.2.1,d.2.2];exact p
 rw[H _ _ A];refine I7 11 31 d_ (λh=>h.2.2 ?_) (c.only ⟨rfl,trivial⟩) L l rfl k_ k_ k_;simp[ee,C,B,A]
theorem DZ{b4:Nat}(t:b.size=56)(c:Has [(2, .pt w0.heap.size),(4, .pt b4)] 48 [] a)(q:w.heap[w0.heap.size]?=some (.cells gK 115))(d:Bw w0 w)(j:w.heap[b4]?=some (.cells (OG b 0 0 0 0) 115))(i:w0.heap.size<b4):
 Rn lT (ri b w0 cs) ((base 69).atR a (.code (FV Tryz.f69)::k)) cs w:=by
 have p:(b.extract 0 4).size<=8:=by rw[ByteArray.size_extract];omega
 refine Rn.vv c (λo C=>eG 0 d_ C (c.G 4)) λa c=> ?_;refine Rn.uu c λa c=> ?_;refine Rn.cl c Lf.func88 (R:=λv s=>v= .int .u64 (bV b 0 4)/\s=w) ((eY (b.extract 0 4) w p).mono λe s h=>⟨_,h.1,rfl,h.2⟩) λv D B a c=> ?_;obtain⟨rfl,rfl⟩:=B;have z:∀(x y:Int) (h:x=y),(x==y)=true:=λx y h=>by simpa using h
 have u:∀(x y:Int) (h:x≠y),(x==y)=false:=λx y h=>by simpa using h
 iterate 2 refine Rn.uu c λa c=> ?_
 refine Rn.p rfl (Rn.cond _ (c.G 22) ?_);by_cases n:bV b 0 4=5
 ·rw[z _ _ n];have c:Has [(2, .pt w0.heap.size),(4, .pt b4)] 48 [] a:=c.only ⟨rfl,rfl,trivial⟩;refine Rn.gr ?_;refine jG c 24 4 4 5 d_ d_ rfl k_ k_ j rfl (λa A c r g=> ?_) rfl;have l:d8 (bV b 0 4)=5:=by rw[n];decide
  have f:=g (w0.heap.size+1) o_;refine Rn.p rfl (Rn.p rfl (Gw t (by rw[l];decide) c ((f.block _ o_).trans q) (d.trans (f.mono o_)) ?_ i));rw[l];exact r
 rw[u _ _ n]
 iterate 2 refine Rn.uu c λa c=> ?_
 refine Rn.p rfl (Rn.cond _ (c.G 25) ?_);by_cases m:bV b 0 4=226
 ·rw[z _ _ m];have c:Has [(2, .pt w0.heap.size),(4, .pt b4)] 48 [] a:=c.only ⟨rfl,rfl,trivial⟩;refine Rn.gr ?_;refine jG c 27 4 4 2 d_ d_ rfl k_ k_ j rfl (λa A c r g=> ?_) rfl;have l:d8 (bV b 0 4)=2:=by rw[m];decide
  have f:=g (w0.heap.size+1) o_;refine Rn.p rfl (Rn.p rfl (Gw t (by rw[l];decide) c ((f.block _ o_).trans q) (d.trans (f.mono o_)) ?_ i));rw[l];exact r
 rw[u _ _ m];refine I7 5 21 d_ (λh=>h.2.1 ?_) (c.only ⟨rfl,trivial⟩) q d rfl k_ k_ k_;simp[d8,n,m]
end
theorem yE(b:ByteArray)(w:World):Calls lT 69 #[.s b] w (L5 b w):=by
 refine mq (t:=2) (u:=3) (ty:=115) (n:=8) Lf.func69 rfl Lf.underlying115 rfl zp λi=> ?_;show Rn _ (ri b w i) _ i w;rw[bP (N:=48) [.s b] Lf.func69 Mr rfl];have c:=aY [.s b] 48 s_;refine Rn.al c (λo k=>Bg k) λp a d f j c=> ?_
 iterate 4 refine Rn.uu c λa c=> ?_
 refine Rn.p rfl (Rn.cond _ (c.G 7) ?_);by_cases e:b.size=56
 ·rw[show((b.size:Int) !=56)=false from by simp;omega];refine Rn.p rfl (Rn.p rfl ?_);refine LY e (c.only ⟨rfl,rfl,trivial⟩) λa m r q g l c=> ?_;exact DZ e (c.only ⟨rfl,rfl,trivial⟩) ((g.block _ o_).trans f) (aE d o_ g) l o_
 ·rw[show((b.size:Int) !=56)=true from by simp;omega];exact I7 2 8 d_ (λh=>e h.1) (c.only ⟨rfl,trivial⟩) f d rfl k_ k_ k_
end L1
section
open Go
def gJ:Array Value:=#[.string ⟨#[]⟩, .string ⟨#[]⟩, .string ⟨#[]⟩, .string ⟨#[]⟩, .int .i64 0, .int .i64 0, .int .i64 0, .int .i64 0, .int .i64 0, .string ⟨#[]⟩, .string ⟨#[]⟩, .string ⟨#[]⟩]
def kr(k:dw)(h n:Nat)(b:ByteArray):Prop:=b.size=44+32*n+32*h/\bV b 0 4<2^h/\(b.extract 4 8).data.toList=k.chains.data.toList/\(b.extract (40+32*n) (44+32*n)).data.toList=k.tree.data.toList
def uM(k:dw)(n:Nat)(b:ByteArray):dw:={k with q:=bV b 0 4,salt:=b.extract 8 40,links:=b.extract 40 (40+32*n),path:=b.extract (44+32*n) b.size}
end
namespace L1
open Go.Conc Go.RowKit
section
variable{y z u v:Operand}{m n:Int}
theorem pJ{a b:ByteArray}(c:o.op= .binOp .neq 9 x y t)(e:ev x= .s a)(d:ev y= .s b):(execOp ev o).run lT w= .ok (.value (.bool (a.data.toList !=b.data.toList))) w:=by have g:=ByteArray.toList_eq a;have f:=ByteArray.toList_eq b;simp[execOp,c,e,d,go_sem,g,f,bne]
theorem Jt(a:o.op= .binOp .geq 132 x y t)(c:ev x= .int .u64 m)(b:ev y= .int .u64 n):(execOp ev o).run lT w= .ok (.value (.bool (decide (m≥n)))) w:=by simp[execOp,a,c,b,go_sem]
theorem Jo(a:o.op= .binOp .shl 132 x y t)(c:ev x= .int .u64 m)(b:ev y= .i k)(h:k<=64)(d:0<=m*2^k/\m*2^k<18446744073709551616):(execOp ev o).run lT w= .ok (.value (.int .u64 (m*2^k))) w:=by
 have e:IntKind.u64.wrap (m*2^k)=m*2^k:=by rw[IntKind.wrap_u64];omega
 simp[execOp,a,c,b,go_sem,e]
theorem Gk(a:o.op= .convert 132 3 x)(b:ev x= .int .u64 m)(h:0<=m/\m<9223372036854775808):(execOp ev o).run lT w= .ok (.value (.i m)) w:=by
 have d:lT.underlying 132=some (.int .u64):=k_
 have c:lT.underlying 3=some (.int .i64):=k_
 have e:Q4.wrap m=m:=by rw[Q3];omega
 simp[execOp,a,b,go_sem,d,c,e]
theorem G9(a:o.op= .build 119 #[]):(execOp ev o).run lT w= .ok (.value (.agg gJ)) w:=by
 have e:execOp ev o=(do pure (.value (←Instr.build 119 #[]))):=by simp[execOp,a]
 have b:(do pure (.value (←Instr.build 119 #[])):Sem Next).run lT w= .ok (.value (.agg gJ)) w:=k_
 rw[e,b]
theorem GI(a:o.op= .alloc 119):(execOp ev o).run lT w= .ok (.value (.pk w.heap.size 0)) (w.alloc (.cells gJ 119)):=by
 have e:execOp ev o=(do pure (.value (←Qz 119 true (.tuple #[])))):=by simp only[execOp,a]
 have b:(do pure (.value (←Qz 119 true (.tuple #[]))):Sem Next).run lT w= .ok (.value (.pk w.heap.size 0)) (w.alloc (.cells gJ 119)):=k_
 rw[e,b]
theorem Lr{s:dw}(a:o.op= .build 119 #[(0,x),(1,y),(2,z),(3,u),(4,v)])(g:ev x= .agg s.key)(b:ev y= .i s.q)(f:ev z= .s s.salt)(d:ev u= .s s.links)(c:ev v= .s s.path):
 (execOp ev o).run lT w= .ok (.value (.agg s.cells)) w:=by
 have e:execOp ev o=(do pure (.value (←Instr.build 119 #[(0, .agg s.key),(1, .i s.q),(2, .s s.salt),(3, .s s.links),(4, .s s.path)]))):=by simp[execOp,a,g,b,f,d,c]
 have b:(do pure (.value (←Instr.build 119 #[(0, .agg s.key),(1, .i s.q),(2, .s s.salt),(3, .s s.links),(4, .s s.path)])):Sem Next).run lT w= .ok (.value (.agg s.cells)) w:=k_
 rw[e,b]
end
theorem D3:(lT.info? 119).map (·.size)=some 12:=k_
end L1
section
open Go
theorem jr{tmps:Array Value}{g d:Nat}{a:Bool}(b:o.guard=some (g,a))(c:(ops[g]?).bind (·.dst)=some d)(hv:tmps[d]?=some (.bool q)):Te o (yielded ops tmps)=(q==a):=by unfold Te yielded;rw[b];simp[c,hv]
end
namespace L1
open Go.Conc Go.RowKit
def Pf(k:dw)(b:ByteArray)(N H2 h T:Nat)(c1 n1 n2:Bool):Nat->Value->World->Prop
 |0,v,_=>v= .int .u64 (bV b 0 4)
 |1,v,_=>v= .pk N 4
 |2,v,_=>v= .int .i64 h
 |3,v,_=>v= .int .u64 (H2:Int)
 |4,v,_=>v= .bool c1
 |5,v,_=>v= .bool c1
 |6,v,_=>c1=false->v= .string b
 |7,v,_=>c1=false->v= .string (b.extract 4 8)
 |8,v,_=>c1=false->v= .pk N 1
 |9,v,_=>c1=false->v= .string k.chains
 |10,v,_=>c1=false->v= .bool n1
 |11,v,_=>v= .bool (c1||n1)
 |12,v,_=>v= .bool (c1||n1)
 |13,v,_=>(c1||n1)=false->v= .string b
 |14,v,_=>(c1||n1)=false->v= .int .i64 T
 |15,v,_=>(c1||n1)=false->v= .int .i64 ((T+4:Nat):Int)
 |16,v,_=>(c1||n1)=false->v= .string (b.extract T (T+4))
 |17,v,_=>(c1||n1)=false->v= .pk N 0
 |18,v,_=>(c1||n1)=false->v= .string k.tree
 |19,v,_=>(c1||n1)=false->v= .bool n2
 |_,v,_=>v= .bool (c1||n1||n2)
theorem Hd{k:dw}{b:ByteArray}{H2 h T:Nat}{c1 n1 n2:Bool}(m:Nat)(v:Value)(w w':World)(a:Pf k b N H2 h T c1 n1 n2 m v w):Pf k b N H2 h T c1 n1 n2 m v w':=by
 match m,a with
 |0,h|1,h|2,h|3,h|4,h|5,h|6,h|7,h|8,h|9,h|10,h|11,h|12,h|13,h|14,h|15,h|16,h|17,h|18,h|19,h|_+20,h=>exact h
section
variable{k:dw}{b:ByteArray}{H2 h T:Nat}{c1 n1 n2:Bool}
theorem LX(U:H2=2^h)(hh:k.height=h)(a2:h<=8)(a5:H2<=256)(hb:T+4<=b.size)(a4:8<=b.size)(Q:c1=decide (bV b 0 4≥(H2:Int)))(P:n1=((b.extract 4 8).data.toList !=k.chains.data.toList))(O:n2=((b.extract T (T+4)).data.toList !=k.tree.data.toList))
 (E:w.heap[N]?=some (.cells k.key 115)) (W:Has [(1, .s b),(2, .pt N),(6, .i T),(7, .i ((T+4:Nat):Int)),(8, .int .u64 (bV b 0 4)),(4, .pt (N+1))] 61 [] a)
 (next:∀a w',Bw w w'->Has [(47, .bool (c1||n1||n2)),(1, .s b),(2, .pt N),(6, .i T),(7, .i ((T+4:Nat):Int)),(8, .int .u64 (bV b 0 4)),(4, .pt (N+1))] 61 [] a->Rn lT Goal ((base 70).atR a K) cs w'):
 Rn lT Goal ((base 70).atR a (.code (rD Tryz.f70 6)::K)) cs w:=by
 refine Rn.growsG (fx:=[(1, .s b),(2, .pt N),(6, .i T),(7, .i ((T+4:Nat):Int)),(8, .int .u64 (bV b 0 4)),(4, .pt (N+1))]) (ds:=[27,28,29,30,31,32,33,34,35,36,37,38,39,40,41,42,43,44,45,46,47]) (N:=61) (df:=[]) (G:=Pf k b N H2 h T c1 n1 n2) k_ k_ (λm v w w' hg _=>Hd m v w w' hg) (λm o a w' hm s S a0 D c=> ?_)
  (λm a w'=>m=21/\Bw w w'/\Has [(47, .bool (c1||n1||n2)),(1, .s b),(2, .pt N),(6, .i T),(7, .i ((T+4:Nat):Int)),(8, .int .u64 (bV b 0 4)),(4, .pt (N+1))] 61 [] a)
  (λa w' V=> ?_) (λm o a w' Z hm s J a3=> ?_) (λa w' J=> ?_) W.defers W.size (W.all s_)
 ·have f1:=aA (D _ (mG (i:=0) rfl));have Y:=aA (D _ (mG (i:=1) rfl));have f6:=aA (D _ (mG (i:=2) rfl));have f7:=aA (D _ (mG (i:=3) rfl));have f8:=aA (D _ (mG (i:=4) rfl));have B:=(S.block N (gA E).1).trans E;have first:∀{o:Oper} {R:Value->World->Prop} (q:Bool) (g d:Nat),o.guard=some (g,false)->((bK Tryz.f70 6)[g]?).bind (·.dst)=some d->a.tmps[d]?=some (.bool q)->(q=false->qo lT a o w' R)->(q=true->R undef w')->wJ lT (bK Tryz.f70 6) a o w' R:=λ{o R} q g d z I X h4 h5=>by
   have hw:=jr (ops:=bK Tryz.f70 6) (tmps:=a.tmps) z I X;cases q with
   |false=>exact .inl ⟨hw,h4 rfl⟩
   |true=>exact .inr ⟨hw,h5 rfl⟩
  have t:∀{m:Nat} {o:Oper} {d:Option Tmp} {p:Op} {g:Nat},(bK Tryz.f70 6)[m]?=some o->((bK Tryz.f70 6)[m]?).map (λo=>(o.dst,o.op,o.guard))=some (d,p,some (g,false))->o.op=p/\o.guard=some (g,false):=λ{m o d p g} s C=>by rw[s]at C;simp only[T8,Option.some.injEq,Prod.mk.injEq]at C;exact⟨C.2.1,C.2.2⟩
  have a1:m<21:=hm;rcases(o_:m=0\/m=1\/m=2\/m=3\/m=4\/m=5\/m=6\/m=7\/m=8\/m=9\/m=10\/m=11\/m=12\/m=13\/m=14\/m=15\/m=16\/m=17\/m=18\/m=19\/m=20)with rfl|rfl|rfl|rfl|rfl|rfl|rfl|rfl|rfl|rfl|rfl|rfl|rfl|rfl|rfl|rfl|rfl|rfl|rfl|rfl|rfl
  ·obtain⟨F,f,A⟩:=oQ s;exact .inl ⟨A _,aF (by rw[bF (.inl f),f8]) ⟨rfl,bR⟩⟩
  ·obtain⟨F,f,A⟩:=oQ s;exact .inl ⟨A _,aF (eG 4 d_ f Y) ⟨rfl,bR⟩⟩
  ·obtain⟨F,f,A⟩:=oQ s;obtain⟨u,j,rfl⟩:=nE c 1 28;exact .inl ⟨A _,aF (aN (v:= .i h) cq f (aA j) ((aH B 4).trans (by rw[←hh];rfl))).1 ⟨rfl,bR⟩⟩
  ·obtain⟨F,f,A⟩:=oQ s;obtain⟨u,j,rfl⟩:=nE c 2 29;have hp:(1:Int)*2^h=(H2:Int):=(by rw[Int.one_mul,U,Q1];rfl);refine .inl ⟨A _,aF (Jo (m:=1) (k:=h) f rfl (aA j) o_ (by rw[hp];omega)) ⟨?_,bR⟩⟩;rw[hp];rfl
  ·obtain⟨F,f,A⟩:=oQ s;obtain⟨u,j,rfl⟩:=nE c 0 27;obtain⟨L,y,rfl⟩:=nE c 3 30;exact .inl ⟨A _,aF (Jt f (aA j) (aA y)) ⟨by rw[Q];rfl,bR⟩⟩
  ·obtain⟨F,f,A⟩:=oQ s;obtain⟨u,j,rfl⟩:=nE c 4 31;exact .inl ⟨A _,mp (.inl f) j ⟨rfl,bR⟩⟩
  ·obtain⟨f,x⟩:=t (d:=some 33) (p:= .move (.tmp 1)) s k_;obtain⟨u,j,rfl⟩:=nE c 5 32;exact first c1 5 32 x k_ j (λ_=>aF (by rw[bF (.inl f),f1]) ⟨λ_=>rfl,bR⟩) λe=>⟨λl=>(by rw[e]at l;cases l),bR⟩
  ·obtain⟨f,x⟩:=t (d:=some 34) (p:= .slice 9 (.tmp 33) (some (.const (.i 4))) (some (.const (.i 8))) none) s k_;obtain⟨u,j,rfl⟩:=nE c 5 32;obtain⟨H,r,z⟩:=nE c 6 33;exact first c1 5 32 x k_ j (λe=>aF (dR (m:=4) (n:=8) f ((aA r).trans (z e)) rfl rfl o_ o_).1 ⟨λ_=>rfl,bR⟩) λe=>⟨λl=>(by rw[e]at l;cases l),bR⟩
  ·obtain⟨f,x⟩:=t (d:=some 35) (p:= .fieldAddr 115 (.tmp 2) 1) s k_;obtain⟨u,j,rfl⟩:=nE c 5 32;exact first c1 5 32 x k_ j (λ_=>aF (eG 1 d_ f Y) ⟨λ_=>rfl,bR⟩) λe=>⟨λl=>(by rw[e]at l;cases l),bR⟩
  ·obtain⟨f,x⟩:=t (d:=some 36) (p:= .load 9 (.tmp 35)) s k_;obtain⟨u,j,rfl⟩:=nE c 5 32;obtain⟨H,r,z⟩:=nE c 8 35;exact first c1 5 32 x k_ j (λe=>aF (aN (v:= .s k.chains) bA f ((aA r).trans (z e)) ((aH B 1).trans rfl)).1 ⟨λ_=>rfl,bR⟩) λe=>⟨λl=>(by rw[e]at l;cases l),bR⟩
  ·obtain⟨f,x⟩:=t (d:=some 37) (p:= .binOp .neq 9 (.tmp 34) (.tmp 36) 9) s k_;obtain⟨u,j,rfl⟩:=nE c 5 32;obtain⟨H,r,z⟩:=nE c 7 34;obtain⟨L,y,I⟩:=nE c 9 36;exact first c1 5 32 x k_ j (λe=>aF (pJ f ((aA r).trans (z e)) ((aA y).trans (I e))) ⟨λ_=>by rw[P],bR⟩) λe=>⟨λl=>(by rw[e]at l;cases l),bR⟩
  ·obtain⟨F,f,A⟩:=oQ s;obtain⟨u,j,rfl⟩:=nE c 5 32;obtain⟨H,r,z⟩:=nE c 10 37;refine .inl ⟨A _,aF (li f (aA j)) ⟨?_,bR⟩⟩;cases e:c1 with
   |true=>rfl
   |false=>exact(aA r).trans (z e)
  ·obtain⟨F,f,A⟩:=oQ s;obtain⟨u,j,rfl⟩:=nE c 11 38;exact .inl ⟨A _,mp (.inl f) j ⟨rfl,bR⟩⟩
  ·obtain⟨f,x⟩:=t (d:=some 40) (p:= .move (.tmp 1)) s k_;obtain⟨u,j,rfl⟩:=nE c 12 39;exact first (c1||n1) 12 39 x k_ j (λ_=>aF (by rw[bF (.inl f),f1]) ⟨λ_=>rfl,bR⟩) λe=>⟨λl=>(by rw[e]at l;cases l),bR⟩
  ·obtain⟨f,x⟩:=t (d:=some 41) (p:= .move (.tmp 6)) s k_;obtain⟨u,j,rfl⟩:=nE c 12 39;exact first (c1||n1) 12 39 x k_ j (λ_=>aF (by rw[bF (.inl f),f6]) ⟨λ_=>rfl,bR⟩) λe=>⟨λl=>(by rw[e]at l;cases l),bR⟩
  ·obtain⟨f,x⟩:=t (d:=some 42) (p:= .move (.tmp 7)) s k_;obtain⟨u,j,rfl⟩:=nE c 12 39;exact first (c1||n1) 12 39 x k_ j (λ_=>aF (by rw[bF (.inl f),f7]) ⟨λ_=>rfl,bR⟩) λe=>⟨λl=>(by rw[e]at l;cases l),bR⟩
  ·obtain⟨f,x⟩:=t (d:=some 43) (p:= .slice 9 (.tmp 40) (some (.tmp 41)) (some (.tmp 42)) none) s k_;obtain⟨u,j,rfl⟩:=nE c 12 39;obtain⟨H,r,z⟩:=nE c 13 40;obtain⟨L,y,I⟩:=nE c 14 41;obtain⟨u3,M,X⟩:=nE c 15 42;exact first (c1||n1) 12 39 x k_ j (λe=>aF (dR (m:=T) (n:=T+4) f ((aA r).trans (z e)) ((aA y).trans (I e)) ((aA M).trans (X e)) o_ hb).1 ⟨λ_=>rfl,bR⟩) λe=>⟨λl=>(by rw[e]at l;cases l),bR⟩
  ·obtain⟨f,x⟩:=t (d:=some 44) (p:= .fieldAddr 115 (.tmp 2) 0) s k_;obtain⟨u,j,rfl⟩:=nE c 12 39;exact first (c1||n1) 12 39 x k_ j (λ_=>aF (eG 0 d_ f Y) ⟨λ_=>rfl,bR⟩) λe=>⟨λl=>(by rw[e]at l;cases l),bR⟩
  ·obtain⟨f,x⟩:=t (d:=some 45) (p:= .load 9 (.tmp 44)) s k_;obtain⟨u,j,rfl⟩:=nE c 12 39;obtain⟨H,r,z⟩:=nE c 17 44;exact first (c1||n1) 12 39 x k_ j (λe=>aF (aN (v:= .s k.tree) bA f ((aA r).trans (z e)) ((aH B 0).trans rfl)).1 ⟨λ_=>rfl,bR⟩) λe=>⟨λl=>(by rw[e]at l;cases l),bR⟩
  ·obtain⟨f,x⟩:=t (d:=some 46) (p:= .binOp .neq 9 (.tmp 43) (.tmp 45) 9) s k_;obtain⟨u,j,rfl⟩:=nE c 12 39;obtain⟨H,r,z⟩:=nE c 16 43;obtain⟨L,y,I⟩:=nE c 18 45;exact first (c1||n1) 12 39 x k_ j (λe=>aF (pJ f ((aA r).trans (z e)) ((aA y).trans (I e))) ⟨λ_=>by rw[O],bR⟩) λe=>⟨λl=>(by rw[e]at l;cases l),bR⟩
  ·obtain⟨F,f,A⟩:=oQ s;obtain⟨u,j,rfl⟩:=nE c 12 39;obtain⟨H,r,z⟩:=nE c 19 46;refine .inl ⟨A _,aF (li f (aA j)) ⟨?_,bR⟩⟩;show _=Value.bool ((c1||n1)||n2);cases e:(c1||n1)with
   |true=>rfl
   |false=>exact(aA r).trans (z e)
 ·obtain⟨u,j,y⟩:=V.come 20 47 rfl trivial;obtain rfl:=y;exact⟨rfl,V.old,V.base.more j⟩
 ·exact absurd (gA s).1 (by obtain⟨rfl,_⟩:=J;decide)
 ·exact next a w' J.2.1 J.2.2
end
def N9(k:dw)(b:ByteArray)(T:Nat)(s:dw):Nat->Value->World->Prop
 |0,v,_=>v= .agg k.key
 |1,v,_=>v= .int .u64 (bV b 0 4)
 |2,v,_=>v= .int .i64 (bV b 0 4)
 |3,v,_=>v= .string b
 |4,v,_=>v= .string (b.extract 8 40)
 |5,v,_=>v= .string b
 |6,v,_=>v= .int .i64 T
 |7,v,_=>v= .string (b.extract 40 T)
 |8,v,_=>v= .string b
 |9,v,_=>v= .int .i64 ((T+4:Nat):Int)
 |10,v,_=>v= .string (b.extract (T+4) b.size)
 |_,v,_=>v= .agg s.cells
theorem EW{k:dw}{b:ByteArray}{T:Nat}{s:dw}(m:Nat)(v:Value)(w w':World)(a:N9 k b T s m v w):N9 k b T s m v w':=by
 match m,a with
 |0,h|1,h|2,h|3,h|4,h|5,h|6,h|7,h|8,h|9,h|10,h|_+11,h=>exact h
section
variable{k s:dw}{b:ByteArray}{T:Nat}
theorem K5(hs:s=uM k n b)(U:T=40+32*n)(Y:T+4<=b.size)(V:0<=bV b 0 4/\bV b 0 4<9223372036854775808)(r:w.heap[N]?=some (.cells k.key 115))(q:w.heap[N+1]?=some (.cells gJ 119))(g:Has [(1, .s b),(2, .pt N),(6, .i T),(7, .i ((T+4:Nat):Int)),(8, .int .u64 (bV b 0 4)),(4, .pt (N+1))] 61 [] a)
 (next:∀a w',Below (N+1) w w'->w'.heap[N+1]?=some (.cells s.cells 119)->Has [(5, .bool true),(4, .pt (N+1))] 61 [] a->Rn lT Goal ((base 70).atR a K) cs w'):
 Rn lT Goal ((base 70).atR a (.code (rD Tryz.f70 8)::K)) cs w:=by
 have C:=(gA q).1;have p:s.links=b.extract 40 T:=by rw[hs,U];rfl
 have y:s.path=b.extract (T+4) b.size:=by rw[hs,U];show b.extract (44+32*n) b.size=_;rw[show 40+32*n+4=44+32*n from o_]
 have x:s.salt=b.extract 8 40:=by rw[hs];rfl
 have J:s.q=bV b 0 4:=by rw[hs];rfl
 have t:s.key=k.key:=by rw[hs];rfl
 refine Rn.grows (fx:=[(1, .s b),(2, .pt N),(6, .i T),(7, .i ((T+4:Nat):Int)),(8, .int .u64 (bV b 0 4)),(4, .pt (N+1))]) (ds:=[49,50,51,52,53,54,55,56,57,58,59,60]) (N:=61) (df:=[]) (G:=N9 k b T s) k_ k_ (λm v w w' X _=>EW m v w w' X) (λm o a w' S e L j c=> ?_)
  (λm a w'=>(m=12/\Bw w w'/\Has [(60, .agg s.cells),(4, .pt (N+1))] 61 [] a)\/(m=13/\Below (N+1) w w'/\w'.heap[N+1]?=some (.cells s.cells 119)/\Has [(4, .pt (N+1))] 61 [] a)\/(m=14/\Below (N+1) w w'/\w'.heap[N+1]?=some (.cells s.cells 119)/\Has [(5, .bool true),(4, .pt (N+1))] 61 [] a))
  (λa w' O=> ?_) (λm o a w' R S e M D=> ?_) (λa w' M=> ?_) g.defers g.size (g.all s_)
 ·have P:=aA (j _ (mG (i:=0) rfl));have f2:=aA (j _ (mG (i:=1) rfl));have f6:=aA (j _ (mG (i:=2) rfl));have f7:=aA (j _ (mG (i:=3) rfl));have Z:=aA (j _ (mG (i:=4) rfl));have z:=(L.block N (gA r).1).trans r;have W:m<12:=S;rcases(o_:m=0\/m=1\/m=2\/m=3\/m=4\/m=5\/m=6\/m=7\/m=8\/m=9\/m=10\/m=11)with rfl|rfl|rfl|rfl|rfl|rfl|rfl|rfl|rfl|rfl|rfl|rfl
  ·have d:=oS e;exact aF (iy (s:=k) d f2 z λ_ _=>rfl) ⟨rfl,bR⟩
  ·have d:=oS e;exact aF (by rw[bF (.inl d),Z]) ⟨rfl,bR⟩
  ·have d:=oS e;obtain⟨u,l,rfl⟩:=nE c 1 50;exact aF (Gk d (aA l) V) ⟨rfl,bR⟩
  ·have d:=oS e;exact aF (by rw[bF (.inl d),P]) ⟨rfl,bR⟩
  ·have d:=oS e;obtain⟨u,l,rfl⟩:=nE c 3 52;exact aF (dR (m:=8) (n:=40) d (aA l) rfl rfl o_ o_).1 ⟨rfl,bR⟩
  ·have d:=oS e;exact aF (by rw[bF (.inl d),P]) ⟨rfl,bR⟩
  ·have d:=oS e;exact aF (by rw[bF (.inl d),f6]) ⟨rfl,bR⟩
  ·have d:=oS e;obtain⟨u,l,rfl⟩:=nE c 5 54;obtain⟨Q,f,rfl⟩:=nE c 6 55;exact aF (dR (m:=40) (n:=T) d (aA l) rfl (aA f) o_ o_).1 ⟨rfl,bR⟩
  ·have d:=oS e;exact aF (by rw[bF (.inl d),P]) ⟨rfl,bR⟩
  ·have d:=oS e;exact aF (by rw[bF (.inl d),f7]) ⟨rfl,bR⟩
  ·have d:=oS e;obtain⟨u,l,rfl⟩:=nE c 8 57;obtain⟨Q,f,rfl⟩:=nE c 9 58;exact aF (pI (n:=T+4) d (aA l) (aA f) Y) ⟨rfl,bR⟩
  ·have d:=oS e;obtain⟨u0,I,rfl⟩:=nE c 0 49;obtain⟨u1,H,rfl⟩:=nE c 2 51;obtain⟨Q,f,rfl⟩:=nE c 4 53;obtain⟨u3,F,rfl⟩:=nE c 7 56;obtain⟨u4,E,rfl⟩:=nE c 10 59;exact aF (Lr (s:=s) d ((aA I).trans (by rw[t])) ((aA H).trans (by rw[J])) ((aA f).trans (by rw[x])) ((aA F).trans (by rw[p])) ((aA E).trans (by rw[y]))) ⟨rfl,bR⟩
 ·obtain⟨u,l,f⟩:=O.come 11 60 rfl trivial;obtain rfl:=f;exact .inl ⟨rfl,O.old,(O.base.more l).only ⟨rfl,rfl,trivial⟩⟩
 ·rcases M with⟨rfl,A,g⟩|⟨rfl,A,B,g⟩|⟨rfl,_⟩
  ·have B:=(A.block (N+1) C).trans q;refine Rn.does0 g (.store 119 (.tmp 4) (.tmp 60)) k_ s_ (λo e=>cd (cells:=s.cells) e (g.G 4) (g.G 60) B D3 rfl (by simp[dw.cells,Value.oneCell'])) λa g=>D a _ (.inr (.inl ⟨rfl,(A.mono o_).trans (bT w' (N+1) _ (T6 _)),setRow_heap w' (N+1) _ _ _ _ B,g.only ⟨rfl,trivial⟩⟩))
  ·refine Rn.C g 5 (.bool true) λa g=>D a w' (.inr (.inr ⟨rfl,A,B,g⟩))
  ·exact absurd (gA e).1 d_
 ·rcases M with⟨h,_⟩|⟨h,_⟩|⟨_,A,B,g⟩
  ·exact absurd h d_
  ·exact absurd h d_
  ·exact next a w' A B g
end
theorem Mp:Tryz.f70.body=some (.seq (rG Tryz.f70 0) (.seq (rG Tryz.f70 1) (.seq (rG Tryz.f70 2) (.seq (.seq (rG Tryz.f70 3) (.cond (.tmp 22) (.seq (rG Tryz.f70 4) .ret) .skip))
 (.seq (rG Tryz.f70 5) (.seq (.seq (rD Tryz.f70 6) (.cond (.tmp 47) (.seq (rG Tryz.f70 7) .ret) .skip)) (.seq (rD Tryz.f70 8) .ret))))))):=k_
def L2(k:dw)(h n:Nat)(b:ByteArray)(w0:World)(e:Ending)(w':World):Prop:=((kr k h n b/\e= .returned (.tuple #[.agg (uM k n b).cells, .bool true]))\/(¬kr k h n b/\e= .returned (.tuple #[.agg gJ, .bool false])))/\Bw w0 w'
def IG(k:dw)(h n:Nat)(b:ByteArray)(w0:World)(cs:List Frame)(g:Goroutine)(w':World):Prop:=∃(a:Act) (K:List Item) (bk:Nat) (cells:Array Value) (tt:TypeId) (v:Value),g=dN {(base 70).atR a K with mode:= .returning} cs/\a.defers=[]/\a.tmps[4]?=some (.pk bk 0)/\w'.heap[bk]?=some (.cells cells tt)/\cells.size=12/\a.tmps[5]?=some v/\L2 k h n b w0 (.returned (.tuple #[.agg cells,v])) w'
section
variable{kk:dw}{h:Nat}{b:ByteArray}{k:List Item}
theorem L0(id d:Nat)(i:d<61/\d≠4)(f:¬kr kk h n b)(c:Has [(4, .pt (w0.heap.size+1))] 61 [] a)(j:w.heap[w0.heap.size+1]?=some (.cells gJ 119))(e:Bw w0 w)(l:Q8 (bK Tryz.f70 id).size=[0,1,2])
 (q:((bK Tryz.f70 id)[0]?).map (λo=>(o.dst,o.op,o.guard))=some (some d, .build 119 #[],none)) (p:((bK Tryz.f70 id)[1]?).map (λo=>(o.dst,o.op,o.guard))=some (none, .store 119 (.tmp 4) (.tmp d),none)) (m:((bK Tryz.f70 id)[2]?).map (λo=>(o.dst,o.op,o.guard))=some (some 5, .assign (.const (.bool false)),none)):
 Rn lT (IG kk h n b w0 cs) ((base 70).atR a (.code (.seq (rG Tryz.f70 id) .ret)::k)) cs w:=by
 refine Rn.p rfl (Rn.r l ?_);refine Rn.op c d (.build 119 #[]) i.1 q s_ (λo g=>G9 g) λa c=> ?_;have r:((d,S3 gJ)::[(4, .pt (w0.heap.size+1))]:List (Nat×Value)).lookup 4=some (.pk (w0.heap.size+1) 0):=by simp[IT,show(4==d)=false from by simpa using QF i.2]
 refine Rn.does0 c (.store 119 (.tmp 4) (.tmp d)) p s_ (λo g=>cd (cells:=gJ) g (c.get (d:=4) r) (c.get (d:=d) (by simp[IT])) j D3 rfl (by simp[gJ,Value.oneCell'])) λa c=>Rn.asc c 5 (.bool false) d_ m λa c=>Rn.p rfl (Rn.ends rfl (.inr ⟨_,rfl⟩) (Rn.now ⟨a,_,w0.heap.size+1,gJ,119, .bool false,rfl,c.defers,c.slot 4 _ ?_,setRow_heap w _ _ _ _ _ j,rfl,c.slot 5 _ (by simp[IT]), .inr ⟨f,rfl⟩,e.trans (bT _ _ _ o_)⟩));simp[IT,show(4==d)=false from by simpa using QF i.2]
end
theorem Gt(k:dw)(h n:Nat)(L:k.height=h)(A:h<=8)(U:k.count=n)(S:n<=1000)(b:ByteArray)(X:b.size<=1125899906842624)(w:World):Calls lT 70 #[.agg k.key, .s b] w (L2 k h n b w):=by
 refine mq (t:=4) (u:=5) (ty:=119) (n:=12) Lf.func70 rfl Lf.underlying119 rfl D3 λO=> ?_;show Rn _ (IG k h n b w O) _ O w;rw[bP (N:=61) [.agg k.key, .s b] Lf.func70 Mp rfl];have c:=aY [.agg k.key, .s b] 61 s_;refine Rn.gr ?_;refine Rn.z c 2 0 115 rfl λa c=> ?_;show Rn _ _ _ _ (w.alloc (.cells k.key 115));refine Rn.vv c (λo g=>GI g) λa c=> ?_;rw[aI]at c;have f:=(cm (w.alloc (.cells k.key 115)) (.cells gJ 119) (b:=w.heap.size) (by rw[aI];omega)).trans (aP w _);have d:=aP (w.alloc (.cells k.key 115)) (.cells gJ 119);rw[aI]at d;have i:Bw w ((w.alloc (.cells k.key 115)).alloc (.cells gJ 119)):=aE (PK w _) (by rw[aI];omega) (PK _ _);revert f d i;generalize (w.alloc (.cells k.key 115)).alloc (.cells gJ 119)=J;intro f d i;have z:=(gA d).1
 iterate 2 refine Rn.uu c λa c=> ?_
 refine Rn.vv c (λo g=>(aN (v:= .i n) cq g (c.G 9) ((aH f 6).trans (by rw[←U];rfl))).1) λa c=> ?_;refine Rn.O c 11 (.binOp .mul 3 (.tmp 10) (.const (.i 32)) 3) (λo g=>(jC g (c.G 10) rfl o_).1) λa c=> ?_;refine Rn.vv c (λo g=>iA (m:=40) g rfl (c.G 11) o_) λa c=> ?_;rw[show(40:Int)+(n:Int)*32=((40+32*n:Nat):Int)from o_]at c
 iterate 3 refine Rn.uu c λa c=> ?_
 rw[show((40+32*n:Nat):Int)+4=((40+32*n+4:Nat):Int)from o_]at c;refine Rn.uu c λa c=> ?_
 iterate 2 refine Rn.uu c λa c=> ?_
 refine Rn.y c 17 7 rfl λa c=>Rn.vv c (λo g=>eG 4 d_ g (c.G 2)) λa c=> ?_;refine Rn.vv c (λo g=>(aN (v:= .i h) cq g (c.G 18) ((aH f 4).trans (by rw[←L];rfl))).1) λa c=> ?_;refine Rn.O c 20 (.binOp .mul 3 (.tmp 19) (.const (.i 32)) 3) (λo g=>(jC g (c.G 19) rfl o_).1) λa c=> ?_;refine Rn.vv c (λo g=>iA g (c.G 17) (c.G 20) o_) λa c=> ?_;refine Rn.vv c (λo g=>AH g (c.G 16) (c.G 21)) λa c=> ?_;refine Rn.p rfl (Rn.cond _ (c.G 22) ?_);by_cases x:b.size=44+32*n+32*h
 ·rw[show((b.size:Int) !=((40+32*n+4:Nat):Int)+(h:Int)*32)=false from by simp;omega];have M:=jj (b.extract 0 4).data.toList 4 (by simp;omega);have I:0<=bV b 0 4/\bV b 0 4<4294967296:=⟨M.1,by have:=M.2;rw[show(256:Int)^4=4294967296 from d_]at this;exact this⟩;refine Rn.uu c λa c=> ?_;refine Rn.vv c (λo g=>nT (n:=4) g (c.G 24) rfl o_) λa c=> ?_;refine Rn.cl c Lf.func88 (R:=λv K=>v= .int .u64 (bV b 0 4)/\K=J) ((eY (b.extract 0 4) J (by rw[ByteArray.size_extract];omega)).mono λe K h=>⟨_,h.1,rfl,h.2⟩) λv W Q a c=> ?_;obtain⟨rfl,rfl⟩:=Q;refine Rn.uu c λa c=> ?_;refine Rn.p rfl (Rn.p rfl (Rn.p rfl ?_));have F:2^h<=256:=By (Qp d_ A) d_;refine LX (k:=k) (b:=b) (N:=w.heap.size) (H2:=2^h) (h:=h) (T:=40+32*n) rfl L A F o_ o_ rfl rfl rfl f (c.only ⟨rfl,rfl,rfl,rfl,rfl,rfl,trivial⟩) λa P r c=> ?_;have q:=bk r f;have j:=(r.block _ z).trans d;have l:Bw w P:=aE i i.size r;refine Rn.cond _ (c.G 47) ?_;by_cases p:kr k h n b
  ·have e:(decide (bV b 0 4≥((2^h:Nat):Int))||((b.extract 4 8).data.toList !=k.chains.data.toList)||((b.extract (40+32*n) (40+32*n+4)).data.toList !=k.tree.data.toList))=false:=by obtain⟨_,C,G,B⟩:=p;rw[show 44+32*n=40+32*n+4 from o_]at B;have H:¬bV b 0 4≥((2^h:Nat):Int):=(by rw[Q1];exact Int.not_le.2 C);rw[decide_eq_false H,G,B];simp
   rw[e];refine Rn.p rfl (Rn.p rfl ?_);refine K5 (k:=k) (s:=uM k n b) (n:=n) rfl rfl o_ ⟨I.1,o_⟩ q j (c.only ⟨rfl,rfl,rfl,rfl,rfl,rfl,trivial⟩) λa V E D c=> ?_;exact Rn.ends rfl (.inr ⟨_,rfl⟩) (Rn.now ⟨a,_,w.heap.size+1,(uM k n b).cells,119, .bool true,rfl,c.defers,c.slot 4 _ rfl,D,rfl,c.slot 5 _ rfl, .inl ⟨p,rfl⟩,l.trans (E.mono o_)⟩)
  ·have e:(decide (bV b 0 4≥((2^h:Nat):Int))||((b.extract 4 8).data.toList !=k.chains.data.toList)||((b.extract (40+32*n) (40+32*n+4)).data.toList !=k.tree.data.toList))=true:=by
    refine Classical.byContradiction λy=>p ?_;rw[Bool.not_eq_true,Bool.or_eq_false_iff,Bool.or_eq_false_iff,decide_eq_false_iff_not,bne_eq_false_iff_eq,bne_eq_false_iff_eq]at y;obtain⟨⟨C,G⟩,B⟩:=y;refine⟨x, ?_,G, ?_⟩
    ·rw[Q1]at C;exact Int.not_le.1 C
    ·rw[show 44+32*n=40+32*n+4 from o_];exact B
   rw[e];exact L0 7 48 d_ p (c.only ⟨rfl,trivial⟩) j l rfl k_ k_ k_
 ·rw[show((b.size:Int) !=((40+32*n+4:Nat):Int)+(h:Int)*32)=true from by simp;omega];exact L0 4 23 d_ (λh=>x h.1) (c.only ⟨rfl,trivial⟩) d i rfl k_ k_ k_
def hK(key:ByteArray):Nat:=d8 (bV key 0 4)
def wK(key:ByteArray):Nat:=ee (bV key 4 8)
def nK(key:ByteArray):Nat:=fb (bV key 4 8)
def CB(key:ByteArray):Nat:=eR (bV key 4 8)
def mE(KS:List Int)(key msg sig:ByteArray):ByteArray:=yx KS (uM (gY key) (nK key) sig) (hK key) (wK key) (CB key) (nK key) (bV sig 0 4).toNat msg
def uw(KS:List Int)(key msg sig:ByteArray)(c:Int):Prop:=
 (¬gj key/\c=9)\/(gj key/\¬kr (gY key) (hK key) (nK key) sig/\c=10)\/(gj key/\kr (gY key) (hK key) (nK key) sig/\(mE KS key msg sig).data.toList≠(key.extract 24 key.size).data.toList/\c=10)\/(gj key/\kr (gY key) (hK key) (nK key) sig/\(mE KS key msg sig).data.toList=(key.extract 24 key.size).data.toList/\c=0)
theorem kinds(h:gj key):(hK key=5\/hK key=2)/\((wK key=2/\nK key=133/\CB key=6)\/(wK key=4/\nK key=67/\CB key=4)\/(wK key=8/\nK key=34/\CB key=0)):=by
 obtain⟨_,g,f⟩:=h;constructor
 ·unfold hK d8 at*;split
  ·exact .inl rfl
  ·split
   ·exact .inr rfl
   ·rename_i a b;simp[a,b]at g
 ·unfold wK nK CB ee fb eR at*;by_cases e:bV key 4 8=2
  ·rw[e];exact .inl d_
  ·by_cases d:bV key 4 8=3
   ·rw[d];exact .inr (.inl d_)
   ·by_cases c:bV key 4 8=4
    ·rw[c];exact .inr (.inr d_)
    ·simp[e,d,c]at f
theorem Hq(h:gj key)(e:kr (gY key) (hK key) (nK key) sig):Ou (uM (gY key) (nK key) sig) (hK key) (wK key) (CB key) (nK key) (bV sig 0 4).toNat:=by
 obtain⟨j,c⟩:=kinds h;obtain⟨g,_,_⟩:=h;obtain⟨d,f,_,_⟩:=e;have i:0<=bV sig 0 4:=(jj (sig.extract 0 4).data.toList 4 (by simp;omega)).1;have a:((bV sig 0 4).toNat:Int)=bV sig 0 4:=Int.toNat_of_nonneg i;exact
  {wid:=by rcases c with⟨h,_⟩|⟨h,_⟩|⟨h,_⟩<;>rw[h]<;>simp[qn]
   width:=rfl
   shift:=rfl
   shift8:=o_
   count:=rfl
   one:=o_
   most:=by rcases c with⟨h,b,_⟩|⟨h,b,_⟩|⟨h,b,_⟩<;>rw[h,b]<;>decide
   height:=rfl
   low:=o_
   qq:=a.symm
   leaf:=by have:((bV sig 0 4).toNat:Int)<((2^hK key:Nat):Int):=(by rw[a,Q1];exact f);exact Int.ofNat_lt.1 this
   id:=by show(key.extract 8 24).size<=1000;rw[ByteArray.size_extract];omega
   salt:=by show(sig.extract 8 40).size<=1000;rw[ByteArray.size_extract];omega
   links:=by show nK key*32<=(sig.extract 40 (40+32*nK key)).size;rw[ByteArray.size_extract];omega
   path:=by show(sig.extract (44+32*nK key) sig.size).size=32*hK key;rw[ByteArray.size_extract];omega}
def Ph(s:dw)(msg root:ByteArray)(b7:Nat)(rt:ByteArray)(bad ne:Bool):Nat->Value->World->Prop
 |0,v,_=>v= .bool (!bad)
 |1,v,_=>v= .bool bad
 |2,v,_=>v= .bool bad
 |3,v,_=>bad=false->v= .agg s.cells
 |4,v,_=>bad=false->v= .string msg
 |5,v,_=>bad=false->v= .string rt
 |6,v,_=>bad=false->v= .pk b7 3
 |7,v,_=>bad=false->v= .string root
 |8,v,_=>bad=false->v= .bool ne
 |_,v,_=>v= .bool (bad||ne)
theorem Hf{s:dw}{root:ByteArray}{b7:Nat}{rt:ByteArray}{bad ne:Bool}(m:Nat)(v:Value)(w w':World)(a:Ph s msg root b7 rt bad ne m v w):Ph s msg root b7 rt bad ne m v w':=by
 match m,a with
 |0,h|1,h|2,h|3,h|4,h|5,h|6,h|7,h|8,h|_+9,h=>exact h
section
variable{s:dw}{rt:ByteArray}{k:dw}{bad ne:Bool}
theorem M4(hC:bad=false->∀w',Bw w w'->Calls lT 71 #[.agg s.cells, .s msg] w' λe D=>e= .returned (.s rt)/\Bw w' D)(H:ne=(rt.data.toList !=k.root.data.toList))(V:w.heap[b7]?=some (.cells k.key 115))(U:bad=false->w.heap[b9]?=some (.cells s.cells 119))
 (J:Has [(1, .s msg),(7, .pt b7),(8, .bool (!bad)),(9, .pt b9)] 33 [] a)
 (next:∀a w',Bw w w'->Has [(32, .bool (bad||ne))] 33 [] a->Rn lT Goal ((base 36).atR a K) cs w'):
 Rn lT Goal ((base 36).atR a (.code (rD Tryz.f36 5)::K)) cs w:=by
 refine Rn.growsG (fx:=[(1, .s msg),(7, .pt b7),(8, .bool (!bad)),(9, .pt b9)]) (ds:=[23,24,25,26,27,28,29,30,31,32]) (N:=33) (df:=[]) (G:=Ph s msg k.root b7 rt bad ne) k_ k_ (λm v w w' hg _=>Hf m v w w' hg) (λm o a w' T q B X z b=> ?_)
  (λm a w'=>m=10/\Bw w w'/\Has [(32, .bool (bad||ne))] 33 [] a)
  (λa w' I=> ?_) (λm o a w' Q T q E a0=> ?_) (λa w' E=> ?_) J.defers J.size (J.all s_)
 ·have f1:=aA (z _ (mG (i:=0) rfl));have f7:=aA (z _ (mG (i:=1) rfl));have f8:=aA (z _ (mG (i:=2) rfl));have f9:=aA (z _ (mG (i:=3) rfl));have L:=(B.block b7 (gA V).1).trans V;have first:∀{o:Oper} {R:Value->World->Prop},o.guard=some (2,false)->a.tmps[25]?=some (.bool bad)->(bad=false->qo lT a o w' R)->(bad=true->R undef w')->wJ lT (bK Tryz.f36 5) a o w' R:=λ{o R} A h3 h4 h5=>by
   have S:=jr (ops:=bK Tryz.f36 5) (tmps:=a.tmps) (d:=25) A k_ h3;cases bad with
   |false=>exact .inl ⟨S,h4 rfl⟩
   |true=>exact .inr ⟨S,h5 rfl⟩
  have t:∀{m:Nat} {o:Oper} {d:Option Tmp} {p:Op} {g:Nat},(bK Tryz.f36 5)[m]?=some o->((bK Tryz.f36 5)[m]?).map (λo=>(o.dst,o.op,o.guard))=some (d,p,some (g,false))->o.op=p/\o.guard=some (g,false):=λ{m o d p g} q r=>by rw[q]at r;simp only[T8,Option.some.injEq,Prod.mk.injEq]at r;exact⟨r.2.1,r.2.2⟩
  have Z:m<10:=T;rcases(o_:m=0\/m=1\/m=2\/m=3\/m=4\/m=5\/m=6\/m=7\/m=8\/m=9)with rfl|rfl|rfl|rfl|rfl|rfl|rfl|rfl|rfl|rfl
  ·obtain⟨O,j,C⟩:=oQ q;exact .inl ⟨C _,aF (by rw[bF (.inl j),f8]) ⟨rfl,bR⟩⟩
  ·obtain⟨O,j,C⟩:=oQ q;obtain⟨u,f,rfl⟩:=b 0 23 rfl k_;exact .inl ⟨C _,aF (sX j (aA f)).1 ⟨by show Value.bool (!!bad)=Value.bool bad;rw[Bool.not_not],bR⟩⟩
  ·obtain⟨O,j,C⟩:=oQ q;obtain⟨u,f,rfl⟩:=b 1 24 rfl k_;exact .inl ⟨C _,mp (.inl j) f ⟨rfl,bR⟩⟩
  ·obtain⟨j,y⟩:=t (d:=some 26) (p:= .load 119 (.tmp 9)) q k_;obtain⟨u,f,rfl⟩:=b 2 25 rfl k_;exact first y f (λc=>aF (l6 (ex:=#[]) j f9 (by rw[Array.append_empty];exact(B.block b9 (gA (U c)).1).trans (U c))).1 ⟨λ_=>rfl,bR⟩) λc=>⟨λl=>(by rw[c]at l;cases l),bR⟩
  ·obtain⟨j,y⟩:=t (d:=some 27) (p:= .move (.tmp 1)) q k_;obtain⟨u,f,rfl⟩:=b 2 25 rfl k_;exact first y f (λ_=>aF (by rw[bF (.inl j),f1]) ⟨λ_=>rfl,bR⟩) λc=>⟨λl=>(by rw[c]at l;cases l),bR⟩
  ·obtain⟨j,y⟩:=t (d:=some 28) (p:= .call {callee:= .value (.func 71),args:=#[.tmp 26, .tmp 27],argTypes:=#[119,9]}) q k_;obtain⟨u,f,rfl⟩:=b 2 25 rfl k_;obtain⟨F,n,A⟩:=b 3 26 rfl k_;obtain⟨W,x,M⟩:=b 4 27 rfl k_;refine first y f (λc=> ?_) λc=>⟨λl=>(by rw[c]at l;cases l),bR⟩
   have Y:=bG (w:=w') j (show(#[Operand.tmp 26, .tmp 27]:Array Operand).map a.eval=#[.agg s.cells, .s msg]from by simp[aA n,aA x,A c,M c]) (rI (P:=aJ true tP) Lf.func71 _);exact .inr ⟨_,_,Y.1,(hC c w' B).mono λe D h=>⟨_,h.1,λ_=>rfl,h.2⟩⟩
  ·obtain⟨j,y⟩:=t (d:=some 29) (p:= .fieldAddr 115 (.tmp 7) 3) q k_;obtain⟨u,f,rfl⟩:=b 2 25 rfl k_;exact first y f (λ_=>aF (eG 3 d_ j f7) ⟨λ_=>rfl,bR⟩) λc=>⟨λl=>(by rw[c]at l;cases l),bR⟩
  ·obtain⟨j,y⟩:=t (d:=some 30) (p:= .load 9 (.tmp 29)) q k_;obtain⟨u,f,rfl⟩:=b 2 25 rfl k_;obtain⟨F,n,A⟩:=b 6 29 rfl k_;exact first y f (λc=>aF (aN (v:= .s k.root) bA j ((aA n).trans (A c)) ((aH L 3).trans rfl)).1 ⟨λ_=>rfl,bR⟩) λc=>⟨λl=>(by rw[c]at l;cases l),bR⟩
  ·obtain⟨j,y⟩:=t (d:=some 31) (p:= .binOp .neq 9 (.tmp 28) (.tmp 30) 9) q k_;obtain⟨u,f,rfl⟩:=b 2 25 rfl k_;obtain⟨F,n,A⟩:=b 5 28 rfl k_;obtain⟨W,x,M⟩:=b 7 30 rfl k_;exact first y f (λc=>aF (pJ j ((aA n).trans (A c)) ((aA x).trans (M c))) ⟨λ_=>by rw[H],bR⟩) λc=>⟨λl=>(by rw[c]at l;cases l),bR⟩
  ·obtain⟨O,j,C⟩:=oQ q;obtain⟨u,f,rfl⟩:=b 2 25 rfl k_;obtain⟨F,n,A⟩:=b 8 31 rfl k_;refine .inl ⟨C _,aF (li j (aA f)) ⟨?_,bR⟩⟩;cases c:bad with
   |true=>rfl
   |false=>exact(aA n).trans (A c)
 ·obtain⟨u,f,x⟩:=I.come 9 32 rfl trivial;obtain rfl:=x;exact⟨rfl,I.old,(I.base.more f).only ⟨rfl,trivial⟩⟩
 ·exact absurd (gA q).1 (by obtain⟨rfl,_⟩:=E;decide)
 ·exact next a w' E.2.1 E.2.2
end
theorem MA:Tryz.f36.body=some (.seq (rG Tryz.f36 0) (.seq (rG Tryz.f36 1) (.seq (.seq (rG Tryz.f36 2) (.cond (.tmp 16) (.seq (rG Tryz.f36 3) .ret) .skip))
 (.seq (rG Tryz.f36 4) (.seq (.seq (rD Tryz.f36 5) (.cond (.tmp 32) (.seq (rG Tryz.f36 6) .ret) .skip)) (.seq (rG Tryz.f36 7) .ret)))))):=k_
theorem uL(KS:List Int)(a2:KS.length=64)(key msg sig:ByteArray)(hm:msg.size<=281474976706560)(hs:sig.size<=1125899906842624)(w:World)(Q:w.rangeAt 0 0 (aM KS))(h0:0<w.heap.size):
 Calls lT 36 #[.s key, .s msg, .s sig] w λe w'=>∃c,e= .returned (.i c)/\uw KS key msg sig c/\Bw w w':=by
 refine bJ (t:=6) Lf.func36 rfl λcs=> ?_;rw[bP (N:=33) [.s key, .s msg, .s sig] Lf.func36 MA rfl];have b:=aY [.s key, .s msg, .s sig] 33 s_
 iterate 2 refine Rn.uu b λa b=> ?_
 refine Rn.calls (f:=69) (xs:=#[.tmp 11]) (ats:=#[9]) (args:=#[.s key]) b 12 d_ k_ (by simp[b.G 11]) Lf.func69 k_ k_
  (R:=λv w'=>((gj key/\v= .tuple #[.agg (gY key).key, .bool true])\/(¬gj key/\v= .tuple #[.agg gK, .bool false]))/\Bw w w')
  ((yE key w).mono λe w' h=>by
    rcases h with⟨⟨l,j⟩|⟨l,j⟩,U⟩
    ·exact⟨_,j, .inl ⟨l,rfl⟩,U⟩
    ·exact⟨_,j, .inr ⟨l,rfl⟩,U⟩) λv J z a b=> ?_
 obtain⟨z,D⟩:=z;obtain⟨cells,W,d,y⟩:∃cells W,((¬gj key/\cells=gK/\W=false)\/(gj key/\cells=(gY key).key/\W=true))/\v= .tuple #[.agg cells, .bool W]:=by
  rcases z with⟨l,j⟩|⟨l,j⟩
  ·exact⟨_,_, .inr ⟨l,rfl,rfl⟩,j⟩
  ·exact⟨_,_, .inl ⟨l,rfl,rfl⟩,j⟩
 subst y;have n:cells.size=8/\cells.all (·.oneCell')=true:=by
  rcases d with⟨_,rfl,_⟩|⟨_,rfl,_⟩
  ·exact⟨rfl,by simp[gK,Value.oneCell']⟩
  ·exact⟨rfl,by simp[dw.key,Value.oneCell']⟩
 iterate 3 refine Rn.uu b λa b=> ?_
 refine Rn.al b (λo x=>Bg x) λZ a O h7 _ b=> ?_;refine Rn.nn b (λo x=>cd (cells:=cells) x (b.G 7) (b.G 13) h7 (by rw[n.1];exact zp) (by rw[n.1];rfl) n.2) λa b=> ?_;have u:=setRow_heap Z J.heap.size gK cells 115 (0,0) h7;have r:Bw w (Z.setRow J.heap.size cells):=(aE D D.size O).trans (bT _ _ _ D.size);have q:=(gA u).1;revert u r q;generalize Z.setRow J.heap.size cells=Y;intro u r q;clear h7 O
 iterate 3 refine Rn.uu b λa b=> ?_
 refine Rn.p rfl (Rn.cond _ (b.G 16) ?_);rcases d with⟨L,rfl,rfl⟩|⟨p,rfl,rfl⟩
 ·refine Rn.uu b λa b=> ?_;exact Rn.fi b ⟨9,rfl, .inl ⟨L,rfl⟩,r⟩
 obtain⟨hh,hk⟩:=kinds p;refine Rn.vv b (λo x=>iy (s:=gY key) x (b.G 7) u λ_ _=>rfl) λa b=> ?_;refine Rn.uu b λa b=> ?_;refine Rn.calls (f:=70) (xs:=#[.tmp 18, .tmp 19]) (ats:=#[115,9]) (args:=#[.agg (gY key).key, .s sig]) b 20 d_ k_ (by simp[b.G 18,b.G 19]) Lf.func70 k_ k_
  (R:=λv w'=>((kr (gY key) (hK key) (nK key) sig/\v= .tuple #[.agg (uM (gY key) (nK key) sig).cells, .bool true])\/(¬kr (gY key) (hK key) (nK key) sig/\v= .tuple #[.agg gJ, .bool false]))/\Bw Y w')
  ((Gt (gY key) (hK key) (nK key) rfl o_ rfl o_ sig hs Y).mono λe w' h=>by
    rcases h with⟨⟨l,j⟩|⟨l,j⟩,U⟩
    ·exact⟨_,j, .inl ⟨l,rfl⟩,U⟩
    ·exact⟨_,j, .inr ⟨l,rfl⟩,U⟩) λv I z a b=> ?_
 obtain⟨z,M⟩:=z;obtain⟨cells,bad,d,y⟩:∃cells bad,((kr (gY key) (hK key) (nK key) sig/\cells=(uM (gY key) (nK key) sig).cells/\bad=false)\/(¬kr (gY key) (hK key) (nK key) sig/\cells=gJ/\bad=true))/\v= .tuple #[.agg cells, .bool (!bad)]:=by
  rcases z with⟨l,j⟩|⟨l,j⟩
  ·exact⟨_,false, .inl ⟨l,rfl,rfl⟩,j⟩
  ·exact⟨_,true, .inr ⟨l,rfl,rfl⟩,j⟩
 subst y;have i:cells.size=12/\cells.all (·.oneCell')=true:=by
  rcases d with⟨_,rfl,_⟩|⟨_,rfl,_⟩
  ·exact⟨rfl,by simp[dw.cells,Value.oneCell']⟩
  ·exact⟨rfl,by simp[gJ,Value.oneCell']⟩
 have T:=(M.block _ q).trans u;have F:Bw w I:=aE r r.size M
 iterate 3 refine Rn.uu b λa b=> ?_
 refine Rn.al b (λo x=>GI x) λV a C h9 _ b=> ?_;have S:=bk C T;have a0:=(gA T).1;refine Rn.nn b (λo x=>cd (cells:=cells) x (b.G 9) (b.G 21) h9 (by rw[i.1];exact D3) (by rw[i.1];rfl) i.2) λa b=> ?_;have G:=setRow_heap V I.heap.size gJ cells 119 (0,0) h9;have H:=(setRow_other V I.heap.size J.heap.size cells o_).trans S;have g:Bw w (V.setRow I.heap.size cells):=(aE F F.size C).trans (bT _ _ _ F.size);revert G H g;generalize V.setRow I.heap.size cells=w6;intro G H g;clear h9 C S;refine Rn.uu b λa b=> ?_;refine Rn.p rfl (Rn.p rfl (Rn.p rfl ?_));refine M4 (s:=uM (gY key) (nK key) sig) (k:=gY key) (rt:=mE KS key msg sig) (bad:=bad) (b9:=I.heap.size) (b7:=J.heap.size) (msg:=msg) (λK w' P=> ?_) rfl H (λK=> ?_) (b.only ⟨rfl,rfl,rfl,rfl,trivial⟩) λa w7 a1 b=> ?_
 ·rcases d with⟨m,_,_⟩|⟨_,_,B⟩
  ·exact zK KS a2 _ _ _ _ _ _ (Hq p m) msg hm w' (Pq h0 (aE g g.size P) Q) (T7 h0 (aE g g.size P).size)
  ·rw[B]at K;cases K
 ·rcases d with⟨_,hc,_⟩|⟨_,_,B⟩
  ·rw[G,hc]
  ·rw[B]at K;cases K
 have E:Bw w w7:=aE g g.size a1;refine Rn.cond _ (b.G 32) ?_;rcases d with⟨m,_,rfl⟩|⟨A,_,rfl⟩
 ·by_cases X:(mE KS key msg sig).data.toList=(key.extract 24 key.size).data.toList
  ·rw[show(false||((mE KS key msg sig).data.toList !=(gY key).root.data.toList))=false from by rw[Bool.false_or,bne_eq_false_iff_eq];exact X];refine Rn.uu b λa b=> ?_;exact Rn.fi b ⟨0,rfl, .inr (.inr (.inr ⟨p,m,X,rfl⟩)),E⟩
  ·rw[show(false||((mE KS key msg sig).data.toList !=(gY key).root.data.toList))=true from by rw[Bool.false_or,bne_iff_ne];exact X];refine Rn.uu b λa b=> ?_;exact Rn.fi b ⟨10,rfl, .inr (.inr (.inl ⟨p,m,X,rfl⟩)),E⟩
 ·refine Rn.uu b λa b=> ?_;exact Rn.fi b ⟨10,rfl, .inr (.inl ⟨p,A,rfl⟩),E⟩
end L1
section
open Go.Conc Go.RowKit
def kZ(KS:List Int)(cv:Array Value)(w:World):Prop:=∃hb capH kb cap:Nat,cv=#[.sk hb 8 capH, .sk kb 64 cap]/\w.rangeAt hb 0 (PN H0)/\hb<w.heap.size/\w.rangeAt kb 0 (PN KS)/\kb<w.heap.size
def bB(t c:Int)(h wd n sh:Nat):Array Value:=#[.int .i64 t, .int .i64 c, .int .i64 h, .int .i64 wd, .int .i64 n, .int .i64 sh]
theorem so{L:List Value}(d:Bw w w')(a:b<w.heap.size)(h:w.rangeAt b 0 L):w'.rangeAt b 0 L:=λj v c=>by have:=h j v c;unfold World.cell? at this⊢;rw[d.block b a];exact this
theorem kZ.mono(h:kZ KS cv w)(a:Bw w w'):kZ KS cv w':=by obtain⟨b,j,e,i,rfl,g,d,f,c⟩:=h;exact⟨b,j,e,i,rfl,so a d g,T7 d a.size,so a c f,T7 c a.size⟩
theorem kZ.two(h:kZ KS cv w):∃c a,cv=#[c,a]:=by obtain⟨b,a,d,e,rfl,_⟩:=h;exact⟨_,_,rfl⟩
end
namespace L1
open Go.Conc Go.RowKit
theorem gP(KS:List Int)(c:KS.length=64)(b:iU KS)(f:Array Value)(s:ByteArray)(w:World)(j:kZ KS f w)(h:s.size<=281474976710400):
 Calls lT 12 #[.agg f, .s s] w λe w'=>e= .returned (.string ⟨(dU KS s.data.toList).toArray⟩)/\Bw w w':=by obtain⟨i,a,g,d,rfl,n,m,l,k⟩:=j;exact AL KS s i a g d w c b n m l k h
section
variable{y:Operand}
theorem gg(c:∃e d,cv=#[e,d])(a:o.op= .load 26 x)(f:ev x= .pk b 0)(h:w.heap[b]?=some (.cells cv 26)):(execOp ev o).run lT w= .ok (.value (.agg cv)) w:=by
 obtain⟨e,d,rfl⟩:=c;have i:(isAgg 26).run lT w= .ok true w:=k_
 have g:=aH h;simp[execOp,a,f,AT,loadVar,i,loadCells,loadCellsFrom,Addr.add,g,go_sem]
theorem jt{t:Int}{d wd sh:Nat}(a:o.op= .load 29 x)(e:ev x= .pk b 0)(h:w.heap[b]?=some (.cells (bB t c d wd n sh) 29)):(execOp ev o).run lT w= .ok (.value (.agg (bB t c d wd n sh))) w:=by
 have g:(isAgg 29).run lT w= .ok true w:=k_
 have f:=aH h;simp[execOp,a,e,AT,loadVar,g,loadCells,loadCellsFrom,Addr.add,f,bB,go_sem]
theorem jI(j:Nat)(f:j<6)(a:o.op= .fieldAddr 29 x j)(c:ev x= .pk b 0):(execOp ev o).run lT w= .ok (.value (.pk b j)) w:=by
 have e:execOp ev o=(do pure (.value (←BY 29 (.pk b 0) j))):=by simp only[execOp,a,c]
 have d:(do pure (.value (←BY 29 (.pk b 0) j)):Sem Next).run lT w= .ok (.value (.pk b j)) w:=by rcases(o_:j=0\/j=1\/j=2\/j=3\/j=4\/j=5)with rfl|rfl|rfl|rfl|rfl|rfl<;>kernel_rfl
 rw[e,d]
theorem xf(b:o.op= .binOp .quo 3 x y u)(f:ev x= .i m)(d:ev y= .i n)(i:0<n)(j:m<9223372036854775808):(execOp ev o).run lT w= .ok (.value (.i ((m/n:Nat):Int))) w:=by
 obtain⟨q,a⟩:∃q,q=m/n:=⟨_,rfl⟩;have g:q<=m:=by rw[a];exact Ry _ _
 have e:Q4.wrap (q:Int)=(q:Int):=by rw[Q3];omega
 have h:(m:Int).tdiv (n:Int)=(q:Int):=by rw[Int.tdiv_eq_ediv_of_nonneg o_,a,QU]
 have c:¬n=0:=o_
 rw[←a];simp[execOp,b,f,d,go_sem,h,e,c]
theorem CE(a:o.op= .binOp .rem 3 x y u)(d:ev x= .i m)(c:ev y= .i n)(f:0<n):(execOp ev o).run lT w= .ok (.value (.i ((m%n:Nat):Int))) w:=by
 have e:(m:Int).tmod (n:Int)=((m%n:Nat):Int):=by rw[Int.tmod_eq_emod_of_nonneg o_,Int.natCast_emod]
 have b:¬n=0:=o_
 simp[execOp,a,d,c,go_sem,e,b]
end
theorem ym(KS:List Int)(a b c d e:ByteArray):j8 KS [a,b,c,d,e]=⟨(dU KS (a++b++c++d++e).data.toList).toArray⟩:=by simp[j8,S4]
theorem yl(KS:List Int)(a b c d:ByteArray):j8 KS [a,b,c,d]=⟨(dU KS (a++b++c++d).data.toList).toArray⟩:=by simp[j8,S4]
theorem M2(e:KS.length=64)(d:iU KS){id b c Xn:ByteArray}{q f:Nat}(i:Xn=⟨(dU KS (id++ob q 4++ob 33153 2++b++c).data.toList).toArray⟩)(l:q<9223372036854775808)(g:id.size+6+b.size+c.size<=281474976710400)(k:kZ KS cv w)(h:w.heap[f]?=some (.cells cv 26))
 (j:Has [(1, .s id),(2, .i q),(3, .s b),(4, .s c),(5, .pt f)] 23 [] a)
 (next:∀a w',(Bw w w'/\Has [(10, .s Xn),(1, .s id),(2, .i q),(3, .s b),(4, .s c),(5, .pt f)] 23 [] a)->Rn lT Goal (fr.atR a K) cs w'):
 Rn lT Goal (fr.atR a (.code (rD Tryz.f31 1)::K)) cs w:=by
 exact Rn.tab j [(11, .agg cv),(12, .s id),(13, .i q),(14, .s (ob q 4)),(15, .s (id++ob q 4)),(16, .s (ob 33153 2)),(17, .s (id++ob q 4++ob 33153 2)),(18, .s b),(19, .s (id++ob q 4++ob 33153 2++b)),(20, .s c),(21, .s (id++ob q 4++ob 33153 2++b++c)),(22, .s Xn),(10, .s Xn)] [12,13,18,20,10] 10
  ⟨tq,
   λz=>z.c2 (z.k 13) kc (dA (q) 4 _ d_ o_),
   tq,
   λz=>z.c2 kc kc (dA 33153 2 _ d_ d_),
   tq,
   tq,
   tq,
   λz=>z.c2 (z.k 11) (z.k 21) (gP KS e d cv (id++ob q 4++ob 33153 2++b++c) _ (k.mono z.b) (by first|(simp only[cE];omega)|(simp only[Tg,cE];omega))) (congrArg Value.string i.symm),
   trivial⟩ next
theorem Mx:Tryz.f31.body=some (.seq (rG Tryz.f31 0) (.seq (rD Tryz.f31 1) .ret)):=k_
theorem pO(j:KS.length=64)(i:iU KS)(id f d:ByteArray)(q:Nat)(k:q<9223372036854775808)(g:id.size+6+f.size+d.size<=281474976710400)(w:World)(l:kZ KS cv w):
 Calls lT 31 #[.agg cv, .s id, .i q, .s f, .s d] w λe w'=>e= .returned (.s (j8 KS [id,ob q 4,ob 33153 2,f,d]))/\Bw w w':=by refine bJ (t:=10) Lf.func31 rfl λm=> ?_;rw[bP (N:=23) [.agg cv, .s id, .i q, .s f, .s d] Lf.func31 Mx rfl];have c:=aY [.agg cv, .s id, .i q, .s f, .s d] 23 s_;refine Rn.gr ?_;refine Rn.z c 5 0 26 rfl λa c=> ?_;show Rn _ _ _ _ (w.alloc (.cells cv 26));refine Rn.uu c λa c=> ?_;have b:=PK w (.cells cv 26);refine Rn.p rfl (Rn.p rfl ?_);refine M2 j i (ym KS id (ob q 4) (ob 33153 2) f d) k g (l.mono b) (aP w _) (c.only ⟨rfl,rfl,rfl,rfl,rfl,trivial⟩) λa w' ⟨h,c⟩=> ?_;exact Rn.fi c ⟨rfl,aE b b.size h⟩
theorem LZ(e:KS.length=64)(d:iU KS){id b c Xn:ByteArray}{q f:Nat}(i:Xn=⟨(dU KS (id++ob q 4++ob 33667 2++b++c).data.toList).toArray⟩)(l:q<9223372036854775808)(g:id.size+6+b.size+c.size<=281474976710400)(k:kZ KS cv w)(h:w.heap[f]?=some (.cells cv 26))
 (j:Has [(1, .s id),(2, .i q),(3, .s b),(4, .s c),(5, .pt f)] 23 [] a)
 (next:∀a w',(Bw w w'/\Has [(10, .s Xn),(1, .s id),(2, .i q),(3, .s b),(4, .s c),(5, .pt f)] 23 [] a)->Rn lT Goal (fr.atR a K) cs w'):
 Rn lT Goal (fr.atR a (.code (rD Tryz.f65 1)::K)) cs w:=by
 exact Rn.tab j [(11, .agg cv),(12, .s id),(13, .i q),(14, .s (ob q 4)),(15, .s (id++ob q 4)),(16, .s (ob 33667 2)),(17, .s (id++ob q 4++ob 33667 2)),(18, .s b),(19, .s (id++ob q 4++ob 33667 2++b)),(20, .s c),(21, .s (id++ob q 4++ob 33667 2++b++c)),(22, .s Xn),(10, .s Xn)] [12,13,18,20,10] 10
  ⟨tq,
   λz=>z.c2 (z.k 13) kc (dA (q) 4 _ d_ o_),
   tq,
   λz=>z.c2 kc kc (dA 33667 2 _ d_ d_),
   tq,
   tq,
   tq,
   λz=>z.c2 (z.k 11) (z.k 21) (gP KS e d cv (id++ob q 4++ob 33667 2++b++c) _ (k.mono z.b) (by first|(simp only[cE];omega)|(simp only[Tg,cE];omega))) (congrArg Value.string i.symm),
   trivial⟩ next
theorem Mt:Tryz.f65.body=some (.seq (rG Tryz.f65 0) (.seq (rD Tryz.f65 1) .ret)):=k_
theorem m9(j:KS.length=64)(i:iU KS)(id f d:ByteArray)(q:Nat)(k:q<9223372036854775808)(g:id.size+6+f.size+d.size<=281474976710400)(w:World)(l:kZ KS cv w):
 Calls lT 65 #[.agg cv, .s id, .i q, .s f, .s d] w λe w'=>e= .returned (.s (j8 KS [id,ob q 4,ob 33667 2,f,d]))/\Bw w w':=by refine bJ (t:=10) Lf.func65 rfl λm=> ?_;rw[bP (N:=23) [.agg cv, .s id, .i q, .s f, .s d] Lf.func65 Mt rfl];have c:=aY [.agg cv, .s id, .i q, .s f, .s d] 23 s_;refine Rn.gr ?_;refine Rn.z c 5 0 26 rfl λa c=> ?_;show Rn _ _ _ _ (w.alloc (.cells cv 26));refine Rn.uu c λa c=> ?_;have b:=PK w (.cells cv 26);refine Rn.p rfl (Rn.p rfl ?_);refine LZ j i (ym KS id (ob q 4) (ob 33667 2) f d) k g (l.mono b) (aP w _) (c.only ⟨rfl,rfl,rfl,rfl,rfl,trivial⟩) λa w' ⟨h,c⟩=> ?_;exact Rn.fi c ⟨rfl,aE b b.size h⟩
theorem K7(c:KS.length=64)(b:iU KS){id en Xn:ByteArray}{q d g:Nat}(h:Xn=⟨(dU KS (id++ob q 4++ob 32896 2++en).data.toList).toArray⟩)(k:q<9223372036854775808)(e:id.size+6+en.size<=140737488355328)(j:kZ KS cv w)(f:w.heap[d]?=some (.cells cv 26))
 (i:Has [(2, .s id),(3, .i q),(4, .s en),(5, .pt d),(6, .pt g)] 36 [] a)
 (next:∀a w',(Bw w w'/\Has [(11, .s Xn),(2, .s id),(3, .i q),(4, .s en),(5, .pt d),(6, .pt g)] 36 [] a)->Rn lT Goal (fr.atR a K) cs w'):
 Rn lT Goal (fr.atR a (.code (rD Tryz.f64 1)::K)) cs w:=by
 exact Rn.tab i [(12, .agg cv),(13, .s id),(14, .i q),(15, .s (ob q 4)),(16, .s (id++ob q 4)),(17, .s (ob 32896 2)),(18, .s (id++ob q 4++ob 32896 2)),(19, .s en),(20, .s (id++ob q 4++ob 32896 2++en)),(21, .s Xn),(11, .s Xn)] [13,14,19,11] 11
  ⟨tq,
   λz=>z.c2 (z.k 14) kc (dA (q) 4 _ d_ o_),
   tq,
   λz=>z.c2 kc kc (dA 32896 2 _ d_ d_),
   tq,
   tq,
   λz=>z.c2 (z.k 12) (z.k 20) (gP KS c b cv (id++ob q 4++ob 32896 2++en) _ (j.mono z.b) (by first|(simp only[cE];omega)|(simp only[Tg,cE];omega))) (congrArg Value.string h.symm),
   trivial⟩ next
theorem K6(e:KS.length=64)(d:iU KS){id al Xn:ByteArray}{q g b h H2 wd sh:Nat}{t:Int}(s:Xn=⟨(dU KS (id++ob (H2+q) 4++ob 33410 2++al).data.toList).toArray⟩)(f:H2=2^h)(r:h<=8)(x:H2<=256)(y:q<4294967296)(j:id.size+6+al.size<=140737488355328)(v:kZ KS cv w)(l:w.heap[g]?=some (.cells cv 26))(o:w.heap[b]?=some (.cells (bB t c h wd n sh) 29))
 (u:Has [(2, .s id),(3, .i q),(5, .pt g),(6, .pt b),(11, .s al)] 36 [] a)
 (next:∀a w',(Bw w w'/\Has [(10, .s Xn),(2, .s id),(3, .i q),(5, .pt g),(6, .pt b),(11, .s al)] 36 [] a)->Rn lT Goal (fr.atR a K) cs w'):
 Rn lT Goal (fr.atR a (.code (rD Tryz.f64 2)::K)) cs w:=by
 exact Rn.tab u [(22, .agg cv),(23, .s id),(24, .pk b 2),(25, .i h),(26, .i (H2:Int)),(27, .i q),(28, .i ((H2+q:Nat):Int)),(29, .s (ob (H2+q) 4)),(30, .s (id++ob (H2+q) 4)),(31, .s (ob 33410 2)),(32, .s (id++ob (H2+q) 4++ob 33410 2)),(33, .s al),(34, .s (id++ob (H2+q) 4++ob 33410 2++al)),(35, .s Xn),(10, .s Xn)] [23,27,33,10] 10
  ⟨tq,
   tq,
   tq,
   λz=>by have i:(1:Int)*2^h=(H2:Int):=(by rw[Int.one_mul,f,Q1];rfl);exact pv (iz (m:=1) (k:=h) (z.e (p:= .binOp .shl 3 (.const (.i 1)) (.tmp 25) 3)) rfl (z.k 25) o_ (by rw[i];omega)) (by rw[i]<;>rfl),
   λz=>pv (iA (z.e (p:= .binOp .add 3 (.tmp 26) (.tmp 27) 3)) (z.k 26) (z.k 27) o_) (by rw[←Int.natCast_add]<;>rfl),
   λz=>z.c2 (z.k 28) kc (dA (H2+q) 4 _ d_ o_),
   tq,
   λz=>z.c2 kc kc (dA 33410 2 _ d_ d_),
   tq,
   tq,
   λz=>z.c2 (z.k 22) (z.k 34) (gP KS e d cv (id++ob (H2+q) 4++ob 33410 2++al) _ (v.mono z.b) (by first|(simp only[cE];omega)|(simp only[Tg,cE];omega))) (congrArg Value.string s.symm),
   trivial⟩ next
theorem Mu:Tryz.f64.body=some (.seq (rG Tryz.f64 0) (.seq (rD Tryz.f64 1) (.seq (rD Tryz.f64 2) .ret))):=k_
theorem zk(k:KS.length=64)(j:iU KS)(id en:ByteArray)(q h wd n sh:Nat)(t c:Int)(v:h<=8)(z:q<4294967296)(u:id.size+100+en.size<=140737488355328)(w:World)(x:kZ KS cv w):
 Calls lT 64 #[.agg cv, .agg (bB t c h wd n sh), .s id, .i q, .s en] w λe w'=>e= .returned (.s (j8 KS [id,ob (2^h+q) 4,ob 33410 2,j8 KS [id,ob q 4,ob 32896 2,en]]))/\Bw w w':=by refine bJ (t:=10) Lf.func64 rfl λC=> ?_;rw[bP (N:=36) [.agg cv, .agg (bB t c h wd n sh), .s id, .i q, .s en] Lf.func64 Mu rfl];have d:=aY [.agg cv, .agg (bB t c h wd n sh), .s id, .i q, .s en] 36 s_;have s:2^h<=256:=By (Qp d_ v) d_;refine Rn.gr ?_;refine Rn.z d 5 0 26 rfl λa d=> ?_;show Rn _ _ _ _ (w.alloc (.cells cv 26));refine Rn.z d 6 1 29 rfl λa d=> ?_;rw[aI]at d;show Rn _ _ _ _ ((w.alloc (.cells cv 26)).alloc (.cells (bB t c h wd n sh) 29));have f:Bw w ((w.alloc (.cells cv 26)).alloc (.cells (bB t c h wd n sh) 29)):=aE (PK w _) (by rw[aI];omega) (PK _ _);have m:=(cm (w.alloc (.cells cv 26)) (.cells (bB t c h wd n sh) 29) (b:=w.heap.size) (by rw[aI];omega)).trans (aP w _);have l:=aP (w.alloc (.cells cv 26)) (.cells (bB t c h wd n sh) 29);rw[aI]at l;revert f m l;generalize (w.alloc (.cells cv 26)).alloc (.cells (bB t c h wd n sh) 29)=B;intro f m l;refine Rn.uu d λa d=> ?_;refine Rn.p rfl (Rn.p rfl ?_);refine K7 k j (yl KS id (ob q 4) (ob 32896 2) en) o_ o_ (x.mono f) m (d.only ⟨rfl,rfl,rfl,rfl,rfl,trivial⟩) λa y ⟨g,d⟩=> ?_;have i:Bw w y:=aE f f.size g;have r:=bk g m;have p:=bk g l;refine Rn.p rfl ?_;refine K6 (h:=h) k j (yl KS id (ob (2^h+q) 4) (ob 33410 2) (j8 KS [id,ob q 4,ob 32896 2,en])) rfl v s z (by rw[fH];omega) (x.mono i) r p (d.only ⟨rfl,rfl,rfl,rfl,rfl,trivial⟩) λa A ⟨o,d⟩=> ?_;exact Rn.fi d ⟨rfl,aE i i.size o⟩
theorem M1{KS:List Int}(f:KS.length=64)(e:iU KS){c:Array Value}{id y Xn:ByteArray}{q i j g b7:Nat}(m:Xn=⟨(dU KS (id++ob q 4++ob i 2++ob j 1++y).data.toList).toArray⟩)(p:q<4294967296)(s:i<65536)(r:j<65536)(k:id.size+7+y.size<=140737488355328){w:World}(n:kZ KS c w)(l:w.heap[b7]?=some (.cells c 26)){fr:Frame}{Goal:Goroutine->World->Prop}{cs:List Frame}{K:List Item}{a:Act}
 (b:Has [(1, .s id),(2, .i q),(3, .i i),(5, .i g),(6, .s y),(7, .pt b7),(15, .i j)] 37 [] a)
 (next:∀a w',(Bw w w'/\Has [(6, .s Xn),(1, .s id),(2, .i q),(3, .i i),(5, .i g),(7, .pt b7),(15, .i j)] 37 [] a)->Rn lT Goal (fr.atR a K) cs w'):
 Rn lT Goal (fr.atR a (.code (rD Tryz.f32 4)::K)) cs w:=by
 refine Rn.tab1 next b [(22, .agg c),(23, .s id),(24, .i q),(25, .s (ob q 4)),(26, .s (id++ob q 4)),(27, .i i),(28, .s (ob i 2)),(29, .s (id++ob q 4++ob i 2)),(30, .i j),(31, .s (ob j 1)),(32, .s (id++ob q 4++ob i 2++ob j 1)),(33, .s y),(34, .s (id++ob q 4++ob i 2++ob j 1++y)),(35, .s Xn)] [23,24,27,30,33] [(35, .s Xn)]
  ⟨tq,
   λz=>z.c2 (z.k 24) kc (dA (q) 4 _ d_ o_),
   tq,
   λz=>z.c2 (z.k 27) kc (dA (i) 2 _ d_ o_),
   tq,
   λz=>z.c2 (z.k 30) kc (dA (j) 1 _ d_ o_),
   tq,
   tq,
   λz=>z.c2 (z.k 22) (z.k 34) (gP KS f e c (id++ob q 4++ob i 2++ob j 1++y) _ (n.mono z.b) (by first|(simp only[cE];omega)|(simp only[Tg,cE];omega))) (congrArg Value.string m.symm),
   trivial⟩ λa w' h o b d=> ?_
 exact Rn.S b 6 35 rfl λa b=>d a w' ⟨o,b.only ⟨rfl,rfl,rfl,rfl,rfl,rfl,rfl,trivial⟩⟩
def Bo(f:Func):Code:= .seq (.seq (rG f 2) (.cond (.tmp 19) .skip (.exit 0))) (.seq (.block 1 (rD f 4)) (rG f 3))
theorem Mv:Tryz.f32.body=some (.seq (rG Tryz.f32 0) (.seq (.seq (rG Tryz.f32 1) (.block 0 (.loop (Bo Tryz.f32)))) (.seq (rG Tryz.f32 5) .ret))):=k_
def zt(KS:List Int)(id:ByteArray)(q i:Nat):Nat->Nat->ByteArray->ByteArray
 |0,_,y=>y
 |n+1,j,y=>zt KS id q i n (j+1) ⟨(dU KS (id++ob q 4++ob i 2++ob j 1++y).data.toList).toArray⟩
theorem JC(k:KS.length=64)(h:iU KS){id:ByteArray}{q f b7:Nat}(r:q<4294967296)(v:i<65536)(p:f<65536)(u:id.size<=1000){w0:World}(x:kZ KS cv w0)(c:w0.heap[b7]?=some (.cells cv 26)){Y:ByteArray}
 (next:∀a w,Bw w0 w->Has [(6, .s Y)] 37 [] a->Rn lT Goal (fr.atR a K) cs w):
 ∀(m j:Nat) (y:ByteArray) (a:Act) (w:World),f- j=m->j<=65535->y.size=32->zt KS id q i m j y=Y->Bw w0 w->Has [(1, .s id),(2, .i q),(3, .i i),(5, .i f),(6, .s y),(7, .pt b7),(15, .i j)] 37 [] a->
  Rn lT Goal (fr.atR a (.code (Bo Tryz.f32):: .inLoop (Bo Tryz.f32):: .inBlock 0::K)) cs w:=by
 intro m;induction m with
 |zero=>
  intro j y a w s t o e d b
  iterate 3 refine Rn.uu b λa b=> ?_
  refine Rn.p rfl (Rn.cond _ (b.G 19) ?_);rw[decide_eq_false o_];have e:y=Y:=e;exact Rn.p rfl (next a w d (b.only ⟨by rw[←e];rfl,trivial⟩))
 |succ m n=>
  intro j y a w s t o e d b
  iterate 3 refine Rn.uu b λa b=> ?_
  refine Rn.p rfl (Rn.cond _ (b.G 19) ?_);rw[decide_eq_true o_];refine Rn.p rfl (Rn.p rfl (Rn.p rfl ?_));refine M1 (y:=y) (Xn:=⟨(dU KS (id++ob q 4++ob i 2++ob j 1++y).data.toList).toArray⟩) k h rfl r v o_ o_ (x.mono d) ((d.block _ (gA c).1).trans c) (b.only ⟨rfl,rfl,rfl,rfl,rfl,rfl,rfl,trivial⟩) λa l ⟨g,b⟩=> ?_
  iterate 3 refine Rn.uu b λa b=> ?_
  refine Rn.p rfl (Rn.p rfl (n (j+1) _ a l o_ o_ (eH KS _) e (aE d d.size g) (b.only ⟨rfl,rfl,rfl,rfl,rfl,rfl, ?_,trivial⟩)));rw[Int.natCast_add];rfl
theorem Bb(k:KS.length=64)(h:iU KS)(id y:ByteArray)(q i j c:Nat)(n:q<4294967296)(o:i<65536)(v:j<65536)(f:c<65536)(g:id.size<=1000)(m:y.size=32)(w:World)(p:kZ KS cv w):
 Calls lT 32 #[.agg cv, .s id, .i q, .i i, .i j, .i c, .s y] w λe w'=>e= .returned (.s (zt KS id q i (c- j) j y))/\Bw w w':=by
 refine bJ (t:=14) Lf.func32 rfl λx=> ?_;rw[bP (N:=37) [.agg cv, .s id, .i q, .i i, .i j, .i c, .s y] Lf.func32 Mv rfl];have b:=aY [.agg cv, .s id, .i q, .i i, .i j, .i c, .s y] 37 s_;refine Rn.zz b λl a d s _ b=> ?_
 iterate 3 refine Rn.uu b λa b=> ?_
 refine Rn.p rfl (Rn.p rfl (Rn.p rfl ?_));refine JC (Y:=zt KS id q i (c- j) j y) k h n o f g (p.mono d) s (λa u r b=> ?_) (c- j) j y a l rfl o_ m rfl (bR) (b.only ⟨rfl,rfl,rfl,rfl,rfl,rfl,rfl,trivial⟩)
 iterate 2 refine Rn.uu b λa b=> ?_
 exact Rn.fi b ⟨rfl,aE d d.size r⟩
theorem LW{b:ByteArray}{wd H2:Nat}(f:H2=2^wd)(n:0<H2)(j:qn wd)(g:i/(8/wd)<b.size)(l:i<1000000)(c:0<8/wd)(h:wd<=8)(q:H2<=256)(r:cU wd=H2- 1)(d:i%(8/wd)*wd<=8- wd)(s:(b.data.toList.getD (i/(8/wd)) 0).toNat<256)
 (o:Has [(0, .s b),(1, .i i),(2, .i wd),(7, .i ((8/wd:Nat):Int))] 29 [] a)
 (next:∀a w',(Bw w w'/\Has [(6, .i (dl b.data.toList wd i)),(0, .s b),(1, .i i),(2, .i wd),(7, .i ((8/wd:Nat):Int))] 29 [] a)->Rn lT Goal (fr.atR a K) cs w'):
 Rn lT Goal (fr.atR a (.code (rD Tryz.f66 2)::K)) cs w:=by
 exact Rn.tab o [(10, .s b),(11, .i i),(12, .i ((8/wd:Nat):Int)),(13, .i ((i/(8/wd):Nat):Int)),(14, .int .u8 ((b.data.toList.getD (i/(8/wd)) 0).toNat:Int)),(15, .i ((b.data.toList.getD (i/(8/wd)) 0).toNat:Int)),(16, .i wd),(17, .i ((8- wd:Nat):Int)),(18, .i i),(19, .i ((8/wd:Nat):Int)),(20, .i ((i%(8/wd):Nat):Int)),(21, .i wd),(22, .i ((i%(8/wd)*wd:Nat):Int)),(23, .i ((8- wd- i%(8/wd)*wd:Nat):Int)),(24, .i (((b.data.toList.getD (i/(8/wd)) 0).toNat/2^(8- wd- i%(8/wd)*wd):Nat):Int)),(25, .i wd),(26, .i (H2:Int)),(27, .i (cU wd)),(28, .i (dl b.data.toList wd i)),(6, .i (dl b.data.toList wd i))] [10,11,12,16,18,19,21,25,6] 6
  ⟨λz=>dv (xf (z.e (p:= .binOp .quo 3 (.tmp 11) (.tmp 12) 3)) (z.k 11) (z.k 12) c o_),
   λz=>pv (yz z.e (z.k 10) (z.k 13) g) (by rw[Dn b _ g]<;>rfl),
   λz=>dv (CH z.e (z.k 14)),
   λz=>pv (lZ (m:=8) (z.e (p:= .binOp .sub 3 (.const (.i 8)) (.tmp 16) 3)) rfl (z.k 16) o_) (by rw[show(8:Int)-(wd:Int)=((8- wd:Nat):Int)from o_]<;>rfl),
   λz=>dv (CE (z.e (p:= .binOp .rem 3 (.tmp 18) (.tmp 19) 3)) (z.k 18) (z.k 19) c),
   λz=>pv ((jC (z.e (p:= .binOp .mul 3 (.tmp 20) (.tmp 21) 3)) (z.k 20) (z.k 21) (by rw[←QK];omega)).1) (by rw[←QK]<;>rfl),
   λz=>pv (lZ (z.e (p:= .binOp .sub 3 (.tmp 17) (.tmp 22) 3)) (z.k 17) (z.k 22) o_) (by rw[←Int.ofNat_sub d]<;>rfl),
   λz=>pv (Gd (k:=8- wd- i%(8/wd)*wd) (z.e (p:= .binOp .shr 3 (.tmp 15) (.tmp 23) 3)) (z.k 15) (z.k 23) o_) (by show _=_;rw[QU,Q1]<;>rfl),
   λz=>by have e:(1:Int)*2^wd=(H2:Int):=(by rw[Int.one_mul,f,Q1];rfl);exact pv (iz (m:=1) (k:=wd) (z.e (p:= .binOp .shl 3 (.const (.i 1)) (.tmp 25) 3)) rfl (z.k 25) o_ (by rw[e];omega)) (by rw[e]<;>rfl),
   λz=>pv (lZ (z.e (p:= .binOp .sub 3 (.tmp 26) (.const (.i 1)) 3)) (z.k 26) rfl o_) (by have e:(H2:Int)- 1=(cU wd:Int):=o_;rw[e]<;>rfl),
   λz=>pv (Gm (z.e (p:= .binOp .and 3 (.tmp 24) (.tmp 27) 3)) (z.k 24) (z.k 27)) (by rw[Dx _ wd (Nat.lt_of_le_of_lt (Ry _ _) o_) j]<;>rfl),
   trivial⟩ next
theorem Mo:Tryz.f66.body=some (.seq (rG Tryz.f66 0) (.seq (rG Tryz.f66 1) (.seq (rD Tryz.f66 2) .ret))):=k_
theorem wj(b:ByteArray)(i wd:Nat)(d:qn wd)(k:i/(8/wd)<b.size)(h:i<1000000)(w:World):
 Calls lT 66 #[.s b, .i i, .i wd] w λe w'=>e= .returned (.i (dl b.data.toList wd i))/\Bw w w':=by
 have f:0<8/wd:=by rcases d with rfl|rfl|rfl<;>decide
 have g:i%(8/wd)*wd<=8- wd:=by rcases d with rfl|rfl|rfl<;>simp<;>omega
 refine bJ (t:=6) Lf.func66 rfl λn=> ?_;rw[bP (N:=29) [.s b, .i i, .i wd] Lf.func66 Mo rfl];have c:=aY [.s b, .i i, .i wd] 29 s_
 iterate 2 refine Rn.uu c λa c=> ?_
 refine Rn.vv c (λo j=>xf (m:=8) j rfl (c.G 8) (by rcases d with rfl|rfl|rfl<;>decide) d_) λa c=> ?_;refine Rn.uu c λa c=> ?_;refine Rn.p rfl (Rn.p rfl ?_);refine LW (H2:=2^wd) rfl (Nat.two_pow_pos wd) d k h f (by rcases d with rfl|rfl|rfl<;>decide) (by rcases d with rfl|rfl|rfl<;>decide) rfl g (b.data.toList.getD (i/(8/wd)) 0).toNat_lt (c.only ⟨rfl,rfl,rfl,rfl,trivial⟩) λa w' ⟨l,c⟩=> ?_;exact Rn.fi c ⟨rfl,l⟩
def F1(f:Func):Code:= .seq (.seq (rG f 4) (.cond (.tmp 21) .skip (.exit 0))) (.seq (.block 1 (.seq (rG f 6) (rG f 7))) (rG f 5))
def LP(f:Func):Code:= .seq (.seq (rG f 11) (.cond (.tmp 44) .skip (.exit 2))) (.seq (.block 3 (.seq (rG f 13) (rG f 14))) (rG f 12))
theorem My:Tryz.f30.body=some (.seq (rG Tryz.f30 0) (.seq (rG Tryz.f30 1) (.seq (rG Tryz.f30 2) (.seq (.seq (rG Tryz.f30 3) (.block 0 (.loop (F1 Tryz.f30))))
 (.seq (rG Tryz.f30 8) (.seq (rG Tryz.f30 9) (.seq (.seq (rG Tryz.f30 10) (.block 2 (.loop (LP Tryz.f30)))) (.seq (rG Tryz.f30 15) .ret)))))))):=rfl
section
variable{Q:ByteArray}{t:Int}{h sh:Nat}
theorem F0(k:qn wd)(E:Q.size=32)(next:∀a w,Bw w0 w->Has [(1, .s Q),(2, .pt N),(6, .i (eM Q.data.toList wd (256/wd)))] 57 [] a->Rn lT Goal (fr.atR a K) cs w)(j:w0.heap[N]?=some (.cells (bB t c h wd n sh) 29)):
 ∀(m i:Nat) (a:Act) (w:World),256/wd- i=m->i<=256/wd->Bw w0 w->Has [(1, .s Q),(2, .pt N),(5, .i (cU wd)),(6, .i (eM Q.data.toList wd i)),(7, .i i)] 57 [] a->
  Rn lT Goal (fr.atR a (.code (F1 Tryz.f30):: .inLoop (F1 Tryz.f30):: .inBlock 0::K)) cs w:=by
 have f:=(gA j).1;have l:0<wd:=by rcases k with rfl|rfl|rfl<;>decide
 have x:=oI k;have y:256/wd<=128:=by rcases k with rfl|rfl|rfl<;>decide
 have d:∀(i:Nat) (a:Act) (w:World) (R:List Nat),i<=256/wd->Bw w0 w->Has [(1, .s Q),(2, .pt N),(5, .i (cU wd)),(6, .i (eM Q.data.toList wd i)),(7, .i i)] 57 [] a->
  (∀a,Has [(21, .bool (decide ((i:Int)<((256/wd:Nat):Int)))),(1, .s Q),(2, .pt N),(5, .i (cU wd)),(6, .i (eM Q.data.toList wd i)),(7, .i i)] 57 [] a->Rn lT Goal (fr.atR a (.code (.cond (.tmp 21) .skip (.exit 0)):: .code (.seq (.block 1 (.seq (rG Tryz.f30 6) (rG Tryz.f30 7))) (rG Tryz.f30 5)):: .inLoop (F1 Tryz.f30):: .inBlock 0::K)) cs w)->
  Rn lT Goal (fr.atR a (.code (F1 Tryz.f30):: .inLoop (F1 Tryz.f30):: .inBlock 0::K)) cs w:=by
  intro i a w _ r e b g;have p:=(e.block N f).trans j
  iterate 3 refine Rn.uu b λa b=> ?_
  refine Rn.vv b (λo B=>xf (m:=256) B rfl (b.G 19) l d_) λa b=> ?_;refine Rn.uu b λa b=> ?_;exact Rn.p rfl (g a (b.only ⟨rfl,rfl,rfl,rfl,rfl,rfl,trivial⟩))
 intro m;induction m with
 |zero=>
  intro i a w C r e b;have u:i=256/wd:=o_
  refine d i a w [] r e b λa b=>Rn.cond _ (b.G 21) ?_;rw[decide_eq_false o_];exact Rn.p rfl (next a w e (b.only ⟨rfl,rfl,by rw[←u];rfl,trivial⟩))
 |succ m A=>
  intro i a w C r e b;have s:i<256/wd:=o_
  refine d i a w [] r e b λa b=>Rn.cond _ (b.G 21) ?_;rw[decide_eq_true o_];have p:=(e.block N f).trans j;have F:=pA Q.data.toList k i;have D:=nA Q.data.toList wd i;have q:i/(8/wd)<Q.size:=by rw[E];rcases k with rfl|rfl|rfl<;>simp at s⊢<;>omega
  refine Rn.uu b λa b=> ?_
  iterate 3 refine Rn.uu b λa b=> ?_
  refine Rn.cw b Lf.func66 ((wj Q i wd k q o_ w)) λz v a b=> ?_
  iterate 6 refine Rn.uu b λa b=> ?_
  rw[show(eM Q.data.toList wd i:Int)+(cU wd:Int)-(dl Q.data.toList wd i:Int)=((eM Q.data.toList wd (i+1):Nat):Int)from by simp only[eM];omega]at b
  iterate 4 refine Rn.uu b λa b=> ?_
  refine Rn.p rfl (Rn.p rfl (A (i+1) a z o_ o_ (aE e e.size v) (b.only ⟨rfl,rfl,rfl,rfl, ?_,trivial⟩)));rw[Int.natCast_add];rfl
theorem EZ{al:ByteArray}(T:qn wd)(a0:al.size=34)(hn:n<=34*(8/wd))
 (next:∀a w v,Bw w0 w->w.ownsRow w0.heap.size 3 1 v n (lC al wd n)->Has [(10,v)] 57 [] a->Rn lT Goal (fr.atR a K) cs w):
 ∀(m i:Nat) (v:Value) (a:Act) (w:World),n- i=m->i<=n->Bw w0 w->w.heap[N]?=some (.cells (bB t c h wd n sh) 29)->w.ownsRow w0.heap.size 3 1 v i (lC al wd i)->Has [(2, .pt N),(9, .s al),(10,v),(11, .i i)] 57 [] a->
  Rn lT Goal (fr.atR a (.code (LP Tryz.f30):: .inLoop (LP Tryz.f30):: .inBlock 2::K)) cs w:=by
 have D:8/wd<=4:=by rcases T with rfl|rfl|rfl<;>decide
 have W:n<=136:=By hn (By (RJ 34 D) d_);intro m;induction m with
 |zero=>
  intro i v a w hm hi O r f b;have H:i=n:=o_
  subst H
  iterate 4 refine Rn.uu b λa b=> ?_
  refine Rn.p rfl (Rn.cond _ (b.G 44) ?_);rw[decide_eq_false o_];exact Rn.p rfl (next a w v O f (b.only ⟨rfl,trivial⟩))
 |succ m ih=>
  intro i v a w hm hi O r f b;have H:i<n:=o_
  have J:i/(8/wd)<al.size:=by rw[a0];rcases T with rfl|rfl|rfl<;>simp at hn⊢<;>omega
  iterate 4 refine Rn.uu b λa b=> ?_
  refine Rn.p rfl (Rn.cond _ (b.G 44) ?_);rw[decide_eq_true o_];refine Rn.uu b λa b=> ?_
  iterate 3 refine Rn.uu b λa b=> ?_
  refine Rn.cw b Lf.func66 ((wj al i wd T J o_ w)) λx s a b=> ?_;have G:=(s.block N (gA r).1).trans r;have l:=iY f λk r=>s.block k (f.lt k r).2;have M:Bw w0 x:=aE O O.size s;clear r f O s
  iterate 3 refine Rn.uu b λa b=> ?_
  refine Rn.vv b (λo E=>Ge E (b.G 53)) λa b=> ?_;have A:=PK x (.cells #[.i (dl al.data.toList wd i)] 3);have F:=aP x (.cells #[.i (dl al.data.toList wd i)] 3);have z:=(A.block N (gA G).1).trans G;have g:(x.alloc (.cells #[.i (dl al.data.toList wd i)] 3)).ownsRow w0.heap.size 3 1 v i (lC al wd i):=iY l λk r=>A.block k (l.lt k r).2;have B:Bw w0 (x.alloc (.cells #[.i (dl al.data.toList wd i)] 3)):=aE M M.size A;obtain⟨ti,U,hz,V,Z⟩:=zo;have L:=λty=>run_append_own (P:=aJ true tP) (x.alloc (.cells #[.i (dl al.data.toList wd i)] 3)) w0.heap.size 24 ty 3 ti (.i 0) 1 8 k_ U hz V Z rfl d_ v i _ g ⟨x.heap.size,0,none⟩ 1 1 [.i (dl al.data.toList wd i)] rfl
   (λj u hj=>by have Y:j=0:=(by have:=(List.getElem?_eq_some_iff.1 hj).1;simp at this;omega);subst Y;cases hj;rw[ka,aH F];rfl) (λu hu=>by simp at hu;subst hu;rfl) (by simp only[maxLen];omega) o_ B.size
  cases E:(bK Tryz.f30 14)[3]? with
  |none=>exact absurd E (by simp;decide)
  |some o=>
  obtain⟨e1,e2,e3⟩:=cA (d:=some 55) (p:= .call {callee:= .builtin .append,args:=#[.tmp 52, .tmp 54],argTypes:=#[24,24]}) E k_;obtain⟨Q,S,C,y,I,_⟩:=L o.type;have hr:(execOp a.eval o).run lT (x.alloc (.cells #[.i (dl al.data.toList wd i)] 3))= .ok (.value Q) S:=by have x8:=b.G 52;have R:=b.G 54;simp[execOp,e2,resolve,x8,R,invoke,builtin,C]
  refine Rn.ran E (e3 _) (by rw[e2];simp) hr ?_;rw[e1];have b:=b.put (d:=55) d_ Q;revert b;generalize a.put (some 55) Q=a;intro b;have q2:=ma g z (by intro a2 q;cases q);have X:=(I.block N (gA z).1 q2).trans z;have a1:Bw w0 S:=rV B I (λk r=>(g.lt k r).1) B.size
  iterate 4 refine Rn.uu b λa b=> ?_
  refine Rn.p rfl (Rn.p rfl (ih (i+1) Q a S o_ o_ a1 X ?_ (b.only ⟨rfl,rfl,rfl, ?_,trivial⟩)))
  ·have e:lC al wd (i+1)=lC al wd i++[.i (dl al.data.toList wd i)]:=(by simp[lC,Sb]);rw[e];exact y
  ·rw[Int.natCast_add];rfl
end
theorem De(Q:ByteArray)(t c:Int)(h wd n sh:Nat)(w:World)(q:qn wd)(D:sh<=8)(Z:1<=n)(E:n<=34*(8/wd))(F:Q.size=32):
 Calls lT 30 #[.agg (bB t c h wd n sh), .s Q] w λe w'=>∃v,e= .returned v/\ij n (λc=>dl (ib Q.data.toList wd sh) wd c) v w'/\Bw w w':=by
 refine bJ (t:=4) Lf.func30 rfl λcs=> ?_;rw[bP (N:=57) [.agg (bB t c h wd n sh), .s Q] Lf.func30 My rfl];have b:=aY [.agg (bB t c h wd n sh), .s Q] 57 s_;refine Rn.zz b λO a f z _ b=> ?_;have I:2^wd<=256:=by rcases q with rfl|rfl|rfl<;>decide
 have P:wd<=8:=by rcases q with rfl|rfl|rfl<;>decide
 obtain⟨r,i⟩:∃r,r=2^wd:=⟨_,rfl⟩;have S:(1:Int)*2^wd=(r:Int):=by rw[Int.one_mul,i,Q1];rfl
 have a2:cU wd=r- 1:=by rw[i];rfl
 have a1:0<r:=by rw[i];exact Nat.two_pow_pos wd
 rw[←i]at I
 iterate 3 refine Rn.uu b λa b=> ?_
 refine Rn.vv b (λo u=>iz (m:=1) (k:=wd) u rfl (b.G 14) o_ (by rw[S];omega)) λa b=> ?_;rw[S]at b;refine Rn.uu b λa b=> ?_;rw[show(r:Int)- 1=(cU wd:Int)from o_]at b
 iterate 3 refine Rn.uu b λa b=> ?_
 refine Rn.p rfl (Rn.p rfl (Rn.p rfl ?_));refine F0 (w0:=O) (N:=w.heap.size) q F (λa B p b=> ?_) z (256/wd) 0 a O rfl (QH _) (bR) (b.only ⟨rfl,rfl,rfl,rfl,rfl,trivial⟩);have y:=bk p z;have hS:=pA Q.data.toList q (256/wd);have V:256/wd<=128:=by rcases q with rfl|rfl|rfl<;>decide
 have J:2^sh<=256:=By (Qp d_ D) d_;have T:eM Q.data.toList wd (256/wd)*2^sh<=32640*256:=Nat.mul_le_mul o_ J;have d:(eM Q.data.toList wd (256/wd):Int)*2^sh=((eM Q.data.toList wd (256/wd)*2^sh:Nat):Int):=by rw[QK,Q1];rfl
 iterate 4 refine Rn.uu b λa b=> ?_
 refine Rn.vv b (λo u=>iz (k:=sh) u (b.G 35) (b.G 37) o_ (by rw[d];omega)) λa b=> ?_;rw[d]at b;refine Rn.cl b Lf.func29 (R:=λv w'=>v= .s (ob (eM Q.data.toList wd (256/wd)*2^sh) 2)/\Bw B w') ((dA _ 2 B d_ o_).mono λe w' h=>⟨_,h.1,rfl,h.2⟩) λv M X a b=> ?_;obtain⟨rfl,A⟩:=X;refine Rn.vv b (λo u=>eF u (b.G 34) (b.G 39) (by rw[F,cE];decide)) λa b=> ?_;refine Rn.uu b λa b=> ?_;have H:Bw w M:=aE (aE f f.size p) (aE f f.size p).size A;have x:=bk A y
 iterate 2 refine Rn.uu b λa b=> ?_
 refine Rn.p rfl (Rn.p rfl (Rn.p rfl ?_));have C:(Q++ob (eM Q.data.toList wd (256/wd)*2^sh) 2).size=34:=by rw[Tg,F,cE]
 have l:(Q++ob (eM Q.data.toList wd (256/wd)*2^sh) 2).data.toList=ib Q.data.toList wd sh:=by simp[ib,ob]
 refine EZ (w0:=w) (N:=w.heap.size) (al:=Q++ob (eM Q.data.toList wd (256/wd)*2^sh) 2) q C E (λa w4 v G s b=> ?_) n 0 (.slice none 0 0) a M rfl (QH _) H x (World.ownsRow_nil _ _ _ _) (b.only ⟨rfl,rfl,rfl,rfl,trivial⟩)
 iterate 2 refine Rn.uu b λa b=> ?_
 refine Rn.p rfl (Rn.ends rfl (.inr ⟨_,rfl⟩) (Rn.now ⟨a,_,v,rfl,b.defers,b.slot 4 _ rfl,v,rfl, ?_,G⟩));rcases s.2 with⟨_,h0⟩|⟨g,L,K,rfl,_,U,Y,_,a0,j⟩
 ·omega
 refine⟨g,L,rfl,(gA U).1,λc hc=> ?_⟩;rw[aH U];have W:(K.toList.take (n*1))[c]?=(lC (Q++ob (eM Q.data.toList wd (256/wd)*2^sh) 2) wd n)[c]?:=by rw[j]
 rw[List.getElem?_take_of_lt o_]at W;rw[←Array.getElem?_toList,W,←l];simp[lC,hc]
def Na(cv:Array Value)(id salt msg Qb:ByteArray)(q h wd n sh:Nat)(t c:Int):Nat->Value->World->Prop
 |0,v,_=>v= .agg (bB t c h wd n sh)
 |1,v,_=>v= .agg cv
 |2,v,_=>v= .string id
 |3,v,_=>v= .int .i64 q
 |4,v,_=>v= .string salt
 |5,v,_=>v= .string msg
 |6,v,_=>v= .string Qb
 |7,v,w=>ij n (λc=>dl (ib Qb.data.toList wd sh) wd c) v w
 |_,v,w=>ij n (λc=>dl (ib Qb.data.toList wd sh) wd c) v w
theorem EX{id salt Qb:ByteArray}{q h wd sh:Nat}{t:Int}(k:Nat)(v:Value)(w w':World)(a:Na cv id salt msg Qb q h wd n sh t c k v w)(b:Bw w w'):Na cv id salt msg Qb q h wd n sh t c k v w':=by
 match k,a with
 |0,a|1,a|2,a|3,a|4,a|5,a|6,a=>exact a
 |7,a=>exact ij.mono a b
 |_+8,a=>exact ij.mono a b
theorem Kb(O:KS.length=64)(M:iU KS){id salt z path Qb:ByteArray}{q y b9 h wd sh:Nat}{t:Int}(s:Qb=j8 KS [id,ob q 4,ob 33153 2,salt,msg])(W:qn wd)(E:sh<=8)(I:1<=n)(H:n<=34*(8/wd))(hq:q<4294967296)(p:id.size+6+salt.size+msg.size<=281474976710400)(T:kZ KS cv w)(k:w.heap[y]?=some (.cells cv 26))(r:w.heap[b9]?=some (.cells (bB t c h wd n sh) 29))
 (Q:Has [(2, .s id),(3, .i q),(4, .s salt),(5, .s msg),(6, .s z),(7, .s path),(8, .pt y),(9, .pt b9)] 106 [] a)
 (next:∀a w',(Bw w w'/\∃v,ij n (λc=>dl (ib Qb.data.toList wd sh) wd c) v w'/\Has [(17,v),(2, .s id),(3, .i q),(4, .s salt),(5, .s msg),(6, .s z),(7, .s path),(8, .pt y),(9, .pt b9)] 106 [] a)->Rn lT Goal (fr.atR a K) cs w'):
 Rn lT Goal (fr.atR a (.code (rD Tryz.f38 1)::K)) cs w:=by
 refine Rn.grows (fx:=[(2, .s id),(3, .i q),(4, .s salt),(5, .s msg),(6, .s z),(7, .s path),(8, .pt y),(9, .pt b9)]) (ds:=[25,26,27,28,29,30,31,32,17]) (N:=106) (df:=[]) (G:=Na cv id salt msg Qb q h wd n sh t c) k_ k_ EX (λm o a w' S j J f b=> ?_)
  (λm a w'=>m=9/\Bw w w'/\∃v,ij n (λc=>dl (ib Qb.data.toList wd sh) wd c) v w'/\Has [(17,v),(2, .s id),(3, .i q),(4, .s salt),(5, .s msg),(6, .s z),(7, .s path),(8, .pt y),(9, .pt b9)] 106 [] a) (λa w' x=> ?_) (λm o a w' R S j L Y=> ?_) (λa w' L=> ?_) Q.defers Q.size (Q.all s_)
 ·have X:m<9:=S;rcases(o_:m=0\/m=1\/m=2\/m=3\/m=4\/m=5\/m=6\/m=7\/m=8)with rfl|rfl|rfl|rfl|rfl|rfl|rfl|rfl|rfl
  ·have d:=oS j;exact aF (jt d (aA (f _ (mG (i:=7) rfl))) ((J.block _ (gA r).1).trans r)) ⟨rfl,bR⟩
  ·have d:=oS j;exact aF (gg T.two d (aA (f _ (mG (i:=6) rfl))) ((J.block _ (gA k).1).trans k)) ⟨rfl,bR⟩
  ·have d:=oS j;exact mp (.inl d) (f _ (mG (i:=0) rfl)) ⟨rfl,bR⟩
  ·have d:=oS j;exact mp (.inl d) (f _ (mG (i:=1) rfl)) ⟨rfl,bR⟩
  ·have d:=oS j;exact mp (.inl d) (f _ (mG (i:=2) rfl)) ⟨rfl,bR⟩
  ·have d:=oS j;exact mp (.inl d) (f _ (mG (i:=3) rfl)) ⟨rfl,bR⟩
  ·have d:=oS j;obtain⟨u1,D,rfl⟩:=nE b 1 26;obtain⟨V,g,rfl⟩:=nE b 2 27;obtain⟨u3,C,rfl⟩:=nE b 3 28;obtain⟨u4,B,rfl⟩:=nE b 4 29;obtain⟨Z,A,rfl⟩:=nE b 5 30;have F:=bG (w:=w') d (show(#[Operand.tmp 26, .tmp 27, .tmp 28, .tmp 29, .tmp 30]:Array Operand).map a.eval=#[.agg cv, .s id, .i q, .s salt, .s msg]from by simp[aA D,aA g,aA C,aA B,aA A]) (rI (P:=aJ true tP) Lf.func31 _);exact .inr ⟨_,_,F.1,(pO O M id salt msg q o_ p w' (T.mono J)).mono λe U h=>⟨_,h.1,congrArg Value.string s.symm,h.2⟩⟩
  ·have d:=oS j;obtain⟨u,l,rfl⟩:=nE b 0 25;obtain⟨V,g,rfl⟩:=nE b 6 31;have F:=bG (w:=w') d (show(#[Operand.tmp 25, .tmp 31]:Array Operand).map a.eval=#[.agg (bB t c h wd n sh), .s Qb]from by simp[aA l,aA g]) (rI (P:=aJ true tP) Lf.func30 _);exact .inr ⟨_,_,F.1,De Qb t c h wd n sh w' W E I H (by rw[s];exact fH _ _)⟩
  ·have d:=oS j;obtain⟨u,l,x⟩:=nE b 7 32;exact mp (.inr d) l ⟨x,bR⟩
 ·obtain⟨u,l,g⟩:=x.come 8 17 rfl trivial;exact⟨rfl,x.old,u,g,x.base.more l⟩
 ·exact absurd (gA j).1 (by obtain⟨rfl,_⟩:=L;decide)
 ·exact next a w' L.2
theorem Ka(y:KS.length=64)(x:iU KS){id f path en Yn:ByteArray}{q d b g B b9 h wd sh H2:Nat}{t:Int}(u:Yn=zt KS id q i (cU wd- d) d (f.extract (32*i) (32*i+32)))(A:H2=2^wd)(I:0<H2)(M:H2<=256)(C:wd<=8)(N:cU wd=H2- 1)(o:i<n)(O:n<=1000)(G:d<256)(l:32*i+32<=f.size)(r:id.size<=1000)(E:q<4294967296)(s:b<w.heap.size)(H:w.cell? ⟨b,i,none⟩=some (.i (d:Int)))(L:kZ KS cv w)(D:w.heap[B]?=some (.cells cv 26))(F:w.heap[b9]?=some (.cells (bB t c h wd n sh) 29))
 (J:Has [(2, .s id),(3, .i q),(6, .s f),(8, .pt B),(9, .pt b9),(17, .sk b n g),(19, .i i),(18, .s en),(7, .s path)] 106 [] a)
 (next:∀a w',(Bw w w'/\Has [(20, .s Yn),(2, .s id),(3, .i q),(6, .s f),(8, .pt B),(9, .pt b9),(17, .sk b n g),(19, .i i),(18, .s en),(7, .s path)] 106 [] a)->Rn lT Goal (fr.atR a K) cs w'):
 Rn lT Goal (fr.atR a (.code (rD Tryz.f38 6)::K)) cs w:=by
 exact Rn.tab J [(39, .agg cv),(40, .s id),(41, .i q),(42, .i i),(43, .sk b n g),(44, .i i),(45, .pk b i),(46, .i (d:Int)),(47, .pk b9 3),(48, .i wd),(49, .i (H2:Int)),(50, .i (cU wd)),(51, .s f),(52, .i i),(53, .i ((32*i:Nat):Int)),(54, .i i),(55, .i ((32*i:Nat):Int)),(56, .i ((32*i+32:Nat):Int)),(57, .s (f.extract (32*i) (32*i+32))),(58, .s Yn),(20, .s Yn)] [40,41,42,43,44,51,52,54,20] 20
  ⟨tq,
   λz=>pv ((dx (w:=_) (t:=24) (e:=3) k_ (λw=>k_) z.e (z.k 43) (z.k 44) o).1) (by rw[ka,Nat.zero_add]<;>rfl),
   λz=>dv ((aN (v:= .i (d:Int)) cq z.e (z.k 45) ((World.cell?_of_block (w:=w) (a:=⟨b,i,none⟩) (z.b.block b s)).trans H)).1),
   tq,
   tq,
   λz=>by have j:(1:Int)*2^wd=(H2:Int):=(by rw[Int.one_mul,A,Q1];rfl);exact pv (iz (m:=1) (k:=wd) (z.e (p:= .binOp .shl 3 (.const (.i 1)) (.tmp 48) 3)) rfl (z.k 48) o_ (by rw[j];omega)) (by rw[j]<;>rfl),
   λz=>pv (lZ (n:=1) (z.e (p:= .binOp .sub 3 (.tmp 49) (.const (.i 1)) 3)) (z.k 49) rfl o_) (by have j:(H2:Int)- 1=(cU wd:Int):=o_;rw[j]<;>rfl),
   λz=>pv ((jC (m:=32) (z.e (p:= .binOp .mul 3 (.const (.i 32)) (.tmp 52) 3)) rfl (z.k 52) o_).1) (by rw[show(32:Int)*(i:Int)=((32*i:Nat):Int)from o_]<;>rfl),
   λz=>pv ((jC (m:=32) (z.e (p:= .binOp .mul 3 (.const (.i 32)) (.tmp 54) 3)) rfl (z.k 54) o_).1) (by rw[show(32:Int)*(i:Int)=((32*i:Nat):Int)from o_]<;>rfl),
   λz=>pv (iA (n:=32) (z.e (p:= .binOp .add 3 (.tmp 55) (.const (.i 32)) 3)) (z.k 55) rfl o_) (by rw[show((32*i:Nat):Int)+32=((32*i+32:Nat):Int)from o_]<;>rfl),
   λz=>dv ((dR (m:=32*i) (n:=32*i+32) z.e (z.k 51) (z.k 53) (z.k 56) o_ l).1),
   λz=>z.c7 (z.k 39) (z.k 40) (z.k 41) (z.k 42) (z.k 46) (z.k 50) (z.k 57) (Bb y x id (f.extract (32*i) (32*i+32)) q i d (cU wd) E o_ o_ o_ r (by rw[ByteArray.size_extract];omega) _ (L.mono z.b)) (congrArg Value.string u.symm),
   trivial⟩ next
def F5(KS:List Int)(id ys:ByteArray)(q tp:Nat)(dg:Nat->Nat):Nat->ByteArray
 |0=>⟨#[]⟩
 |i+1=>F5 KS id ys q tp dg i++zt KS id q i (tp- dg i) (dg i) (ys.extract (32*i) (32*i+32))
def kx(KS:List Int)(id path:ByteArray)(lf:Nat)(x:ByteArray):Nat->ByteArray
 |0=>x
 |i+1=>DT KS id (dn lf i) (path.extract (32*i) (32*i+32)) (kx KS id path lf x i)
theorem nl(KS:List Int)(id:ByteArray)(q i:Nat):∀(m j:Nat) (y:ByteArray),y.size=32->(zt KS id q i m j y).size=32
 |0,_,_,h=>h
 |m+1,j,_,_=>nl KS id q i m (j+1) _ (eH KS _)
theorem ug(KS:List Int)(id a:ByteArray)(q b:Nat)(dg:Nat->Nat):∀i,32*i<=a.size->(F5 KS id a q b dg i).size=32*i
 |0,_=>rfl
 |i+1,h=>by have c:=ug KS id a q b dg i o_;have d:=nl KS id q i (b- dg i) (dg i) (a.extract (32*i) (32*i+32)) (by rw[ByteArray.size_extract];omega);rw[F5,Tg,c,d];omega
theorem Bd(KS:List Int)(id path:ByteArray)(lf:Nat)(x:ByteArray)(a:x.size=32):∀i,(kx KS id path lf x i).size=32
 |0=>a
 |_+1=>fH _ _
def BO(f:Func):Code:= .seq (.seq (rG f 4) (.cond (.tmp 36) .skip (.exit 0))) (.seq (.block 1 (.seq (rD f 6) (rG f 7))) (rG f 5))
def IZ(f:Func):Code:= .seq (.seq (rG f 11) (.cond (.tmp 76) .skip (.exit 2))) (.seq (.block 3 (.seq (rG f 13) (.seq (.seq (rG f 14) (.cond (.tmp 88) (rG f 15) (rG f 16))) (rG f 17)))) (rG f 12))
theorem MC:Tryz.f38.body=some (.seq (rG Tryz.f38 0) (.seq (rD Tryz.f38 1) (.seq (rG Tryz.f38 2) (.seq (.seq (rG Tryz.f38 3) (.block 0 (.loop (BO Tryz.f38))))
 (.seq (rG Tryz.f38 8) (.seq (rG Tryz.f38 9) (.seq (.seq (rG Tryz.f38 10) (.block 2 (.loop (IZ Tryz.f38)))) (.seq (rG Tryz.f38 18) .ret)))))))):=k_
section
variable(hKl:KS.length=64)(hKw:iU KS){id ys path:ByteArray}{q h sh gb cap b8:Nat}{t:Int}{dg:Nat->Nat}
 (hC:kZ KS cv w0) (hbox:w0.heap[b8]?=some (.cells cv 26)) (hkd:w0.heap[b9]?=some (.cells (bB t c h wd n sh) 29)) (hid:id.size<=1000)
include hKl hKw hC hbox hkd hid
theorem F2(y:q<4294967296)(k:qn wd)(z:n<=1000)(x:32*n<=ys.size)(o:∀c,dg c<256)(j:gb<w0.heap.size)(l:∀c,c<n->w0.cell? ⟨gb,c,none⟩=some (.i (dg c)))
 (next:∀a w,Bw w0 w->Has [(18, .s (F5 KS id ys q (cU wd) dg n)),(2, .s id),(3, .i q),(7, .s path),(8, .pt b8),(9, .pt b9)] 106 [] a->Rn lT Goal (fr.atR a K) cs w):
 ∀(m i:Nat) (a:Act) (w:World),n- i=m->i<=n->Bw w0 w->Has [(2, .s id),(3, .i q),(6, .s ys),(8, .pt b8),(9, .pt b9),(17, .sk gb n cap),(19, .i i),(18, .s (F5 KS id ys q (cU wd) dg i)),(7, .s path)] 106 [] a->
  Rn lT Goal (fr.atR a (.code (BO Tryz.f38):: .inLoop (BO Tryz.f38):: .inBlock 0::K)) cs w:=by
 have s:=oI k;have h:=(gA hbox).1;have g:=(gA hkd).1;intro m;induction m with
 |zero=>
  intro i a w A B e b;have f:i=n:=o_
  have t:=(e.block b9 g).trans hkd
  iterate 4 refine Rn.uu b λa b=> ?_
  refine Rn.p rfl (Rn.cond _ (b.G 36) ?_);rw[decide_eq_false o_];exact Rn.p rfl (next a w e (b.only ⟨by rw[←f];rfl,rfl,rfl,rfl,rfl,rfl,trivial⟩))
 |succ m v=>
  intro i a w A B e b;have f:i<n:=o_
  have t:=(e.block b9 g).trans hkd;have p:=(e.block b8 h).trans hbox
  iterate 4 refine Rn.uu b λa b=> ?_
  refine Rn.p rfl (Rn.cond _ (b.G 36) ?_);rw[decide_eq_true o_];refine Rn.p rfl (Rn.p rfl (Rn.p rfl (Rn.p rfl ?_)));refine Ka (d:=dg i) (Yn:=zt KS id q i (cU wd- dg i) (dg i) (ys.extract (32*i) (32*i+32))) (H2:=2^wd) hKl hKw rfl rfl (Nat.two_pow_pos wd) (by rcases k with rfl|rfl|rfl<;>decide) (by rcases k with rfl|rfl|rfl<;>decide) rfl f z (o i) o_ hid y (T7 j e.size) ((World.cell?_of_block (w:=w0) (a:=⟨gb,i,none⟩) (e.block gb j)).trans (l i f)) (hC.mono e) p t (b.only ⟨rfl,rfl,rfl,rfl,rfl,rfl,rfl,rfl,rfl,trivial⟩) λa u ⟨r,b⟩=> ?_;have D:=ug KS id ys q (cU wd) dg i o_;have C:=nl KS id q i (cU wd- dg i) (dg i) (ys.extract (32*i) (32*i+32)) (by rw[ByteArray.size_extract];omega)
  iterate 7 refine Rn.uu b λa b=> ?_
  refine Rn.p rfl (Rn.p rfl (v (i+1) a u o_ o_ (aE e e.size r) (b.only ⟨rfl,rfl,rfl,rfl,rfl,rfl, ?_,rfl,rfl,trivial⟩)));rw[Int.natCast_add];rfl
theorem IY{lf:Nat}{x:ByteArray}(B:x.size=32)(J:h<=8)(E:lf<9223372036854775808)(I:32*h<=path.size)
 (next:∀a w,Bw w0 w->Has [(21, .s (kx KS id path lf x h))] 106 [] a->Rn lT Goal (fr.atR a K) cs w):
 ∀(m i:Nat) (a:Act) (w:World),h- i=m->i<=h->Bw w0 w->Has [(21, .s (kx KS id path lf x i)),(22, .i (dn lf i)),(23, .i i),(2, .s id),(7, .s path),(8, .pt b8),(9, .pt b9)] 106 [] a->
  Rn lT Goal (fr.atR a (.code (IZ Tryz.f38):: .inLoop (IZ Tryz.f38):: .inBlock 2::K)) cs w:=by
 have q:=(gA hbox).1;have l:=(gA hkd).1;intro m;induction m with
 |zero=>
  intro i a w D H g b;have r:i=h:=o_
  have G:=(g.block b9 l).trans hkd
  iterate 4 refine Rn.uu b λa b=> ?_
  refine Rn.p rfl (Rn.cond _ (b.G 76) ?_);rw[decide_eq_false o_];exact Rn.p rfl (next a w g (b.only ⟨by rw[←r];rfl,trivial⟩))
 |succ m z=>
  intro i a w D H g b;have r:i<h:=o_
  have G:=(g.block b9 l).trans hkd;have s:=(g.block b8 q).trans hbox;have F:=pV lf i
  iterate 4 refine Rn.uu b λa b=> ?_
  refine Rn.p rfl (Rn.cond _ (b.G 76) ?_);rw[decide_eq_true o_];refine Rn.gr ?_;have u:(32:Int)*(i:Int)=((32*i:Nat):Int):=o_
  have t:((32*i:Nat):Int)+32=((32*i+32:Nat):Int):=o_
  iterate 3 refine Rn.uu b λa b=> ?_
  rw[u]at b
  iterate 2 refine Rn.uu b λa b=> ?_
  rw[u]at b;refine Rn.uu b λa b=> ?_;rw[t]at b
  iterate 2 refine Rn.uu b λa b=> ?_
  refine Rn.uu b λa b=> ?_;refine Rn.uu b λa b=> ?_;refine Rn.uu b λa b=> ?_;refine Rn.p rfl (Rn.cond _ (b.G 88) ?_);have C:(path.extract (32*i) (32*i+32)).size<=32:=by rw[ByteArray.size_extract];omega
  have A:=Bd KS id path lf x B i;have d:((dn lf i:Int)/2)=((dn lf i/2:Nat):Int):=by rw[QU];rfl
  have n:∀(a:Act) (j:World),Bw w j->Has [(21, .s (kx KS id path lf x (i+1))),(22, .i (dn lf i)),(23, .i i),(2, .s id),(7, .s path),(8, .pt b8),(9, .pt b9)] 106 [] a->
   Rn lT Goal (fr.atR a (.code (rG Tryz.f38 17):: .inBlock 3:: .code (rG Tryz.f38 12):: .inLoop (IZ Tryz.f38):: .inBlock 2::K)) cs j:=by
   intro a j c b;refine Rn.r (L:=[0,1,2]) rfl ?_;refine Rn.y b 103 22 rfl λa b=>Rn.vv b (λo f=>xg f (b.G 103) rfl o_ o_) λa b=> ?_;rw[d]at b
   iterate 4 refine Rn.uu b λa b=> ?_
   refine Rn.p rfl (Rn.p rfl (z (i+1) a j o_ o_ (aE g g.size c) (b.only ⟨rfl,rfl, ?_,rfl,rfl,rfl,rfl,trivial⟩)));rw[Int.natCast_add];rfl
  by_cases k:dn lf i%2=1
  ·rw[show(((dn lf i:Int)%2)==1)=true from by rw[beq_iff_eq];omega];refine Rn.vv b (λo f=>gg hC.two f (b.G 8) s) λa b=> ?_;refine Rn.y b 90 2 rfl λa b=>Rn.y b 91 22 rfl λa b=>Rn.vv b (λo f=>xg f (b.G 91) rfl o_ o_) λa b=> ?_;rw[d]at b
   iterate 2 refine Rn.uu b λa b=> ?_
   refine Rn.cl b Lf.func65 (R:=λv p=>v= .s (kx KS id path lf x (i+1))/\Bw w p) ((m9 hKl hKw id (path.extract (32*i) (32*i+32)) (kx KS id path lf x i) (dn lf i/2) o_ o_ w (hC.mono g)).mono λe p h=>⟨_,h.1,by simp[kx,DT,k],h.2⟩) λv j y a b=> ?_;obtain⟨rfl,c⟩:=y;refine Rn.uu b λa b=> ?_;exact Rn.p rfl (n a j c (b.only ⟨rfl,rfl,rfl,rfl,rfl,rfl,rfl,trivial⟩))
  ·rw[show(((dn lf i:Int)%2)==1)=false from by rw[beq_eq_false_iff_ne];omega];refine Rn.vv b (λo f=>gg hC.two f (b.G 8) s) λa b=> ?_;refine Rn.y b 97 2 rfl λa b=>Rn.y b 98 22 rfl λa b=>Rn.vv b (λo f=>xg f (b.G 98) rfl o_ o_) λa b=> ?_;rw[d]at b
   iterate 2 refine Rn.uu b λa b=> ?_
   refine Rn.cl b Lf.func65 (R:=λv p=>v= .s (kx KS id path lf x (i+1))/\Bw w p) ((m9 hKl hKw id (kx KS id path lf x i) (path.extract (32*i) (32*i+32)) (dn lf i/2) o_ o_ w (hC.mono g)).mono λe p h=>⟨_,h.1,by simp[kx,DT,k],h.2⟩) λv j y a b=> ?_;obtain⟨rfl,c⟩:=y;refine Rn.uu b λa b=> ?_;exact Rn.p rfl (n a j c (b.only ⟨rfl,rfl,rfl,rfl,rfl,rfl,rfl,trivial⟩))
end
def uj(KS:List Int)(id salt msg ys path:ByteArray)(h wd sh n q:Nat):ByteArray:=
 kx KS id path (2^h+q) (j8 KS [id,ob (2^h+q) 4,ob 33410 2,j8 KS [id,ob q 4,ob 32896 2,F5 KS id ys q (cU wd) (λc=>dl (ib (j8 KS [id,ob q 4,ob 33153 2,salt,msg]).data.toList wd sh) wd c) n]]) h
theorem Ff(p:KS.length=64)(l:iU KS)(id salt msg u path:ByteArray)(t c:Int)(h wd sh n q:Nat)(O:qn wd)(R:sh<=8)(U:1<=n)(D:n<=34*(8/wd))(V:h<=8)(hq:q<256)(F:id.size<=1000)(E:id.size+6+salt.size+msg.size<=281474976710400)(A:32*n<=u.size)(hp:32*h<=path.size)(w:World)(P:kZ KS cv w):
 Calls lT 38 #[.agg cv, .agg (bB t c h wd n sh), .s id, .i q, .s salt, .s msg, .s u, .s path] w λe w'=>e= .returned (.s (uj KS id salt msg u path h wd sh n q))/\Bw w w':=by
 have C:8/wd<=4:=by rcases O with rfl|rfl|rfl<;>decide
 have T:n<=136:=By D (By (RJ 34 C) d_);have a4:2^h<=256:=By (Qp d_ V) d_;have a5:=oI O;refine bJ (t:=16) Lf.func38 rfl λcs=> ?_;rw[bP (N:=106) [.agg cv, .agg (bB t c h wd n sh), .s id, .i q, .s salt, .s msg, .s u, .s path] Lf.func38 MC rfl];have d:=aY [.agg cv, .agg (bB t c h wd n sh), .s id, .i q, .s salt, .s msg, .s u, .s path] 106 s_;refine Rn.gr ?_;refine Rn.z d 8 0 26 rfl λa d=> ?_;show Rn _ _ _ _ (w.alloc (.cells cv 26));refine Rn.z d 9 1 29 rfl λa d=> ?_;rw[aI]at d;show Rn _ _ _ _ ((w.alloc (.cells cv 26)).alloc (.cells (bB t c h wd n sh) 29));have f:Bw w ((w.alloc (.cells cv 26)).alloc (.cells (bB t c h wd n sh) 29)):=aE (PK w _) (by rw[aI];omega) (PK _ _);have M:=(cm (w.alloc (.cells cv 26)) (.cells (bB t c h wd n sh) 29) (b:=w.heap.size) (by rw[aI];omega)).trans (aP w _);have z:=aP (w.alloc (.cells cv 26)) (.cells (bB t c h wd n sh) 29);rw[aI]at z;revert f M z;generalize (w.alloc (.cells cv 26)).alloc (.cells (bB t c h wd n sh) 29)=w1;intro f M z;refine Rn.uu d λa d=> ?_;refine Rn.p rfl (Rn.p rfl ?_);refine Kb (Qb:=j8 KS [id,ob q 4,ob 33153 2,salt,msg]) p l rfl O R U D o_ E (P.mono f) M z (d.only ⟨rfl,rfl,rfl,rfl,rfl,rfl,rfl,rfl,trivial⟩) λa w2 ⟨j,vg,v,d⟩=> ?_;have r:Bw w w2:=aE f f.size j;have y:=bk j M;have x:=bk j z;clear M z f j;obtain⟨gb,a6,rfl,G,H⟩:=v
 iterate 2 refine Rn.uu d λa d=> ?_
 refine Rn.p rfl (Rn.p rfl (Rn.p rfl ?_));have Y:∀c,dl (ib (j8 KS [id,ob q 4,ob 33153 2,salt,msg]).data.toList wd sh) wd c<256:=λc=>by have:=nA (ib (j8 KS [id,ob q 4,ob 33153 2,salt,msg]).data.toList wd sh) wd c;omega
 refine F2 (dg:=λc=>dl (ib (j8 KS [id,ob q 4,ob 33153 2,salt,msg]).data.toList wd sh) wd c) p l (P.mono r) y x F o_ O o_ A Y G H (λa w3 g d=> ?_) n 0 a w2 rfl (QH _) (bR) (d.only ⟨rfl,rfl,rfl,rfl,rfl,rfl,rfl,rfl,rfl,trivial⟩);have L:=bk g y;have a2:=bk g x;have J:=(P.mono r).mono g;have s:Bw w w3:=aE r r.size g;clear y x g H G;have W:=ug KS id u q (cU wd) (λc=>dl (ib (j8 KS [id,ob q 4,ob 33153 2,salt,msg]).data.toList wd sh) wd c) n A;obtain⟨en,X⟩:∃en,en=F5 KS id u q (cU wd) (λc=>dl (ib (j8 KS [id,ob q 4,ob 33153 2,salt,msg]).data.toList wd sh) wd c) n:=⟨_,rfl⟩;unfold uj;rw[←X]at d W⊢;refine Rn.vv d (λo S=>gg P.two S (d.G 8) L) λa d=> ?_;refine Rn.uu d λa d=> ?_
 iterate 3 refine Rn.uu d λa d=> ?_
 refine Rn.cw d Lf.func64 ((zk p l id en q h wd n sh t c V o_ o_ w3 J)) λw4 i a d=> ?_;have a3:=bk i L;have a1:=bk i a2;have Z:=J.mono i;have K:Bw w w4:=aE s s.size i;refine Rn.uu d λa d=> ?_;refine Rn.gr ?_;obtain⟨Q,I⟩:∃Q,Q=2^h:=⟨_,rfl⟩;have B:(1:Int)*2^h=(Q:Int):=by rw[Int.one_mul,I,Q1];rfl
 rw[←I]at d a4⊢
 iterate 2 refine Rn.uu d λa d=> ?_
 refine Rn.vv d (λo S=>iz (m:=1) (k:=h) S rfl (d.G 69) o_ (by rw[B];omega)) λa d=> ?_;rw[B]at d
 iterate 2 refine Rn.uu d λa d=> ?_
 rw[←Int.natCast_add]at d
 iterate 2 refine Rn.uu d λa d=> ?_
 refine Rn.p rfl (Rn.p rfl (Rn.p rfl ?_));refine IY (lf:=Q+q) p l Z a3 a1 F (fH _ _) V o_ hp (λa w5 a0 d=> ?_) h 0 a w4 rfl (QH _) (bR) (d.only ⟨rfl,rfl,rfl,rfl,rfl,rfl,rfl,trivial⟩)
 iterate 2 refine Rn.uu d λa d=> ?_
 exact Rn.fi d ⟨rfl,aE K K.size a0⟩
section
variable{y:Operand}
theorem sT(a:o.op= .alloc 29):(execOp ev o).run lT w= .ok (.value (.pk w.heap.size 0)) (w.alloc (.cells (bB 0 0 0 0 0 0) 29)):=by
 have e:execOp ev o=(do pure (.value (←Qz 29 true (.tuple #[])))):=by simp[execOp,a]
 have b:(do pure (.value (←Qz 29 true (.tuple #[]))):Sem Next).run lT w= .ok (.value (.pk w.heap.size 0)) (w.alloc (.cells (bB 0 0 0 0 0 0) 29)):=by rfl
 rw[e,b]
theorem Js{t:Int}(a:o.op= .build 29 #[(0,x),(1,y)])(d:ev x= .i t)(b:ev y= .i c):(execOp ev o).run lT w= .ok (.value (.agg (bB t c 0 0 0 0))) w:=by
 have e:execOp ev o=(do pure (.value (←Instr.build 29 #[(0, .i t),(1, .i c)]))):=by simp[execOp,a,d,b]
 have b:(do pure (.value (←Instr.build 29 #[(0, .i t),(1, .i c)])):Sem Next).run lT w= .ok (.value (.agg (bB t c 0 0 0 0))) w:=k_
 rw[e,b]
end
theorem tZ:(lT.info? 29).map (·.size)=some 6:=rfl
theorem iM{b:Frame}{k:List Item}{r:Nat}(s:Has F N ds a)(d x j:Nat)(c:Int)(z:d<N)(u:j<6){b4:Nat}{g:Array Value}(t:F.lookup x=some (.pk b4 0))
 (D:(ops[m]?).map (λo=>(o.dst,o.op,o.guard))=some (some d, .fieldAddr 29 (.tmp x) j,none)) (C:(ops[r]?).map (λo=>(o.dst,o.op,o.guard))=some (none, .store 3 (.tmp d) (.const (.i c)),none)) (f:w.heap[b4]?=some (.cells g 29)) {v0:Value} (h:g[j]?=some v0)
 (next:∀a' w',Has F N ds a'->w'.heap[b4]?=some (.cells (g.setIfInBounds j (.i c)) 29)->(∀M,M<=b4->Below M w w')->Rn lT Goal (b.atR a' (.inRegion ops rest::k)) cs w') (B:F.lookup d=none):Rn lT Goal (b.atR a (.inRegion ops (m::r::rest)::k)) cs w:=by
 refine Rn.op s d (.fieldAddr 29 (.tmp x) j) z D s_ (λo l=>jI j u l (s.get t)) λa i=>Rn.does0 i (.store 3 (.tmp d) (.const (.i c))) C s_ (λo l=>(dH (w:=w) (b:=b4) (k:=j) (v:= .i c) (v0:=v0) rfl rfl k_ l (i.get (d:=d) s_) rfl (by rw[aH f];exact h) (by simp[Qa,f])).1) λa p=>next a _ (p.sub λe v y=> ?_) (iX f) λM A=>cP w _ _ A
 have n:e≠d:=λq=>by grind
 simp only[IT,show(e==d)=false from by simpa using n];exact y
def g9(T:TypeId)(fin:Array Value)(N:Nat)(w w':World):Prop:=Below N w w'/\w'.heap[N+1]?=w.heap[N+1]?/\((∃cur,w.heap[N]?=some (.cells cur T)/\cur.size=6)->∃cur,w'.heap[N]?=some (.cells cur T)/\cur.size=6)/\(w.heap[N]?=some (.cells fin T)->w'.heap[N]?=some (.cells fin T))
theorem g9.refl{T:TypeId}{fin:Array Value}(w:World):g9 T fin N w w:=⟨bR,rfl,λh=>h,λh=>h⟩
theorem g9.trans{T:TypeId}{fin:Array Value}(w w' a:World)(h:g9 T fin N w w')(b:g9 T fin N w' a):g9 T fin N w a:=⟨h.1.trans b.1,b.2.1.trans h.2.1,λx=>b.2.2.1 (h.2.2.1 x),λx=>b.2.2.2 (h.2.2.2 x)⟩
def OL(t c:Int)(h wd n sh N:Nat)(c1 c2:Bool):Nat->Value->World->Prop
 |0,v,_=>v= .agg (bB t c h wd n sh)
 |1,v,_=>v= .pk (N+1) 2
 |2,v,_=>v= .int .i64 h
 |3,v,_=>v= .bool c1
 |4,v,_=>v= .bool c1
 |5,v,_=>c1=true->v= .pk (N+1) 3
 |6,v,_=>c1=true->v= .int .i64 wd
 |7,v,_=>c1=true->v= .bool c2
 |8,v,_=>v= .bool (c1&&c2)
 |9,_,w=>w.heap[N]?=some (.cells (bB t c h wd n sh) 29)
 |_,v,_=>v= .bool (c1&&c2)
theorem Hg{t:Int}{h wd sh:Nat}{c1 c2:Bool}(m:Nat)(v:Value)(w w':World)(b:OL t c h wd n sh N c1 c2 m v w)(a:g9 29 (bB t c h wd n sh) N w w'):OL t c h wd n sh N c1 c2 m v w':=by
 match m,b with
 |0,h|1,h|2,h|3,h|4,h|5,h|6,h|7,h|8,h=>exact h
 |9,h=>exact a.2.2.2 h
 |_+10,h=>exact h
section
variable{t:Int}{h sh:Nat}{c1 c2:Bool}
theorem M5(hc1:c1=decide ((h:Int)>0))(hc2:c2=decide ((wd:Int)>0))(hkd:w.heap[N+1]?=some (.cells (bB t c h wd n sh) 29))(hz:w.heap[N]?=some (.cells (bB 0 0 0 0 0 0) 29))(hF:Has [(4, .pt N),(6, .pt (N+1))] 41 [] a)
 (next:∀a w',Below N w w'->w'.heap[N]?=some (.cells (bB t c h wd n sh) 29)->Has [(5, .bool (c1&&c2)),(4, .pt N)] 41 [] a->Rn lT Goal ((base 27).atR a K) cs w'):
 Rn lT Goal ((base 27).atR a (.code (rD Tryz.f27 19)::K)) cs w:=by
 refine Rn.growsX (fx:=[(4, .pt N),(6, .pt (N+1))]) (ds:=[some 32,some 33,some 34,some 35,some 36,some 37,some 38,some 39,some 40,none,some 5]) (N:=41) (df:=[]) (G:=OL t c h wd n sh N c1 c2) (Rel:=g9 29 (bB t c h wd n sh) N) k_ k_
  ⟨gw w,rfl,λh=>h,λh=>h⟩ g9.trans Hg (λm o a w' hm ho hb' hsz hfx hne=> ?_) (λa w' hG=> ?_) hF.defers hF.size (hF.all s_)
 ·have f4:=aA (hfx _ (mG (i:=0) rfl));have f6:=aA (hfx _ (mG (i:=1) rfl));have hkd':=hb'.2.1.trans hkd;obtain⟨cur,hcur,hcur6⟩:=hb'.2.2.1 ⟨_,hz,rfl⟩;have get:∀{m d:Nat},[some 32,some 33,some 34,some 35,some 36,some 37,some 38,some 39,some 40,none,some 5][m]?=some (some d)->gW (bK Tryz.f27 19) _ m=true->∃v,a.tmps[d]?=some v/\OL t c h wd n sh N c1 c2 m v w':=λ{m d} h1 h2=>by obtain⟨v,hv,hg⟩:=hne m (some d) h1 h2;exact⟨v,hv d rfl,hg⟩
  have first:∀{o:Oper} {R:Value->World->Prop},o.guard=some (4,true)->a.tmps[36]?=some (.bool c1)->(c1=true->qo lT a o w' R)->(c1=false->R undef w')->DK lT (bK Tryz.f27 19) a o w' R:=λ{o R} h1 h3 h4 h5=>by
   have hw:=jr (ops:=bK Tryz.f27 19) (tmps:=a.tmps) (d:=36) h1 k_ h3;cases c1 with
   |true=>exact .inl (.inl ⟨hw,h4 rfl⟩)
   |false=>exact .inl (.inr ⟨hw,h5 rfl⟩)
  have gop:∀{m:Nat} {o:Oper} {d:Option Tmp} {p:Op} {g:Nat×Bool},(bK Tryz.f27 19)[m]?=some o->((bK Tryz.f27 19)[m]?).map (λo=>(o.dst,o.op,o.guard))=some (d,p,some g)->o.op=p/\o.guard=some g:=λ{m o d p g} ho hmap=>by rw[ho]at hmap;simp only[T8,Option.some.injEq,Prod.mk.injEq]at hmap;exact⟨hmap.2.1,hmap.2.2⟩
  have hlt:m<11:=hm;rcases(o_:m=0\/m=1\/m=2\/m=3\/m=4\/m=5\/m=6\/m=7\/m=8\/m=9\/m=10)with rfl|rfl|rfl|rfl|rfl|rfl|rfl|rfl|rfl|rfl|rfl
  ·obtain⟨e1,e2,e3⟩:=oQ ho;exact iF e3 (jt e2 f6 hkd') ⟨rfl,g9.refl _⟩
  ·obtain⟨e1,e2,e3⟩:=oQ ho;exact iF e3 (jI 2 d_ e2 f6) ⟨rfl,g9.refl _⟩
  ·obtain⟨e1,e2,e3⟩:=oQ ho;obtain⟨u,hu,rfl⟩:=get (m:=1) (d:=33) rfl k_;exact iF e3 (aN (v:= .i h) cq e2 (aA hu) ((aH hkd' 2).trans rfl)).1 ⟨rfl,g9.refl _⟩
  ·obtain⟨e1,e2,e3⟩:=oQ ho;obtain⟨u,hu,rfl⟩:=get (m:=2) (d:=34) rfl k_;exact iF e3 (AJ e2 (aA hu) rfl) ⟨by rw[hc1];rfl,g9.refl _⟩
  ·obtain⟨e1,e2,e3⟩:=oQ ho;obtain⟨u,hu,rfl⟩:=get (m:=3) (d:=35) rfl k_;exact iF e3 (by rw[bF (.inl e2),aA hu]) ⟨rfl,g9.refl _⟩
  ·obtain⟨e2,eg⟩:=gop (d:=some 37) (p:= .fieldAddr 29 (.tmp 6) 3) ho k_;obtain⟨u,hu,rfl⟩:=get (m:=4) (d:=36) rfl k_;exact first eg hu (λ_=>aF (jI 3 d_ e2 f6) ⟨λ_=>rfl,g9.refl _⟩) λhq=>⟨λhf=>(by rw[hq]at hf;cases hf),g9.refl _⟩
  ·obtain⟨e2,eg⟩:=gop (d:=some 38) (p:= .load 3 (.tmp 37)) ho k_;obtain⟨u,hu,rfl⟩:=get (m:=4) (d:=36) rfl k_;obtain⟨u1,hu1,h1⟩:=get (m:=5) (d:=37) rfl k_;exact first eg hu (λhq=>aF (aN (v:= .i wd) cq e2 ((aA hu1).trans (h1 hq)) ((aH hkd' 3).trans rfl)).1 ⟨λ_=>rfl,g9.refl _⟩) λhq=>⟨λhf=>(by rw[hq]at hf;cases hf),g9.refl _⟩
  ·obtain⟨e2,eg⟩:=gop (d:=some 39) (p:= .binOp .gtr 3 (.tmp 38) (.const (.i 0)) 3) ho k_;obtain⟨u,hu,rfl⟩:=get (m:=4) (d:=36) rfl k_;obtain⟨u1,hu1,h1⟩:=get (m:=6) (d:=38) rfl k_;exact first eg hu (λhq=>aF (AJ e2 ((aA hu1).trans (h1 hq)) rfl) ⟨λ_=>by rw[hc2],g9.refl _⟩) λhq=>⟨λhf=>(by rw[hq]at hf;cases hf),g9.refl _⟩
  ·obtain⟨e1,e2,e3⟩:=oQ ho;obtain⟨u,hu,rfl⟩:=get (m:=4) (d:=36) rfl k_;obtain⟨u1,hu1,h1⟩:=get (m:=7) (d:=39) rfl k_;refine iF e3 (li e2 (aA hu)) ⟨?_,g9.refl _⟩;cases hq:c1 with
   |true=>exact(aA hu1).trans (h1 hq)
   |false=>rfl
  ·obtain⟨e1,e2,e3⟩:=cA (d:=none) (p:= .store 29 (.tmp 4) (.tmp 32)) ho k_;obtain⟨u,hu,rfl⟩:=get (m:=0) (d:=32) rfl k_;have hset:=setRow_heap w' N cur (bB t c h wd n sh) _ _ hcur;refine .inr ⟨e3 _,_,cd (cells:=bB t c h wd n sh) e2 f4 (aA hu) hcur tZ hcur6 (by simp[bB,Value.oneCell']),hset,bT w' N _ (T6 _),setRow_other w' N (N+1) _ o_,λ_=>⟨_,hset,rfl⟩,λ_=>hset⟩
  ·obtain⟨e1,e2,e3⟩:=oQ ho;obtain⟨u,hu,rfl⟩:=get (m:=8) (d:=40) rfl k_;exact iF e3 (by rw[bF (.inr e2),aA hu]) ⟨rfl,g9.refl _⟩
 ·obtain⟨v9,_,h9⟩:=hG.come 9 none rfl trivial;obtain⟨v,hv,hv2⟩:=hG.come 10 (some 5) rfl trivial;obtain rfl:=hv2;exact next a w' hG.old.1 h9 (((Has.mem hG.defers hG.size hG.fixed).more (hv 5 rfl)).only ⟨rfl,rfl,trivial⟩)
end
def zN(f:Func):Code:= .seq (.seq (rG f 7) (.block 1 (.seq (rG f 8) (.cond (.tmp 18) (.seq (rG f 9) (.seq (rG f 10) (rG f 11))) (.seq (rG f 12) (.cond (.tmp 23) (.seq (rG f 13) (.seq (rG f 14) (rG f 15))) (.seq (rG f 16) (.cond (.tmp 28) (.seq (rG f 17) (rG f 18)) .skip)))))))) (.seq (rD f 19) .ret)
theorem MD:Tryz.f27.body=some (.seq (rG Tryz.f27 0) (.seq (rG Tryz.f27 1) (.seq (.seq (rG Tryz.f27 2) (.block 0 (.seq (rG Tryz.f27 3) (.cond (.tmp 11) (rG Tryz.f27 4) (.seq (rG Tryz.f27 5) (.cond (.tmp 14) (rG Tryz.f27 6) .skip)))))) (zN Tryz.f27)))):=rfl
def IE(t c:Int)(w0:World)(e:Ending)(w':World):Prop:=e= .returned (.tuple #[.agg (bB t c (d8 t) (ee c) (fb c) (eR c)), .bool (decide (((d8 t:Nat):Int)>0)&&decide (((ee c:Nat):Int)>0))])/\Bw w0 w'
def Cp(t c:Int)(w0:World)(cs:List Frame)(g:Goroutine)(w':World):Prop:=∃(a:Act) (k:List Item) (bk:Nat) (cells:Array Value) (tt:TypeId) (v:Value),g=dN {(base 27).atR a k with mode:= .returning} cs/\a.defers=[]/\a.tmps[4]?=some (.pk bk 0)/\w'.heap[bk]?=some (.cells cells tt)/\cells.size=6/\a.tmps[5]?=some v/\IE t c w0 (.returned (.tuple #[.agg cells,v])) w'
section
variable{t:Int}{k:List Item}
theorem AP(b:Has [(1, .i c),(4, .pt w0.heap.size),(6, .pt (w0.heap.size+1))] 41 [] a)(C:w.heap[w0.heap.size]?=some (.cells (bB 0 0 0 0 0 0) 29))(n:Bw w0 w)(f:w.heap[w0.heap.size+1]?=some (.cells (bB t c (d8 t) 0 0 0) 29)):
 Rn lT (Cp t c w0 cs) ((base 27).atR a (.code (zN Tryz.f27)::k)) cs w:=by
 have D:=(gA C).1;have g:∀(a:Act) (i:World),i.heap[w0.heap.size+1]?=some (.cells (bB t c (d8 t) (ee c) (fb c) (eR c)) 29)->Below (w0.heap.size+1) w i->Has [(4, .pt w0.heap.size),(6, .pt (w0.heap.size+1))] 41 [] a->
  Rn lT (Cp t c w0 cs) ((base 27).atR a (.code (.seq (rD Tryz.f27 19) .ret)::k)) cs i:=by intro a i m E b;refine Rn.p rfl (M5 rfl rfl m ((E.block _ o_).trans C) b λa o v l b=> ?_);exact Rn.ends rfl (.inr ⟨_,rfl⟩) (Rn.now ⟨a,_,w0.heap.size,_,29,_,rfl,b.defers,b.slot 4 _ rfl,l,rfl,b.slot 5 _ rfl,rfl,(n.trans (E.mono o_)).trans v⟩)
 have B:∀(x y:Int) (h:x=y),(x==y)=true:=λx y h=>by simpa using h
 have A:∀(x y:Int) (h:x≠y),(x==y)=false:=λx y h=>by simpa using h
 iterate 3 refine Rn.uu b λa b=> ?_
 refine Rn.p rfl (Rn.cond _ (b.G 18) ?_);by_cases r:c=2
 ·rw[B _ _ r];have b:Has [(4, .pt w0.heap.size),(6, .pt (w0.heap.size+1))] 41 [] a:=b.only ⟨rfl,rfl,trivial⟩;refine Rn.gr ?_;refine iM b 20 6 3 2 d_ d_ rfl k_ k_ f rfl (λa i b m e=> ?_) rfl;refine Rn.gr ?_;refine iM b 21 6 4 133 d_ d_ rfl k_ k_ m rfl (λa o b l d=> ?_) rfl;refine Rn.gr ?_;refine iM b 22 6 5 6 d_ d_ rfl k_ k_ l rfl (λa s b z j=> ?_) rfl;refine Rn.p rfl (Rn.p rfl (g a s ?_ (((e _ (T6 _)).trans (d _ (T6 _))).trans (j _ (T6 _))) b));subst r;exact z
 rw[A _ _ r]
 iterate 2 refine Rn.uu b λa b=> ?_
 refine Rn.p rfl (Rn.cond _ (b.G 23) ?_);by_cases q:c=3
 ·rw[B _ _ q];have b:Has [(4, .pt w0.heap.size),(6, .pt (w0.heap.size+1))] 41 [] a:=b.only ⟨rfl,rfl,trivial⟩;refine Rn.gr ?_;refine iM b 25 6 3 4 d_ d_ rfl k_ k_ f rfl (λa i b m e=> ?_) rfl;refine Rn.gr ?_;refine iM b 26 6 4 67 d_ d_ rfl k_ k_ m rfl (λa o b l d=> ?_) rfl;refine Rn.gr ?_;refine iM b 27 6 5 4 d_ d_ rfl k_ k_ l rfl (λa s b z j=> ?_) rfl;refine Rn.p rfl (Rn.p rfl (g a s ?_ (((e _ (T6 _)).trans (d _ (T6 _))).trans (j _ (T6 _))) b));subst q;exact z
 rw[A _ _ q]
 iterate 2 refine Rn.uu b λa b=> ?_
 refine Rn.p rfl (Rn.cond _ (b.G 28) ?_);by_cases p:c=4
 ·rw[B _ _ p];have b:Has [(4, .pt w0.heap.size),(6, .pt (w0.heap.size+1))] 41 [] a:=b.only ⟨rfl,rfl,trivial⟩;refine Rn.gr ?_;refine iM b 30 6 3 8 d_ d_ rfl k_ k_ f rfl (λa i b m e=> ?_) rfl;refine Rn.gr ?_;refine iM b 31 6 4 34 d_ d_ rfl k_ k_ m rfl (λa o b l d=> ?_) rfl;refine Rn.p rfl (Rn.p rfl (g a o ?_ ((e _ (T6 _)).trans (d _ (T6 _))) b));subst p;exact l
 rw[A _ _ p];refine Rn.p rfl (Rn.p rfl (g a w ?_ (bR) (b.only ⟨rfl,rfl,trivial⟩)));have u:ee c=0/\fb c=0/\eR c=0:=by simp[ee,fb,eR,r,q,p]
 rw[u.1,u.2.1,u.2.2];exact f
end
theorem tY(t c:Int)(w:World):Calls lT 27 #[.i t, .i c] w (IE t c w):=by
 refine mq (t:=4) (u:=5) (ty:=29) (n:=6) Lf.func27 rfl Lf.underlying29 rfl tZ λB=> ?_;show Rn _ (Cp t c w B) _ B w;rw[bP (N:=41) [.i t, .i c] Lf.func27 MD rfl];have d:=aY [.i t, .i c] 41 s_;have A:∀(x y:Int) (h:x=y),(x==y)=true:=λx y h=>by simpa using h
 have z:∀(x y:Int) (h:x≠y),(x==y)=false:=λx y h=>by simpa using h
 refine Rn.vv d (λo k=>sT k) λa d=> ?_
 iterate 3 refine Rn.uu d λa d=> ?_
 refine Rn.vv d (λo k=>Js k (d.G 7) (d.G 8)) λa d=> ?_;refine Rn.vv d (λo k=>sT k) λa d=> ?_;rw[aI]at d;have m:=aP (w.alloc (.cells (bB 0 0 0 0 0 0) 29)) (.cells (bB 0 0 0 0 0 0) 29);rw[aI]at m;have s:=(cm (w.alloc (.cells (bB 0 0 0 0 0 0) 29)) (.cells (bB 0 0 0 0 0 0) 29) (b:=w.heap.size) (by rw[aI];omega)).trans (aP w _);have i:Bw w ((w.alloc (.cells (bB 0 0 0 0 0 0) 29)).alloc (.cells (bB 0 0 0 0 0 0) 29)):=aE (PK w _) (by rw[aI];omega) (PK _ _);revert m s i;generalize (w.alloc (.cells (bB 0 0 0 0 0 0) 29)).alloc (.cells (bB 0 0 0 0 0 0) 29)=p;intro m s i;refine Rn.nn d (λo k=>cd (cells:=bB t c 0 0 0 0) k (d.G 6) (d.G 9) m tZ rfl (by simp[bB,Value.oneCell'])) λa d=> ?_;have f:=setRow_heap p _ _ (bB t c 0 0 0 0) _ _ m;have g:=(setRow_other p (w.heap.size+1) w.heap.size (bB t c 0 0 0 0) o_).trans s;have e:Bw w (p.setRow (w.heap.size+1) (bB t c 0 0 0 0)):=i.trans (bT _ _ _ o_);revert f g e;generalize p.setRow (w.heap.size+1) (bB t c 0 0 0 0)=F;intro f g e;have D:=(gA f).1;refine Rn.uu d λa d=> ?_
 iterate 2 refine Rn.uu d λa d=> ?_
 refine Rn.p rfl (Rn.cond _ (d.G 11) ?_);by_cases r:t=5
 ·rw[A _ _ r];have d:Has [(1, .i c),(4, .pt w.heap.size),(6, .pt (w.heap.size+1))] 41 [] a:=d.only ⟨rfl,rfl,rfl,trivial⟩;refine Rn.gr ?_;refine iM d 13 6 2 5 d_ d_ rfl k_ k_ f rfl (λa C d v l=> ?_) rfl;have j:=l (w.heap.size+1) (T6 _);refine Rn.p rfl (Rn.p rfl (AP d ((j.block _ o_).trans g) (e.trans (j.mono o_)) ?_));subst r;exact v
 rw[z _ _ r]
 iterate 2 refine Rn.uu d λa d=> ?_
 refine Rn.p rfl (Rn.cond _ (d.G 14) ?_);by_cases q:t=226
 ·rw[A _ _ q];have d:Has [(1, .i c),(4, .pt w.heap.size),(6, .pt (w.heap.size+1))] 41 [] a:=d.only ⟨rfl,rfl,rfl,trivial⟩;refine Rn.gr ?_;refine iM d 16 6 2 2 d_ d_ rfl k_ k_ f rfl (λa C d v l=> ?_) rfl;have j:=l (w.heap.size+1) (T6 _);refine Rn.p rfl (Rn.p rfl (AP d ((j.block _ o_).trans g) (e.trans (j.mono o_)) ?_));subst q;exact v
 rw[z _ _ q];refine Rn.p rfl (Rn.p rfl (AP (d.only ⟨rfl,rfl,rfl,trivial⟩) g e ?_));have E:d8 t=0:=by simp[d8,r,q]
 rw[E];exact f
end L1
section
open Go
theorem gu(s:ByteArray)(a b:Nat):s.extract a b=⟨(cz s.data.toList a b).toArray⟩:=by obtain⟨⟨l⟩⟩:=s;apply ByteArray.ext;simp[cz,List.drop_take,List.extract]
theorem na(s:ByteArray)(a b:Nat):cZ (cz s.data.toList a b)=bV s a b:=by unfold bV;rw[gu]
theorem yV:∀(n:Nat) (l k:List UInt8),l.length=n->k.length=n->cZ l=cZ k->l=k
 |0,l,k,h1,h2,_=>by rw[List.eq_nil_of_length_eq_zero h1,List.eq_nil_of_length_eq_zero h2]
 |n+1,l,k,h1,h2,h=>by
  rcases List.eq_nil_or_concat l with rfl|⟨a,x,rfl⟩
  ·simp at h1
  rcases List.eq_nil_or_concat k with rfl|⟨b,y,rfl⟩
  ·simp at h2
  simp only[List.concat_eq_append,List.length_append,List.length_singleton]at h1 h2⊢;simp only[List.concat_eq_append,o6]at h;have f:=x.toNat_lt;have e:=y.toNat_lt;have d:cZ a=cZ b:=o_
  have c:x.toNat=y.toNat:=o_
  rw[yV n a b o_ o_ d,UInt8.toNat_inj.1 c]
theorem CO{a b:ByteArray}{d c:Nat}(f:(a.extract i j).size=4)(e:(b.extract d c).size=4):bV a i j=bV b d c↔(a.extract i j).data.toList=(b.extract d c).data.toList:=by
 constructor
 ·intro h;exact yV 4 _ _ (by rw[QB];exact f) (by rw[QB];exact e) h
 ·intro h;unfold bV;rw[h]
end
namespace L1
open Go.Conc Go.RowKit
theorem mj(s:ByteArray)(a b:Nat):(s.extract a b).data.toList=cz s.data.toList a b:=by rw[gu]
theorem zO{a b:ByteArray}(h:a.data.toList=b.data.toList):a=b:=by obtain⟨⟨l⟩⟩:=a;obtain⟨⟨m⟩⟩:=b;have h:l=m:=h;rw[h]
theorem vG(p:ByteArray):∀c,(lm p c).data.toList=p.data.toList.drop (32*c)
 |0=>rfl
 |c+1=>by
  have a:=vG p c;rw[lm,mj,cz,a];have b:(lm p c).size=(p.data.toList.drop (32*c)).length:=by rw[←a];simp
  rw[b,List.take_length,List.drop_drop]
  congr 1
theorem Ek(p:ByteArray)(c:Nat):(lm p c).extract 0 32=p.extract (32*c) (32*c+32):=by apply zO;rw[mj,mj,vG,cz,cz,List.drop_zero,←List.take_drop]
theorem vQ(KS:List Int)(id path:ByteArray)(lf:Nat)(x:ByteArray):∀c,tS KS id path lf x c=kx KS id path lf x c
 |0=>rfl
 |c+1=>by rw[tS,kx,Ek,vQ KS id path lf x c]
theorem D9(KS:List Int)(id:ByteArray)(q i:Nat):∀(m j:Nat) (y:ByteArray),(zt KS id q i m j y).data.toList=jc KS (id.data.toList++da q 4++da i 2) m j y.data.toList
 |0,_,_=>rfl
 |m+1,j,y=>by
  rw[zt,D9 KS id q i m (j+1) _,jc]
  congr 1
theorem Di(KS:List Int)(s:dw)(q wd:Nat)(dg:Nat->Nat)(b:s.q=q)(a:s.width=wd):∀n,(F5 KS s.id s.links q (cU wd) dg n).data.toList=lB KS s (λc=>(dg c:Nat)) n
 |0=>by simp[F5,lB]
 |n+1=>by
  have d:=Di KS s q wd dg b a n;have f:(F5 KS s.id s.links q (cU wd) dg (n+1)).data.toList=(F5 KS s.id s.links q (cU wd) dg n).data.toList++(zt KS s.id q n (cU wd- dg n) (dg n) (s.links.extract (32*n) (32*n+32))).data.toList:=by simp[F5]
  have e:lB KS s (λc=>(dg c:Nat)) (n+1)=lB KS s (λc=>(dg c:Nat)) n++(ki KS s n ((dg n:Nat):Int) (s.links.extract (n*32) ((n+1)*32))).data.toList:=by simp[lB,Sb]
  rw[f,e,d,D9]
  congr 1
  simp only[ki,jM,b,a,Int.toNat_natCast];rw[show n*32=32*n from o_,show(n+1)*32=32*n+32 from o_]
theorem Eh(KS:List Int)(s:dw)(h wd sh n q:Nat)(msg:ByteArray)(d:s.q=q)(a:s.width=wd):uj KS s.id s.salt msg s.links s.path h wd sh n q=yx KS s h wd sh n q msg:=by
 unfold uj yx;rw[vQ];have b:F5 KS s.id s.links q (cU wd) (λc=>dl (ib (j8 KS [s.id,ob q 4,ob 33153 2,s.salt,msg]).data.toList wd sh) wd c) n=OI KS s wd sh n q msg:=by apply zO;rw[Di KS s q wd _ d a n];rfl
 rw[b];rfl
end L1
end Go.Proofs.YtkmoglhgkcnalaaGreatDoor
