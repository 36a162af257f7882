/- A part of what the last text of the claim imports: texts laid together, and made small, by a program. -/
import Derived.Test.YtkmoglhgkcnalaaGreatDoorOwn11
set_option maxHeartbeats 16000000
set_option maxRecDepth 100000
namespace Go.Proofs.YtkmoglhgkcnalaaGreatDoor
open Go
variable{n b i N l m k j:Nat}{w w':World}{fr:Frame}{v:Value}{cs:List Frame}{args cv:Array Value}{V RO D:Nat->Prop}{q main listen:Bool}{g:Goroutine}{a:Act}{K:List Item}{P:Program}{x:Operand}{ops:Array Oper}{KS:List Int}{t u:TypeId}{o:Oper}{f:FuncId}{es:Array Event}{Goal:Goroutine->World->Prop}{fn:Func}{rest:List Nat}{ds:List Deferred}{X:Ln}{F:List (Nat×Value)}{e:Event}{listed:Array Bool}{c:Int}{s msg key sig:ByteArray}
namespace L1
open Go.Conc Go.RowKit
def Jf(s:cA)(N lf M:Nat)(en Xn:ByteArray):Nat->Value->World->Prop
 |0,v,_=>v= .pointer (some ⟨N,0,none⟩)
 |1,v,_=>v= .pointer (some ⟨N,2,none⟩)
 |2,v,_=>v= .string (s.id)
 |3,v,_=>v= .int .i64 (lf:Int)
 |4,v,_=>v= .string (ob lf 4)
 |5,v,_=>v= .string (ob 33410 2)
 |6,v,_=>v= .string (en)
 |7,v,w=>Bs 4 #[.string s.id, .string (ob lf 4), .string (ob 33410 2), .string en] 9 v w
 |8,v,_=>v= .string Xn
 |_,v,w=>Bx M #[.string ⟨#[]⟩] 9 v w
theorem C7{s:cA}{lf M:Nat}{en Xn:ByteArray}(k:Nat)(v:Value)(w w':World)(a:Jf s N lf M en Xn k v w)(b:Below w.heap.size w w'):Jf s N lf M en Xn k v w':=by
 match k,a with
 |0,a|1,a|2,a|3,a|4,a|5,a|6,a=>exact a
 |7,a=>exact Bs.mono a b
 |8,a=>exact a
 |k+9,a=>exact Bx.mono a b
theorem Gc{s:cA}{lf M:Nat}{en Xn:ByteArray}(W:Xn=⟨(dx KS ([s.id,ob lf 4,ob 33410 2,en].flatMap λp=>p.data.toList)).toArray⟩)(O:KS.length=64)(V:lf<9223372036854775808)(z:([s.id,ob lf 4,ob 33410 2,en].flatMap λp=>p.data.toList).length<=576460752303423488)(X:w.rangeAt 0 0 (tL KS))(Y:0<w.heap.size)(l:w.heap[N]?=some (.cells s.cells 119))
 (hM:M=w.heap.size)
 (j:aJ [(2, .pt N),(7, .string (en)),(8, .i (lf:Int))] 81 ds a)
 (next:∀a w',(∃b9 n,M<=b9/\Below w.heap.size w n/\n.heap[b9]?=some (.cells #[.string ⟨#[]⟩] 9)/\w'=n.setCell ⟨b9,0,none⟩ (.string Xn)/\aJ [(9, .pt b9),(56, .string Xn),(2, .pt N),(7, .string en),(8, .i (lf:Int))] 81 ds a)->Rn lT Goal (fr.atR a K) cs w'):
 Rn lT Goal (fr.atR a (.code (.region 5 (gT Tryz.f71 5) true)::K)) cs w:=by
 refine Rn.grows (fx:=[(2, .pt N),(7, .string (en)),(8, .i (lf:Int))]) (ds:=[48,49,50,51,52,53,54,55,56,9]) (N:=81) (df:=ds) (G:=Jf s N lf M en Xn) (by kernel_rfl) (by kernel_rfl) C7 (λm o a w' R f J t d=> ?_)
  (λm a w'=>(m=10/\∃b9,M<=b9/\Below w.heap.size w w'/\w'.heap[b9]?=some (.cells #[.string ⟨#[]⟩] 9)/\aJ [(9, .pt b9),(56, .string Xn),(2, .pt N),(7, .string en),(8, .i (lf:Int))] 81 ds a)\/(m=11/\∃b9 n,M<=b9/\Below w.heap.size w n/\n.heap[b9]?=some (.cells #[.string ⟨#[]⟩] 9)/\w'=n.setCell ⟨b9,0,none⟩ (.string Xn)/\aJ [(9, .pt b9),(56, .string Xn),(2, .pt N),(7, .string en),(8, .i (lf:Int))] 81 ds a)) (λa w' D=> ?_) (λm o a w' Q R f L I=> ?_) (λa w' L=> ?_) j.defers j.size (j.all (by simp))
 ·have r:=(J.block N (gA l).1).trans l;have U:m<10:=R;rcases(by omega:m=0\/m=1\/m=2\/m=3\/m=4\/m=5\/m=6\/m=7\/m=8\/m=9)with rfl|rfl|rfl|rfl|rfl|rfl|rfl|rfl|rfl|rfl
  ·have c:=cy f 48 ( .fieldAddr 119 (.tmp 2) 0);exact l0 (ii 0 0 (by decide) c (ce (t _ (mG (i:=0) rfl)))) ⟨rfl,bR⟩
  ·have c:=cy f 49 ( .fieldAddr 115 (.tmp 48) 2);obtain⟨u,g,rfl⟩:=nE d 0 48;exact l0 (d8 2 (by decide) c (ce g)) ⟨rfl,bR⟩
  ·have c:=cy f 50 ( .load 9 (.tmp 49));obtain⟨u,g,rfl⟩:=nE d 1 49;exact l0 (tM aQ c (ce g) ((o9 r 2).trans rfl)).1 ⟨rfl,bR⟩
  ·have c:=cy f 51 ( .move (.tmp 8));exact kX (.inl c) (t _ (mG (i:=2) rfl)) ⟨rfl,bR⟩
  ·have c:=cy f 52 ( .call {callee:= .value (.func 89),args:=#[.tmp 51],argTypes:=#[3]});obtain⟨u,g,rfl⟩:=nE d 3 51;have y:=aO (w:=w') c (show(#[Operand.tmp 51]:Array Operand).map a.eval=#[.i ((lf:Nat):Int)]from by simp[ce g]) (rI (P:=jx true Tryz.prog) Lf.func89 _);exact .inr ⟨_,_,y.1,(qy (lf) (by omega) w').mono λe x h=>⟨_,h.1,rfl,h.2⟩⟩
  ·have c:=cy f 53 ( .call {callee:= .value (.func 92),args:=#[.const (.i 33410)],argTypes:=#[3]});have y:=aO (w:=w') c (show(#[Operand.const (.i 33410)]:Array Operand).map a.eval=#[.i ((33410:Nat):Int)]from by simp;rfl) (rI (P:=jx true Tryz.prog) Lf.func92 _);exact .inr ⟨_,_,y.1,(mg 33410 (by decide) w').mono λe x h=>⟨_,h.1,rfl,h.2⟩⟩
  ·have c:=cy f 54 ( .move (.tmp 7));exact kX (.inl c) (t _ (mG (i:=1) rfl)) ⟨rfl,bR⟩
  ·have c:=cy f 55 ( .buildSlice 43 4 #[(0, .tmp 50),(1, .tmp 52),(2, .tmp 53),(3, .tmp 54)]);obtain⟨u0,H,rfl⟩:=nE d 2 50;obtain⟨u1,F,rfl⟩:=nE d 4 52;obtain⟨S,q,rfl⟩:=nE d 5 53;obtain⟨Z,E,rfl⟩:=nE d 6 54;exact l0 (A6 c (ce H) (ce F) (ce q) (ce E)) ⟨⟨w'.heap.size,rfl,y6 w' _⟩,ox w' _⟩
  ·have c:=cy f 56 ( .call {callee:= .value (.func 91),args:=#[.tmp 55],argTypes:=#[43]});obtain⟨u,g,p,rfl,T⟩:=nE d 7 55;have y:=aO (w:=w') c (show(#[Operand.tmp 55]:Array Operand).map a.eval=#[.slice (some ⟨p,0,none⟩) 4 4]from by simp[ce g]) (rI (P:=jx true Tryz.prog) Lf.func91 _);exact .inr ⟨_,_,y.1,(qC KS [s.id,ob lf 4,ob 33410 2,en] _ w' p 4 rfl rfl T (Li Y J X) O z (by simp)).mono λe x ⟨v,C,B,A⟩=>⟨v,C,B.trans (by rw[W]),A⟩⟩
  ·have c:=cy f 9 ( .alloc 9);exact l0 (tW c).1 ⟨⟨w'.heap.size,rfl,by have:=J.size;omega,y6 w' _⟩,ox w' _⟩
 ·obtain⟨u,g,b9,rfl,C,B⟩:=D.come 9 9 rfl trivial;obtain⟨S,q,rfl⟩:=D.come 8 56 rfl trivial;exact .inl ⟨rfl,b9,C,D.old,B,(D.base.more q).more g⟩
 ·rcases L with⟨rfl,b9,C,B,A,j⟩|⟨rfl,_⟩
  ·refine Rn.does0 j (.store 9 (.tmp 9) (.tmp 56)) (by kernel_rfl) (by simp) (λo f=>(ey (w:=w') (b:=b9) (k:=0) (v:= .string Xn) (v0:= .string ⟨#[]⟩) rfl rfl (by kernel_rfl) f (j.G 9) (j.G 56) ((o9 A 0).trans rfl) (by simp[World.frozen?,A])).1) λa j=>I a _ (.inr ⟨rfl,b9,w',C,B,A,rfl,j⟩)
  ·exact absurd (gA f).1 (by decide)
 ·rcases L with⟨h,_⟩|⟨_,h⟩
  ·exact absurd h (by decide)
  ·exact next a w' h
def Je(vb:Value)(x:ByteArray):Nat->Value->World->Prop
 |0,v,_=>v=vb
 |1,v,_=>v= .string (x)
 |2,v,_=>v=vb
 |_,v,_=>v= .string (x)
theorem C6{vb:Value}{x:ByteArray}(k:Nat)(v:Value)(w w':World)(a:Je vb x k v w)(_:Below w.heap.size w w'):Je vb x k v w':=by
 match k,a with
 |0,a|1,a|2,a|k+3,a=>exact a
theorem Gb{b9:Nat}{vn vb:Value}{x:ByteArray}(b:w.heap[b9]?=some (.cells #[.string x] 9))
 (p:aJ [(2, .pt N),(9, .pt b9),(10,vn),(11,vb)] 81 ds a)
 (next:∀a w',(Below w.heap.size w w'/\aJ [(12,vb),(13, .string x),(2, .pt N),(9, .pt b9),(10,vn),(11,vb)] 81 ds a)->Rn lT Goal (fr.atR a K) cs w'):
 Rn lT Goal (fr.atR a (.code (.region 11 (gT Tryz.f71 11) true)::K)) cs w:=by
 refine Rn.grows (fx:=[(2, .pt N),(9, .pt b9),(10,vn),(11,vb)]) (ds:=[67,68,12,13]) (N:=81) (df:=ds) (G:=Je vb x) (by kernel_rfl) (by kernel_rfl) C6 (λm o a w' r e v h g=> ?_)
  (λm a w'=>m=4/\Below w.heap.size w w'/\aJ [(12,vb),(13, .string x),(2, .pt N),(9, .pt b9),(10,vn),(11,vb)] 81 ds a) (λa w' c=> ?_) (λm o a w' q r e n t=> ?_) (λa w' n=> ?_) p.defers p.size (p.all (by simp))
 ·have s:m<4:=r;rcases(by omega:m=0\/m=1\/m=2\/m=3)with rfl|rfl|rfl|rfl
  ·have d:=cy e 67 ( .move (.tmp 11));exact kX (.inl d) (h _ (mG (i:=3) rfl)) ⟨rfl,bR⟩
  ·have d:=cy e 68 ( .load 9 (.tmp 9));exact l0 (tM aQ d (ce (h _ (mG (i:=1) rfl))) ((o9 ((v.block b9 (gA b).1).trans b) 0).trans rfl)).1 ⟨rfl,bR⟩
  ·have d:=cy e 12 ( .assign (.tmp 67));obtain⟨u,f,c⟩:=nE g 0 67;exact kX (.inr d) f ⟨c,bR⟩
  ·have d:=cy e 13 ( .assign (.tmp 68));obtain⟨u,f,c⟩:=nE g 1 68;exact kX (.inr d) f ⟨c,bR⟩
 ·obtain⟨u,f,l⟩:=c.come 2 12 rfl trivial;obtain⟨y,k,j⟩:=c.come 3 13 rfl trivial;obtain rfl:=l;obtain rfl:=j;exact⟨rfl,c.old,(c.base.more k).more f⟩
 ·exact absurd (gA e).1 (by obtain⟨rfl,_⟩:=n;decide)
 ·exact next a w' n.2
def Jd(s:cA)(N nn:Nat)(lt rt Xn:ByteArray):Nat->Value->World->Prop
 |0,v,_=>v= .pointer (some ⟨N,0,none⟩)
 |1,v,_=>v= .pointer (some ⟨N,2,none⟩)
 |2,v,_=>v= .string (s.id)
 |3,v,_=>v= .int .i64 (nn:Int)
 |4,v,_=>v= .int .i64 ((nn/2:Nat):Int)
 |5,v,_=>v= .string (ob (nn/2) 4)
 |6,v,_=>v= .string (ob 33667 2)
 |7,v,_=>v= .string (lt)
 |8,v,_=>v= .string (rt)
 |9,v,w=>Bs 5 #[.string s.id, .string (ob (nn/2) 4), .string (ob 33667 2), .string lt, .string rt] 9 v w
 |_,v,_=>v= .string Xn
theorem C5{s:cA}{b:Nat}{lt rt Xn:ByteArray}(k:Nat)(v:Value)(w w':World)(a:Jd s N b lt rt Xn k v w)(c:Below w.heap.size w w'):Jd s N b lt rt Xn k v w':=by
 match k,a with
 |0,a|1,a|2,a|3,a|4,a|5,a|6,a|7,a|8,a=>exact a
 |9,a=>exact Bs.mono a c
 |k+10,a=>exact a
theorem Ga{s:cA}{j b9:Nat}{x t rt Xn:ByteArray}(Z:Xn=⟨(dx KS ([s.id,ob (j/2) 4,ob 33667 2,t,rt].flatMap λp=>p.data.toList)).toArray⟩)(Q:KS.length=64)(X:j<9223372036854775808)(D:([s.id,ob (j/2) 4,ob 33667 2,t,rt].flatMap λp=>p.data.toList).length<=576460752303423488)(hK:w.rangeAt 0 0 (tL KS))(h0:0<w.heap.size)(q:w.heap[N]?=some (.cells s.cells 119))
 (g:w.heap[b9]?=some (.cells #[.string x] 9))
 (r:aJ [(2, .pt N),(9, .pt b9),(10, .i (j:Int)),(12, .string (t)),(13, .string (rt))] 81 ds a)
 (next:∀a w',(∃A,Below w.heap.size w A/\w'=A.setCell ⟨b9,0,none⟩ (.string Xn))->Rn lT Goal (fr.atR a K) cs w'):
 Rn lT Goal (fr.atR a (.code (.region 12 (gT Tryz.f71 12) true)::K)) cs w:=by
 refine Rn.grows (fx:=[(2, .pt N),(9, .pt b9),(10, .i (j:Int)),(12, .string (t)),(13, .string (rt))]) (ds:=[69,70,71,72,73,74,75,76,77,78,79]) (N:=81) (df:=ds) (G:=Jd s N j t rt Xn) (by kernel_rfl) (by kernel_rfl) C5 (λm o a w' T f U n c=> ?_)
  (λm a w'=>(m=11/\Below w.heap.size w w'/\aJ [(79, .string Xn),(2, .pt N),(9, .pt b9),(10, .i (j:Int)),(12, .string t),(13, .string rt)] 81 ds a)\/(m=12/\∃A,Below w.heap.size w A/\w'=A.setCell ⟨b9,0,none⟩ (.string Xn))) (λa w' R=> ?_) (λm o a w' S T f O M=> ?_) (λa w' O=> ?_) r.defers r.size (r.all (by simp))
 ·have z:=(U.block N (gA q).1).trans q;have Y:m<11:=T;rcases(by omega:m=0\/m=1\/m=2\/m=3\/m=4\/m=5\/m=6\/m=7\/m=8\/m=9\/m=10)with rfl|rfl|rfl|rfl|rfl|rfl|rfl|rfl|rfl|rfl|rfl
  ·have d:=cy f 69 ( .fieldAddr 119 (.tmp 2) 0);exact l0 (ii 0 0 (by decide) d (ce (n _ (mG (i:=0) rfl)))) ⟨rfl,bR⟩
  ·have d:=cy f 70 ( .fieldAddr 115 (.tmp 69) 2);obtain⟨u,l,rfl⟩:=nE c 0 69;exact l0 (d8 2 (by decide) d (ce l)) ⟨rfl,bR⟩
  ·have d:=cy f 71 ( .load 9 (.tmp 70));obtain⟨u,l,rfl⟩:=nE c 1 70;exact l0 (tM aQ d (ce l) ((o9 z 2).trans rfl)).1 ⟨rfl,bR⟩
  ·have d:=cy f 72 ( .move (.tmp 10));exact kX (.inl d) (n _ (mG (i:=2) rfl)) ⟨rfl,bR⟩
  ·have d:=cy f 73 ( .binOp .quo 3 (.tmp 72) (.const (.i 2)) 3);obtain⟨u,l,rfl⟩:=nE c 3 72;refine l0 (rm d (ce l) rfl (by omega) (by omega)) ⟨?_,bR⟩;show _=_;rw[Int.natCast_ediv];rfl
  ·have d:=cy f 74 ( .call {callee:= .value (.func 89),args:=#[.tmp 73],argTypes:=#[3]});obtain⟨u,l,rfl⟩:=nE c 4 73;have C:=aO (w:=w') d (show(#[Operand.tmp 73]:Array Operand).map a.eval=#[.i ((j/2:Nat):Int)]from by simp[ce l]) (rI (P:=jx true Tryz.prog) Lf.func89 _);exact .inr ⟨_,_,C.1,(qy (j/2) (by omega) w').mono λe B h=>⟨_,h.1,rfl,h.2⟩⟩
  ·have d:=cy f 75 ( .call {callee:= .value (.func 92),args:=#[.const (.i 33667)],argTypes:=#[3]});have C:=aO (w:=w') d (show(#[Operand.const (.i 33667)]:Array Operand).map a.eval=#[.i ((33667:Nat):Int)]from by simp;rfl) (rI (P:=jx true Tryz.prog) Lf.func92 _);exact .inr ⟨_,_,C.1,(mg 33667 (by decide) w').mono λe B h=>⟨_,h.1,rfl,h.2⟩⟩
  ·have d:=cy f 76 ( .move (.tmp 12));exact kX (.inl d) (n _ (mG (i:=3) rfl)) ⟨rfl,bR⟩
  ·have d:=cy f 77 ( .move (.tmp 13));exact kX (.inl d) (n _ (mG (i:=4) rfl)) ⟨rfl,bR⟩
  ·have d:=cy f 78 ( .buildSlice 43 5 #[(0, .tmp 71),(1, .tmp 74),(2, .tmp 75),(3, .tmp 76),(4, .tmp 77)]);obtain⟨u0,L,rfl⟩:=nE c 2 71;obtain⟨u1,J,rfl⟩:=nE c 5 74;obtain⟨V,y,rfl⟩:=nE c 6 75;obtain⟨u3,I,rfl⟩:=nE c 7 76;obtain⟨u4,H,rfl⟩:=nE c 8 77;exact l0 (A7 d (ce L) (ce J) (ce y) (ce I) (ce H)) ⟨⟨w'.heap.size,rfl,y6 w' _⟩,ox w' _⟩
  ·have d:=cy f 79 ( .call {callee:= .value (.func 91),args:=#[.tmp 78],argTypes:=#[43]});obtain⟨u,l,p,rfl,W⟩:=nE c 9 78;have C:=aO (w:=w') d (show(#[Operand.tmp 78]:Array Operand).map a.eval=#[.slice (some ⟨p,0,none⟩) 5 5]from by simp[ce l]) (rI (P:=jx true Tryz.prog) Lf.func91 _);exact .inr ⟨_,_,C.1,(qC KS [s.id,ob (j/2) 4,ob 33667 2,t,rt] _ w' p 5 rfl rfl W (Li h0 U hK) Q D (by simp)).mono λe B ⟨v,h1,F,E⟩=>⟨v,h1,F.trans (by rw[Z]),E⟩⟩
 ·obtain⟨V,y,rfl⟩:=R.come 10 79 rfl trivial;exact .inl ⟨rfl,R.old,R.base.more y⟩
 ·rcases O with⟨rfl,F,r⟩|⟨rfl,_⟩
  ·have E:=(F.block b9 (gA g).1).trans g;refine Rn.does0 r (.store 9 (.tmp 9) (.tmp 79)) (by kernel_rfl) (by simp) (λo f=>(ey (w:=w') (b:=b9) (k:=0) (v:= .string Xn) (v0:= .string x) rfl rfl (by kernel_rfl) f (r.G 9) (r.G 79) ((o9 E 0).trans rfl) (by simp[World.frozen?,E])).1) λa r=>M a _ (.inr ⟨rfl,w',F,rfl⟩)
  ·exact absurd (gA f).1 (by decide)
 ·rcases O with⟨h,_⟩|⟨_,h⟩
  ·exact absurd h (by decide)
  ·exact next a w' h
end L1
section
open Go.Conc Go.RowKit
def lC(KS:List Int)(ps:List ByteArray):ByteArray:=⟨(dx KS (ps.flatMap λp=>p.data.toList)).toArray⟩
def qB(KS:List Int)(s:cA)(q:Nat)(msg:ByteArray):ByteArray:=lC KS [s.id,ob q 4,ob 33153 2,s.salt,msg]
def Jx(KS:List Int)(s:cA)(wd sh q:Nat)(msg:ByteArray)(c:Nat):Nat:=cp (fA (qB KS s q msg).data.toList wd sh) wd c
def Kt(KS:List Int)(s:cA)(wd sh n q:Nat)(msg:ByteArray):ByteArray:=⟨(jY KS s (λc=>(Jx KS s wd sh q msg c:Nat)) n).toArray⟩
def Kr(KS:List Int)(s:cA)(wd sh n q:Nat)(msg:ByteArray):ByteArray:=lC KS [s.id,ob q 4,ob 32896 2,Kt KS s wd sh n q msg]
def Jz(KS:List Int)(s:cA)(wd sh n q lf:Nat)(msg:ByteArray):ByteArray:=lC KS [s.id,ob lf 4,ob 33410 2,Kr KS s wd sh n q msg]
def B5(KS:List Int)(id:ByteArray)(nn:Nat)(p x:ByteArray):ByteArray:=lC KS [id,ob (nn/2) 4,ob 33667 2,if nn%2=1 then p else x,if nn%2=1 then x else p]
theorem dT(KS:List Int)(ps:List ByteArray):(lC KS ps).size=32:=by show(dx KS _).toArray.size=32;simp[dx]
theorem K1(a b c d e:ByteArray):([a,b,c,d,e].flatMap λp=>p.data.toList).length=a.size+b.size+c.size+d.size+e.size:=by
 simp[List.flatMap_cons];omega
theorem K2(a b c d:ByteArray):([a,b,c,d].flatMap λp=>p.data.toList).length=a.size+b.size+c.size+d.size:=by
 simp[List.flatMap_cons];omega
structure Cm (ts tg:TypeId) (s:cA) (N b9 l ld:Nat) (r:Loop) (w0:World) (x:ByteArray) (w:World):Prop where
 old:Below w0.heap.size w0 w
 sig:w.heap[N]?=some (.cells s.cells tg)
 nine:w.heap[b9]?=some (.cells #[.string x] ts)
 list:w.heap[ld]?=some (.deferred (some []))
 loop:w.heap[l]?=some (.loop r)
section
variable{ts tg:TypeId}{s:cA}{N b9 l ld:Nat}{r:Loop}{w0 w w':World}{x:ByteArray}
theorem Cm.below(h:Cm ts tg s N b9 l ld r w0 x w)(hb:Below w.heap.size w w'):Cm ts tg s N b9 l ld r w0 x w':=by
 have g:∀{b:Nat} {o:Obj},w.heap[b]?=some o->w'.heap[b]?=some o:=λ{b o} ho=>(hb.block b (gA ho).1).trans ho;exact⟨kM h.old h.old.size hb,g h.sig,g h.nine,g h.list,g h.loop⟩
theorem Cm.turn(h:Cm ts tg s N b9 l ld r w0 x w)(hl:w0.heap.size<=l)(r':Loop):Cm ts tg s N b9 l ld r' w0 x (ca w l r'):=by
 have n1:N≠l:=λe=>by have:=h.sig;rw[e,h.loop]at this;cases this
 have n2:b9≠l:=λe=>by have:=h.nine;rw[e,h.loop]at this;cases this
 have n3:ld≠l:=λe=>by have:=h.list;rw[e,h.loop]at this;cases this
 exact⟨h.old.trans (eQ w _ _ hl),(Lp w _ n1).trans h.sig,(Lp w _ n2).trans h.nine,(Lp w _ n3).trans h.list,ir h.loop⟩
theorem Cm.put(h:Cm ts tg s N b9 l ld r w0 x w)(ht:ts≠tg)(hb:w0.heap.size<=b9)(y:ByteArray):Cm ts tg s N b9 l ld r w0 y (w.setCell ⟨b9,0,none⟩ (.string y)):=by
 have n1:N≠b9:=λe=>by have:=h.sig;rw[e,h.nine]at this;injection this with this;injection this with _ this;exact ht this
 have n2:l≠b9:=λe=>by have:=h.nine;rw[←e,h.loop]at this;cases this
 have n3:ld≠b9:=λe=>by have:=h.nine;rw[←e,h.list]at this;cases this
 exact⟨h.old.trans (cU w _ _ hb),(cd w _ n1).trans h.sig,ku h.nine,(cd w _ n3).trans h.list,(cd w _ n2).trans h.loop⟩
end
end
namespace L1
open Go.Conc Go.RowKit
def rC(KS:List Int)(id path:ByteArray)(lf:Nat)(x:ByteArray):Nat->ByteArray
 |0=>x
 |c+1=>B5 KS id (bT lf c) ((jM path c).extract 0 32) (rC KS id path lf x c)
theorem yR(KS:List Int)(id path:ByteArray)(lf:Nat)(x:ByteArray)(hx:x.size=32):∀c,(rC KS id path lf x c).size=32
 |0=>hx
 |_+1=>dT _ _
def vw(f:Func):Code:= .block 1 (.seq (.region 9 (gT f 9) false) (.seq (.seq (.region 10 (gT f 10) false) (.cond (.tmp 66) (.region 11 (gT f 11) true) .skip)) (.region 12 (gT f 12) true)))
def zz(f:Func)(T:Array Value)(ld:Nat)(st:LoopState):Loop:={state:=st,pending:=none,fn:=71,tmps:=T,params:=#[60,61],assign:= .seq (.region 7 (gT f 7) false) (.region 8 (gT f 8) false),body:=vw f,defers:=ld}
section
variable{w:World}{ev:Operand->Value}{o:Oper}{x y:Operand}{u:TypeId}{m n:Int}
theorem Dg(hop:o.op= .binOp .rem 3 x y u)(hx:ev x= .int .i64 m)(hy:ev y= .int .i64 2)(h0:0<=m):(execOp ev o).run (jx true Tryz.prog) w= .ok (.value (.int .i64 (m%2))) w:=by
 have e2:m.tmod 2=m%2:=Int.tmod_eq_emod_of_nonneg h0;simp[execOp,hop,hx,hy,go_sem,e2]
theorem kD(hop:o.op= .binOp .eql 3 x y u)(hx:ev x= .int .i64 m)(hy:ev y= .int .i64 n):(execOp ev o).run (jx true Tryz.prog) w= .ok (.value (.bool (m==n))) w:=by
 simp[execOp,hop,hx,hy,go_sem]
end
section
variable{Goal:Goroutine->World->Prop}{cs:List Frame}{T:Array Value}{w0:World}{s:cA}{KS:List Int}{N b9 l ld nn:Nat}{p x:ByteArray}
theorem Fw(hKl:KS.length=64)(hK:w0.rangeAt 0 0 (tL KS))(h0:0<w0.heap.size)(hid:s.id.size<65536)(hnn:nn<9223372036854775808)(hp:p.size<=32)(hx:x.size=32)(hb9:w0.heap.size<=b9)(hl:w0.heap.size<=l)
 (hT:aJ [(2, .pt N),(9, .pt b9)] 81 [] ⟨T,[]⟩) {cf:Frame} {w:World}
 (hI:Cm 9 119 s N b9 l ld (zz Tryz.f71 T ld .ready) w0 x w)
 (next:∀w',Cm 9 119 s N b9 l ld (zz Tryz.f71 T ld .ready) w0 (B5 KS s.id nn p x) w'->Rn (jx true Tryz.prog) Goal (cf.finish (.bool true)) cs w'):
 Rn (jx true Tryz.prog) Goal (Frame.round l 71 (((#[60,61]:Array Tmp).zip #[.int .i64 nn, .string p]).foldl (λtmps (t,a)=>tmps.setIfInBounds t a) T) (.seq (.region 7 (gT Tryz.f71 7) false) (.region 8 (gT Tryz.f71 8) false)) (vw Tryz.f71) .normal) (cf::cs) w:=by
 have hF:=(hT.put (d:=60) (by decide) (.int .i64 nn)).put (d:=61) (by decide) (.string p);have ez:((#[60,61]:Array Tmp).zip #[.int .i64 nn, .string p]).foldl (λ(tmps:Array Value) (x:Tmp×Value)=>match x with|(t,a)=>tmps.setIfInBounds t a) T=(T.setIfInBounds 60 (.int .i64 nn)).setIfInBounds 61 (.string p):=by simp
 rw[ez];show Rn _ Goal ((rb 71 l).atR (Act.put (Act.put ⟨T,[]⟩ (some 60) (.int .i64 nn)) (some 61) (.string p)) [.code (.seq (.region 7 (gT Tryz.f71 7) false) (.region 8 (gT Tryz.f71 8) false)), .beginRound, .code (vw Tryz.f71)]) (cf::cs) w;revert hF;generalize Act.put (Act.put ⟨T,[]⟩ (some 60) (.int .i64 nn)) (some 61) (.string p)=a;intro hF;refine Rn.p rfl (Rn.r (L:=[0]) rfl (Rn.S hF 10 60 rfl λa hF=> ?_));refine Rn.p rfl (Rn.r (L:=[0]) rfl (Rn.S hF 11 61 rfl λa hF=> ?_));refine Rn.p rfl (Rn.rounds (r:=zz Tryz.f71 T ld .ready) rfl hI.loop rfl ?_);have hI1:=hI.turn hl (zz Tryz.f71 T ld .busy);show Rn _ Goal _ _ (ca w l (zz Tryz.f71 T ld .busy));revert hI1;generalize ca w l (zz Tryz.f71 T ld .busy)=w1;intro hI1;refine Rn.p rfl (Rn.p rfl (Rn.r (L:=[0,1,2,3]) rfl ?_));refine Rn.O hF 62 (.load 9 (.tmp 9)) (λo ho=>(tM aQ ho (hF.get (d:=9) rfl) ((o9 hI1.nine 0).trans rfl)).1) λa hF=> ?_;refine Rn.y hF 63 11 rfl λa hF=> ?_;refine Rn.S hF 12 62 rfl λa hF=> ?_;refine Rn.S hF 13 63 rfl λa hF=> ?_;refine Rn.p rfl (Rn.p rfl (Rn.p rfl (Rn.r (L:=[0,1,2]) rfl ?_)));refine Rn.y hF 64 10 rfl λa hF=> ?_;refine Rn.O hF 65 (.binOp .rem 3 (.tmp 64) (.const (.int .i64 2)) 3) (λo ho=>Dg ho (hF.get (d:=64) rfl) rfl (by omega)) λa hF=> ?_;refine Rn.O hF 66 (.binOp .eql 3 (.tmp 65) (.const (.int .i64 1)) 3) (λo ho=>kD ho (hF.get (d:=65) rfl) rfl) λa hF=> ?_;have done:∀(lt rt:ByteArray) (a:Act) (w2:World),B5 KS s.id nn p x=lC KS [s.id,ob (nn/2) 4,ob 33667 2,lt,rt]->lt.size<=32->rt.size<=32->Cm 9 119 s N b9 l ld (zz Tryz.f71 T ld .busy) w0 x w2->
  aJ [(2, .pt N),(9, .pt b9),(10, .int .i64 (nn:Int)),(12, .string lt),(13, .string rt)] 81 [] a->
  Rn (jx true Tryz.prog) Goal ((rb 71 l).atR a [.code (.region 12 (gT Tryz.f71 12) true), .inBlock 1]) (cf::cs) w2:=by
  intro lt rt a w2 hup hlt hrt hI2 hF;refine Ga (x:=x) (Xn:=B5 KS s.id nn p x) hup hKl hnn (by rw[K1,tl,tl];omega) (Li h0 hI2.old hK) (Nat.lt_of_lt_of_le h0 hI2.old.size) hI2.sig hI2.nine hF λa w3 hw3=> ?_;obtain⟨w4,hb4,rfl⟩:=hw3;have hI3:=(hI2.below hb4).put (by decide) hb9 (B5 KS s.id nn p x);exact Rn.p rfl (Rn.through rfl rfl hI3.loop (next _ (hI3.turn hl _)))
 refine Rn.p rfl (Rn.cond _ (hF.get (d:=66) rfl) ?_);by_cases hodd:nn%2=1
 ·rw[show(((nn:Int)%2)==1)=true from by rw[beq_iff_eq];omega];refine Gb (x:=x) (vb:= .string p) (vn:= .int .i64 nn) (N:=N) hI1.nine (hF.only ⟨rfl,rfl,rfl,rfl,trivial⟩) λa w2 ⟨hb2,hF⟩=> ?_;exact done p x a w2 (by simp[B5,hodd]) hp (by omega) (hI1.below hb2) (hF.only ⟨rfl,rfl,rfl,rfl,rfl,trivial⟩)
 ·rw[show(((nn:Int)%2)==1)=false from by rw[beq_eq_false_iff_ne];omega];refine Rn.p rfl ?_;exact done x p a w1 (by simp[B5,hodd]) (by omega) hp hI1 (hF.only ⟨rfl,rfl,rfl,rfl,rfl,trivial⟩)
end
theorem IB:Tryz.f95.body=some (.seq (.region 0 (gT Tryz.f95 0) false) (.seq (.region 1 (gT Tryz.f95 1) false) .ret)):=by kernel_rfl
theorem F5(s:cA)(lf:Nat)(w:World):
 Calls (jx true Tryz.prog) 95 #[.agg s.cells, .int .i64 lf] w λe w'=>e= .returned (.func (.func 122) #[] #[.pointer (some ⟨w.heap.size,0,none⟩), .pointer (some ⟨w.heap.size+1,0,none⟩)])/\w'=(w.alloc (.cells s.cells 119)).alloc (.cells #[.int .i64 lf] 3):=by
 refine aX (t:=4) Lf.func95 rfl λcs=> ?_;rw[bE (N:=6) [.agg s.cells, .int .i64 lf] Lf.func95 IB rfl];have hF:=aR [.agg s.cells, .int .i64 lf] 6 (by simp);refine Rn.p rfl (Rn.r (L:=[0,1,2]) rfl ?_);refine Rn.z hF 2 0 119 rfl λa hF=> ?_;show Rn _ _ _ _ (w.alloc (.cells s.cells 119));refine Rn.z hF 3 1 3 rfl λa hF=> ?_;rw[mE]at hF;show Rn _ _ _ _ ((w.alloc (.cells s.cells 119)).alloc (.cells #[.int .i64 lf] 3));refine Rn.C hF 4 .nilFunc λa hF=> ?_;refine Rn.p rfl (Rn.p rfl (Rn.r (L:=[0,1]) rfl ?_));refine Rn.O hF 5 (.makeFunc (.func 122) #[] #[.tmp 2, .tmp 3]) (v:= .func (.func 122) #[] #[.pointer (some ⟨w.heap.size,0,none⟩), .pointer (some ⟨w.heap.size+1,0,none⟩)]) (w':=(w.alloc (.cells s.cells 119)).alloc (.cells #[.int .i64 lf] 3)) (λo ho=> ?_) λa hF=> ?_
 ·have h:=(j7 (jx true Tryz.prog) (w:=(w.alloc (.cells s.cells 119)).alloc (.cells #[.int .i64 lf] 3)) (ev:=a.eval) ho).1;rw[h];simp[hF.get (d:=2) rfl,hF.get (d:=3) rfl]
 refine Rn.S hF 4 5 rfl λa hF=> ?_;exact Rn.p rfl (Rn.ends rfl (.inr ⟨_,rfl⟩) (Rn.now ⟨a,_,_,rfl,hF.defers,hF.slot 4 _ rfl,rfl,rfl⟩))
theorem Cz:Tryz.f71.body=some (.seq (.region 0 (gT Tryz.f71 0) false) (.seq (.region 1 (gT Tryz.f71 1) false) (.seq (.region 2 (gT Tryz.f71 2) true) (.seq (.region 3 (gT Tryz.f71 3) true)
 (.seq (.region 4 (gT Tryz.f71 4) true) (.seq (.region 5 (gT Tryz.f71 5) true) (.seq (.seq (.region 6 (gT Tryz.f71 6) false) (.block 0 (.rangeFunc (.tmp 59) #[60,61] (.seq (.region 7 (gT Tryz.f71 7) false) (.region 8 (gT Tryz.f71 8) false)) (vw Tryz.f71))))
 (.seq (.region 13 (gT Tryz.f71 13) false) .ret)))))))):=by kernel_rfl
structure Kl (s:cA) (h wd sh n q:Nat):Prop where
 wid:oD wd
 width:s.width=wd
 shift:s.shift=sh
 shift8:sh<=8
 count:s.count=n
 one:1<=n
 most:n<=34*(8/wd)
 height:s.height=h
 low:h<=5
 qq:s.q=q
 leaf:q<2^h
 id:s.id.size<=1000
 salt:s.salt.size<=1000
 links:n*32<=s.links.size
 path:s.path.size=32*h
def wq(KS:List Int)(s:cA)(h wd sh n q:Nat)(msg:ByteArray):ByteArray:=rC KS s.id s.path (2^h+q) (Jz KS s wd sh n q (2^h+q) msg) h
theorem xF(KS:List Int)(D:KS.length=64)(s:cA)(h wd sh n q:Nat)(f:Kl s h wd sh n q)(msg:ByteArray)(ah:msg.size<=281474976706560)(w:World)(hK:w.rangeAt 0 0 (tL KS))(W:0<w.heap.size):
 Calls lT 71 #[.agg s.cells, .string msg] w λe w'=>e= .returned (.string (wq KS s h wd sh n q msg))/\Below w.heap.size w w':=by
 have ai:wd<=8:=by rcases f.wid with h|h|h<;>omega
 have a0:8/wd<=4:=by rcases f.wid with h|h|h<;>subst h<;>decide
 have ad:n<=136:=Nat.le_trans f.most (Nat.le_trans (Nat.mul_le_mul_left 34 a0) (by decide));have am:2^h<=32:=Nat.le_trans (Nat.pow_le_pow_right (by decide) f.low) (by decide);have hq:=f.leaf;have aj:=f.id;have ac:=f.salt;have ae:∀c,Jx KS s wd sh q msg c<256:=λc=>by
  have:=ka (fA (qB KS s q msg).data.toList wd sh) wd c;have:=mU f.wid;unfold Jx;omega
 have ak:(Kt KS s wd sh n q msg).size<=5000:=by
  have:=rT KS s (λc=>(Jx KS s wd sh q msg c:Nat)) n f.links;show(jY KS s (λc=>(Jx KS s wd sh q msg c:Nat)) n).toArray.size<=5000;simp only[List.size_toArray];omega
 refine aX (t:=4) Lf.func71 rfl λcs=> ?_;rw[bE (N:=81) [.agg s.cells, .string msg] Lf.func71 Cz rfl];have b:=aR [.agg s.cells, .string msg] 81 (by simp);refine Rn.p rfl (Rn.r (L:=[0,1]) rfl ?_);refine Rn.z b 2 0 119 rfl λa b=> ?_;show Rn _ _ _ _ (w.alloc (.cells s.cells 119));have l:=ox w (.cells s.cells 119);have j:=y6 w (.cells s.cells 119);revert l j;generalize w.alloc (.cells s.cells 119)=w1;intro l j;refine Rn.C b 4 (.string ⟨#[]⟩) λa b=> ?_;refine Rn.p rfl (Rn.p rfl (Rn.r (L:=[0,1,2,3]) rfl ?_));refine Rn.O b 14 (.fieldAddr 119 (.tmp 2) 1) (λo O=>ii 1 8 (by decide) O (b.G 2)) λa b=> ?_;refine Rn.O b 15 (.load 3 (.tmp 14)) (λo O=>(tM (v:= .i q) aG O (b.G 14) ((o9 j 8).trans (by rw[←f.qq];rfl))).1) λa b=> ?_;refine Rn.calls (f:=89) (xs:=#[.tmp 15]) (ats:=#[3]) (args:=#[.i q]) b 16 (by decide) (by kernel_rfl) (by simp[b.G 15]) Lf.func89 (by kernel_rfl) (by kernel_rfl)
  (R:=λv w'=>v= .string (ob q 4)/\Below w1.heap.size w1 w') ((qy q (by omega) w1).mono λe w' h=>⟨_,h.1,rfl,h.2⟩) λv w2 hv a b=> ?_
 obtain⟨rfl,V⟩:=hv;refine Rn.S b 5 16 rfl λa b=> ?_;refine Rn.p rfl (Rn.p rfl ?_);have H:Below w.heap.size w w2:=kM l l.size V;have B:=(V.block _ (gA j).1).trans j;clear l j V;have b:aJ [(1, .string msg),(2, .pt w.heap.size),(5, .string (ob q 4))] 81 [] a:=b.only ⟨rfl,rfl,rfl,trivial⟩;refine Gf (Qb:=qB KS s q msg) (wd:=wd) (sh:=sh) (n:=n) rfl D f.wid f.width f.shift f.shift8 f.count f.one f.most (by rw[K1,tl,tl];omega) (Li W H hK) (Nat.lt_of_lt_of_le W H.size) B b λa w3 ⟨U,vg,k,b⟩=> ?_;have F:Below w.heap.size w w3:=kM H H.size U;have A:=(U.block _ (gA B).1).trans B;clear U B;refine Rn.p rfl ?_;refine Ge (dg:=Jx KS s wd sh q msg) (En:=Kt KS s wd sh n q msg) (Xn:=Kr KS s wd sh n q msg) rfl rfl D ⟨by have:=f.width;omega,by have:=f.width;omega⟩ ⟨by have:=f.qq;omega,by have:=f.qq;omega⟩ (by omega) f.count f.one (by omega) f.links ae (by rw[K2,tl,tl];omega) (Li W F hK) (Nat.lt_of_lt_of_le W F.size) k A (b.only ⟨rfl,rfl,rfl,trivial⟩) λa w4 ⟨T,b⟩=> ?_;have aa:Below w.heap.size w w4:=kM F F.size T;have z:=(T.block _ (gA A).1).trans A;clear T A k;refine Rn.p rfl ?_;refine Gd (h:=h) (q:=q) (H2:=2^h) rfl f.height (by have:=f.low;omega) (by omega) f.qq (by omega) z (b.only ⟨rfl,rfl,trivial⟩) λa w5 ⟨i,b⟩=> ?_;have p:Below w.heap.size w w5:=kM aa aa.size i;have y:=(i.block _ (gA z).1).trans z;clear i z;refine Rn.p rfl ?_;refine Gc (lf:=2^h+q) (en:=Kr KS s wd sh n q msg) (Xn:=Jz KS s wd sh n q (2^h+q) msg) (M:=w5.heap.size) rfl D (by omega) (by rw[K2,tl,tl,Kr,dT];omega) (Li W p hK) (Nat.lt_of_lt_of_le W p.size) y rfl (b.only ⟨rfl,rfl,rfl,trivial⟩) λa g ⟨I,ab,al,i,a6,u,b⟩=> ?_;have J:Below w.heap.size w ab:=kM p p.size i;have ag:=p.size;have a7:=(gA y).1;have x:g.heap[w.heap.size]?=some (.cells s.cells 119):=by
  rw[u,cd _ _ (by show _≠I;omega)];exact(i.block _ a7).trans y
 have P:g.heap[I]?=some (.cells #[.string (Jz KS s wd sh n q (2^h+q) msg)] 9):=by rw[u];exact ku a6
 have a9:Below w.heap.size w g:=by rw[u];exact J.trans (cU _ _ _ (by show _<=I;omega))
 clear u i a6 J y;refine Rn.p rfl (Rn.p rfl (Rn.r (L:=[0,1,2]) rfl ?_));refine Rn.O b 57 (.load 119 (.tmp 2)) (λo O=>(jC (ex:=#[]) O (b.G 2) (by rw[Array.append_empty];exact x)).1) λa b=> ?_;refine Rn.y b 58 8 rfl λa b=> ?_;refine Rn.calls (f:=95) (xs:=#[.tmp 57, .tmp 58]) (ats:=#[119,3]) (args:=#[.agg s.cells, .i ((2^h+q:Nat):Int)]) b 59 (by decide) (by kernel_rfl) (by simp only[List.map_toArray,List.map_cons,List.map_nil,b.G 57,b.G 58]) Lf.func95 (by kernel_rfl) (by kernel_rfl)
  (R:=λv w'=>v= .func (.func 122) #[] #[.pointer (some ⟨g.heap.size,0,none⟩), .pointer (some ⟨g.heap.size+1,0,none⟩)]/\w'=(g.alloc (.cells s.cells 119)).alloc (.cells #[.i ((2^h+q:Nat):Int)] 3)) ((F5 s (2^h+q) g).mono λe w' h=>⟨_,h.1,rfl,h.2⟩) λv d hv a b=> ?_
 obtain⟨rfl,r⟩:=hv;have C:Below g.heap.size g d:=by rw[r];exact kM (ox g _) (by rw[mE];omega) (ox _ _)
 have k0:d.heap[g.heap.size]?=some (.cells s.cells 119):=by
  rw[r];exact(fm _ _ (by rw[mE];omega)).trans (y6 g _)
 have k1:d.heap[g.heap.size+1]?=some (.cells #[.i ((2^h+q:Nat):Int)] 3):=by
  rw[r];have:=y6 (g.alloc (.cells s.cells 119)) (.cells #[.i ((2^h+q:Nat):Int)] 3);rw[mE]at this;exact this
 have a8:Below w.heap.size w d:=kM a9 a9.size C;have Z:=(C.block _ (gA x).1).trans x;have a5:=(C.block _ (gA P).1).trans P;clear r C x P;have X:=a8.size;have S:=(gA k0).1;have Q:=(gA k1).1;have Y:=(gA Z).1;have a1:=(gA a5).1;refine Rn.p rfl (Rn.p rfl ?_);refine Rn.rangeAs (zz Tryz.f71 a.tmps d.heap.size .ready) (args:=#[.func (.yield (d.heap.size+1)) #[] #[], .pointer (some ⟨g.heap.size,0,none⟩), .pointer (some ⟨g.heap.size+1,0,none⟩)]) rfl rfl Lf.func122 (by kernel_rfl) (by kernel_rfl) (b.G 59) (by simp) ?_;have hT:aJ [(2, .pt w.heap.size),(9, .pt I)] 81 [] ⟨a.tmps,[]⟩:=⟨rfl,b.size,(b.only (G:=[(2, .pt w.heap.size),(9, .pt I)]) ⟨rfl,rfl,trivial⟩).slot⟩;have af:Cm 9 119 s w.heap.size I (d.heap.size+1) d.heap.size (zz Tryz.f71 a.tmps d.heap.size .ready) w (rC KS s.id s.path (2^h+q) (Jz KS s wd sh n q (2^h+q) msg) 0) (cz d (zz Tryz.f71 a.tmps d.heap.size .ready)):=
  ⟨kM a8 X (ik d _),(bB d _ Y).trans Z,(bB d _ a1).trans a5,fJ d _,fI d _⟩
 have G:∀K,qj lT K (((base 71).atR ⟨a.tmps,{target:= .collected d.heap.size,args:=#[]}::a.defers⟩ (.inRangeFunc (d.heap.size+1)::[.inBlock 0, .code (.seq (.region 13 (gT Tryz.f71 13) false) .ret)]))::cs) (λc=>#[.i (bT (2^h+q) c), .string ((jM s.path c).extract 0 32)]) h (d.heap.size+1) (zz Tryz.f71 a.tmps d.heap.size .ready)
  (λc=>Cm 9 119 s w.heap.size I (d.heap.size+1) d.heap.size (zz Tryz.f71 a.tmps d.heap.size .ready) w (rC KS s.id s.path (2^h+q) (Jz KS s wd sh n q (2^h+q) msg) c)):=
  λK=>
  {below:=λc w w' h hb=>h.below hb
   loop:=λc w h=>h.loop
   size:=λc=>rfl
   round:=λc w' cf hc hI next=>Fw D hK W (by omega) (by have:=og (2^h+q) c;omega) (by rw[ByteArray.size_extract];omega) (yR _ _ _ _ _ (dT _ _) c) (by omega) (by omega) hT hI next}
 refine CS (s:=s) f.path (by omega) (by rw[Nat.pow_succ];omega) (by omega) (G _) af ((bB d _ S).trans k0) ((bB d _ Q).trans k1) λw8 hI=> ?_;show Rn _ _ ((base 71).atR ⟨a.tmps,{target:= .collected d.heap.size,args:=#[]}::a.defers⟩ (.endRangeFunc (d.heap.size+1)::_)) cs w8;refine Rn.rangeOver hI.loop rfl rfl ?_;have m:=hI.turn (by omega) (zz Tryz.f71 a.tmps d.heap.size .exhausted);show Rn _ _ _ _ (ca w8 (d.heap.size+1) (zz Tryz.f71 a.tmps d.heap.size .exhausted));have E:aJ [(9, .pt I)] 81 [{target:= .collected d.heap.size,args:=#[]}] ⟨a.tmps,{target:= .collected d.heap.size,args:=#[]}::a.defers⟩:=⟨by rw[b.defers],b.size,(b.only (G:=[(9, .pt I)]) ⟨rfl,trivial⟩).slot⟩;revert E m;generalize ca w8 (d.heap.size+1) (zz Tryz.f71 a.tmps d.heap.size .exhausted)=w9;generalize (Act.mk a.tmps ({target:= .collected d.heap.size,args:=#[]}::a.defers))=a2;intro m E;refine Rn.p rfl (Rn.p rfl (Rn.r (L:=[0,1]) rfl ?_));refine Rn.O E 80 (.load 9 (.tmp 9)) (λo O=>(tM aQ O (E.G 9) ((o9 m.nine 0).trans rfl)).1) λa3 E=> ?_;refine Rn.S E 4 80 rfl λa4 E=> ?_;exact Rn.p rfl (Rn.ends rfl (.inr ⟨_,rfl⟩) (Rn.take (ds:=[]) E.defers m.list (Rn.now ⟨⟨a4.tmps,[]⟩,_, .string (wq KS s h wd sh n q msg),rfl,rfl,E.slot 4 _ rfl,rfl,m.old.trans (l6 _ _ (by omega))⟩)))
end L1
section
open Go
def co(t:Int):Nat:=if t=5 then 5 else if t=226 then 2 else 0
def cW(c:Int):Nat:=if c=2 then 2 else if c=3 then 4 else if c=4 then 8 else 0
def dQ(c:Int):Nat:=if c=2 then 133 else if c=3 then 67 else if c=4 then 34 else 0
def dI(c:Int):Nat:=if c=2 then 6 else if c=3 then 4 else 0
def aP(b:ByteArray)(i j:Nat):Int:=fM (b.extract i j).data.toList
def fz(b:ByteArray):cA:={tree:=b.extract 0 4,chains:=b.extract 4 8,id:=b.extract 8 24,root:=b.extract 24 b.size,height:=co (aP b 0 4),width:=cW (aP b 4 8),count:=dQ (aP b 4 8),shift:=dI (aP b 4 8),q:=0,salt:=⟨#[]⟩,links:=⟨#[]⟩,path:=⟨#[]⟩}
def dE:Array Value:=#[.string ⟨#[]⟩, .string ⟨#[]⟩, .string ⟨#[]⟩, .string ⟨#[]⟩, .int .i64 0, .int .i64 0, .int .i64 0, .int .i64 0]
def fe(b:ByteArray):Prop:=b.size=56/\co (aP b 0 4)≠0/\cW (aP b 4 8)≠0
end
namespace L1
open Go.Conc Go.RowKit
section
variable{w:World}{ev:Operand->Value}{o:Oper}{x y z u:Operand}{t:TypeId}{m n:Int}
theorem oJ(a:o.op= .binOp .neq 3 x y t)(c:ev x= .i m)(b:ev y= .i n):(execOp ev o).run lT w= .ok (.value (.bool (m !=n))) w:=by
 simp[execOp,a,c,b,go_sem]
theorem nV(a:o.op= .binOp .eql 132 x y t)(c:ev x= .int .u64 m)(b:ev y= .int .u64 n):(execOp ev o).run lT w= .ok (.value (.bool (m==n))) w:=by
 simp[execOp,a,c,b,go_sem]
theorem yV(a:o.op= .alloc 115):(execOp ev o).run lT w= .ok (.value (.pointer (some ⟨w.heap.size,0,none⟩))) (w.alloc (.cells dE 115)):=by
 have e:execOp ev o=(do pure (.value (←Instr.alloc 115 true (.tuple #[])))):=by simp only[execOp,a]
 have b:(do pure (.value (←Instr.alloc 115 true (.tuple #[]))):Sem Next).run lT w= .ok (.value (.pointer (some ⟨w.heap.size,0,none⟩))) (w.alloc (.cells dE 115)):=by kernel_rfl
 rw[e,b]
theorem De(a:o.op= .build 115 #[]):(execOp ev o).run lT w= .ok (.value (.agg dE)) w:=by
 have e:execOp ev o=(do pure (.value (←Instr.build 115 #[]))):=by simp[execOp,a]
 have b:(do pure (.value (←Instr.build 115 #[])):Sem Next).run lT w= .ok (.value (.agg dE)) w:=by kernel_rfl
 rw[e,b]
theorem Dj{a b c d:ByteArray}(f:o.op= .build 115 #[(0,x),(1,y),(2,z),(3,u)])(j:ev x= .string a)(g:ev y= .string b)(i:ev z= .string c)(h:ev u= .string d):
 (execOp ev o).run lT w= .ok (.value (.agg #[.string a, .string b, .string c, .string d, .i 0, .i 0, .i 0, .i 0])) w:=by
 have e:execOp ev o=(do pure (.value (←Instr.build 115 #[(0, .string a),(1, .string b),(2, .string c),(3, .string d)]))):=by simp[execOp,f,j,g,i,h]
 have g:(do pure (.value (←Instr.build 115 #[(0, .string a),(1, .string b),(2, .string c),(3, .string d)])):Sem Next).run lT w= .ok (.value (.agg #[.string a, .string b, .string c, .string d, .i 0, .i 0, .i 0, .i 0])) w:=by kernel_rfl
 rw[e,g]
end
theorem xo:(lT.info? 115).map (·.size)=some 8:=by kernel_rfl
theorem iE{b:Frame}{k:List Item}{t:Nat}(u:aJ F N ds a)(d x j:Nat)(c:Int)(A:d<N)(z:j<8){b4:Nat}{g:Array Value}(y:F.lookup x=some (.pointer (some ⟨b4,0,none⟩)))
 (D:(ops[m]?).map (λo=>(o.dst,o.op,o.guard))=some (some d, .fieldAddr 115 (.tmp x) j,none)) (C:(ops[t]?).map (λo=>(o.dst,o.op,o.guard))=some (none, .store 3 (.tmp d) (.const (.i c)),none)) (f:w.heap[b4]?=some (.cells g 115)) {v0:Value} (h:g[j]?=some v0)
 (next:∀a' w',aJ F N ds a'->w'.heap[b4]?=some (.cells (g.setIfInBounds j (.i c)) 115)->(∀M,M<=b4->Below M w w')->Rn lT Goal (b.atR a' (.inRegion ops rest::k)) cs w') (r:F.lookup d=none):Rn lT Goal (b.atR a (.inRegion ops (m::t::rest)::k)) cs w:=by
 refine Rn.op u d (.fieldAddr 115 (.tmp x) j) A D (by simp) (λo l=>d8 j z l (u.get y)) λa i=> ?_;refine Rn.does0 i (.store 3 (.tmp d) (.const (.i c))) C (by simp) (λo l=>(ey (w:=w) (b:=b4) (k:=j) (v:= .i c) (v0:=v0) rfl rfl (by kernel_rfl) l (i.get (d:=d) (by simp[List.lookup])) rfl (by rw[o9 f];exact h) (by simp[World.frozen?,f])).1) λa s=> ?_;refine next a _ (s.sub λe v p=> ?_) (gH f) λM B=>cU w _ _ B
 have n:e≠d:=λq=>by rw[q,r]at p;cases p
 simp only[List.lookup,show(e==d)=false from by simpa using n];exact p
def KU(b:ByteArray)(M:Nat):Nat->Value->World->Prop
 |0,v,_=>v= .string b
 |1,v,_=>v= .string (b.extract 0 4)
 |2,v,_=>v= .string b
 |3,v,_=>v= .string (b.extract 4 8)
 |4,v,_=>v= .string b
 |5,v,_=>v= .string (b.extract 8 24)
 |6,v,_=>v= .string b
 |7,v,_=>v= .string (b.extract 24 b.size)
 |8,v,_=>v= .agg #[.string (b.extract 0 4), .string (b.extract 4 8), .string (b.extract 8 24), .string (b.extract 24 b.size), .int .i64 0, .int .i64 0, .int .i64 0, .int .i64 0]
 |_,v,w=>Bx M dE 115 v w
theorem E3{b:ByteArray}{M:Nat}(k:Nat)(v:Value)(w w':World)(h:KU b M k v w)(a:Below w.heap.size w w'):KU b M k v w':=by
 match k,h with
 |0,h|1,h|2,h|3,h|4,h|5,h|6,h|7,h|8,h=>exact h
 |k+9,h=>exact Bx.mono h a
theorem Ii{b:ByteArray}(E:b.size=56){p:Value}(g:aJ [(0, .string b),(2,p)] 48 [] a)
 (next:∀a w' b4,w.heap.size<=b4->Below w.heap.size w w'->w'.heap[b4]?=some (.cells #[.string (b.extract 0 4), .string (b.extract 4 8), .string (b.extract 8 24), .string (b.extract 24 b.size), .int .i64 0, .int .i64 0, .int .i64 0, .int .i64 0] 115)->aJ [(4, .pt b4),(0, .string b),(2,p)] 48 [] a->Rn (jx true Tryz.prog) Goal ((base 69).atR a K) cs w'):
 Rn (jx true Tryz.prog) Goal ((base 69).atR a (.code (.region 3 (gT Tryz.f69 3) true)::K)) cs w:=by
 refine Rn.grows (fx:=[(0, .string b),(2,p)]) (ds:=[9,10,11,12,13,14,15,16,17,4]) (N:=48) (df:=[]) (G:=KU b w.heap.size) (by kernel_rfl) (by kernel_rfl) E3 (λm o a w' D f I A e=> ?_)
  (λm a w'=>(m=10/\∃b4,w.heap.size<=b4/\Below w.heap.size w w'/\w'.heap[b4]?=some (.cells dE 115)/\aJ [(4, .pt b4),(17, .agg #[.string (b.extract 0 4), .string (b.extract 4 8), .string (b.extract 8 24), .string (b.extract 24 b.size), .int .i64 0, .int .i64 0, .int .i64 0, .int .i64 0]),(0, .string b),(2,p)] 48 [] a)\/
    (m=11/\∃b4,w.heap.size<=b4/\Below w.heap.size w w'/\w'.heap[b4]?=some (.cells #[.string (b.extract 0 4), .string (b.extract 4 8), .string (b.extract 8 24), .string (b.extract 24 b.size), .int .i64 0, .int .i64 0, .int .i64 0, .int .i64 0] 115)/\aJ [(4, .pt b4),(0, .string b),(2,p)] 48 [] a))
  (λa w' r=> ?_) (λm o a w' C D f B z=> ?_) (λa w' B=> ?_) g.defers g.size (g.all (by simp))
 ·have t:=ce (A _ (mG (i:=0) rfl));have H:m<10:=D;rcases(by omega:m=0\/m=1\/m=2\/m=3\/m=4\/m=5\/m=6\/m=7\/m=8\/m=9)with rfl|rfl|rfl|rfl|rfl|rfl|rfl|rfl|rfl|rfl
  ·have c:=cy f 9 ( .move (.tmp 0));exact l0 (by rw[bJ (.inl c),t]) ⟨rfl,bR⟩
  ·have c:=cy f 10 ( .slice 9 (.tmp 9) none (some (.const (.int .i64 4))) none);obtain⟨u,j,rfl⟩:=nE e 0 9;exact l0 (uR (n:=4) c (ce j) rfl (by omega)) ⟨rfl,bR⟩
  ·have c:=cy f 11 ( .move (.tmp 0));exact l0 (by rw[bJ (.inl c),t]) ⟨rfl,bR⟩
  ·have c:=cy f 12 ( .slice 9 (.tmp 11) (some (.const (.int .i64 4))) (some (.const (.int .i64 8))) none);obtain⟨u,j,rfl⟩:=nE e 2 11;exact l0 (cV (m:=4) (n:=8) c (ce j) rfl rfl (by omega) (by omega)).1 ⟨rfl,bR⟩
  ·have c:=cy f 13 ( .move (.tmp 0));exact l0 (by rw[bJ (.inl c),t]) ⟨rfl,bR⟩
  ·have c:=cy f 14 ( .slice 9 (.tmp 13) (some (.const (.int .i64 8))) (some (.const (.int .i64 24))) none);obtain⟨u,j,rfl⟩:=nE e 4 13;exact l0 (cV (m:=8) (n:=24) c (ce j) rfl rfl (by omega) (by omega)).1 ⟨rfl,bR⟩
  ·have c:=cy f 15 ( .move (.tmp 0));exact l0 (by rw[bJ (.inl c),t]) ⟨rfl,bR⟩
  ·have c:=cy f 16 ( .slice 9 (.tmp 15) (some (.const (.int .i64 24))) none none);obtain⟨u,j,rfl⟩:=nE e 6 15;exact l0 (nT (n:=24) c (ce j) rfl (by omega)) ⟨rfl,bR⟩
  ·have c:=cy f 17 ( .build 115 #[(0, .tmp 10),(1, .tmp 12),(2, .tmp 14),(3, .tmp 16)]);obtain⟨M,y,rfl⟩:=nE e 1 10;obtain⟨L,x,rfl⟩:=nE e 3 12;obtain⟨F,k,rfl⟩:=nE e 5 14;obtain⟨J,v,rfl⟩:=nE e 7 16;exact l0 (Dj c (ce y) (ce x) (ce k) (ce v)) ⟨rfl,bR⟩
  ·have c:=cy f 4 ( .alloc 115);exact l0 (yV c) ⟨⟨w'.heap.size,rfl,I.size,y6 w' _⟩,ox w' _⟩
 ·obtain⟨u,j,b4,rfl,l,q⟩:=r.come 9 4 rfl trivial;obtain⟨F,k,rfl⟩:=r.come 8 17 rfl trivial;exact .inl ⟨rfl,b4,l,r.old,q,(r.base.more k).more j⟩
 ·rcases B with⟨rfl,b4,l,q,s,g⟩|⟨rfl,_⟩
  ·refine Rn.does0 g (.store 115 (.tmp 4) (.tmp 17)) (by kernel_rfl) (by simp) (λo f=>bM f (g.get (d:=4) rfl) (g.get (d:=17) rfl) s xo rfl (by simp[Value.oneCell'])) λa g=>z a _ (.inr ⟨rfl,b4,l,q.trans (bN w' b4 _ l),setRow_heap w' b4 _ _ _ _ s,g.only ⟨rfl,rfl,rfl,trivial⟩⟩)
  ·exact absurd (gA f).1 (by decide)
 ·rcases B with⟨h,_⟩|⟨_,b4,l,q,s,g⟩
  ·exact absurd h (by decide)
  ·exact next a w' b4 l q s g
def xH(f:Func):Code:= .seq (.seq (.region 10 (gT f 10) false) (.block 1 (.seq (.region 12 (gT f 12) false) (.cond (.tmp 32) (.region 13 (gT f 13) false) (.seq (.region 14 (gT f 14) false) (.cond (.tmp 37) (.region 15 (gT f 15) false) (.seq (.region 16 (gT f 16) false) (.cond (.tmp 42) (.region 17 (gT f 17) false) (.seq (.region 11 (gT f 11) false) .ret))))))))) (.seq (.region 18 (gT f 18) false) .ret)
def CY(f:Func):Code:= .seq (.seq (.region 4 (gT f 4) false) (.block 0 (.seq (.region 6 (gT f 6) false) (.cond (.tmp 22) (.region 7 (gT f 7) false) (.seq (.region 8 (gT f 8) false) (.cond (.tmp 25) (.region 9 (gT f 9) false) (.seq (.region 5 (gT f 5) false) .ret))))))) (xH f)
theorem IG:Tryz.f69.body=some (.seq (.region 0 (gT Tryz.f69 0) false) (.seq (.seq (.region 1 (gT Tryz.f69 1) false) (.cond (.tmp 7) (.seq (.region 2 (gT Tryz.f69 2) false) .ret) .skip)) (.seq (.region 3 (gT Tryz.f69 3) true) (CY Tryz.f69)))):=by kernel_rfl
def H1(b:ByteArray)(w0:World)(e:Ending)(w':World):Prop:=((fe b/\e= .returned (.tuple #[.agg (fz b).key, .bool true]))\/(¬fe b/\e= .returned (.tuple #[.agg dE, .bool false])))/\Below w0.heap.size w0 w'
def pi(b:ByteArray)(w0:World)(cs:List Frame)(g:Goroutine)(w':World):Prop:=∃(a:Act) (k:List Item) (bk:Nat) (cells:Array Value) (tt:TypeId) (v:Value),g=gV {(base 69).atR a k with mode:= .returning} cs/\a.defers=[]/\a.tmps[2]?=some (.pointer (some ⟨bk,0,none⟩))/\w'.heap[bk]?=some (.cells cells tt)/\cells.size=8/\a.tmps[3]?=some v/\H1 b w0 (.returned (.tuple #[.agg cells,v])) w'
section
variable{b:ByteArray}{w0 w:World}{cs:List Frame}{a:Act}{k:List Item}
theorem Ek(id d:Nat)(h:d<48/\d≠2)(f:¬fe b)(c:aJ [(2, .pt w0.heap.size)] 48 [] a)(i:w.heap[w0.heap.size]?=some (.cells dE 115))(e:Below w0.heap.size w0 w)(j:List.range (gT Tryz.f69 id).size=[0,1,2])
 (n:((gT Tryz.f69 id)[0]?).map (λo=>(o.dst,o.op,o.guard))=some (some d, .build 115 #[],none)) (m:((gT Tryz.f69 id)[1]?).map (λo=>(o.dst,o.op,o.guard))=some (none, .store 115 (.tmp 2) (.tmp d),none)) (l:((gT Tryz.f69 id)[2]?).map (λo=>(o.dst,o.op,o.guard))=some (some 3, .assign (.const (.bool false)),none)):
 Rn lT (pi b w0 cs) ((base 69).atR a (.code (.seq (.region id (gT Tryz.f69 id) false) .ret)::k)) cs w:=by
 refine Rn.p rfl (Rn.r j ?_);refine Rn.op c d (.build 115 #[]) h.1 n (by simp) (λo g=>De g) λa c=> ?_;have p:((d,Value.agg dE)::[(2, .pt w0.heap.size)]:List (Nat×Value)).lookup 2=some (.pointer (some ⟨w0.heap.size,0,none⟩)):=by
  simp[List.lookup,show(2==d)=false from by simpa using Ne.symm h.2]
 refine Rn.does0 c (.store 115 (.tmp 2) (.tmp d)) m (by simp) (λo g=>bM (cells:=dE) g (c.get (d:=2) p) (c.get (d:=d) (by simp[List.lookup])) i xo rfl (by simp[dE,Value.oneCell'])) λa c=> ?_;refine Rn.asc c 3 (.bool false) (by decide) l λa c=> ?_;refine Rn.p rfl (Rn.ends rfl (.inr ⟨_,rfl⟩) (Rn.now ⟨a,_,w0.heap.size,dE,115, .bool false,rfl,c.defers,c.slot 2 _ ?_,setRow_heap w _ _ _ _ _ i,rfl,c.slot 3 _ (by simp[List.lookup]), .inr ⟨f,rfl⟩,e.trans (bN _ _ _ (Nat.le_refl _))⟩));simp[List.lookup,show(2==d)=false from by simpa using Ne.symm h.2]
theorem I8{b4:Nat}(f:fe b)(c:aJ [(2, .pt w0.heap.size),(4, .pt b4)] 48 [] a)(i:w.heap[w0.heap.size]?=some (.cells dE 115))(e:Below w0.heap.size w0 w)(h:w.heap[b4]?=some (.cells (fz b).key 115)):
 Rn (jx true Tryz.prog) (pi b w0 cs) ((base 69).atR a (.code (.seq (.region 18 (gT Tryz.f69 18) false) .ret)::k)) cs w:=by
 refine Rn.p rfl (Rn.r (L:=[0,1,2]) rfl ?_);refine Rn.O c 47 (.load 115 (.tmp 4)) (λo g=>gg (s:=fz b) g (c.get (d:=4) rfl) h λ_ _=>rfl) λa c=> ?_;refine Rn.does0 c (.store 115 (.tmp 2) (.tmp 47)) (by kernel_rfl) (by simp) (λo g=>bM g (c.get (d:=2) rfl) (c.get (d:=47) rfl) i xo rfl (by simp[cA.key,Value.oneCell'])) λa c=> ?_;refine Rn.C c 3 (.bool true) λa c=> ?_;exact Rn.p rfl (Rn.ends rfl (.inr ⟨_,rfl⟩) (Rn.now ⟨a,_,w0.heap.size,(fz b).key,115, .bool true,rfl,c.defers,c.slot 2 _ rfl,setRow_heap w _ _ _ _ _ i,rfl,c.slot 3 _ rfl, .inl ⟨f,rfl⟩,e.trans (bN _ _ _ (Nat.le_refl _))⟩))
def Ks(b:ByteArray)(h w c s:Int):Array Value:=#[.string (b.extract 0 4), .string (b.extract 4 8), .string (b.extract 8 24), .string (b.extract 24 b.size), .int .i64 h, .int .i64 w, .int .i64 c, .int .i64 s]
theorem Du{b4:Nat}(H:b.size=56)(I:co (aP b 0 4)≠0)(c:aJ [(2, .pt w0.heap.size),(4, .pt b4)] 48 [] a)(P:w.heap[w0.heap.size]?=some (.cells dE 115))(p:Below w0.heap.size w0 w)(n:w.heap[b4]?=some (.cells (Ks b (co (aP b 0 4)) 0 0 0) 115))(T:w0.heap.size<b4):
 Rn lT (pi b w0 cs) ((base 69).atR a (.code (xH Tryz.f69)::k)) cs w:=by
 have F:(b.extract 4 8).size<=8:=by rw[ByteArray.size_extract];omega
 refine Rn.p rfl (Rn.p rfl (Rn.r (L:=[0,1,2]) rfl ?_));refine Rn.O c 28 (.fieldAddr 115 (.tmp 4) 1) (λo m=>d8 1 (by decide) m (c.G 4)) λa c=> ?_;refine Rn.O c 29 (.load 9 (.tmp 28)) (λo m=>(tM (v:= .string (b.extract 4 8)) aQ m (c.G 28) ((o9 n 1).trans rfl)).1) λa c=> ?_;refine Rn.calls (f:=88) (xs:=#[.tmp 29]) (ats:=#[9]) (args:=#[.string (b.extract 4 8)]) c 30 (by decide) (by kernel_rfl) (by simp[c.G 29]) Lf.func88 (by kernel_rfl) (by kernel_rfl)
  (R:=λv O=>v= .int .u64 (aP b 4 8)/\O=w) ((kN (b.extract 4 8) w F).mono λe O h=>⟨_,h.1,rfl,h.2⟩) λv Q S a c=> ?_
 obtain⟨rfl,rfl⟩:=S;have c:aJ [(30, .int .u64 (aP b 4 8)),(2, .pt w0.heap.size),(4, .pt b4)] 48 [] a:=c.only ⟨rfl,rfl,rfl,trivial⟩;have s:∀(a:Act) (q:World),fe b->(fz b).key=Ks b (co (aP b 0 4)) (cW (aP b 4 8)) (dQ (aP b 4 8)) (dI (aP b 4 8))->q.heap[b4]?=some (.cells (Ks b (co (aP b 0 4)) (cW (aP b 4 8)) (dQ (aP b 4 8)) (dI (aP b 4 8))) 115)->(∀M,M<=b4->Below M Q q)->aJ [(2, .pt w0.heap.size),(4, .pt b4)] 48 [] a->
  Rn lT (pi b w0 cs) ((base 69).atR a (.code (.seq (.region 18 (gT Tryz.f69 18) false) .ret)::k)) cs q:=by
  intro a q G u r U c;have z:=U (w0.heap.size+1) (by omega);exact I8 G c ((z.block _ (by omega)).trans P) (p.trans (z.mono (by omega))) (by rw[u];exact r)
 refine Rn.p rfl (Rn.p rfl (Rn.p rfl (Rn.r (L:=[0,1]) rfl ?_)));refine Rn.O c 33 (.binOp .eql 132 (.tmp 30) (.const (.int .u64 2)) 132) (λo m=>nV m (c.G 30) rfl) λa c=> ?_;refine Rn.S c 32 33 rfl λa c=> ?_;refine Rn.p rfl (Rn.cond _ (c.G 32) ?_);have K:∀(x y:Int) (h:x=y),(x==y)=true:=λx y h=>by simpa using h
 have J:∀(x y:Int) (h:x≠y),(x==y)=false:=λx y h=>by simpa using h
 by_cases E:aP b 4 8=2
 ·rw[K _ _ E];have c:aJ [(2, .pt w0.heap.size),(4, .pt b4)] 48 [] a:=c.only ⟨rfl,rfl,trivial⟩;refine Rn.r (L:=[0,1,2,3,4,5]) rfl ?_;refine iE c 34 4 5 2 (by decide) (by decide) rfl (by kernel_rfl) (by kernel_rfl) n rfl (λa q c B l=> ?_) rfl;refine iE c 35 4 6 133 (by decide) (by decide) rfl (by kernel_rfl) (by kernel_rfl) B rfl (λa N c A j=> ?_) rfl;refine iE c 36 4 7 6 (by decide) (by decide) rfl (by kernel_rfl) (by kernel_rfl) A rfl (λa t c r i=> ?_) rfl;have d:cW (aP b 4 8)=2/\dQ (aP b 4 8)=133/\dI (aP b 4 8)=6:=by rw[E];decide
  refine Rn.p rfl (Rn.p rfl (s a t ⟨H,I,by rw[d.1];decide⟩ rfl ?_ (λM g=>((l M g).trans (j M g)).trans (i M g)) c));rw[d.1,d.2.1,d.2.2];exact r
 rw[J _ _ E];refine Rn.p rfl (Rn.r (L:=[0,1]) rfl ?_);refine Rn.O c 38 (.binOp .eql 132 (.tmp 30) (.const (.int .u64 3)) 132) (λo m=>nV m (c.G 30) rfl) λa c=> ?_;refine Rn.S c 37 38 rfl λa c=> ?_;refine Rn.p rfl (Rn.cond _ (c.G 37) ?_);by_cases D:aP b 4 8=3
 ·rw[K _ _ D];have c:aJ [(2, .pt w0.heap.size),(4, .pt b4)] 48 [] a:=c.only ⟨rfl,rfl,trivial⟩;refine Rn.r (L:=[0,1,2,3,4,5]) rfl ?_;refine iE c 39 4 5 4 (by decide) (by decide) rfl (by kernel_rfl) (by kernel_rfl) n rfl (λa q c B l=> ?_) rfl;refine iE c 40 4 6 67 (by decide) (by decide) rfl (by kernel_rfl) (by kernel_rfl) B rfl (λa N c A j=> ?_) rfl;refine iE c 41 4 7 4 (by decide) (by decide) rfl (by kernel_rfl) (by kernel_rfl) A rfl (λa t c r i=> ?_) rfl;have d:cW (aP b 4 8)=4/\dQ (aP b 4 8)=67/\dI (aP b 4 8)=4:=by rw[D];decide
  refine Rn.p rfl (Rn.p rfl (s a t ⟨H,I,by rw[d.1];decide⟩ rfl ?_ (λM g=>((l M g).trans (j M g)).trans (i M g)) c));rw[d.1,d.2.1,d.2.2];exact r
 rw[J _ _ D];refine Rn.p rfl (Rn.r (L:=[0,1]) rfl ?_);refine Rn.O c 43 (.binOp .eql 132 (.tmp 30) (.const (.int .u64 4)) 132) (λo m=>nV m (c.G 30) rfl) λa c=> ?_;refine Rn.S c 42 43 rfl λa c=> ?_;refine Rn.p rfl (Rn.cond _ (c.G 42) ?_);by_cases C:aP b 4 8=4
 ·rw[K _ _ C];have c:aJ [(2, .pt w0.heap.size),(4, .pt b4)] 48 [] a:=c.only ⟨rfl,rfl,trivial⟩;refine Rn.r (L:=[0,1,2,3,4,5]) rfl ?_;refine iE c 44 4 5 8 (by decide) (by decide) rfl (by kernel_rfl) (by kernel_rfl) n rfl (λa q c B l=> ?_) rfl;refine iE c 45 4 6 34 (by decide) (by decide) rfl (by kernel_rfl) (by kernel_rfl) B rfl (λa N c A j=> ?_) rfl;refine iE c 46 4 7 0 (by decide) (by decide) rfl (by kernel_rfl) (by kernel_rfl) A rfl (λa t c r i=> ?_) rfl;have d:cW (aP b 4 8)=8/\dQ (aP b 4 8)=34/\dI (aP b 4 8)=0:=by rw[C];decide
  refine Rn.p rfl (Rn.p rfl (s a t ⟨H,I,by rw[d.1];decide⟩ rfl ?_ (λM g=>((l M g).trans (j M g)).trans (i M g)) c));rw[d.1,d.2.1,d.2.2];exact r
 rw[J _ _ C];refine Ek 11 31 (by decide) (λh=>h.2.2 ?_) (c.only ⟨rfl,trivial⟩) P p rfl (by kernel_rfl) (by kernel_rfl) (by kernel_rfl);simp[cW,E,D,C]
theorem Bb{b4:Nat}(z:b.size=56)(c:aJ [(2, .pt w0.heap.size),(4, .pt b4)] 48 [] a)(s:w.heap[w0.heap.size]?=some (.cells dE 115))(d:Below w0.heap.size w0 w)(j:w.heap[b4]?=some (.cells (Ks b 0 0 0 0) 115))(m:w0.heap.size<b4):
 Rn lT (pi b w0 cs) ((base 69).atR a (.code (CY Tryz.f69)::k)) cs w:=by
 have r:(b.extract 0 4).size<=8:=by rw[ByteArray.size_extract];omega
 refine Rn.p rfl (Rn.p rfl (Rn.r (L:=[0,1,2]) rfl ?_));refine Rn.O c 18 (.fieldAddr 115 (.tmp 4) 0) (λo i=>d8 0 (by decide) i (c.G 4)) λa c=> ?_;refine Rn.O c 19 (.load 9 (.tmp 18)) (λo i=>(tM (v:= .string (b.extract 0 4)) aQ i (c.G 18) ((o9 j 0).trans rfl)).1) λa c=> ?_;refine Rn.calls (f:=88) (xs:=#[.tmp 19]) (ats:=#[9]) (args:=#[.string (b.extract 0 4)]) c 20 (by decide) (by kernel_rfl) (by simp[c.G 19]) Lf.func88 (by kernel_rfl) (by kernel_rfl)
  (R:=λv u=>v= .int .u64 (aP b 0 4)/\u=w) ((kN (b.extract 0 4) w r).mono λe u h=>⟨_,h.1,rfl,h.2⟩) λv E D a c=> ?_
 obtain⟨rfl,rfl⟩:=D;have c:aJ [(20, .int .u64 (aP b 0 4)),(2, .pt w0.heap.size),(4, .pt b4)] 48 [] a:=c.only ⟨rfl,rfl,rfl,trivial⟩;have B:∀(x y:Int) (h:x=y),(x==y)=true:=λx y h=>by simpa using h
 have A:∀(x y:Int) (h:x≠y),(x==y)=false:=λx y h=>by simpa using h
 refine Rn.p rfl (Rn.p rfl (Rn.p rfl (Rn.r (L:=[0,1]) rfl ?_)));refine Rn.O c 23 (.binOp .eql 132 (.tmp 20) (.const (.int .u64 5)) 132) (λo i=>nV i (c.G 20) rfl) λa c=> ?_;refine Rn.S c 22 23 rfl λa c=> ?_;refine Rn.p rfl (Rn.cond _ (c.G 22) ?_);by_cases q:aP b 0 4=5
 ·rw[B _ _ q];have c:aJ [(2, .pt w0.heap.size),(4, .pt b4)] 48 [] a:=c.only ⟨rfl,rfl,trivial⟩;refine Rn.r (L:=[0,1]) rfl ?_;refine iE c 24 4 4 5 (by decide) (by decide) rfl (by kernel_rfl) (by kernel_rfl) j rfl (λa C c t l=> ?_) rfl;have n:co (aP b 0 4)=5:=by rw[q];decide
  have g:=l (w0.heap.size+1) (by omega);refine Rn.p rfl (Rn.p rfl (Du z (by rw[n];decide) c ((g.block _ (by omega)).trans s) (d.trans (g.mono (by omega))) ?_ m));rw[n];exact t
 rw[A _ _ q];refine Rn.p rfl (Rn.r (L:=[0,1]) rfl ?_);refine Rn.O c 26 (.binOp .eql 132 (.tmp 20) (.const (.int .u64 226)) 132) (λo i=>nV i (c.G 20) rfl) λa c=> ?_;refine Rn.S c 25 26 rfl λa c=> ?_;refine Rn.p rfl (Rn.cond _ (c.G 25) ?_);by_cases p:aP b 0 4=226
 ·rw[B _ _ p];have c:aJ [(2, .pt w0.heap.size),(4, .pt b4)] 48 [] a:=c.only ⟨rfl,rfl,trivial⟩;refine Rn.r (L:=[0,1]) rfl ?_;refine iE c 27 4 4 2 (by decide) (by decide) rfl (by kernel_rfl) (by kernel_rfl) j rfl (λa C c t l=> ?_) rfl;have n:co (aP b 0 4)=2:=by rw[p];decide
  have g:=l (w0.heap.size+1) (by omega);refine Rn.p rfl (Rn.p rfl (Du z (by rw[n];decide) c ((g.block _ (by omega)).trans s) (d.trans (g.mono (by omega))) ?_ m));rw[n];exact t
 rw[A _ _ p];refine Ek 5 21 (by decide) (λh=>h.2.1 ?_) (c.only ⟨rfl,trivial⟩) s d rfl (by kernel_rfl) (by kernel_rfl) (by kernel_rfl);simp[co,q,p]
end
theorem wv(b:ByteArray)(w:World):Calls lT 69 #[.string b] w (H1 b w):=by
 refine kZ (t:=2) (u:=3) (ty:=115) (n:=8) Lf.func69 rfl Lf.underlying115 rfl xo λk=> ?_;show Rn _ (pi b w k) _ k w;rw[bE (N:=48) [.string b] Lf.func69 IG rfl];have c:=aR [.string b] 48 (by simp);refine Rn.p rfl (Rn.r (L:=[0,1]) rfl ?_);refine Rn.O c 2 (.alloc 115) (λo g=>yV g) λa c=> ?_;have i:=y6 w (.cells dE 115);have d:=ox w (.cells dE 115);have f:=mE w (.cells dE 115);revert i d f;generalize w.alloc (.cells dE 115)=p;intro i d f;refine Rn.C c 3 (.bool false) λa c=> ?_;refine Rn.p rfl (Rn.p rfl (Rn.p rfl (Rn.r (L:=[0,1,2]) rfl ?_)));refine Rn.y c 5 0 rfl λa c=> ?_;refine Rn.O c 6 (.call {callee:= .builtin .len,args:=#[.tmp 5],argTypes:=#[9]}) (λo g=>rn g (c.G 5)) λa c=> ?_;refine Rn.O c 7 (.binOp .neq 3 (.tmp 6) (.const (.i 56)) 3) (λo g=>oJ g (c.G 6) rfl) λa c=> ?_;refine Rn.p rfl (Rn.cond _ (c.G 7) ?_);by_cases e:b.size=56
 ·rw[show((b.size:Int) !=56)=false from by simp;omega];refine Rn.p rfl (Rn.p rfl ?_);refine Ii e (c.only ⟨rfl,rfl,trivial⟩) λa m r q j l c=> ?_;exact Bb e (c.only ⟨rfl,rfl,trivial⟩) ((j.block _ (by omega)).trans i) (kM d (by omega) j) l (by omega)
 ·rw[show((b.size:Int) !=56)=true from by simp;omega];exact Ek 2 8 (by decide) (λh=>e h.1) (c.only ⟨rfl,trivial⟩) i d rfl (by kernel_rfl) (by kernel_rfl) (by kernel_rfl)
end L1
section
open Go
def eT:Array Value:=#[.string ⟨#[]⟩, .string ⟨#[]⟩, .string ⟨#[]⟩, .string ⟨#[]⟩, .int .i64 0, .int .i64 0, .int .i64 0, .int .i64 0, .int .i64 0, .string ⟨#[]⟩, .string ⟨#[]⟩, .string ⟨#[]⟩]
def j9(k:cA)(h n:Nat)(b:ByteArray):Prop:=b.size=44+32*n+32*h/\aP b 0 4<2^h/\(b.extract 4 8).data.toList=k.chains.data.toList/\(b.extract (40+32*n) (44+32*n)).data.toList=k.tree.data.toList
def qX(k:cA)(n:Nat)(b:ByteArray):cA:={k with q:=aP b 0 4,salt:=b.extract 8 40,links:=b.extract 40 (40+32*n),path:=b.extract (44+32*n) b.size}
end
namespace L1
open Go.Conc Go.RowKit
section
variable{w:World}{ev:Operand->Value}{o:Oper}{x y z u v:Operand}{t:TypeId}{m n:Int}
theorem qz{a b:ByteArray}(c:o.op= .binOp .neq 9 x y t)(e:ev x= .string a)(d:ev y= .string b):(execOp ev o).run lT w= .ok (.value (.bool (a.data.toList !=b.data.toList))) w:=by
 have g:=ByteArray.toList_eq a;have f:=ByteArray.toList_eq b;simp[execOp,c,e,d,go_sem,g,f,bne]
theorem FG(a:o.op= .binOp .geq 132 x y t)(c:ev x= .int .u64 m)(b:ev y= .int .u64 n):(execOp ev o).run lT w= .ok (.value (.bool (decide (m≥n)))) w:=by
 simp[execOp,a,c,b,go_sem]
theorem FC(a:o.op= .binOp .shl 132 x y t)(c:ev x= .int .u64 m)(b:ev y= .i k)(h:k<=64)(d:0<=m*2^k/\m*2^k<18446744073709551616):(execOp ev o).run lT w= .ok (.value (.int .u64 (m*2^k))) w:=by
 have e:IntKind.u64.wrap (m*2^k)=m*2^k:=by rw[IntKind.wrap_u64];omega
 simp[execOp,a,c,b,go_sem,e]
theorem Dm(a:o.op= .convert 132 3 x)(b:ev x= .int .u64 m)(h:0<=m/\m<9223372036854775808):(execOp ev o).run lT w= .ok (.value (.i m)) w:=by
 have d:lT.underlying 132=some (.int .u64):=by kernel_rfl
 have c:lT.underlying 3=some (.int .i64):=by kernel_rfl
 have e:IntKind.i64.wrap m=m:=by rw[IntKind.wrap_i64];omega
 simp[execOp,a,b,go_sem,d,c,e]
theorem Dd(a:o.op= .build 119 #[]):(execOp ev o).run lT w= .ok (.value (.agg eT)) w:=by
 have e:execOp ev o=(do pure (.value (←Instr.build 119 #[]))):=by simp[execOp,a]
 have b:(do pure (.value (←Instr.build 119 #[])):Sem Next).run lT w= .ok (.value (.agg eT)) w:=by kernel_rfl
 rw[e,b]
theorem DI(a:o.op= .alloc 119):(execOp ev o).run lT w= .ok (.value (.pointer (some ⟨w.heap.size,0,none⟩))) (w.alloc (.cells eT 119)):=by
 have e:execOp ev o=(do pure (.value (←Instr.alloc 119 true (.tuple #[])))):=by simp only[execOp,a]
 have b:(do pure (.value (←Instr.alloc 119 true (.tuple #[]))):Sem Next).run lT w= .ok (.value (.pointer (some ⟨w.heap.size,0,none⟩))) (w.alloc (.cells eT 119)):=by kernel_rfl
 rw[e,b]
theorem Hw{s:cA}(a:o.op= .build 119 #[(0,x),(1,y),(2,z),(3,u),(4,v)])(g:ev x= .agg s.key)(b:ev y= .i s.q)(f:ev z= .string s.salt)(d:ev u= .string s.links)(c:ev v= .string s.path):
 (execOp ev o).run lT w= .ok (.value (.agg s.cells)) w:=by
 have e:execOp ev o=(do pure (.value (←Instr.build 119 #[(0, .agg s.key),(1, .i s.q),(2, .string s.salt),(3, .string s.links),(4, .string s.path)]))):=by simp[execOp,a,g,b,f,d,c]
 have b:(do pure (.value (←Instr.build 119 #[(0, .agg s.key),(1, .i s.q),(2, .string s.salt),(3, .string s.links),(4, .string s.path)])):Sem Next).run lT w= .ok (.value (.agg s.cells)) w:=by kernel_rfl
 rw[e,b]
end
theorem Aq:(lT.info? 119).map (·.size)=some 12:=by kernel_rfl
end L1
section
open Go
theorem mf{tmps:Array Value}{g d:Nat}{a:Bool}(b:o.guard=some (g,a))(c:(ops[g]?).bind (·.dst)=some d)(hv:tmps[d]?=some (.bool q)):Region.wanted o (yielded ops tmps)=(q==a):=by
 unfold Region.wanted yielded;rw[b];simp[c,hv]
end
namespace L1
open Go.Conc Go.RowKit
def KT(k:cA)(b:ByteArray)(N H2 h T:Nat)(c1 n1 n2:Bool):Nat->Value->World->Prop
 |0,v,_=>v= .int .u64 (aP b 0 4)
 |1,v,_=>v= .pointer (some ⟨N,4,none⟩)
 |2,v,_=>v= .int .i64 h
 |3,v,_=>v= .int .u64 (H2:Int)
 |4,v,_=>v= .bool c1
 |5,v,_=>v= .bool c1
 |6,v,_=>c1=false->v= .string b
 |7,v,_=>c1=false->v= .string (b.extract 4 8)
 |8,v,_=>c1=false->v= .pointer (some ⟨N,1,none⟩)
 |9,v,_=>c1=false->v= .string k.chains
 |10,v,_=>c1=false->v= .bool n1
 |11,v,_=>v= .bool (c1||n1)
 |12,v,_=>v= .bool (c1||n1)
 |13,v,_=>(c1||n1)=false->v= .string b
 |14,v,_=>(c1||n1)=false->v= .int .i64 T
 |15,v,_=>(c1||n1)=false->v= .int .i64 ((T+4:Nat):Int)
 |16,v,_=>(c1||n1)=false->v= .string (b.extract T (T+4))
 |17,v,_=>(c1||n1)=false->v= .pointer (some ⟨N,0,none⟩)
 |18,v,_=>(c1||n1)=false->v= .string k.tree
 |19,v,_=>(c1||n1)=false->v= .bool n2
 |_,v,_=>v= .bool (c1||n1||n2)
theorem E2{k:cA}{b:ByteArray}{H2 h T:Nat}{c1 n1 n2:Bool}(m:Nat)(v:Value)(w w':World)(a:KT k b N H2 h T c1 n1 n2 m v w):KT k b N H2 h T c1 n1 n2 m v w':=by
 match m,a with
 |0,h|1,h|2,h|3,h|4,h|5,h|6,h|7,h|8,h|9,h|10,h|11,h|12,h|13,h|14,h|15,h|16,h|17,h|18,h|19,h|_+20,h=>exact h
section
variable{k:cA}{b:ByteArray}{N H2 h T:Nat}{c1 n1 n2:Bool}{Goal:Goroutine->World->Prop}{cs:List Frame}{K:List Item}{a:Act}{w:World}
theorem Ih(U:H2=2^h)(hh:k.height=h)(a2:h<=8)(a5:H2<=256)(hb:T+4<=b.size)(a4:8<=b.size)(Q:c1=decide (aP b 0 4≥(H2:Int)))(P:n1=((b.extract 4 8).data.toList !=k.chains.data.toList))(O:n2=((b.extract T (T+4)).data.toList !=k.tree.data.toList))
 (E:w.heap[N]?=some (.cells k.key 115)) (W:aJ [(1, .string b),(2, .pt N),(6, .i T),(7, .i ((T+4:Nat):Int)),(8, .int .u64 (aP b 0 4)),(4, .pt (N+1))] 61 [] a)
 (next:∀a w',Below w.heap.size w w'->aJ [(47, .bool (c1||n1||n2)),(1, .string b),(2, .pt N),(6, .i T),(7, .i ((T+4:Nat):Int)),(8, .int .u64 (aP b 0 4)),(4, .pt (N+1))] 61 [] a->Rn lT Goal ((base 70).atR a K) cs w'):
 Rn lT Goal ((base 70).atR a (.code (.region 6 (gT Tryz.f70 6) true)::K)) cs w:=by
 refine Rn.growsG (fx:=[(1, .string b),(2, .pt N),(6, .i T),(7, .i ((T+4:Nat):Int)),(8, .int .u64 (aP b 0 4)),(4, .pt (N+1))]) (ds:=[27,28,29,30,31,32,33,34,35,36,37,38,39,40,41,42,43,44,45,46,47]) (N:=61) (df:=[]) (G:=KT k b N H2 h T c1 n1 n2) (by kernel_rfl) (by kernel_rfl) (λm v w w' hg _=>E2 m v w w' hg) (λm o a w' hm s S a0 D c=> ?_)
  (λm a w'=>m=21/\Below w.heap.size w w'/\aJ [(47, .bool (c1||n1||n2)),(1, .string b),(2, .pt N),(6, .i T),(7, .i ((T+4:Nat):Int)),(8, .int .u64 (aP b 0 4)),(4, .pt (N+1))] 61 [] a)
  (λa w' V=> ?_) (λm o a w' Z hm s J a3=> ?_) (λa w' J=> ?_) W.defers W.size (W.all (by simp))
 ·have f1:=ce (D _ (mG (i:=0) rfl));have Y:=ce (D _ (mG (i:=1) rfl));have f6:=ce (D _ (mG (i:=2) rfl));have f7:=ce (D _ (mG (i:=3) rfl));have f8:=ce (D _ (mG (i:=4) rfl));have B:=(S.block N (gA E).1).trans E;have first:∀{o:Oper} {R:Value->World->Prop} (q:Bool) (g d:Nat),o.guard=some (g,false)->((gT Tryz.f70 6)[g]?).bind (·.dst)=some d->a.tmps[d]?=some (.bool q)->(q=false->sD lT a o w' R)->(q=true->R undef w')->uE lT (gT Tryz.f70 6) a o w' R:=λ{o R} q g d z I X h4 h5=>by
   have hw:=mf (ops:=gT Tryz.f70 6) (tmps:=a.tmps) z I X;cases q with
   |false=>exact .inl ⟨hw,h4 rfl⟩
   |true=>exact .inr ⟨hw,h5 rfl⟩
  have t:∀{m:Nat} {o:Oper} {d:Option Tmp} {p:Op} {g:Nat},(gT Tryz.f70 6)[m]?=some o->((gT Tryz.f70 6)[m]?).map (λo=>(o.dst,o.op,o.guard))=some (d,p,some (g,false))->o.op=p/\o.guard=some (g,false):=λ{m o d p g} s C=>by
   rw[s]at C;simp only[Option.map_some,Option.some.injEq,Prod.mk.injEq]at C;exact⟨C.2.1,C.2.2⟩
  have a1:m<21:=hm;rcases(by omega:m=0\/m=1\/m=2\/m=3\/m=4\/m=5\/m=6\/m=7\/m=8\/m=9\/m=10\/m=11\/m=12\/m=13\/m=14\/m=15\/m=16\/m=17\/m=18\/m=19\/m=20)with rfl|rfl|rfl|rfl|rfl|rfl|rfl|rfl|rfl|rfl|rfl|rfl|rfl|rfl|rfl|rfl|rfl|rfl|rfl|rfl|rfl
  ·obtain⟨F,f,A⟩:=aN (d:=some 27) (p:= .move (.tmp 8)) s (by kernel_rfl);exact .inl ⟨A _,l0 (by rw[bJ (.inl f),f8]) ⟨rfl,bR⟩⟩
  ·obtain⟨F,f,A⟩:=aN (d:=some 28) (p:= .fieldAddr 115 (.tmp 2) 4) s (by kernel_rfl);exact .inl ⟨A _,l0 (d8 4 (by decide) f Y) ⟨rfl,bR⟩⟩
  ·obtain⟨F,f,A⟩:=aN (d:=some 29) (p:= .load 3 (.tmp 28)) s (by kernel_rfl);obtain⟨u,j,rfl⟩:=nE c 1 28;exact .inl ⟨A _,l0 (tM (v:= .i h) aG f (ce j) ((o9 B 4).trans (by rw[←hh];rfl))).1 ⟨rfl,bR⟩⟩
  ·obtain⟨F,f,A⟩:=aN (d:=some 30) (p:= .binOp .shl 132 (.const (.int .u64 1)) (.tmp 29) 3) s (by kernel_rfl);obtain⟨u,j,rfl⟩:=nE c 2 29;have hp:(1:Int)*2^h=(H2:Int):=(by rw[Int.one_mul,U,Int.natCast_pow];rfl);refine .inl ⟨A _,l0 (FC (m:=1) (k:=h) f rfl (ce j) (by omega) (by rw[hp];omega)) ⟨?_,bR⟩⟩;rw[hp];rfl
  ·obtain⟨F,f,A⟩:=aN (d:=some 31) (p:= .binOp .geq 132 (.tmp 27) (.tmp 30) 132) s (by kernel_rfl);obtain⟨u,j,rfl⟩:=nE c 0 27;obtain⟨L,y,rfl⟩:=nE c 3 30;exact .inl ⟨A _,l0 (FG f (ce j) (ce y)) ⟨by rw[Q];rfl,bR⟩⟩
  ·obtain⟨F,f,A⟩:=aN (d:=some 32) (p:= .move (.tmp 31)) s (by kernel_rfl);obtain⟨u,j,rfl⟩:=nE c 4 31;exact .inl ⟨A _,kX (.inl f) j ⟨rfl,bR⟩⟩
  ·obtain⟨f,x⟩:=t (d:=some 33) (p:= .move (.tmp 1)) s (by kernel_rfl);obtain⟨u,j,rfl⟩:=nE c 5 32;exact first c1 5 32 x (by kernel_rfl) j (λ_=>l0 (by rw[bJ (.inl f),f1]) ⟨λ_=>rfl,bR⟩) λe=>⟨λl=>(by rw[e]at l;cases l),bR⟩
  ·obtain⟨f,x⟩:=t (d:=some 34) (p:= .slice 9 (.tmp 33) (some (.const (.i 4))) (some (.const (.i 8))) none) s (by kernel_rfl);obtain⟨u,j,rfl⟩:=nE c 5 32;obtain⟨H,r,z⟩:=nE c 6 33;exact first c1 5 32 x (by kernel_rfl) j (λe=>l0 (cV (m:=4) (n:=8) f ((ce r).trans (z e)) rfl rfl (by omega) (by omega)).1 ⟨λ_=>rfl,bR⟩) λe=>⟨λl=>(by rw[e]at l;cases l),bR⟩
  ·obtain⟨f,x⟩:=t (d:=some 35) (p:= .fieldAddr 115 (.tmp 2) 1) s (by kernel_rfl);obtain⟨u,j,rfl⟩:=nE c 5 32;exact first c1 5 32 x (by kernel_rfl) j (λ_=>l0 (d8 1 (by decide) f Y) ⟨λ_=>rfl,bR⟩) λe=>⟨λl=>(by rw[e]at l;cases l),bR⟩
  ·obtain⟨f,x⟩:=t (d:=some 36) (p:= .load 9 (.tmp 35)) s (by kernel_rfl);obtain⟨u,j,rfl⟩:=nE c 5 32;obtain⟨H,r,z⟩:=nE c 8 35;exact first c1 5 32 x (by kernel_rfl) j (λe=>l0 (tM (v:= .string k.chains) aQ f ((ce r).trans (z e)) ((o9 B 1).trans rfl)).1 ⟨λ_=>rfl,bR⟩) λe=>⟨λl=>(by rw[e]at l;cases l),bR⟩
  ·obtain⟨f,x⟩:=t (d:=some 37) (p:= .binOp .neq 9 (.tmp 34) (.tmp 36) 9) s (by kernel_rfl);obtain⟨u,j,rfl⟩:=nE c 5 32;obtain⟨H,r,z⟩:=nE c 7 34;obtain⟨L,y,I⟩:=nE c 9 36;exact first c1 5 32 x (by kernel_rfl) j (λe=>l0 (qz f ((ce r).trans (z e)) ((ce y).trans (I e))) ⟨λ_=>by rw[P],bR⟩) λe=>⟨λl=>(by rw[e]at l;cases l),bR⟩
  ·obtain⟨F,f,A⟩:=aN (d:=some 38) (p:= .pick (.tmp 32) (.const (.bool true)) (.tmp 37)) s (by kernel_rfl);obtain⟨u,j,rfl⟩:=nE c 5 32;obtain⟨H,r,z⟩:=nE c 10 37;refine .inl ⟨A _,l0 (jJ f (ce j)) ⟨?_,bR⟩⟩;cases e:c1 with
   |true=>rfl
   |false=>exact(ce r).trans (z e)
  ·obtain⟨F,f,A⟩:=aN (d:=some 39) (p:= .move (.tmp 38)) s (by kernel_rfl);obtain⟨u,j,rfl⟩:=nE c 11 38;exact .inl ⟨A _,kX (.inl f) j ⟨rfl,bR⟩⟩
  ·obtain⟨f,x⟩:=t (d:=some 40) (p:= .move (.tmp 1)) s (by kernel_rfl);obtain⟨u,j,rfl⟩:=nE c 12 39;exact first (c1||n1) 12 39 x (by kernel_rfl) j (λ_=>l0 (by rw[bJ (.inl f),f1]) ⟨λ_=>rfl,bR⟩) λe=>⟨λl=>(by rw[e]at l;cases l),bR⟩
  ·obtain⟨f,x⟩:=t (d:=some 41) (p:= .move (.tmp 6)) s (by kernel_rfl);obtain⟨u,j,rfl⟩:=nE c 12 39;exact first (c1||n1) 12 39 x (by kernel_rfl) j (λ_=>l0 (by rw[bJ (.inl f),f6]) ⟨λ_=>rfl,bR⟩) λe=>⟨λl=>(by rw[e]at l;cases l),bR⟩
  ·obtain⟨f,x⟩:=t (d:=some 42) (p:= .move (.tmp 7)) s (by kernel_rfl);obtain⟨u,j,rfl⟩:=nE c 12 39;exact first (c1||n1) 12 39 x (by kernel_rfl) j (λ_=>l0 (by rw[bJ (.inl f),f7]) ⟨λ_=>rfl,bR⟩) λe=>⟨λl=>(by rw[e]at l;cases l),bR⟩
  ·obtain⟨f,x⟩:=t (d:=some 43) (p:= .slice 9 (.tmp 40) (some (.tmp 41)) (some (.tmp 42)) none) s (by kernel_rfl);obtain⟨u,j,rfl⟩:=nE c 12 39;obtain⟨H,r,z⟩:=nE c 13 40;obtain⟨L,y,I⟩:=nE c 14 41;obtain⟨u3,M,X⟩:=nE c 15 42;exact first (c1||n1) 12 39 x (by kernel_rfl) j (λe=>l0 (cV (m:=T) (n:=T+4) f ((ce r).trans (z e)) ((ce y).trans (I e)) ((ce M).trans (X e)) (by omega) hb).1 ⟨λ_=>rfl,bR⟩) λe=>⟨λl=>(by rw[e]at l;cases l),bR⟩
  ·obtain⟨f,x⟩:=t (d:=some 44) (p:= .fieldAddr 115 (.tmp 2) 0) s (by kernel_rfl);obtain⟨u,j,rfl⟩:=nE c 12 39;exact first (c1||n1) 12 39 x (by kernel_rfl) j (λ_=>l0 (d8 0 (by decide) f Y) ⟨λ_=>rfl,bR⟩) λe=>⟨λl=>(by rw[e]at l;cases l),bR⟩
  ·obtain⟨f,x⟩:=t (d:=some 45) (p:= .load 9 (.tmp 44)) s (by kernel_rfl);obtain⟨u,j,rfl⟩:=nE c 12 39;obtain⟨H,r,z⟩:=nE c 17 44;exact first (c1||n1) 12 39 x (by kernel_rfl) j (λe=>l0 (tM (v:= .string k.tree) aQ f ((ce r).trans (z e)) ((o9 B 0).trans rfl)).1 ⟨λ_=>rfl,bR⟩) λe=>⟨λl=>(by rw[e]at l;cases l),bR⟩
  ·obtain⟨f,x⟩:=t (d:=some 46) (p:= .binOp .neq 9 (.tmp 43) (.tmp 45) 9) s (by kernel_rfl);obtain⟨u,j,rfl⟩:=nE c 12 39;obtain⟨H,r,z⟩:=nE c 16 43;obtain⟨L,y,I⟩:=nE c 18 45;exact first (c1||n1) 12 39 x (by kernel_rfl) j (λe=>l0 (qz f ((ce r).trans (z e)) ((ce y).trans (I e))) ⟨λ_=>by rw[O],bR⟩) λe=>⟨λl=>(by rw[e]at l;cases l),bR⟩
  ·obtain⟨F,f,A⟩:=aN (d:=some 47) (p:= .pick (.tmp 39) (.const (.bool true)) (.tmp 46)) s (by kernel_rfl);obtain⟨u,j,rfl⟩:=nE c 12 39;obtain⟨H,r,z⟩:=nE c 19 46;refine .inl ⟨A _,l0 (jJ f (ce j)) ⟨?_,bR⟩⟩;show _=Value.bool ((c1||n1)||n2);cases e:(c1||n1)with
   |true=>rfl
   |false=>exact(ce r).trans (z e)
 ·obtain⟨u,j,y⟩:=V.come 20 47 rfl trivial;obtain rfl:=y;exact⟨rfl,V.old,V.base.more j⟩
 ·exact absurd (gA s).1 (by obtain⟨rfl,_⟩:=J;decide)
 ·exact next a w' J.2.1 J.2.2
end
def Jj(k:cA)(b:ByteArray)(T:Nat)(s:cA):Nat->Value->World->Prop
 |0,v,_=>v= .agg k.key
 |1,v,_=>v= .int .u64 (aP b 0 4)
 |2,v,_=>v= .int .i64 (aP b 0 4)
 |3,v,_=>v= .string b
 |4,v,_=>v= .string (b.extract 8 40)
 |5,v,_=>v= .string b
 |6,v,_=>v= .int .i64 T
 |7,v,_=>v= .string (b.extract 40 T)
 |8,v,_=>v= .string b
 |9,v,_=>v= .int .i64 ((T+4:Nat):Int)
 |10,v,_=>v= .string (b.extract (T+4) b.size)
 |_,v,_=>v= .agg s.cells
theorem Cb{k:cA}{b:ByteArray}{T:Nat}{s:cA}(m:Nat)(v:Value)(w w':World)(a:Jj k b T s m v w):Jj k b T s m v w':=by
 match m,a with
 |0,h|1,h|2,h|3,h|4,h|5,h|6,h|7,h|8,h|9,h|10,h|_+11,h=>exact h
section
variable{k s:cA}{b:ByteArray}{N n T:Nat}{Goal:Goroutine->World->Prop}{cs:List Frame}{K:List Item}{a:Act}{w:World}
theorem Gg(C:s=qX k n b)(V:T=40+32*n)(Z:T+4<=b.size)(W:0<=aP b 0 4/\aP b 0 4<9223372036854775808)(r:w.heap[N]?=some (.cells k.key 115))(q:w.heap[N+1]?=some (.cells eT 119))(g:aJ [(1, .string b),(2, .pt N),(6, .i T),(7, .i ((T+4:Nat):Int)),(8, .int .u64 (aP b 0 4)),(4, .pt (N+1))] 61 [] a)
 (next:∀a w',Below (N+1) w w'->w'.heap[N+1]?=some (.cells s.cells 119)->aJ [(5, .bool true),(4, .pt (N+1))] 61 [] a->Rn lT Goal ((base 70).atR a K) cs w'):
 Rn lT Goal ((base 70).atR a (.code (.region 8 (gT Tryz.f70 8) true)::K)) cs w:=by
 have D:=(gA q).1;have p:s.links=b.extract 40 T:=by rw[C,V];rfl
 have y:s.path=b.extract (T+4) b.size:=by rw[C,V];show b.extract (44+32*n) b.size=_;rw[show 40+32*n+4=44+32*n from by omega]
 have x:s.salt=b.extract 8 40:=by rw[C];rfl
 have L:s.q=aP b 0 4:=by rw[C];rfl
 have t:s.key=k.key:=by rw[C];rfl
 refine Rn.grows (fx:=[(1, .string b),(2, .pt N),(6, .i T),(7, .i ((T+4:Nat):Int)),(8, .int .u64 (aP b 0 4)),(4, .pt (N+1))]) (ds:=[49,50,51,52,53,54,55,56,57,58,59,60]) (N:=61) (df:=[]) (G:=Jj k b T s) (by kernel_rfl) (by kernel_rfl) (λm v w w' Y _=>Cb m v w w' Y) (λm o a w' U e M j c=> ?_)
  (λm a w'=>(m=12/\Below w.heap.size w w'/\aJ [(60, .agg s.cells),(4, .pt (N+1))] 61 [] a)\/(m=13/\Below (N+1) w w'/\w'.heap[N+1]?=some (.cells s.cells 119)/\aJ [(4, .pt (N+1))] 61 [] a)\/(m=14/\Below (N+1) w w'/\w'.heap[N+1]?=some (.cells s.cells 119)/\aJ [(5, .bool true),(4, .pt (N+1))] 61 [] a))
  (λa w' P=> ?_) (λm o a w' S U e O E=> ?_) (λa w' O=> ?_) g.defers g.size (g.all (by simp))
 ·have Q:=ce (j _ (mG (i:=0) rfl));have f2:=ce (j _ (mG (i:=1) rfl));have f6:=ce (j _ (mG (i:=2) rfl));have f7:=ce (j _ (mG (i:=3) rfl));have f8:=ce (j _ (mG (i:=4) rfl));have z:=(M.block N (gA r).1).trans r;have X:m<12:=U;rcases(by omega:m=0\/m=1\/m=2\/m=3\/m=4\/m=5\/m=6\/m=7\/m=8\/m=9\/m=10\/m=11)with rfl|rfl|rfl|rfl|rfl|rfl|rfl|rfl|rfl|rfl|rfl|rfl
  ·have d:=cy e 49 ( .load 115 (.tmp 2));exact l0 (gg (s:=k) d f2 z λ_ _=>rfl) ⟨rfl,bR⟩
  ·have d:=cy e 50 ( .move (.tmp 8));exact l0 (by rw[bJ (.inl d),f8]) ⟨rfl,bR⟩
  ·have d:=cy e 51 ( .convert 132 3 (.tmp 50));obtain⟨u,l,rfl⟩:=nE c 1 50;exact l0 (Dm d (ce l) W) ⟨rfl,bR⟩
  ·have d:=cy e 52 ( .move (.tmp 1));exact l0 (by rw[bJ (.inl d),Q]) ⟨rfl,bR⟩
  ·have d:=cy e 53 ( .slice 9 (.tmp 52) (some (.const (.i 8))) (some (.const (.i 40))) none);obtain⟨u,l,rfl⟩:=nE c 3 52;exact l0 (cV (m:=8) (n:=40) d (ce l) rfl rfl (by omega) (by omega)).1 ⟨rfl,bR⟩
  ·have d:=cy e 54 ( .move (.tmp 1));exact l0 (by rw[bJ (.inl d),Q]) ⟨rfl,bR⟩
  ·have d:=cy e 55 ( .move (.tmp 6));exact l0 (by rw[bJ (.inl d),f6]) ⟨rfl,bR⟩
  ·have d:=cy e 56 ( .slice 9 (.tmp 54) (some (.const (.i 40))) (some (.tmp 55)) none);obtain⟨u,l,rfl⟩:=nE c 5 54;obtain⟨R,f,rfl⟩:=nE c 6 55;exact l0 (cV (m:=40) (n:=T) d (ce l) rfl (ce f) (by omega) (by omega)).1 ⟨rfl,bR⟩
  ·have d:=cy e 57 ( .move (.tmp 1));exact l0 (by rw[bJ (.inl d),Q]) ⟨rfl,bR⟩
  ·have d:=cy e 58 ( .move (.tmp 7));exact l0 (by rw[bJ (.inl d),f7]) ⟨rfl,bR⟩
  ·have d:=cy e 59 ( .slice 9 (.tmp 57) (some (.tmp 58)) none none);obtain⟨u,l,rfl⟩:=nE c 8 57;obtain⟨R,f,rfl⟩:=nE c 9 58;exact l0 (nT (n:=T+4) d (ce l) (ce f) Z) ⟨rfl,bR⟩
  ·have d:=cy e 60 ( .build 119 #[(0, .tmp 49),(1, .tmp 51),(2, .tmp 53),(3, .tmp 56),(4, .tmp 59)]);obtain⟨u0,J,rfl⟩:=nE c 0 49;obtain⟨u1,I,rfl⟩:=nE c 2 51;obtain⟨R,f,rfl⟩:=nE c 4 53;obtain⟨u3,H,rfl⟩:=nE c 7 56;obtain⟨u4,F,rfl⟩:=nE c 10 59;exact l0 (Hw (s:=s) d ((ce J).trans (by rw[t])) ((ce I).trans (by rw[L])) ((ce f).trans (by rw[x])) ((ce H).trans (by rw[p])) ((ce F).trans (by rw[y]))) ⟨rfl,bR⟩
 ·obtain⟨u,l,f⟩:=P.come 11 60 rfl trivial;obtain rfl:=f;exact .inl ⟨rfl,P.old,(P.base.more l).only ⟨rfl,rfl,trivial⟩⟩
 ·rcases O with⟨rfl,A,g⟩|⟨rfl,A,B,g⟩|⟨rfl,_⟩
  ·have B:=(A.block (N+1) D).trans q;refine Rn.does0 g (.store 119 (.tmp 4) (.tmp 60)) (by kernel_rfl) (by simp) (λo e=>bM (cells:=s.cells) e (g.G 4) (g.G 60) B Aq rfl (by simp[cA.cells,Value.oneCell'])) λa g=>E a _ (.inr (.inl ⟨rfl,(A.mono (by omega)).trans (bN w' (N+1) _ (Nat.le_refl _)),setRow_heap w' (N+1) _ _ _ _ B,g.only ⟨rfl,trivial⟩⟩))
  ·refine Rn.C g 5 (.bool true) λa g=>E a w' (.inr (.inr ⟨rfl,A,B,g⟩))
  ·exact absurd (gA e).1 (by decide)
 ·rcases O with⟨h,_⟩|⟨h,_⟩|⟨_,A,B,g⟩
  ·exact absurd h (by decide)
  ·exact absurd h (by decide)
  ·exact next a w' A B g
end
theorem IF:Tryz.f70.body=some (.seq (.region 0 (gT Tryz.f70 0) false) (.seq (.region 1 (gT Tryz.f70 1) false) (.seq (.region 2 (gT Tryz.f70 2) false) (.seq (.seq (.region 3 (gT Tryz.f70 3) false) (.cond (.tmp 22) (.seq (.region 4 (gT Tryz.f70 4) false) .ret) .skip))
 (.seq (.region 5 (gT Tryz.f70 5) false) (.seq (.seq (.region 6 (gT Tryz.f70 6) true) (.cond (.tmp 47) (.seq (.region 7 (gT Tryz.f70 7) false) .ret) .skip)) (.seq (.region 8 (gT Tryz.f70 8) true) .ret))))))):=by kernel_rfl
def GX(k:cA)(h n:Nat)(b:ByteArray)(w0:World)(e:Ending)(w':World):Prop:=((j9 k h n b/\e= .returned (.tuple #[.agg (qX k n b).cells, .bool true]))\/(¬j9 k h n b/\e= .returned (.tuple #[.agg eT, .bool false])))/\Below w0.heap.size w0 w'
def ER(k:cA)(h n:Nat)(b:ByteArray)(w0:World)(cs:List Frame)(g:Goroutine)(w':World):Prop:=∃(a:Act) (K:List Item) (bk:Nat) (cells:Array Value) (tt:TypeId) (v:Value),g=gV {(base 70).atR a K with mode:= .returning} cs/\a.defers=[]/\a.tmps[4]?=some (.pointer (some ⟨bk,0,none⟩))/\w'.heap[bk]?=some (.cells cells tt)/\cells.size=12/\a.tmps[5]?=some v/\GX k h n b w0 (.returned (.tuple #[.agg cells,v])) w'
section
variable{kk:cA}{h n:Nat}{b:ByteArray}{w0 w:World}{cs:List Frame}{a:Act}{k:List Item}
theorem GW(id d:Nat)(i:d<61/\d≠4)(f:¬j9 kk h n b)(c:aJ [(4, .pt (w0.heap.size+1))] 61 [] a)(j:w.heap[w0.heap.size+1]?=some (.cells eT 119))(e:Below w0.heap.size w0 w)(l:List.range (gT Tryz.f70 id).size=[0,1,2])
 (q:((gT Tryz.f70 id)[0]?).map (λo=>(o.dst,o.op,o.guard))=some (some d, .build 119 #[],none)) (p:((gT Tryz.f70 id)[1]?).map (λo=>(o.dst,o.op,o.guard))=some (none, .store 119 (.tmp 4) (.tmp d),none)) (m:((gT Tryz.f70 id)[2]?).map (λo=>(o.dst,o.op,o.guard))=some (some 5, .assign (.const (.bool false)),none)):
 Rn lT (ER kk h n b w0 cs) ((base 70).atR a (.code (.seq (.region id (gT Tryz.f70 id) false) .ret)::k)) cs w:=by
 refine Rn.p rfl (Rn.r l ?_);refine Rn.op c d (.build 119 #[]) i.1 q (by simp) (λo g=>Dd g) λa c=> ?_;have r:((d,Value.agg eT)::[(4, .pt (w0.heap.size+1))]:List (Nat×Value)).lookup 4=some (.pointer (some ⟨w0.heap.size+1,0,none⟩)):=by
  simp[List.lookup,show(4==d)=false from by simpa using Ne.symm i.2]
 refine Rn.does0 c (.store 119 (.tmp 4) (.tmp d)) p (by simp) (λo g=>bM (cells:=eT) g (c.get (d:=4) r) (c.get (d:=d) (by simp[List.lookup])) j Aq rfl (by simp[eT,Value.oneCell'])) λa c=> ?_;refine Rn.asc c 5 (.bool false) (by decide) m λa c=> ?_;refine Rn.p rfl (Rn.ends rfl (.inr ⟨_,rfl⟩) (Rn.now ⟨a,_,w0.heap.size+1,eT,119, .bool false,rfl,c.defers,c.slot 4 _ ?_,setRow_heap w _ _ _ _ _ j,rfl,c.slot 5 _ (by simp[List.lookup]), .inr ⟨f,rfl⟩,e.trans (bN _ _ _ (by omega))⟩));simp[List.lookup,show(4==d)=false from by simpa using Ne.symm i.2]
end
theorem Ds(k:cA)(h n:Nat)(O:k.height=h)(B:h<=8)(W:k.count=n)(V:n<=1000)(b:ByteArray)(Z:b.size<=1125899906842624)(w:World):Calls lT 70 #[.agg k.key, .string b] w (GX k h n b w):=by
 refine kZ (t:=4) (u:=5) (ty:=119) (n:=12) Lf.func70 rfl Lf.underlying119 rfl Aq λQ=> ?_;show Rn _ (ER k h n b w Q) _ Q w;rw[bE (N:=61) [.agg k.key, .string b] Lf.func70 IF rfl];have c:=aR [.agg k.key, .string b] 61 (by simp);refine Rn.p rfl (Rn.r (L:=[0,1,2]) rfl ?_);refine Rn.z c 2 0 115 rfl λa c=> ?_;show Rn _ _ _ _ (w.alloc (.cells k.key 115));refine Rn.O c 4 (.alloc 119) (λo d=>DI d) λa c=> ?_;rw[mE]at c;have g:=(fm (w.alloc (.cells k.key 115)) (.cells eT 119) (b:=w.heap.size) (by rw[mE];omega)).trans (y6 w _);have i:=y6 (w.alloc (.cells k.key 115)) (.cells eT 119);rw[mE]at i;have j:Below w.heap.size w ((w.alloc (.cells k.key 115)).alloc (.cells eT 119)):=kM (ox w _) (by rw[mE];omega) (ox _ _);revert g i j;generalize (w.alloc (.cells k.key 115)).alloc (.cells eT 119)=K;intro g i j;have A:=(gA i).1;refine Rn.C c 5 (.bool false) λa c=> ?_;refine Rn.p rfl (Rn.p rfl (Rn.r (L:=[0,1,2,3,4]) rfl ?_));refine Rn.O c 9 (.fieldAddr 115 (.tmp 2) 6) (λo d=>d8 6 (by decide) d (c.G 2)) λa c=> ?_;refine Rn.O c 10 (.load 3 (.tmp 9)) (λo d=>(tM (v:= .i n) aG d (c.G 9) ((o9 g 6).trans (by rw[←W];rfl))).1) λa c=> ?_;refine Rn.O c 11 (.binOp .mul 3 (.tmp 10) (.const (.i 32)) 3) (λo d=>(dH d (c.G 10) rfl (by omega)).1) λa c=> ?_;refine Rn.O c 12 (.binOp .add 3 (.const (.i 40)) (.tmp 11) 3) (λo d=>cL (m:=40) d rfl (c.G 11) (by omega)) λa c=> ?_;rw[show(40:Int)+(n:Int)*32=((40+32*n:Nat):Int)from by omega]at c;refine Rn.S c 6 12 rfl λa c=> ?_;refine Rn.p rfl (Rn.p rfl (Rn.r (L:=[0,1,2]) rfl ?_));refine Rn.y c 13 6 rfl λa c=> ?_;refine Rn.O c 14 (.binOp .add 3 (.tmp 13) (.const (.i 4)) 3) (λo d=>cL (n:=4) d (c.G 13) rfl (by omega)) λa c=> ?_;rw[show((40+32*n:Nat):Int)+4=((40+32*n+4:Nat):Int)from by omega]at c;refine Rn.S c 7 14 rfl λa c=> ?_;have c:aJ [(1, .string b),(2, .pt w.heap.size),(6, .i ((40+32*n:Nat):Int)),(7, .i ((40+32*n+4:Nat):Int)),(4, .pt (w.heap.size+1))] 61 [] a:=c.only ⟨rfl,rfl,rfl,rfl,rfl,trivial⟩;refine Rn.p rfl (Rn.p rfl (Rn.p rfl (Rn.r (L:=[0,1,2,3,4,5,6,7]) rfl ?_)));refine Rn.y c 15 1 rfl λa c=> ?_;refine Rn.O c 16 (.call {callee:= .builtin .len,args:=#[.tmp 15],argTypes:=#[9]}) (λo d=>rn d (c.G 15)) λa c=> ?_;refine Rn.y c 17 7 rfl λa c=> ?_;refine Rn.O c 18 (.fieldAddr 115 (.tmp 2) 4) (λo d=>d8 4 (by decide) d (c.G 2)) λa c=> ?_;refine Rn.O c 19 (.load 3 (.tmp 18)) (λo d=>(tM (v:= .i h) aG d (c.G 18) ((o9 g 4).trans (by rw[←O];rfl))).1) λa c=> ?_;refine Rn.O c 20 (.binOp .mul 3 (.tmp 19) (.const (.i 32)) 3) (λo d=>(dH d (c.G 19) rfl (by omega)).1) λa c=> ?_;refine Rn.O c 21 (.binOp .add 3 (.tmp 17) (.tmp 20) 3) (λo d=>cL d (c.G 17) (c.G 20) (by omega)) λa c=> ?_;refine Rn.O c 22 (.binOp .neq 3 (.tmp 16) (.tmp 21) 3) (λo d=>oJ d (c.G 16) (c.G 21)) λa c=> ?_;refine Rn.p rfl (Rn.cond _ (c.G 22) ?_);by_cases y:b.size=44+32*n+32*h
 ·rw[show((b.size:Int) !=((40+32*n+4:Nat):Int)+(h:Int)*32)=false from by simp;omega];have P:=mp (b.extract 0 4).data.toList 4 (by simp;omega);have J:0<=aP b 0 4/\aP b 0 4<4294967296:=⟨P.1,by have:=P.2;rw[show(256:Int)^4=4294967296 from by decide]at this;exact this⟩;refine Rn.p rfl (Rn.p rfl (Rn.r (L:=[0,1,2,3]) rfl ?_));refine Rn.y c 24 1 rfl λa c=> ?_;refine Rn.O c 25 (.slice 9 (.tmp 24) none (some (.const (.i 4))) none) (λo d=>uR (n:=4) d (c.G 24) rfl (by omega)) λa c=> ?_;refine Rn.calls (f:=88) (xs:=#[.tmp 25]) (ats:=#[9]) (args:=#[.string (b.extract 0 4)]) c 26 (by decide) (by kernel_rfl) (by simp[c.G 25]) Lf.func88 (by kernel_rfl) (by kernel_rfl)
   (R:=λv M=>v= .int .u64 (aP b 0 4)/\M=K) ((kN (b.extract 0 4) K (by rw[ByteArray.size_extract];omega)).mono λe M h=>⟨_,h.1,rfl,h.2⟩) λv Y U a c=> ?_
  obtain⟨rfl,rfl⟩:=U;refine Rn.S c 8 26 rfl λa c=> ?_;refine Rn.p rfl (Rn.p rfl (Rn.p rfl ?_));have G:2^h<=256:=Nat.le_trans (Nat.pow_le_pow_right (by decide) B) (by decide);refine Ih (k:=k) (b:=b) (N:=w.heap.size) (H2:=2^h) (h:=h) (T:=40+32*n) rfl O B G (by omega) (by omega) rfl rfl rfl g (c.only ⟨rfl,rfl,rfl,rfl,rfl,rfl,trivial⟩) λa S x c=> ?_;have r:=(x.block _ (gA g).1).trans g;have l:=(x.block _ A).trans i;have p:Below w.heap.size w S:=kM j j.size x;refine Rn.cond _ (c.G 47) ?_;by_cases q:j9 k h n b
  ·have e:(decide (aP b 0 4≥((2^h:Nat):Int))||((b.extract 4 8).data.toList !=k.chains.data.toList)||((b.extract (40+32*n) (40+32*n+4)).data.toList !=k.tree.data.toList))=false:=by
    obtain⟨_,D,H,C⟩:=q;rw[show 44+32*n=40+32*n+4 from by omega]at C;have I:¬aP b 0 4≥((2^h:Nat):Int):=(by rw[Int.natCast_pow];exact Int.not_le.2 D);rw[decide_eq_false I,H,C];simp
   rw[e];refine Rn.p rfl (Rn.p rfl ?_);refine Gg (k:=k) (s:=qX k n b) (n:=n) rfl rfl (by omega) ⟨J.1,by omega⟩ r l (c.only ⟨rfl,rfl,rfl,rfl,rfl,rfl,trivial⟩) λa X F E c=> ?_;exact Rn.ends rfl (.inr ⟨_,rfl⟩) (Rn.now ⟨a,_,w.heap.size+1,(qX k n b).cells,119, .bool true,rfl,c.defers,c.slot 4 _ rfl,E,rfl,c.slot 5 _ rfl, .inl ⟨q,rfl⟩,p.trans (F.mono (by omega))⟩)
  ·have e:(decide (aP b 0 4≥((2^h:Nat):Int))||((b.extract 4 8).data.toList !=k.chains.data.toList)||((b.extract (40+32*n) (40+32*n+4)).data.toList !=k.tree.data.toList))=true:=by
    refine Classical.byContradiction λz=>q ?_;rw[Bool.not_eq_true,Bool.or_eq_false_iff,Bool.or_eq_false_iff,decide_eq_false_iff_not,bne_eq_false_iff_eq,bne_eq_false_iff_eq]at z;obtain⟨⟨D,H⟩,C⟩:=z;refine⟨y, ?_,H, ?_⟩
    ·rw[Int.natCast_pow]at D;exact Int.not_le.1 D
    ·rw[show 44+32*n=40+32*n+4 from by omega];exact C
   rw[e];exact GW 7 48 (by decide) q (c.only ⟨rfl,trivial⟩) l p rfl (by kernel_rfl) (by kernel_rfl) (by kernel_rfl)
 ·rw[show((b.size:Int) !=((40+32*n+4:Nat):Int)+(h:Int)*32)=true from by simp;omega];exact GW 4 23 (by decide) (λh=>y h.1) (c.only ⟨rfl,trivial⟩) i j rfl (by kernel_rfl) (by kernel_rfl) (by kernel_rfl)
def hK(key:ByteArray):Nat:=co (aP key 0 4)
def wK(key:ByteArray):Nat:=cW (aP key 4 8)
def nK(key:ByteArray):Nat:=dQ (aP key 4 8)
def vX(key:ByteArray):Nat:=dI (aP key 4 8)
def jK(KS:List Int)(key msg sig:ByteArray):ByteArray:=wq KS (qX (fz key) (nK key) sig) (hK key) (wK key) (vX key) (nK key) (aP sig 0 4).toNat msg
def su(KS:List Int)(key msg sig:ByteArray)(c:Int):Prop:=
 (¬fe key/\c=9)\/(fe key/\¬j9 (fz key) (hK key) (nK key) sig/\c=10)\/(fe key/\j9 (fz key) (hK key) (nK key) sig/\(jK KS key msg sig).data.toList≠(key.extract 24 key.size).data.toList/\c=10)\/(fe key/\j9 (fz key) (hK key) (nK key) sig/\(jK KS key msg sig).data.toList=(key.extract 24 key.size).data.toList/\c=0)
theorem kinds(h:fe key):(hK key=5\/hK key=2)/\((wK key=2/\nK key=133/\vX key=6)\/(wK key=4/\nK key=67/\vX key=4)\/(wK key=8/\nK key=34/\vX key=0)):=by
 obtain⟨_,g,f⟩:=h;constructor
 ·unfold hK co at*;split
  ·exact .inl rfl
  ·split
   ·exact .inr rfl
   ·rename_i a b;simp[a,b]at g
 ·unfold wK nK vX cW dQ dI at*;by_cases e:aP key 4 8=2
  ·rw[e];exact .inl (by decide)
  ·by_cases d:aP key 4 8=3
   ·rw[d];exact .inr (.inl (by decide))
   ·by_cases c:aP key 4 8=4
    ·rw[c];exact .inr (.inr (by decide))
    ·simp[e,d,c]at f
theorem E8(h:fe key)(e:j9 (fz key) (hK key) (nK key) sig):Kl (qX (fz key) (nK key) sig) (hK key) (wK key) (vX key) (nK key) (aP sig 0 4).toNat:=by
 obtain⟨j,c⟩:=kinds h;obtain⟨g,_,_⟩:=h;obtain⟨d,f,_,_⟩:=e;have i:0<=aP sig 0 4:=(mp (sig.extract 0 4).data.toList 4 (by simp;omega)).1;have a:((aP sig 0 4).toNat:Int)=aP sig 0 4:=Int.toNat_of_nonneg i;exact
  {wid:=by rcases c with⟨h,_⟩|⟨h,_⟩|⟨h,_⟩<;>rw[h]<;>simp[oD]
   width:=rfl
   shift:=rfl
   shift8:=by omega
   count:=rfl
   one:=by omega
   most:=by rcases c with⟨h,b,_⟩|⟨h,b,_⟩|⟨h,b,_⟩<;>rw[h,b]<;>decide
   height:=rfl
   low:=by omega
   qq:=a.symm
   leaf:=by
    have:((aP sig 0 4).toNat:Int)<((2^hK key:Nat):Int):=(by rw[a,Int.natCast_pow];exact f);exact Int.ofNat_lt.1 this
   id:=by show(key.extract 8 24).size<=1000;rw[ByteArray.size_extract];omega
   salt:=by show(sig.extract 8 40).size<=1000;rw[ByteArray.size_extract];omega
   links:=by show nK key*32<=(sig.extract 40 (40+32*nK key)).size;rw[ByteArray.size_extract];omega
   path:=by show(sig.extract (44+32*nK key) sig.size).size=32*hK key;rw[ByteArray.size_extract];omega}
def KV(s:cA)(msg root:ByteArray)(b7:Nat)(rt:ByteArray)(bad ne:Bool):Nat->Value->World->Prop
 |0,v,_=>v= .bool (!bad)
 |1,v,_=>v= .bool bad
 |2,v,_=>v= .bool bad
 |3,v,_=>bad=false->v= .agg s.cells
 |4,v,_=>bad=false->v= .string msg
 |5,v,_=>bad=false->v= .string rt
 |6,v,_=>bad=false->v= .pointer (some ⟨b7,3,none⟩)
 |7,v,_=>bad=false->v= .string root
 |8,v,_=>bad=false->v= .bool ne
 |_,v,_=>v= .bool (bad||ne)
theorem E4{s:cA}{root:ByteArray}{b7:Nat}{rt:ByteArray}{bad ne:Bool}(m:Nat)(v:Value)(w w':World)(a:KV s msg root b7 rt bad ne m v w):KV s msg root b7 rt bad ne m v w':=by
 match m,a with
 |0,h|1,h|2,h|3,h|4,h|5,h|6,h|7,h|8,h|_+9,h=>exact h
section
variable{s:cA}{msg rt:ByteArray}{k:cA}{b7 b9:Nat}{bad ne:Bool}{Goal:Goroutine->World->Prop}{cs:List Frame}{K:List Item}{a:Act}{w:World}
theorem Ip(hC:bad=false->∀w',Below w.heap.size w w'->Calls lT 71 #[.agg s.cells, .string msg] w' λe D=>e= .returned (.string rt)/\Below w'.heap.size w' D)(H:ne=(rt.data.toList !=k.root.data.toList))(V:w.heap[b7]?=some (.cells k.key 115))(U:bad=false->w.heap[b9]?=some (.cells s.cells 119))
 (J:aJ [(1, .string msg),(7, .pt b7),(8, .bool (!bad)),(9, .pt b9)] 33 [] a)
 (next:∀a w',Below w.heap.size w w'->aJ [(32, .bool (bad||ne))] 33 [] a->Rn lT Goal ((base 36).atR a K) cs w'):
 Rn lT Goal ((base 36).atR a (.code (.region 5 (gT Tryz.f36 5) true)::K)) cs w:=by
 refine Rn.growsG (fx:=[(1, .string msg),(7, .pt b7),(8, .bool (!bad)),(9, .pt b9)]) (ds:=[23,24,25,26,27,28,29,30,31,32]) (N:=33) (df:=[]) (G:=KV s msg k.root b7 rt bad ne) (by kernel_rfl) (by kernel_rfl) (λm v w w' hg _=>E4 m v w w' hg) (λm o a w' T q B X z b=> ?_)
  (λm a w'=>m=10/\Below w.heap.size w w'/\aJ [(32, .bool (bad||ne))] 33 [] a)
  (λa w' I=> ?_) (λm o a w' Q T q E a0=> ?_) (λa w' E=> ?_) J.defers J.size (J.all (by simp))
 ·have f1:=ce (z _ (mG (i:=0) rfl));have f7:=ce (z _ (mG (i:=1) rfl));have f8:=ce (z _ (mG (i:=2) rfl));have f9:=ce (z _ (mG (i:=3) rfl));have L:=(B.block b7 (gA V).1).trans V;have first:∀{o:Oper} {R:Value->World->Prop},o.guard=some (2,false)->a.tmps[25]?=some (.bool bad)->(bad=false->sD lT a o w' R)->(bad=true->R undef w')->uE lT (gT Tryz.f36 5) a o w' R:=λ{o R} A h3 h4 h5=>by
   have S:=mf (ops:=gT Tryz.f36 5) (tmps:=a.tmps) (d:=25) A (by kernel_rfl) h3;cases bad with
   |false=>exact .inl ⟨S,h4 rfl⟩
   |true=>exact .inr ⟨S,h5 rfl⟩
  have t:∀{m:Nat} {o:Oper} {d:Option Tmp} {p:Op} {g:Nat},(gT Tryz.f36 5)[m]?=some o->((gT Tryz.f36 5)[m]?).map (λo=>(o.dst,o.op,o.guard))=some (d,p,some (g,false))->o.op=p/\o.guard=some (g,false):=λ{m o d p g} q r=>by
   rw[q]at r;simp only[Option.map_some,Option.some.injEq,Prod.mk.injEq]at r;exact⟨r.2.1,r.2.2⟩
  have Z:m<10:=T;rcases(by omega:m=0\/m=1\/m=2\/m=3\/m=4\/m=5\/m=6\/m=7\/m=8\/m=9)with rfl|rfl|rfl|rfl|rfl|rfl|rfl|rfl|rfl|rfl
  ·obtain⟨O,j,C⟩:=aN (d:=some 23) (p:= .move (.tmp 8)) q (by kernel_rfl);exact .inl ⟨C _,l0 (by rw[bJ (.inl j),f8]) ⟨rfl,bR⟩⟩
  ·obtain⟨O,j,C⟩:=aN (d:=some 24) (p:= .unOp .not 4 (.tmp 23)) q (by kernel_rfl);obtain⟨u,f,rfl⟩:=b 0 23 rfl (by kernel_rfl);exact .inl ⟨C _,l0 (lu j (ce f)).1 ⟨by show Value.bool (!!bad)=Value.bool bad;rw[Bool.not_not],bR⟩⟩
  ·obtain⟨O,j,C⟩:=aN (d:=some 25) (p:= .move (.tmp 24)) q (by kernel_rfl);obtain⟨u,f,rfl⟩:=b 1 24 rfl (by kernel_rfl);exact .inl ⟨C _,kX (.inl j) f ⟨rfl,bR⟩⟩
  ·obtain⟨j,y⟩:=t (d:=some 26) (p:= .load 119 (.tmp 9)) q (by kernel_rfl);obtain⟨u,f,rfl⟩:=b 2 25 rfl (by kernel_rfl);exact first y f (λc=>l0 (jC (ex:=#[]) j f9 (by rw[Array.append_empty];exact(B.block b9 (gA (U c)).1).trans (U c))).1 ⟨λ_=>rfl,bR⟩) λc=>⟨λl=>(by rw[c]at l;cases l),bR⟩
  ·obtain⟨j,y⟩:=t (d:=some 27) (p:= .move (.tmp 1)) q (by kernel_rfl);obtain⟨u,f,rfl⟩:=b 2 25 rfl (by kernel_rfl);exact first y f (λ_=>l0 (by rw[bJ (.inl j),f1]) ⟨λ_=>rfl,bR⟩) λc=>⟨λl=>(by rw[c]at l;cases l),bR⟩
  ·obtain⟨j,y⟩:=t (d:=some 28) (p:= .call {callee:= .value (.func 71),args:=#[.tmp 26, .tmp 27],argTypes:=#[119,9]}) q (by kernel_rfl);obtain⟨u,f,rfl⟩:=b 2 25 rfl (by kernel_rfl);obtain⟨F,n,A⟩:=b 3 26 rfl (by kernel_rfl);obtain⟨W,x,M⟩:=b 4 27 rfl (by kernel_rfl);refine first y f (λc=> ?_) λc=>⟨λl=>(by rw[c]at l;cases l),bR⟩
   have Y:=aO (w:=w') j (show(#[Operand.tmp 26, .tmp 27]:Array Operand).map a.eval=#[.agg s.cells, .string msg]from by simp[ce n,ce x,A c,M c]) (rI (P:=jx true Tryz.prog) Lf.func71 _);exact .inr ⟨_,_,Y.1,(hC c w' B).mono λe D h=>⟨_,h.1,λ_=>rfl,h.2⟩⟩
  ·obtain⟨j,y⟩:=t (d:=some 29) (p:= .fieldAddr 115 (.tmp 7) 3) q (by kernel_rfl);obtain⟨u,f,rfl⟩:=b 2 25 rfl (by kernel_rfl);exact first y f (λ_=>l0 (d8 3 (by decide) j f7) ⟨λ_=>rfl,bR⟩) λc=>⟨λl=>(by rw[c]at l;cases l),bR⟩
  ·obtain⟨j,y⟩:=t (d:=some 30) (p:= .load 9 (.tmp 29)) q (by kernel_rfl);obtain⟨u,f,rfl⟩:=b 2 25 rfl (by kernel_rfl);obtain⟨F,n,A⟩:=b 6 29 rfl (by kernel_rfl);exact first y f (λc=>l0 (tM (v:= .string k.root) aQ j ((ce n).trans (A c)) ((o9 L 3).trans rfl)).1 ⟨λ_=>rfl,bR⟩) λc=>⟨λl=>(by rw[c]at l;cases l),bR⟩
  ·obtain⟨j,y⟩:=t (d:=some 31) (p:= .binOp .neq 9 (.tmp 28) (.tmp 30) 9) q (by kernel_rfl);obtain⟨u,f,rfl⟩:=b 2 25 rfl (by kernel_rfl);obtain⟨F,n,A⟩:=b 5 28 rfl (by kernel_rfl);obtain⟨W,x,M⟩:=b 7 30 rfl (by kernel_rfl);exact first y f (λc=>l0 (qz j ((ce n).trans (A c)) ((ce x).trans (M c))) ⟨λ_=>by rw[H],bR⟩) λc=>⟨λl=>(by rw[c]at l;cases l),bR⟩
  ·obtain⟨O,j,C⟩:=aN (d:=some 32) (p:= .pick (.tmp 25) (.const (.bool true)) (.tmp 31)) q (by kernel_rfl);obtain⟨u,f,rfl⟩:=b 2 25 rfl (by kernel_rfl);obtain⟨F,n,A⟩:=b 8 31 rfl (by kernel_rfl);refine .inl ⟨C _,l0 (jJ j (ce f)) ⟨?_,bR⟩⟩;cases c:bad with
   |true=>rfl
   |false=>exact(ce n).trans (A c)
 ·obtain⟨u,f,x⟩:=I.come 9 32 rfl trivial;obtain rfl:=x;exact⟨rfl,I.old,(I.base.more f).only ⟨rfl,trivial⟩⟩
 ·exact absurd (gA q).1 (by obtain⟨rfl,_⟩:=E;decide)
 ·exact next a w' E.2.1 E.2.2
end
theorem IP:Tryz.f36.body=some (.seq (.region 0 (gT Tryz.f36 0) false) (.seq (.region 1 (gT Tryz.f36 1) false) (.seq (.seq (.region 2 (gT Tryz.f36 2) false) (.cond (.tmp 16) (.seq (.region 3 (gT Tryz.f36 3) false) .ret) .skip))
 (.seq (.region 4 (gT Tryz.f36 4) false) (.seq (.seq (.region 5 (gT Tryz.f36 5) true) (.cond (.tmp 32) (.seq (.region 6 (gT Tryz.f36 6) false) .ret) .skip)) (.seq (.region 7 (gT Tryz.f36 7) false) .ret)))))):=by kernel_rfl
theorem sJ(KS:List Int)(a2:KS.length=64)(key msg sig:ByteArray)(hm:msg.size<=281474976706560)(hs:sig.size<=1125899906842624)(w:World)(T:w.rangeAt 0 0 (tL KS))(h0:0<w.heap.size):
 Calls lT 36 #[.string key, .string msg, .string sig] w λe w'=>∃c,e= .returned (.i c)/\su KS key msg sig c/\Below w.heap.size w w':=by
 refine aX (t:=6) Lf.func36 rfl λcs=> ?_;rw[bE (N:=33) [.string key, .string msg, .string sig] Lf.func36 IP rfl];have b:=aR [.string key, .string msg, .string sig] 33 (by simp);refine Rn.p rfl (Rn.r (L:=[0]) rfl ?_);refine Rn.C b 6 (.i 0) λa b=> ?_;refine Rn.p rfl (Rn.p rfl (Rn.r (L:=[0,1,2,3,4,5,6,7]) rfl ?_));refine Rn.y b 11 0 rfl λa b=> ?_;refine Rn.calls (f:=69) (xs:=#[.tmp 11]) (ats:=#[9]) (args:=#[.string key]) b 12 (by decide) (by kernel_rfl) (by simp[b.G 11]) Lf.func69 (by kernel_rfl) (by kernel_rfl)
  (R:=λv w'=>((fe key/\v= .tuple #[.agg (fz key).key, .bool true])\/(¬fe key/\v= .tuple #[.agg dE, .bool false]))/\Below w.heap.size w w')
  ((wv key w).mono λe w' h=>by
    rcases h with⟨⟨m,l⟩|⟨m,l⟩,X⟩
    ·exact⟨_,l, .inl ⟨m,rfl⟩,X⟩
    ·exact⟨_,l, .inr ⟨m,rfl⟩,X⟩) λv B D a b=> ?_
 obtain⟨D,G⟩:=D;obtain⟨cells,Z,d,C⟩:∃cells Z,((¬fe key/\cells=dE/\Z=false)\/(fe key/\cells=(fz key).key/\Z=true))/\v= .tuple #[.agg cells, .bool Z]:=by
  rcases D with⟨m,l⟩|⟨m,l⟩
  ·exact⟨_,_, .inr ⟨m,rfl,rfl⟩,l⟩
  ·exact⟨_,_, .inl ⟨m,rfl,rfl⟩,l⟩
 subst C;have p:cells.size=8/\cells.all (·.oneCell')=true:=by
  rcases d with⟨_,rfl,_⟩|⟨_,rfl,_⟩
  ·exact⟨rfl,by simp[dE,Value.oneCell']⟩
  ·exact⟨rfl,by simp[cA.key,Value.oneCell']⟩
 refine Rn.y b 10 12 rfl λa b=> ?_;refine Rn.O b 13 (.extract (.tmp 10) 0) (λo g=>dF g (b.G 10) rfl) λa b=> ?_;refine Rn.O b 14 (.extract (.tmp 10) 1) (λo g=>dF g (b.G 10) rfl) λa b=> ?_;refine Rn.O b 7 (.alloc 115) (λo g=>yV g) λa b=> ?_;have W:=y6 B (.cells dE 115);have A:=ox B (.cells dE 115);revert W A;generalize B.alloc (.cells dE 115)=w2;intro W A;refine Rn.does0 b (.store 115 (.tmp 7) (.tmp 13)) (by kernel_rfl) (by simp) (λo g=>bM (cells:=cells) g (b.G 7) (b.G 13) W (by rw[p.1];exact xo) (by rw[p.1];rfl) p.2) λa b=> ?_;have y:=setRow_heap w2 B.heap.size dE cells 115 (0,0) W;have x:Below w.heap.size w (w2.setRow B.heap.size cells):=(kM G G.size A).trans (bN _ _ _ G.size);have r:=(gA y).1;revert y x r;generalize w2.setRow B.heap.size cells=w3;intro y x r;clear W A;refine Rn.S b 8 14 rfl λa b=> ?_;refine Rn.p rfl (Rn.p rfl (Rn.p rfl (Rn.r (L:=[0,1]) rfl ?_)));refine Rn.y b 15 8 rfl λa b=> ?_;refine Rn.O b 16 (.unOp .not 4 (.tmp 15)) (λo g=>(lu g (b.G 15)).1) λa b=> ?_;refine Rn.p rfl (Rn.cond _ (b.G 16) ?_);rcases d with⟨P,rfl,rfl⟩|⟨q,rfl,rfl⟩
 ·refine Rn.p rfl (Rn.r (L:=[0]) rfl ?_);refine Rn.C b 6 (.i 9) λa b=> ?_;exact Rn.p rfl (Rn.ends rfl (.inr ⟨_,rfl⟩) (Rn.now ⟨a,_,_,rfl,b.defers,b.slot 6 _ rfl,9,rfl, .inl ⟨P,rfl⟩,x⟩))
 obtain⟨hh,hk⟩:=kinds q;refine Rn.p rfl (Rn.p rfl (Rn.r (L:=[0,1,2,3,4,5,6,7,8]) rfl ?_));refine Rn.O b 18 (.load 115 (.tmp 7)) (λo g=>gg (s:=fz key) g (b.G 7) y λ_ _=>rfl) λa b=> ?_;refine Rn.y b 19 2 rfl λa b=> ?_;refine Rn.calls (f:=70) (xs:=#[.tmp 18, .tmp 19]) (ats:=#[115,9]) (args:=#[.agg (fz key).key, .string sig]) b 20 (by decide) (by kernel_rfl) (by simp[b.G 18,b.G 19]) Lf.func70 (by kernel_rfl) (by kernel_rfl)
  (R:=λv w'=>((j9 (fz key) (hK key) (nK key) sig/\v= .tuple #[.agg (qX (fz key) (nK key) sig).cells, .bool true])\/(¬j9 (fz key) (hK key) (nK key) sig/\v= .tuple #[.agg eT, .bool false]))/\Below w3.heap.size w3 w')
  ((Ds (fz key) (hK key) (nK key) rfl (by omega) rfl (by omega) sig hs w3).mono λe w' h=>by
    rcases h with⟨⟨m,l⟩|⟨m,l⟩,X⟩
    ·exact⟨_,l, .inl ⟨m,rfl⟩,X⟩
    ·exact⟨_,l, .inr ⟨m,rfl⟩,X⟩) λv z D a b=> ?_
 obtain⟨D,Q⟩:=D;obtain⟨cells,bad,d,C⟩:∃cells bad,((j9 (fz key) (hK key) (nK key) sig/\cells=(qX (fz key) (nK key) sig).cells/\bad=false)\/(¬j9 (fz key) (hK key) (nK key) sig/\cells=eT/\bad=true))/\v= .tuple #[.agg cells, .bool (!bad)]:=by
  rcases D with⟨m,l⟩|⟨m,l⟩
  ·exact⟨_,false, .inl ⟨m,rfl,rfl⟩,l⟩
  ·exact⟨_,true, .inr ⟨m,rfl,rfl⟩,l⟩
 subst C;have j:cells.size=12/\cells.all (·.oneCell')=true:=by
  rcases d with⟨_,rfl,_⟩|⟨_,rfl,_⟩
  ·exact⟨rfl,by simp[cA.cells,Value.oneCell']⟩
  ·exact⟨rfl,by simp[eT,Value.oneCell']⟩
 have M:=(Q.block _ r).trans y;have I:Below w.heap.size w z:=kM x x.size Q;refine Rn.y b 17 20 rfl λa b=> ?_;refine Rn.O b 21 (.extract (.tmp 17) 0) (λo g=>dF g (b.G 17) rfl) λa b=> ?_;refine Rn.O b 22 (.extract (.tmp 17) 1) (λo g=>dF g (b.G 17) rfl) λa b=> ?_;refine Rn.O b 9 (.alloc 119) (λo g=>DI g) λa b=> ?_;have U:=y6 z (.cells eT 119);have u:=ox z (.cells eT 119);revert U u;generalize z.alloc (.cells eT 119)=Y;intro U u;have V:=(u.block _ (gA M).1).trans M;have a0:=(gA M).1;refine Rn.does0 b (.store 119 (.tmp 9) (.tmp 21)) (by kernel_rfl) (by simp) (λo g=>bM (cells:=cells) g (b.G 9) (b.G 21) U (by rw[j.1];exact Aq) (by rw[j.1];rfl) j.2) λa b=> ?_;have J:=setRow_heap Y z.heap.size eT cells 119 (0,0) U;have K:=(setRow_other Y z.heap.size B.heap.size cells (by omega)).trans V;have i:Below w.heap.size w (Y.setRow z.heap.size cells):=(kM I I.size u).trans (bN _ _ _ I.size);revert J K i;generalize Y.setRow z.heap.size cells=w6;intro J K i;clear U u V;refine Rn.S b 8 22 rfl λa b=> ?_;refine Rn.p rfl (Rn.p rfl (Rn.p rfl ?_));refine Ip (s:=qX (fz key) (nK key) sig) (k:=fz key) (rt:=jK KS key msg sig) (bad:=bad) (b9:=z.heap.size) (b7:=B.heap.size) (msg:=msg) (λO w' S=> ?_) rfl K (λO=> ?_) (b.only ⟨rfl,rfl,rfl,rfl,trivial⟩) λa w7 a1 b=> ?_
 ·rcases d with⟨n,_,_⟩|⟨_,_,F⟩
  ·exact xF KS a2 _ _ _ _ _ _ (E8 q n) msg hm w' (Li h0 (kM i i.size S) T) (Nat.lt_of_lt_of_le h0 (kM i i.size S).size)
  ·rw[F]at O;cases O
 ·rcases d with⟨_,hc,_⟩|⟨_,_,F⟩
  ·rw[J,hc]
  ·rw[F]at O;cases O
 have H:Below w.heap.size w w7:=kM i i.size a1;refine Rn.cond _ (b.G 32) ?_;rcases d with⟨n,_,rfl⟩|⟨E,_,rfl⟩
 ·by_cases hr:(jK KS key msg sig).data.toList=(key.extract 24 key.size).data.toList
  ·rw[show(false||((jK KS key msg sig).data.toList !=(fz key).root.data.toList))=false from by rw[Bool.false_or,bne_eq_false_iff_eq];exact hr];refine Rn.p rfl (Rn.p rfl (Rn.r (L:=[0]) rfl ?_));refine Rn.C b 6 (.i 0) λa b=> ?_;exact Rn.p rfl (Rn.ends rfl (.inr ⟨_,rfl⟩) (Rn.now ⟨a,_,_,rfl,b.defers,b.slot 6 _ rfl,0,rfl, .inr (.inr (.inr ⟨q,n,hr,rfl⟩)),H⟩))
  ·rw[show(false||((jK KS key msg sig).data.toList !=(fz key).root.data.toList))=true from by rw[Bool.false_or,bne_iff_ne];exact hr];refine Rn.p rfl (Rn.r (L:=[0]) rfl ?_);refine Rn.C b 6 (.i 10) λa b=> ?_;exact Rn.p rfl (Rn.ends rfl (.inr ⟨_,rfl⟩) (Rn.now ⟨a,_,_,rfl,b.defers,b.slot 6 _ rfl,10,rfl, .inr (.inr (.inl ⟨q,n,hr,rfl⟩)),H⟩))
 ·refine Rn.p rfl (Rn.r (L:=[0]) rfl ?_);refine Rn.C b 6 (.i 10) λa b=> ?_;exact Rn.p rfl (Rn.ends rfl (.inr ⟨_,rfl⟩) (Rn.now ⟨a,_,_,rfl,b.defers,b.slot 6 _ rfl,10,rfl, .inr (.inl ⟨q,E,rfl⟩),H⟩))
theorem IX:Tryz.f13.body=some (.seq (.region 0 (gT Tryz.f13 0) false) (.seq (.region 1 (gT Tryz.f13 1) false) .ret)):=by kernel_rfl
theorem qM(KS:List Int)(h:KS.length=64)(key msg sig:ByteArray)(k:msg.size<=281474976706560)(j:sig.size<=1125899906842624)(w:World)(g:w.rangeAt 0 0 (tL KS))(p:0<w.heap.size):
 Calls lT 13 #[.string key, .string msg, .string sig] w λe w'=>∃c,e= .returned (.i c)/\su KS key msg sig c/\Below w.heap.size w w':=by
 refine aX (t:=6) Lf.func13 rfl λr=> ?_;rw[bE (N:=11) [.string key, .string msg, .string sig] Lf.func13 IX rfl];have b:=aR [.string key, .string msg, .string sig] 11 (by simp);refine Rn.p rfl (Rn.r (L:=[0]) rfl ?_);refine Rn.C b 6 (.i 0) λa b=> ?_;refine Rn.p rfl (Rn.p rfl (Rn.r (L:=[0,1,2,3,4]) rfl ?_));refine Rn.y b 7 0 rfl λa b=> ?_;refine Rn.y b 8 1 rfl λa b=> ?_;refine Rn.y b 9 2 rfl λa b=> ?_;refine Rn.calls (f:=36) (xs:=#[.tmp 7, .tmp 8, .tmp 9]) (ats:=#[9,9,9]) (args:=#[.string key, .string msg, .string sig]) b 10 (by decide) (by kernel_rfl) (by simp[b.G 7,b.G 8,b.G 9]) Lf.func36 (by kernel_rfl) (by kernel_rfl)
  (R:=λv w'=>∃c,v= .i c/\su KS key msg sig c/\Below w.heap.size w w') ((sJ KS h key msg sig k j w g p).mono λe w' ⟨c,o,n,m⟩=>⟨_,o,c,rfl,n,m⟩) λv q i a b=> ?_
 obtain⟨c,rfl,d,l⟩:=i;refine Rn.S b 6 10 rfl λa b=> ?_;exact Rn.p rfl (Rn.ends rfl (.inr ⟨_,rfl⟩) (Rn.now ⟨a,_,_,rfl,b.defers,b.slot 6 _ rfl,c,rfl,d,l⟩))
end L1
section
open Go.Conc Go.RowKit
def ll(KS:List Int)(cv:Array Value)(w:World):Prop:=∃hb capH kb cap:Nat,cv=#[.slice (some ⟨hb,0,none⟩) 8 capH, .slice (some ⟨kb,0,none⟩) 64 cap]/\w.rangeAt hb 0 (aI H0)/\hb<w.heap.size/\w.rangeAt kb 0 (aI KS)/\kb<w.heap.size
def aE(t c:Int)(h wd n sh:Nat):Array Value:=#[.int .i64 t, .int .i64 c, .int .i64 h, .int .i64 wd, .int .i64 n, .int .i64 sh]
theorem pY{L:List Value}(d:Below w.heap.size w w')(a:b<w.heap.size)(h:w.rangeAt b 0 L):w'.rangeAt b 0 L:=λj v c=>by
 have:=h j v c;unfold World.cell? at this⊢;rw[d.block b a];exact this
theorem ll.mono(h:ll KS cv w)(a:Below w.heap.size w w'):ll KS cv w':=by
 obtain⟨b,j,e,i,rfl,g,d,f,c⟩:=h;exact⟨b,j,e,i,rfl,pY a d g,Nat.lt_of_lt_of_le d a.size,pY a c f,Nat.lt_of_lt_of_le c a.size⟩
theorem ll.two(h:ll KS cv w):∃c a,cv=#[c,a]:=by
 obtain⟨b,a,d,e,rfl,_⟩:=h;exact⟨_,_,rfl⟩
end
end Go.Proofs.YtkmoglhgkcnalaaGreatDoor
