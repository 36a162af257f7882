/- A part of what the last text of the claim imports: texts laid together, and made small, by a program. -/
import Derived.Test.YtkmoglhgkcnalaaGreatDoorOwn13
set_option maxHeartbeats 16000000
set_option maxRecDepth 100000
namespace Go.Proofs.YtkmoglhgkcnalaaGreatDoor
open Go
variable{n b i N l m k j:Nat}{w w':World}{fr:Frame}{v:Value}{cs:List Frame}{args cv:Array Value}{V RO D:Nat->Prop}{q main listen:Bool}{g:Goroutine}{a:Act}{K:List Item}{P:Program}{x:Operand}{ops:Array Oper}{KS:List Int}{t u:TypeId}{o:Oper}{f:FuncId}{es:Array Event}{Goal:Goroutine->World->Prop}{fn:Func}{rest:List Nat}{ds:List Deferred}{X:Ln}{F:List (Nat×Value)}{e:Event}{listed:Array Bool}{c:Int}{s msg key sig:ByteArray}
namespace L1
open Go.Conc Go.RowKit
theorem Gn{rt:ByteArray}{q T b4 b9 h wd sh:Nat}{t:Int}(i:key.size=56)(l:T+4<=sig.size)(k:40<=T)(j:T<1000000)(g:∀w',Below w.heap.size w w'->Calls lT 38 #[.agg cv, .agg (aE t c h wd n sh), .string (key.extract 8 24), .i q, .string (sig.extract 8 40), .string msg, .string (sig.extract 40 T), .string (sig.extract (T+4) sig.size)] w' λe f=>e= .returned (.string rt)/\Below w'.heap.size w' f)(r:ll KS cv w)(b:w.heap[b4]?=some (.cells cv 26))(d:w.heap[b9]?=some (.cells (aE t c h wd n sh) 29))
 (o:aJ [(1, .string key),(2, .string msg),(3, .string sig),(4, .pt b4),(9, .pt b9),(11, .i q),(12, .i T)] 85 [] a)
 (next:∀a w',(Below w.heap.size w w'/\aJ [(13, .string rt),(1, .string key),(2, .string msg),(3, .string sig),(4, .pt b4),(9, .pt b9),(11, .i q),(12, .i T)] 85 [] a)->Rn lT Goal (fr.atR a K) cs w'):
 Rn lT Goal (fr.atR a (.code (.region 12 (gT Tryz.f15 12) true)::K)) cs w:=by
 exact Rn.tab o [(65, .agg cv),(66, .agg (aE t c h wd n sh)),(67, .string key),(68, .string (key.extract 8 24)),(69, .i q),(70, .string sig),(71, .string (sig.extract 8 40)),(72, .string msg),(73, .string sig),(74, .i T),(75, .string (sig.extract 40 T)),(76, .string sig),(77, .i T),(78, .i ((T+4:Nat):Int)),(79, .string (sig.extract (T+4) sig.size)),(80, .string rt),(13, .string rt)] [67,69,70,72,73,74,76,77,13] 13
  ⟨λz=>dv (bO r.two z.e (z.k 4) ((z.b.block _ (gA b).1).trans b)),
   λz=>dv (gi z.e (z.k 9) ((z.b.block _ (gA d).1).trans d)),
   λz=>dv ((cV (m:=8) (n:=24) (z.e (p:= .slice 9 (.tmp 67) (some (.const (.i 8))) (some (.const (.i 24))) none)) (z.k 67) rfl rfl (by omega) (by omega)).1),
   λz=>dv ((cV (m:=8) (n:=40) (z.e (p:= .slice 9 (.tmp 70) (some (.const (.i 8))) (some (.const (.i 40))) none)) (z.k 70) rfl rfl (by omega) (by omega)).1),
   λz=>dv ((cV (m:=40) (n:=T) (z.e (p:= .slice 9 (.tmp 73) (some (.const (.i 40))) (some (.tmp 74)) none)) (z.k 73) rfl (z.k 74) (by omega) (by omega)).1),
   λz=>qo (cL (n:=4) (z.e (p:= .binOp .add 3 (.tmp 77) (.const (.i 4)) 3)) (z.k 77) rfl (by omega)) (by rw[show(T:Int)+4=((T+4:Nat):Int)from by omega]<;>rfl),
   λz=>dv (nT (n:=T+4) z.e (z.k 76) (z.k 78) l),
   λz=>z.c8 (z.k 65) (z.k 66) (z.k 68) (z.k 69) (z.k 71) (z.k 72) (z.k 75) (z.k 79) (g _ z.b),
   trivial⟩ next
def KW(sig:ByteArray)(b9 h H2 T:Nat)(q t c:Int)(c1 n1 n2:Bool):Nat->Value->World->Prop
 |0,v,_=>v= .int .i64 q
 |1,v,_=>v= .pointer (some ⟨b9,2,none⟩)
 |2,v,_=>v= .int .i64 h
 |3,v,_=>v= .int .i64 (H2:Int)
 |4,v,_=>v= .bool c1
 |5,v,_=>v= .bool c1
 |6,v,_=>c1=false->v= .string sig
 |7,v,_=>c1=false->v= .int .i64 (aP sig 4 8)
 |8,v,_=>c1=false->v= .pointer (some ⟨b9,1,none⟩)
 |9,v,_=>c1=false->v= .int .i64 c
 |10,v,_=>c1=false->v= .bool n1
 |11,v,_=>v= .bool (c1||n1)
 |12,v,_=>v= .bool (c1||n1)
 |13,v,_=>(c1||n1)=false->v= .string sig
 |14,v,_=>(c1||n1)=false->v= .int .i64 T
 |15,v,_=>(c1||n1)=false->v= .int .i64 (aP sig T (T+4))
 |16,v,_=>(c1||n1)=false->v= .pointer (some ⟨b9,0,none⟩)
 |17,v,_=>(c1||n1)=false->v= .int .i64 t
 |18,v,_=>(c1||n1)=false->v= .bool n2
 |_,v,_=>v= .bool (c1||n1||n2)
theorem E6{b9 h H2 T:Nat}{q t:Int}{c1 n1 n2:Bool}(m:Nat)(v:Value)(w w':World)(a:KW sig b9 h H2 T q t c c1 n1 n2 m v w):KW sig b9 h H2 T q t c c1 n1 n2 m v w':=by
 match m,a with
 |0,a|1,a|2,a|3,a|4,a|5,a|6,a|7,a|8,a|9,a|10,a|11,a|12,a|13,a|14,a|15,a|16,a|17,a|18,a|_+19,a=>exact a
theorem Gp{b4 b9 h wd sh H2 T:Nat}{q t:Int}{c1 n1 n2:Bool}(a3:H2=2^h)(ai:h<=8)(ak:H2<=256)(D:sig.size<=1125899906842624)(hT:T+4<=sig.size)(ag:8<=sig.size)(a2:c1=decide (q≥(H2:Int)))(a1:n1=(aP sig 4 8 !=c))(a0:n2=(aP sig T (T+4) !=t))(C:w.heap[b9]?=some (.cells (aE t c h wd n sh) 29))
 (hF:aJ [(1, .string key),(2, .string msg),(3, .string sig),(4, .pt b4),(9, .pt b9),(11, .i q),(12, .i T)] 85 [] a)
 (next:∀a w',(Below w.heap.size w w'/\aJ [(64, .bool (c1||n1||n2)),(1, .string key),(2, .string msg),(3, .string sig),(4, .pt b4),(9, .pt b9),(11, .i q),(12, .i T)] 85 [] a)->Rn lT Goal (fr.atR a K) cs w'):
 Rn lT Goal (fr.atR a (.code (.region 10 (gT Tryz.f15 10) true)::K)) cs w:=by
 refine Rn.growsG (fx:=[(1, .string key),(2, .string msg),(3, .string sig),(4, .pt b4),(9, .pt b9),(11, .i q),(12, .i T)]) (ds:=[45,46,47,48,49,50,51,52,53,54,55,56,57,58,59,60,61,62,63,64]) (N:=85) (df:=[]) (G:=KW sig b9 h H2 T q t c c1 n1 n2) (by kernel_rfl) (by kernel_rfl) (λm v w w' hg _=>E6 m v w w' hg) (λm o a w' hm s hb af A b=> ?_)
  (λm a w'=>m=20/\Below w.heap.size w w'/\aJ [(64, .bool (c1||n1||n2)),(1, .string key),(2, .string msg),(3, .string sig),(4, .pt b4),(9, .pt b9),(11, .i q),(12, .i T)] 85 [] a) (λa w' I=> ?_) (λm o a w' a9 hm s hS aj=> ?_) (λa w' hS=> ?_) hF.defers hF.size (hF.all (by simp))
 ·have first:∀{o:Oper} {R:Value->World->Prop} (q:Bool) (g d:Nat),o.guard=some (g,false)->((gT Tryz.f15 10)[g]?).bind (·.dst)=some d->a.tmps[d]?=some (.bool q)->(q=false->sD lT a o w' R)->(q=true->R undef w')->uE lT (gT Tryz.f15 10) a o w' R:=λ{o R} q g d S h2 h3 h4 h5=>by
   have hw:=mf (ops:=gT Tryz.f15 10) (tmps:=a.tmps) S h2 h3;cases q with
   |false=>exact .inl ⟨hw,h4 rfl⟩
   |true=>exact .inr ⟨hw,h5 rfl⟩
  have x:∀{m:Nat} {o:Oper} {d:Option Tmp} {p:Op} {g:Nat},(gT Tryz.f15 10)[m]?=some o->((gT Tryz.f15 10)[m]?).map (λo=>(o.dst,o.op,o.guard))=some (d,p,some (g,false))->o.op=p/\o.guard=some (g,false):=λ{m o d p g} s B=>by
   rw[s]at B;simp only[Option.map_some,Option.some.injEq,Prod.mk.injEq]at B;exact⟨B.2.1,B.2.2⟩
  have ah:m<20:=hm;rcases(by omega:m=0\/m=1\/m=2\/m=3\/m=4\/m=5\/m=6\/m=7\/m=8\/m=9\/m=10\/m=11\/m=12\/m=13\/m=14\/m=15\/m=16\/m=17\/m=18\/m=19)with rfl|rfl|rfl|rfl|rfl|rfl|rfl|rfl|rfl|rfl|rfl|rfl|rfl|rfl|rfl|rfl|rfl|rfl|rfl|rfl
  ·obtain⟨E,j,z⟩:=aN (d:=some 45) (p:= .move (.tmp 11)) s (by kernel_rfl);exact .inl ⟨z _,kX (.inl j) (A _ (mG (i:=5) rfl)) ⟨rfl,bR⟩⟩
  ·obtain⟨E,j,z⟩:=aN (d:=some 46) (p:= .fieldAddr 29 (.tmp 9) 2) s (by kernel_rfl);exact .inl ⟨z _,l0 (i5 2 (by decide) j (ce (A _ (mG (i:=4) rfl)))) ⟨rfl,bR⟩⟩
  ·obtain⟨E,j,z⟩:=aN (d:=some 47) (p:= .load 3 (.tmp 46)) s (by kernel_rfl);obtain⟨u,l,rfl⟩:=nE b 1 46;exact .inl ⟨z _,l0 (tM aG j (ce l) ((o9 ((hb.block _ (gA C).1).trans C) 2).trans rfl)).1 ⟨rfl,bR⟩⟩
  ·obtain⟨E,j,z⟩:=aN (d:=some 48) (p:= .binOp .shl 3 (.const (.i 1)) (.tmp 47) 3) s (by kernel_rfl);obtain⟨u,l,rfl⟩:=nE b 2 47;have hp:(1:Int)*2^h=(H2:Int):=(by rw[Int.one_mul,a3,Int.natCast_pow];rfl);refine .inl ⟨z _,l0 (gh (m:=1) (k:=h) j rfl (ce l) (by omega) (by rw[hp];omega)) ⟨?_,bR⟩⟩;rw[hp];rfl
  ·obtain⟨E,j,z⟩:=aN (d:=some 49) (p:= .binOp .geq 3 (.tmp 45) (.tmp 48) 3) s (by kernel_rfl);obtain⟨u,l,rfl⟩:=nE b 0 45;obtain⟨u2,F,rfl⟩:=nE b 3 48;exact .inl ⟨z _,l0 (uS j (ce l) (ce F)) ⟨by rw[a2];rfl,bR⟩⟩
  ·obtain⟨E,j,z⟩:=aN (d:=some 50) (p:= .move (.tmp 49)) s (by kernel_rfl);obtain⟨u,l,I⟩:=nE b 4 49;exact .inl ⟨z _,kX (.inl j) l ⟨I,bR⟩⟩
  ·obtain⟨j,y⟩:=x (d:=some 51) (p:= .move (.tmp 3)) s (by kernel_rfl);obtain⟨u,l,rfl⟩:=nE b 5 50;exact first c1 5 50 y (by kernel_rfl) l (λf=>kX (.inl j) (A _ (mG (i:=2) rfl)) ⟨λ_=>rfl,bR⟩) λf=>⟨λr=>(by rw[f]at r;cases r),bR⟩
  ·obtain⟨j,y⟩:=x (d:=some 52) (p:= .call {callee:= .value (.func 37),args:=#[.tmp 51, .const (.i 4), .const (.i 4)],argTypes:=#[9,3,3]}) s (by kernel_rfl);obtain⟨u,l,rfl⟩:=nE b 5 50;obtain⟨u6,Y,h6⟩:=nE b 6 51;refine first c1 5 50 y (by kernel_rfl) l (λf=> ?_) λf=>⟨λr=>(by rw[f]at r;cases r),bR⟩
   have Z:=aO (w:=w') j (show(#[Operand.tmp 51, .const (.i 4), .const (.i 4)]:Array Operand).map a.eval=#[.string sig, .i ((4:Nat):Int), .i ((4:Nat):Int)]from by simp only[List.map_toArray,List.map_cons,List.map_nil,ce Y,h6 f];rfl) (rI (P:=jx true Tryz.prog) Lf.func37 _);exact .inr ⟨_,_,Z.1,(lH sig 4 4 w' (by decide) (by omega) D).mono λe U h=>⟨_,h.1,λ_=>by rw[lN],by rw[h.2];exact bR⟩⟩
  ·obtain⟨j,y⟩:=x (d:=some 53) (p:= .fieldAddr 29 (.tmp 9) 1) s (by kernel_rfl);obtain⟨u,l,rfl⟩:=nE b 5 50;exact first c1 5 50 y (by kernel_rfl) l (λf=>l0 (i5 1 (by decide) j (ce (A _ (mG (i:=4) rfl)))) ⟨λ_=>rfl,bR⟩) λf=>⟨λr=>(by rw[f]at r;cases r),bR⟩
  ·obtain⟨j,y⟩:=x (d:=some 54) (p:= .load 3 (.tmp 53)) s (by kernel_rfl);obtain⟨u,l,rfl⟩:=nE b 5 50;obtain⟨u8,W,h8⟩:=nE b 8 53;exact first c1 5 50 y (by kernel_rfl) l (λf=>l0 ((tM (v:= .i c) aG j ((ce W).trans (h8 f)) ((o9 ((hb.block _ (gA C).1).trans C) 1).trans rfl)).1) ⟨λ_=>rfl,bR⟩) λf=>⟨λr=>(by rw[f]at r;cases r),bR⟩
  ·obtain⟨j,y⟩:=x (d:=some 55) (p:= .binOp .neq 3 (.tmp 52) (.tmp 54) 3) s (by kernel_rfl);obtain⟨u,l,rfl⟩:=nE b 5 50;obtain⟨u7,X,h7⟩:=nE b 7 52;obtain⟨u9,V,h9⟩:=nE b 9 54;exact first c1 5 50 y (by kernel_rfl) l (λf=>l0 (oJ j ((ce X).trans (h7 f)) ((ce V).trans (h9 f))) ⟨λ_=>by rw[a1],bR⟩) λf=>⟨λr=>(by rw[f]at r;cases r),bR⟩
  ·obtain⟨E,j,z⟩:=aN (d:=some 56) (p:= .pick (.tmp 50) (.const (.bool true)) (.tmp 55)) s (by kernel_rfl);obtain⟨u,l,rfl⟩:=nE b 5 50;obtain⟨u1,H,S⟩:=nE b 10 55;refine .inl ⟨z _,l0 (jJ j (ce l)) ⟨?_,bR⟩⟩;cases f:c1 with
   |true=>rfl
   |false=>exact(ce H).trans (S f)
  ·obtain⟨E,j,z⟩:=aN (d:=some 57) (p:= .move (.tmp 56)) s (by kernel_rfl);obtain⟨u,l,I⟩:=nE b 11 56;exact .inl ⟨z _,kX (.inl j) l ⟨I,bR⟩⟩
  ·obtain⟨j,y⟩:=x (d:=some 58) (p:= .move (.tmp 3)) s (by kernel_rfl);obtain⟨u,l,rfl⟩:=nE b 12 57;exact first (c1||n1) 12 57 y (by kernel_rfl) l (λf=>kX (.inl j) (A _ (mG (i:=2) rfl)) ⟨λ_=>rfl,bR⟩) λf=>⟨λr=>(by rw[f]at r;cases r),bR⟩
  ·obtain⟨j,y⟩:=x (d:=some 59) (p:= .move (.tmp 12)) s (by kernel_rfl);obtain⟨u,l,rfl⟩:=nE b 12 57;exact first (c1||n1) 12 57 y (by kernel_rfl) l (λf=>kX (.inl j) (A _ (mG (i:=6) rfl)) ⟨λ_=>rfl,bR⟩) λf=>⟨λr=>(by rw[f]at r;cases r),bR⟩
  ·obtain⟨j,y⟩:=x (d:=some 60) (p:= .call {callee:= .value (.func 37),args:=#[.tmp 58, .tmp 59, .const (.i 4)],argTypes:=#[9,3,3]}) s (by kernel_rfl);obtain⟨u,l,rfl⟩:=nE b 12 57;obtain⟨ae,Q,a8⟩:=nE b 13 58;obtain⟨ad,O,a7⟩:=nE b 14 59;refine first (c1||n1) 12 57 y (by kernel_rfl) l (λf=> ?_) λf=>⟨λr=>(by rw[f]at r;cases r),bR⟩
   have Z:=aO (w:=w') j (show(#[Operand.tmp 58, .tmp 59, .const (.i 4)]:Array Operand).map a.eval=#[.string sig, .i (T:Int), .i ((4:Nat):Int)]from by simp only[List.map_toArray,List.map_cons,List.map_nil,ce Q,a8 f,ce O,a7 f];rfl) (rI (P:=jx true Tryz.prog) Lf.func37 _);exact .inr ⟨_,_,Z.1,(lH sig T 4 w' (by decide) hT D).mono λe U h=>⟨_,h.1,λ_=>by rw[lN],by rw[h.2];exact bR⟩⟩
  ·obtain⟨j,y⟩:=x (d:=some 61) (p:= .fieldAddr 29 (.tmp 9) 0) s (by kernel_rfl);obtain⟨u,l,rfl⟩:=nE b 12 57;exact first (c1||n1) 12 57 y (by kernel_rfl) l (λf=>l0 (i5 0 (by decide) j (ce (A _ (mG (i:=4) rfl)))) ⟨λ_=>rfl,bR⟩) λf=>⟨λr=>(by rw[f]at r;cases r),bR⟩
  ·obtain⟨j,y⟩:=x (d:=some 62) (p:= .load 3 (.tmp 61)) s (by kernel_rfl);obtain⟨u,l,rfl⟩:=nE b 12 57;obtain⟨ab,L,a5⟩:=nE b 16 61;exact first (c1||n1) 12 57 y (by kernel_rfl) l (λf=>l0 ((tM (v:= .i t) aG j ((ce L).trans (a5 f)) ((o9 ((hb.block _ (gA C).1).trans C) 0).trans rfl)).1) ⟨λ_=>rfl,bR⟩) λf=>⟨λr=>(by rw[f]at r;cases r),bR⟩
  ·obtain⟨j,y⟩:=x (d:=some 63) (p:= .binOp .neq 3 (.tmp 60) (.tmp 62) 3) s (by kernel_rfl);obtain⟨u,l,rfl⟩:=nE b 12 57;obtain⟨ac,M,a6⟩:=nE b 15 60;obtain⟨aa,J,a4⟩:=nE b 17 62;exact first (c1||n1) 12 57 y (by kernel_rfl) l (λf=>l0 (oJ j ((ce M).trans (a6 f)) ((ce J).trans (a4 f))) ⟨λ_=>by rw[a0],bR⟩) λf=>⟨λr=>(by rw[f]at r;cases r),bR⟩
  ·obtain⟨E,j,z⟩:=aN (d:=some 64) (p:= .pick (.tmp 57) (.const (.bool true)) (.tmp 63)) s (by kernel_rfl);obtain⟨u,l,rfl⟩:=nE b 12 57;obtain⟨u1,H,S⟩:=nE b 18 63;refine .inl ⟨z _,l0 (jJ j (ce l)) ⟨?_,bR⟩⟩;show _=Value.bool ((c1||n1)||n2);cases f:(c1||n1)with
   |true=>rfl
   |false=>exact(ce H).trans (S f)
 ·obtain⟨u,l,F⟩:=I.come 19 64 rfl trivial;obtain rfl:=F;exact⟨rfl,I.old,I.base.more l⟩
 ·exact absurd (gA s).1 (by obtain⟨rfl,_⟩:=hS;decide)
 ·exact next a w' hS.2
theorem IW:Tryz.f15.body=some (.seq (.region 0 (gT Tryz.f15 0) false) (.seq (.seq (.region 1 (gT Tryz.f15 1) false) (.cond (.tmp 16) (.seq (.region 2 (gT Tryz.f15 2) false) .ret) .skip)) (.seq (.region 3 (gT Tryz.f15 3) false) (.seq (.seq (.region 4 (gT Tryz.f15 4) false) (.cond (.tmp 26) (.seq (.region 5 (gT Tryz.f15 5) false) .ret) .skip))
 (.seq (.seq (.region 6 (gT Tryz.f15 6) false) (.cond (.tmp 38) (.seq (.region 7 (gT Tryz.f15 7) false) .ret) .skip)) (.seq (.region 8 (gT Tryz.f15 8) false) (.seq (.region 9 (gT Tryz.f15 9) false) (.seq (.seq (.region 10 (gT Tryz.f15 10) true) (.cond (.tmp 64) (.seq (.region 11 (gT Tryz.f15 11) false) .ret) .skip))
 (.seq (.region 12 (gT Tryz.f15 12) true) (.seq (.seq (.region 13 (gT Tryz.f15 13) false) (.cond (.tmp 84) (.seq (.region 14 (gT Tryz.f15 14) false) .ret) .skip)) (.seq (.region 15 (gT Tryz.f15 15) false) .ret))))))))))):=rfl
theorem Ao(a:key.size=56):(decide (((hK key:Nat):Int)>0)&&decide (((wK key:Nat):Int)>0))=true↔fe key:=by
 unfold fe hK wK
 grind
theorem vL(a6:KS.length=64)(a5:gW KS)(key msg sig:ByteArray)(hm:msg.size<=281474976706560)(hk:key.size<=1125899906842624)(hs:sig.size<=1125899906842624)(w:World)(hC:ll KS cv w):
 Calls lT 15 #[.agg cv, .string key, .string msg, .string sig] w λe w'=>∃c,e= .returned (.i c)/\su KS key msg sig c/\Below w.heap.size w w':=by
 refine aX (t:=8) Lf.func15 rfl λcs=> ?_;rw[bE (N:=85) [.agg cv, .string key, .string msg, .string sig] Lf.func15 IW rfl];have b:=aR [.agg cv, .string key, .string msg, .string sig] 85 (by simp);refine Rn.p rfl (Rn.r (L:=[0,1]) rfl ?_);refine Rn.z b 4 0 26 rfl λa b=> ?_;show Rn _ _ _ _ (w.alloc (.cells cv 26));have y:=ox w (.cells cv 26);have h4:=y6 w (.cells cv 26);revert y h4;generalize w.alloc (.cells cv 26)=w1;intro y h4;have a7:=hC.mono y;refine Rn.C b 8 (.i 0) λa b=> ?_;have b:aJ [(1, .string key),(2, .string msg),(3, .string sig),(4, .pt w.heap.size)] 85 [] a:=b.only ⟨rfl,rfl,rfl,rfl,trivial⟩;have s:∀(id:Nat) (c:Int) (a:Act) (w':World) (F:List (Nat×Value)) (k:List Item),su KS key msg sig c->Below w.heap.size w w'->aJ F 85 [] a->List.range (gT Tryz.f15 id).size=[0]->((gT Tryz.f15 id)[0]?).map (λo=>(o.dst,o.op,o.guard))=some (some 8, .assign (.const (.i c)),none)->
  Rn lT (λg w'=>∃(a:Act) (k:List Item) (v:Value),g=gV {(base 15).atR a k with mode:= .returning} cs/\a.defers=[]/\a.tmps[8]?=some v/\∃c,Ending.returned v=Ending.returned (.i c)/\su KS key msg sig c/\Below w.heap.size w w') ((base 15).atR a (.code (.seq (.region id (gT Tryz.f15 id) false) .ret)::k)) cs w':=by
  intro id c a w' F k S hB b hL a1;refine Rn.p rfl (Rn.r hL ?_);refine Rn.asc b 8 (.i c) (by decide) a1 λa b=> ?_;exact Rn.p rfl (Rn.ends rfl (.inr ⟨_,rfl⟩) (Rn.now ⟨a,_,_,rfl,b.defers,b.slot 8 _ (by simp[List.lookup]),c,rfl,S,hB⟩))
 refine Rn.p rfl (Rn.p rfl (Rn.p rfl (Rn.r (L:=[0,1,2]) rfl ?_)));refine Rn.y b 14 1 rfl λa b=> ?_;refine Rn.O b 15 (.call {callee:= .builtin .len,args:=#[.tmp 14],argTypes:=#[9]}) (λo d=>rn d (b.G 14)) λa b=> ?_;refine Rn.O b 16 (.binOp .neq 3 (.tmp 15) (.const (.i 56)) 3) (λo d=>oJ d (b.G 15) rfl) λa b=> ?_;refine Rn.p rfl (Rn.cond _ (b.G 16) ?_);by_cases E:key.size=56
 ·rw[show((key.size:Int) !=56)=false from by simp;omega];refine Rn.p rfl (Rn.p rfl (Rn.r (L:=[0,1,2,3,4,5,6,7,8,9,10]) rfl ?_));refine Rn.y b 18 1 rfl λa b=> ?_;refine Rn.calls (f:=37) (xs:=#[.tmp 18, .const (.i 0), .const (.i 4)]) (ats:=#[9,3,3]) (args:=#[.string key, .i ((0:Nat):Int), .i ((4:Nat):Int)]) b 19 (by decide) (by kernel_rfl) (by simp only[List.map_toArray,List.map_cons,List.map_nil,b.G 18];rfl) Lf.func37 (by kernel_rfl) (by kernel_rfl)
   (R:=λv w'=>v= .i (aP key 0 4)/\w'=w1) ((lH key 0 4 w1 (by decide) (by omega) hk).mono λe w' h=>⟨_,h.1,by rw[lN],h.2⟩) λv w2 I a b=> ?_
  obtain⟨rfl,rfl⟩:=I;refine Rn.y b 20 1 rfl λa b=> ?_;refine Rn.calls (f:=37) (xs:=#[.tmp 20, .const (.i 4), .const (.i 4)]) (ats:=#[9,3,3]) (args:=#[.string key, .i ((4:Nat):Int), .i ((4:Nat):Int)]) b 21 (by decide) (by kernel_rfl) (by simp only[List.map_toArray,List.map_cons,List.map_nil,b.G 20];rfl) Lf.func37 (by kernel_rfl) (by kernel_rfl)
   (R:=λv w'=>v= .i (aP key 4 8)/\w'=w2) ((lH key 4 4 w2 (by decide) (by omega) hk).mono λe w' h=>⟨_,h.1,by rw[lN],h.2⟩) λv Q I a b=> ?_
  obtain⟨rfl,rfl⟩:=I;refine Rn.calls (f:=27) (xs:=#[.tmp 19, .tmp 21]) (ats:=#[3,3]) (args:=#[.i (aP key 0 4), .i (aP key 4 8)]) b 22 (by decide) (by kernel_rfl) (by simp only[List.map_toArray,List.map_cons,List.map_nil,b.G 19,b.G 21]) Lf.func27 (by kernel_rfl) (by kernel_rfl)
   (R:=λv w'=>v= .tuple #[.agg (aE (aP key 0 4) (aP key 4 8) (hK key) (wK key) (nK key) (vX key)), .bool (decide (((hK key:Nat):Int)>0)&&decide (((wK key:Nat):Int)>0))]/\Below Q.heap.size Q w') ((rK (aP key 0 4) (aP key 4 8) Q).mono λe w' h=>⟨_,h.1,rfl,h.2⟩) λv B I a b=> ?_
  obtain⟨rfl,u⟩:=I;refine Rn.y b 17 22 rfl λa b=> ?_;refine Rn.O b 23 (.extract (.tmp 17) 0) (λo d=>dF d (b.G 17) rfl) λa b=> ?_;refine Rn.O b 24 (.extract (.tmp 17) 1) (λo d=>dF d (b.G 17) rfl) λa b=> ?_;refine Rn.O b 9 (.alloc 29) (λo d=>qD d) λa b=> ?_;have h9:=y6 B (.cells (aE 0 0 0 0 0 0) 29);have z:=ox B (.cells (aE 0 0 0 0 0 0) 29);revert h9 z;generalize B.alloc (.cells (aE 0 0 0 0 0 0) 29)=P;intro h9 z;refine Rn.does0 b (.store 29 (.tmp 9) (.tmp 23)) (by kernel_rfl) (by simp) (λo d=>bM (cells:=aE (aP key 0 4) (aP key 4 8) (hK key) (wK key) (nK key) (vX key)) d (b.G 9) (b.G 23) h9 rL rfl (by simp[aE,Value.oneCell'])) λa b=> ?_;have p:=setRow_heap P B.heap.size _ (aE (aP key 0 4) (aP key 4 8) (hK key) (wK key) (nK key) (vX key)) _ _ h9;have X:=(gA h4).1;have ab:=u.size;have r:(P.setRow B.heap.size (aE (aP key 0 4) (aP key 4 8) (hK key) (wK key) (nK key) (vX key))).heap[w.heap.size]?=some (.cells cv 26):=(setRow_other P _ _ _ (by omega)).trans ((z.block _ (by omega)).trans ((u.block _ X).trans h4));have D:Below Q.heap.size Q (P.setRow B.heap.size (aE (aP key 0 4) (aP key 4 8) (hK key) (wK key) (nK key) (vX key))):=(kM u u.size z).trans (bN _ _ _ u.size);revert p r D;generalize P.setRow B.heap.size (aE (aP key 0 4) (aP key 4 8) (hK key) (wK key) (nK key) (vX key))=O;intro p r D;have A:Below w.heap.size w O:=kM y y.size D;have ae:=hC.mono A;clear h9 z u h4 D a7;refine Rn.S b 10 24 rfl λa b=> ?_;have b:aJ [(10, .bool (decide (((hK key:Nat):Int)>0)&&decide (((wK key:Nat):Int)>0))),(9, .pt B.heap.size),(1, .string key),(2, .string msg),(3, .string sig),(4, .pt w.heap.size)] 85 [] a:=b.only ⟨rfl,rfl,rfl,rfl,rfl,rfl,trivial⟩;refine Rn.p rfl (Rn.p rfl (Rn.p rfl (Rn.r (L:=[0,1]) rfl ?_)));refine Rn.y b 25 10 rfl λa b=> ?_;refine Rn.O b 26 (.unOp .not 4 (.tmp 25)) (λo d=>(lu d (b.G 25)).1) λa b=> ?_;refine Rn.p rfl (Rn.cond _ (b.G 26) ?_);by_cases l:fe key
  ·rw[(Ao E).2 l];obtain⟨hh,ac⟩:=kinds l;refine Rn.p rfl (Rn.p rfl (Rn.p rfl (Rn.r (L:=[0,1,2,3,4,5,6,7,8,9,10,11]) rfl ?_)));have b:aJ [(9, .pt B.heap.size),(1, .string key),(2, .string msg),(3, .string sig),(4, .pt w.heap.size)] 85 [] a:=b.only ⟨rfl,rfl,rfl,rfl,rfl,trivial⟩;refine Rn.y b 27 3 rfl λa b=> ?_;refine Rn.O b 28 (.call {callee:= .builtin .len,args:=#[.tmp 27],argTypes:=#[9]}) (λo d=>rn d (b.G 27)) λa b=> ?_;refine Rn.O b 29 (.fieldAddr 29 (.tmp 9) 4) (λo d=>i5 4 (by decide) d (b.G 9)) λa b=> ?_;refine Rn.O b 30 (.load 3 (.tmp 29)) (λo d=>(tM (v:= .i (nK key)) aG d (b.G 29) ((o9 p 4).trans rfl)).1) λa b=> ?_;refine Rn.O b 31 (.binOp .mul 3 (.const (.i 32)) (.tmp 30) 3) (λo d=>(dH (m:=32) d rfl (b.G 30) (by omega)).1) λa b=> ?_;refine Rn.O b 32 (.binOp .add 3 (.const (.i 40)) (.tmp 31) 3) (λo d=>cL (m:=40) d rfl (b.G 31) (by omega)) λa b=> ?_;refine Rn.O b 33 (.binOp .add 3 (.tmp 32) (.const (.i 4)) 3) (λo d=>cL (n:=4) d (b.G 32) rfl (by omega)) λa b=> ?_;refine Rn.O b 34 (.fieldAddr 29 (.tmp 9) 2) (λo d=>i5 2 (by decide) d (b.G 9)) λa b=> ?_;refine Rn.O b 35 (.load 3 (.tmp 34)) (λo d=>(tM (v:= .i (hK key)) aG d (b.G 34) ((o9 p 2).trans rfl)).1) λa b=> ?_;refine Rn.O b 36 (.binOp .mul 3 (.const (.i 32)) (.tmp 35) 3) (λo d=>(dH (m:=32) d rfl (b.G 35) (by omega)).1) λa b=> ?_;refine Rn.O b 37 (.binOp .add 3 (.tmp 33) (.tmp 36) 3) (λo d=>cL d (b.G 33) (b.G 36) (by omega)) λa b=> ?_;refine Rn.O b 38 (.binOp .neq 3 (.tmp 28) (.tmp 37) 3) (λo d=>oJ d (b.G 28) (b.G 37)) λa b=> ?_;refine Rn.p rfl (Rn.cond _ (b.G 38) ?_);by_cases U:sig.size=44+32*nK key+32*hK key
   ·rw[show((sig.size:Int) !=40+32*((nK key:Nat):Int)+4+32*((hK key:Nat):Int))=false from by simp;omega];have b:aJ [(9, .pt B.heap.size),(1, .string key),(2, .string msg),(3, .string sig),(4, .pt w.heap.size)] 85 [] a:=b.only ⟨rfl,rfl,rfl,rfl,rfl,trivial⟩;refine Rn.p rfl (Rn.p rfl (Rn.r (L:=[0,1,2]) rfl ?_));refine Rn.y b 39 3 rfl λa b=> ?_;refine Rn.calls (f:=37) (xs:=#[.tmp 39, .const (.i 0), .const (.i 4)]) (ats:=#[9,3,3]) (args:=#[.string sig, .i ((0:Nat):Int), .i ((4:Nat):Int)]) b 40 (by decide) (by kernel_rfl) (by simp only[List.map_toArray,List.map_cons,List.map_nil,b.G 39];rfl) Lf.func37 (by kernel_rfl) (by kernel_rfl)
     (R:=λv w'=>v= .i (aP sig 0 4)/\w'=O) ((lH sig 0 4 O (by decide) (by omega) hs).mono λe w' h=>⟨_,h.1,by rw[lN],h.2⟩) λv w7 I a b=> ?_
    obtain⟨rfl,rfl⟩:=I;refine Rn.S b 11 40 rfl λa b=> ?_;refine Rn.p rfl (Rn.p rfl (Rn.r (L:=[0,1,2,3,4]) rfl ?_));refine Rn.O b 41 (.fieldAddr 29 (.tmp 9) 4) (λo d=>i5 4 (by decide) d (b.G 9)) λa b=> ?_;refine Rn.O b 42 (.load 3 (.tmp 41)) (λo d=>(tM (v:= .i (nK key)) aG d (b.G 41) ((o9 p 4).trans rfl)).1) λa b=> ?_;refine Rn.O b 43 (.binOp .mul 3 (.const (.i 32)) (.tmp 42) 3) (λo d=>(dH (m:=32) d rfl (b.G 42) (by omega)).1) λa b=> ?_;refine Rn.O b 44 (.binOp .add 3 (.const (.i 40)) (.tmp 43) 3) (λo d=>cL (m:=40) d rfl (b.G 43) (by omega)) λa b=> ?_;rw[show(40:Int)+32*((nK key:Nat):Int)=((40+32*nK key:Nat):Int)from by omega]at b;refine Rn.S b 12 44 rfl λa b=> ?_;refine Rn.p rfl (Rn.p rfl (Rn.p rfl ?_));have a8:2^hK key<=256:=Nat.le_trans (Nat.pow_le_pow_right (by decide) (show hK key<=8 by omega)) (by decide);refine Gp (H2:=2^hK key) (T:=40+32*nK key) (q:=aP sig 0 4) rfl (by omega) a8 hs (by omega) (by omega) rfl rfl rfl p (b.only ⟨rfl,rfl,rfl,rfl,rfl,rfl,rfl,trivial⟩) λa w8 ⟨M,b⟩=> ?_;have C:Below w.heap.size w w8:=kM A A.size M;have K:=(M.block _ (gA r).1).trans r;have Y:=(M.block _ (gA p).1).trans p;have Z:=hC.mono C;refine Rn.cond _ (b.G 64) ?_;have e4:∀(x:ByteArray) (i:Nat),i+4<=x.size->(x.extract i (i+4)).size=4:=λx i h=>by rw[ByteArray.size_extract];omega
    have H:aP sig 4 8=aP key 4 8↔(sig.extract 4 8).data.toList=(key.extract 4 8).data.toList:=Af (e4 sig 4 (by omega)) (e4 key 4 (by omega));have G:aP sig (40+32*nK key) (40+32*nK key+4)=aP key 0 4↔(sig.extract (40+32*nK key) (40+32*nK key+4)).data.toList=(key.extract 0 4).data.toList:=Af (e4 sig _ (by omega)) (e4 key 0 (by omega));by_cases j:j9 (fz key) (hK key) (nK key) sig
    ·have e:(decide (aP sig 0 4≥((2^hK key:Nat):Int))||(aP sig 4 8 !=aP key 4 8)||(aP sig (40+32*nK key) (40+32*nK key+4) !=aP key 0 4))=false:=by
      obtain⟨_,h1,h2,h3⟩:=j;rw[show 44+32*nK key=40+32*nK key+4 from by omega]at h3;have a9:¬aP sig 0 4≥((2^hK key:Nat):Int):=(by rw[Int.natCast_pow];exact Int.not_le.2 h1);rw[decide_eq_false a9,H.2 h2,G.2 h3];simp
     rw[e];have f:=E8 l j;have h0:0<=aP sig 0 4:=(mp (sig.extract 0 4).data.toList 4 (by simp;omega)).1;have V:((aP sig 0 4).toNat:Int)=aP sig 0 4:=Int.toNat_of_nonneg h0;have a2:=f.leaf;rw[←V]at b;refine Rn.p rfl (Rn.p rfl ?_);have ad:(key.extract 8 24).size<=16:=(by rw[ByteArray.size_extract];omega);have aa:(sig.extract 8 40).size<=32:=(by rw[ByteArray.size_extract];omega);have J:nv KS (key.extract 8 24) (sig.extract 8 40) msg (sig.extract 40 (40+32*nK key)) (sig.extract (40+32*nK key+4) sig.size) (hK key) (wK key) (vX key) (nK key) (aP sig 0 4).toNat=jK KS key msg sig:=by
      have:=tE KS (qX (fz key) (nK key) sig) (hK key) (wK key) (vX key) (nK key) (aP sig 0 4).toNat msg V.symm rfl;rw[show 40+32*nK key+4=44+32*nK key from by omega];exact this
     refine Gn (KS:=KS) (rt:=jK KS key msg sig) E (by omega) (by omega) (by omega) (λw' a4=> ?_) Z K Y (b.only ⟨rfl,rfl,rfl,rfl,rfl,rfl,rfl,trivial⟩) λa w9 ⟨a3,b⟩=> ?_
     ·have:=Cv a6 a5 (key.extract 8 24) (sig.extract 8 40) msg (sig.extract 40 (40+32*nK key)) (sig.extract (40+32*nK key+4) sig.size) (aP key 0 4) (aP key 4 8) (hK key) (wK key) (vX key) (nK key) (aP sig 0 4).toNat f.wid f.shift8 f.one f.most (by omega) (by omega) (by omega) (by omega) (by rw[ByteArray.size_extract];omega) (by rw[ByteArray.size_extract];omega) w' (Z.mono a4);rw[J]at this;exact this
     have a0:Below w.heap.size w w9:=kM C C.size a3;refine Rn.p rfl (Rn.p rfl (Rn.r (L:=[0,1,2,3]) rfl ?_));refine Rn.y b 81 13 rfl λa b=> ?_;refine Rn.y b 82 1 rfl λa b=> ?_;refine Rn.O b 83 (.slice 9 (.tmp 82) (some (.const (.i 24))) none none) (λo d=>nT (n:=24) d (b.G 82) rfl (by omega)) λa b=> ?_;refine Rn.O b 84 (.binOp .neq 9 (.tmp 81) (.tmp 83) 9) (λo d=>qz d (b.G 81) (b.G 83)) λa b=> ?_;refine Rn.p rfl (Rn.cond _ (b.G 84) ?_);by_cases hr:(jK KS key msg sig).data.toList=(key.extract 24 key.size).data.toList
     ·rw[show((jK KS key msg sig).data.toList !=(key.extract 24 key.size).data.toList)=false from by rw[bne_eq_false_iff_eq];exact hr];refine Rn.p rfl ?_;exact s 15 0 a w9 _ _ (.inr (.inr (.inr ⟨l,j,hr,rfl⟩))) a0 b rfl (by kernel_rfl)
     ·rw[show((jK KS key msg sig).data.toList !=(key.extract 24 key.size).data.toList)=true from by rw[bne_iff_ne];exact hr];exact s 14 10 a w9 _ _ (.inr (.inr (.inl ⟨l,j,hr,rfl⟩))) a0 b rfl (by kernel_rfl)
    ·have e:(decide (aP sig 0 4≥((2^hK key:Nat):Int))||(aP sig 4 8 !=aP key 4 8)||(aP sig (40+32*nK key) (40+32*nK key+4) !=aP key 0 4))=true:=by
      refine Classical.byContradiction λW=>j ?_;rw[Bool.not_eq_true,Bool.or_eq_false_iff,Bool.or_eq_false_iff,decide_eq_false_iff_not,bne_eq_false_iff_eq,bne_eq_false_iff_eq]at W;obtain⟨⟨h1,h2⟩,h3⟩:=W;refine⟨U, ?_,H.1 h2, ?_⟩
      ·rw[Int.natCast_pow]at h1;exact Int.not_le.1 h1
      ·rw[show 44+32*nK key=40+32*nK key+4 from by omega];exact G.1 h3
     rw[e];exact s 11 10 a w8 _ _ (.inr (.inl ⟨l,j,rfl⟩)) C b rfl (by kernel_rfl)
   ·rw[show((sig.size:Int) !=40+32*((nK key:Nat):Int)+4+32*((hK key:Nat):Int))=true from by simp;omega];exact s 7 10 a O _ _ (.inr (.inl ⟨l,λh=>U h.1,rfl⟩)) A b rfl (by kernel_rfl)
  ·rw[show(decide (((hK key:Nat):Int)>0)&&decide (((wK key:Nat):Int)>0))=false from Bool.not_eq_true _▸λh=>l ((Ao E).1 h)];exact s 5 9 a O _ _ (.inl ⟨l,rfl⟩) A b rfl (by kernel_rfl)
 ·rw[show((key.size:Int) !=56)=true from by simp;omega];exact s 2 9 a w1 _ _ (.inl ⟨λh=>E h.1,rfl⟩) y b rfl (by kernel_rfl)
theorem F6{d:Int}(h:su KS key msg sig c)(j:su KS key msg sig d):c=d:=by
 rcases h with⟨i,rfl⟩|⟨i,b,rfl⟩|⟨i,b,g,rfl⟩|⟨i,b,g,rfl⟩<;>rcases j with⟨f,rfl⟩|⟨f,a,rfl⟩|⟨f,a,e,rfl⟩|⟨f,a,e,rfl⟩<;>first|rfl|exact absurd ‹fe key› ‹¬fe key›|exact absurd b a|exact absurd a b|exact absurd g e|exact absurd e g
section
variable{w:World}{ev:Operand->Value}{o:Oper}{x y:Operand}
theorem I3(a:o.op= .alloc 26):(execOp ev o).run lT w= .ok (.value (.pointer (some ⟨w.heap.size,0,none⟩))) (w.alloc (.cells #[.slice none 0 0, .slice none 0 0] 26)):=by
 have e:execOp ev o=(do pure (.value (←Instr.alloc 26 true (.tuple #[])))):=by simp only[execOp,a]
 have b:(do pure (.value (←Instr.alloc 26 true (.tuple #[]))):Sem Next).run lT w= .ok (.value (.pointer (some ⟨w.heap.size,0,none⟩))) (w.alloc (.cells #[.slice none 0 0, .slice none 0 0] 26)):=by kernel_rfl
 rw[e,b]
theorem FH{m n:Int}(a:o.op= .binOp .eql t x y u)(d:t=36)(c:ev x= .i m)(b:ev y= .i n):(execOp ev o).run lT w= .ok (.value (.bool (m==n))) w:=by
 subst d;simp[execOp,a,c,b,go_sem]
end
theorem K4:(lT.info? 26).map (·.size)=some 2:=by kernel_rfl
end L1
section
open Go.Conc Go.RowKit
structure Sc where
 t:Nat
 c:Nat
 h:Nat
 wd:Nat
 n:Nat
 sh:Nat
 id:ByteArray
 q:Nat
 seed:ByteArray
 path:ByteArray
 root:ByteArray
def Sc.cells(s:Sc):Array Value:=#[.int .i64 s.t, .int .i64 s.c, .int .i64 s.h, .int .i64 s.wd, .int .i64 s.n, .int .i64 s.sh, .string s.id, .int .i64 s.q, .string s.seed, .string s.path, .string s.root]
def El:ByteArray:=⟨#[255]⟩
theorem j2:El.size=1:=rfl
def Sc.kind(s:Sc):Array Value:=aE s.t s.c s.h s.wd s.n s.sh
section
variable{P:Program}
theorem ow{R:Ending->World->Prop}{t:Tmp}{ty:TypeId}{d:TypeDesc}(r:P.funcs[f]?=some fn)(c:fn.results=#[.cell t ty])(l:P.underlying ty=some d)(s:d.isRow=true)(q:(P.info? ty).map (·.size)=some n)
 (h:∀cs,Rn P (λg w'=>∃(a:Act) (k:List Item) (b:Nat) (cells:Array Value) (e:TypeId),g=gV {(base f).atR a k with mode:= .returning} cs/\a.defers=[]/\a.tmps[t]?=some (.pointer (some ⟨b,0,none⟩))/\w'.heap[b]?=some (.cells cells e)/\cells.size=n/\R (.returned (.agg cells)) w') (Frame.enter P f args .normal) cs w):Calls P f args w R:=λcs=>by
 obtain⟨C,w',B,a,k,b,cells,e,rfl,A,z,y,v,u⟩:=h cs;refine⟨.returned (.agg cells),w',{(base f).atR a k with mode:= .returning},u,StepsIn.steps B,rfl,rfl,A,rfl,fn,r, ?_⟩;have o:a.tmps[t]?.getD undef= .pointer (some ⟨b,0,none⟩):=by rw[z];rfl
 have m:w'.rangeAt b 0 cells.toList:=λj x i=>by
  rw[Nat.zero_add];have:w'.cell? ⟨b,j,none⟩=cells[j]?:=by simp[World.cell?,y]
  rw[this,←i,Array.getElem?_toList]
 have p:=run_loadVar_mid (P:=P) w' b 0 ty cells.toList d m l s (by rw[q];simp[v]);show(results fn a.tmps).run P w'=_;simp[results,c,o,asAddr,p]
end
end
namespace L1
open Go.Conc Go.RowKit
theorem mr:(lT.info? 31).map (·.size)=some 11:=by kernel_rfl
section
variable{w:World}{ev:Operand->Value}{o:Oper}{x y z u:Operand}{b:Nat}{s:Sc}
theorem rj(a:o.op= .fieldAddr 31 x 0)(c:ev x= .pointer (some ⟨b,0,none⟩)):(execOp ev o).run lT w= .ok (.value (.pointer (some ⟨b,0,none⟩))) w:=by
 have e:execOp ev o=(do pure (.value (←Instr.fieldAt 31 (.pointer (some ⟨b,0,none⟩)) 0))):=by simp only[execOp,a,c]
 have d:(do pure (.value (←Instr.fieldAt 31 (.pointer (some ⟨b,0,none⟩)) 0)):Sem Next).run lT w= .ok (.value (.pointer (some ⟨b,0,none⟩))) w:=by kernel_rfl
 rw[e,d]
theorem A2(a:o.op= .fieldAddr 31 x 1)(c:ev x= .pointer (some ⟨b,0,none⟩)):(execOp ev o).run lT w= .ok (.value (.pointer (some ⟨b,6,none⟩))) w:=by
 have e:execOp ev o=(do pure (.value (←Instr.fieldAt 31 (.pointer (some ⟨b,0,none⟩)) 1))):=by simp only[execOp,a,c]
 have d:(do pure (.value (←Instr.fieldAt 31 (.pointer (some ⟨b,0,none⟩)) 1)):Sem Next).run lT w= .ok (.value (.pointer (some ⟨b,6,none⟩))) w:=by kernel_rfl
 rw[e,d]
theorem Db(a:o.op= .fieldAddr 31 x 2)(c:ev x= .pointer (some ⟨b,0,none⟩)):(execOp ev o).run lT w= .ok (.value (.pointer (some ⟨b,7,none⟩))) w:=by
 have e:execOp ev o=(do pure (.value (←Instr.fieldAt 31 (.pointer (some ⟨b,0,none⟩)) 2))):=by simp only[execOp,a,c]
 have d:(do pure (.value (←Instr.fieldAt 31 (.pointer (some ⟨b,0,none⟩)) 2)):Sem Next).run lT w= .ok (.value (.pointer (some ⟨b,7,none⟩))) w:=by kernel_rfl
 rw[e,d]
theorem JU(a:o.op= .fieldAddr 31 x 3)(c:ev x= .pointer (some ⟨b,0,none⟩)):(execOp ev o).run lT w= .ok (.value (.pointer (some ⟨b,8,none⟩))) w:=by
 have e:execOp ev o=(do pure (.value (←Instr.fieldAt 31 (.pointer (some ⟨b,0,none⟩)) 3))):=by simp only[execOp,a,c]
 have d:(do pure (.value (←Instr.fieldAt 31 (.pointer (some ⟨b,0,none⟩)) 3)):Sem Next).run lT w= .ok (.value (.pointer (some ⟨b,8,none⟩))) w:=by kernel_rfl
 rw[e,d]
theorem Da(a:o.op= .fieldAddr 31 x 4)(c:ev x= .pointer (some ⟨b,0,none⟩)):(execOp ev o).run lT w= .ok (.value (.pointer (some ⟨b,9,none⟩))) w:=by
 have e:execOp ev o=(do pure (.value (←Instr.fieldAt 31 (.pointer (some ⟨b,0,none⟩)) 4))):=by simp only[execOp,a,c]
 have d:(do pure (.value (←Instr.fieldAt 31 (.pointer (some ⟨b,0,none⟩)) 4)):Sem Next).run lT w= .ok (.value (.pointer (some ⟨b,9,none⟩))) w:=by kernel_rfl
 rw[e,d]
theorem tD(a:o.op= .fieldAddr 31 x 5)(c:ev x= .pointer (some ⟨b,0,none⟩)):(execOp ev o).run lT w= .ok (.value (.pointer (some ⟨b,10,none⟩))) w:=by
 have e:execOp ev o=(do pure (.value (←Instr.fieldAt 31 (.pointer (some ⟨b,0,none⟩)) 5))):=by simp only[execOp,a,c]
 have d:(do pure (.value (←Instr.fieldAt 31 (.pointer (some ⟨b,0,none⟩)) 5)):Sem Next).run lT w= .ok (.value (.pointer (some ⟨b,10,none⟩))) w:=by kernel_rfl
 rw[e,d]
theorem nS(a:o.op= .load 31 x)(c:ev x= .pointer (some ⟨b,0,none⟩))(h:w.heap[b]?=some (.cells s.cells 31)):(execOp ev o).run lT w= .ok (.value (.agg s.cells)) w:=by
 have e:(isAgg 31).run lT w= .ok true w:=by kernel_rfl
 have d:=o9 h;simp[execOp,a,c,Instr.loadAt,loadVar,e,loadCells,loadCellsFrom,Addr.add,d,Sc.cells,go_sem]
theorem D9(a:o.op= .load 29 x)(c:ev x= .pointer (some ⟨b,0,none⟩))(h:w.heap[b]?=some (.cells s.cells 31)):(execOp ev o).run lT w= .ok (.value (.agg s.kind)) w:=by
 have e:(isAgg 29).run lT w= .ok true w:=by kernel_rfl
 have d:=o9 h;simp[execOp,a,c,Instr.loadAt,loadVar,e,loadCells,loadCellsFrom,Addr.add,d,Sc.cells,Sc.kind,aE,go_sem]
theorem uZ(a:o.op= .alloc 31):(execOp ev o).run lT w= .ok (.value (.pointer (some ⟨w.heap.size,0,none⟩))) (w.alloc (.cells (Sc.mk 0 0 0 0 0 0 ⟨#[]⟩ 0 ⟨#[]⟩ ⟨#[]⟩ ⟨#[]⟩).cells 31)):=by
 have e:execOp ev o=(do pure (.value (←Instr.alloc 31 true (.tuple #[])))):=by simp only[execOp,a]
 have b:(do pure (.value (←Instr.alloc 31 true (.tuple #[]))):Sem Next).run lT w= .ok (.value (.pointer (some ⟨w.heap.size,0,none⟩))) (w.alloc (.cells (Sc.mk 0 0 0 0 0 0 ⟨#[]⟩ 0 ⟨#[]⟩ ⟨#[]⟩ ⟨#[]⟩).cells 31)):=by kernel_rfl
 rw[e,b]
theorem Dc(a:o.op= .build 31 #[(0,x),(1,y),(2,z),(3,u)])(g:ev x= .agg s.kind)(f:ev y= .string s.id)(d:ev z= .i s.q)(c:ev u= .string s.seed):(execOp ev o).run lT w= .ok (.value (.agg {s with path:=⟨#[]⟩,root:=⟨#[]⟩}.cells)) w:=by
 have e:execOp ev o=(do pure (.value (←Instr.build 31 #[(0, .agg s.kind),(1, .string s.id),(2, .i s.q),(3, .string s.seed)]))):=by simp[execOp,a,g,f,d,c]
 have b:(do pure (.value (←Instr.build 31 #[(0, .agg s.kind),(1, .string s.id),(2, .i s.q),(3, .string s.seed)])):Sem Next).run lT w= .ok (.value (.agg {s with path:=⟨#[]⟩,root:=⟨#[]⟩}.cells)) w:=by kernel_rfl
 rw[e,b]
end
theorem Lf.func33:(jx q Tryz.prog).funcs[33]?=some Tryz.f33:=aC Tryz.func33 (by decide) rfl rfl (by kernel_rfl)
theorem Io(e:KS.length=64)(d:gW KS){s:Sc}{Xn:ByteArray}{f b4:Nat}(j:Xn=⟨(dx KS (s.id++ob i 2++El++s.seed).data.toList).toArray⟩)(l:i<65536)(g:s.id.size+3+s.seed.size<=140737488355328)(h:ll KS cv w)(c:w.heap[f]?=some (.cells cv 26))(b:w.heap[b4]?=some (.cells s.cells 31))
 (k:aJ [(2, .i i),(3, .pt f),(4, .pt b4)] 18 [] a)
 (next:∀a w',(Below w.heap.size w w'/\aJ [(6, .string Xn),(2, .i i),(3, .pt f),(4, .pt b4)] 18 [] a)->Rn lT Goal (fr.atR a K) cs w'):
 Rn lT Goal (fr.atR a (.code (.region 1 (gT Tryz.f33 1) true)::K)) cs w:=by
 exact Rn.tab k [(7, .agg cv),(8, .pointer (some ⟨b4,6,none⟩)),(9, .string s.id),(10, .i i),(11, .string (ob i 2)),(12, .string (s.id++ob i 2)),(13, .string (s.id++ob i 2++El)),(14, .pointer (some ⟨b4,8,none⟩)),(15, .string s.seed),(16, .string (s.id++ob i 2++El++s.seed)),(17, .string Xn),(6, .string Xn)] [10,6] 6
  ⟨λz=>dv (bO h.two z.e (z.k 3) ((z.b.block _ (gA c).1).trans c)),
   λz=>dv (A2 z.e (z.k 4)),
   λz=>dv ((tM aQ z.e (z.k 8) ((o9 ((z.b.block _ (gA b).1).trans b) 6).trans rfl)).1),
   λz=>z.c2 (z.k 10) kc (cB (i) 2 _ (by decide) (by omega)),
   λz=>dv (bA (z.e (p:= .binOp .add 9 (.tmp 9) (.tmp 11) 9)) (z.k 9) (z.k 11) (by first|(simp only[tl];omega)|(simp only[ByteArray.size_append,tl];omega))),
   λz=>dv (bA (z.e (p:= .binOp .add 9 (.tmp 12) (.const (.string ⟨#[255]⟩)) 9)) (z.k 12) rfl (by simp only[ByteArray.size_append,tl,j2];omega)),
   λz=>dv (JU z.e (z.k 4)),
   λz=>dv ((tM aQ z.e (z.k 14) ((o9 ((z.b.block _ (gA b).1).trans b) 8).trans rfl)).1),
   λz=>dv (bA (z.e (p:= .binOp .add 9 (.tmp 13) (.tmp 15) 9)) (z.k 13) (z.k 15) (by simp only[ByteArray.size_append,tl,j2];omega)),
   λz=>z.c2 (z.k 7) (z.k 16) (ig KS e d cv (s.id++ob i 2++El++s.seed) _ (h.mono z.b) (by simp only[ByteArray.size_append,tl,j2];omega)) (congrArg Value.string j.symm),
   trivial⟩ next
def gf(KS:List Int)(s:Sc)(i:Nat):ByteArray:=⟨(dx KS (s.id++ob i 2++El++s.seed).data.toList).toArray⟩
theorem IM:Tryz.f33.body=some (.seq (.region 0 (gT Tryz.f33 0) false) (.seq (.region 1 (gT Tryz.f33 1) true) .ret)):=by kernel_rfl
theorem tn(k:KS.length=64)(j:gW KS)(s:Sc)(i:Nat)(m:i<65536)(f:s.id.size+3+s.seed.size<=140737488355328)(w:World)(n:ll KS cv w):
 Calls lT 33 #[.agg cv, .agg s.cells, .i i] w λe w'=>e= .returned (.string (gf KS s i))/\Below w.heap.size w w':=by
 refine aX (t:=6) Lf.func33 rfl λq=> ?_;rw[bE (N:=18) [.agg cv, .agg s.cells, .i i] Lf.func33 IM rfl];have d:=aR [.agg cv, .agg s.cells, .i i] 18 (by simp);refine Rn.p rfl (Rn.r (L:=[0,1,2]) rfl ?_);refine Rn.z d 3 0 26 rfl λa d=> ?_;show Rn _ _ _ _ (w.alloc (.cells cv 26));refine Rn.z d 4 1 31 rfl λa d=> ?_;rw[mE]at d;show Rn _ _ _ _ ((w.alloc (.cells cv 26)).alloc (.cells s.cells 31));have c:Below w.heap.size w ((w.alloc (.cells cv 26)).alloc (.cells s.cells 31)):=kM (ox w _) (by rw[mE];omega) (ox _ _);have l:=(fm (w.alloc (.cells cv 26)) (.cells s.cells 31) (b:=w.heap.size) (by rw[mE];omega)).trans (y6 w _);have g:=y6 (w.alloc (.cells cv 26)) (.cells s.cells 31);rw[mE]at g;revert c l g;generalize (w.alloc (.cells cv 26)).alloc (.cells s.cells 31)=p;intro c l g;refine Rn.C d 6 (.string ⟨#[]⟩) λa d=> ?_;refine Rn.p rfl (Rn.p rfl ?_);refine Io k j rfl m f (n.mono c) l g (d.only ⟨rfl,rfl,rfl,trivial⟩) λa o ⟨h,d⟩=> ?_;exact Rn.ends rfl (.inr ⟨_,rfl⟩) (Rn.now ⟨a,_,_,rfl,d.defers,d.slot 6 _ rfl,rfl,kM c c.size h⟩)
theorem Lf.func10:(jx q Tryz.prog).funcs[10]?=some Tryz.f10:=aC Tryz.func10 (by decide) rfl rfl (by kernel_rfl)
theorem Ir{s:Sc}{b4:Nat}(f:s.t<1000)(g:s.c<1000)(d:s.id.size<=1000)(c:s.root.size<=1000)(b:w.heap[b4]?=some (.cells s.cells 31))
 (e:aJ [(1, .pt b4)] 18 [] a)
 (next:∀a w',(Below w.heap.size w w'/\aJ [(2, .string (ob s.t 4++ob s.c 4++s.id++s.root)),(1, .pt b4)] 18 [] a)->Rn lT Goal (fr.atR a K) cs w'):
 Rn lT Goal (fr.atR a (.code (.region 1 (gT Tryz.f10 1) true)::K)) cs w:=by
 exact Rn.tab e [(3, .pt b4),(4, .pt b4),(5, .i s.t),(6, .string (ob s.t 4)),(7, .pt b4),(8, .pointer (some ⟨b4,1,none⟩)),(9, .i s.c),(10, .string (ob s.c 4)),(11, .string (ob s.t 4++ob s.c 4)),(12, .pointer (some ⟨b4,6,none⟩)),(13, .string s.id),(14, .string (ob s.t 4++ob s.c 4++s.id)),(15, .pointer (some ⟨b4,10,none⟩)),(16, .string s.root),(17, .string (ob s.t 4++ob s.c 4++s.id++s.root)),(2, .string (ob s.t 4++ob s.c 4++s.id++s.root))] [2] 2
  ⟨λz=>dv (rj z.e (z.k 1)),
   λz=>dv (i5 0 (by decide) z.e (z.k 3)),
   λz=>dv ((tM aG z.e (z.k 4) ((o9 ((z.b.block _ (gA b).1).trans b) 0).trans rfl)).1),
   λz=>z.c2 (z.k 5) kc (cB (s.t) 4 _ (by decide) (by omega)),
   λz=>dv (rj z.e (z.k 1)),
   λz=>dv (i5 1 (by decide) z.e (z.k 7)),
   λz=>dv ((tM aG z.e (z.k 8) ((o9 ((z.b.block _ (gA b).1).trans b) 1).trans rfl)).1),
   λz=>z.c2 (z.k 9) kc (cB (s.c) 4 _ (by decide) (by omega)),
   λz=>dv (bA (z.e (p:= .binOp .add 9 (.tmp 6) (.tmp 10) 9)) (z.k 6) (z.k 10) (by first|(simp only[tl];omega)|(simp only[ByteArray.size_append,tl];omega))),
   λz=>dv (A2 z.e (z.k 1)),
   λz=>dv ((tM aQ z.e (z.k 12) ((o9 ((z.b.block _ (gA b).1).trans b) 6).trans rfl)).1),
   λz=>dv (bA (z.e (p:= .binOp .add 9 (.tmp 11) (.tmp 13) 9)) (z.k 11) (z.k 13) (by first|(simp only[tl];omega)|(simp only[ByteArray.size_append,tl];omega))),
   λz=>dv (tD z.e (z.k 1)),
   λz=>dv ((tM aQ z.e (z.k 15) ((o9 ((z.b.block _ (gA b).1).trans b) 10).trans rfl)).1),
   λz=>dv (bA (z.e (p:= .binOp .add 9 (.tmp 14) (.tmp 16) 9)) (z.k 14) (z.k 16) (by first|(simp only[tl];omega)|(simp only[ByteArray.size_append,tl];omega))),
   trivial⟩ next
theorem J0:Tryz.f10.body=some (.seq (.region 0 (gT Tryz.f10 0) false) (.seq (.region 1 (gT Tryz.f10 1) true) .ret)):=by kernel_rfl
theorem G3(s:Sc)(h:s.t<1000)(i:s.c<1000)(f:s.id.size<=1000)(d:s.root.size<=1000)(w:World):
 Calls lT 10 #[.agg s.cells] w λe w'=>e= .returned (.string (ob s.t 4++ob s.c 4++s.id++s.root))/\Below w.heap.size w w':=by
 refine aX (t:=2) Lf.func10 rfl λk=> ?_;rw[bE (N:=18) [.agg s.cells] Lf.func10 J0 rfl];have b:=aR [.agg s.cells] 18 (by simp);refine Rn.p rfl (Rn.r (L:=[0,1]) rfl ?_);refine Rn.z b 1 0 31 rfl λa b=> ?_;show Rn _ _ _ _ (w.alloc (.cells s.cells 31));have c:=ox w (.cells s.cells 31);refine Rn.C b 2 (.string ⟨#[]⟩) λa b=> ?_;refine Rn.p rfl (Rn.p rfl ?_);refine Ir h i f d (y6 w _) (b.only ⟨rfl,trivial⟩) λa j ⟨g,b⟩=> ?_;exact Rn.ends rfl (.inr ⟨_,rfl⟩) (Rn.now ⟨a,_,_,rfl,b.defers,b.slot 2 _ rfl,rfl,kM c c.size g⟩)
theorem Lf.func28:(jx q Tryz.prog).funcs[28]?=some Tryz.f28:=aC Tryz.func28 (by decide) rfl rfl (by kernel_rfl)
def yB(KS:List Int)(s:Sc)(i:Nat):ByteArray:=rO KS s.id s.q i (bQ s.wd) 0 (gf KS s i)
def iQ(KS:List Int)(s:Sc):Nat->ByteArray
 |0=>⟨#[]⟩
 |i+1=>iQ KS s i++yB KS s i
def pB(KS:List Int)(seed:ByteArray)(n:Nat):ByteArray:=⟨(dx KS (ob n 4++seed).data.toList).toArray⟩
def lJ(KS:List Int)(seed:ByteArray)(lf:Nat):Nat->ByteArray
 |0=>⟨#[]⟩
 |i+1=>lJ KS seed lf i++pB KS seed (bT lf i)
def gJ(KS:List Int)(id seed:ByteArray)(lf:Nat)(x:ByteArray):Nat->ByteArray
 |0=>x
 |i+1=>B5 KS id (bT lf i) (pB KS seed (bT lf i)) (gJ KS id seed lf x i)
theorem A0(KS:List Int)(s:Sc)(i:Nat):(yB KS s i).size=32:=Lq KS s.id s.q i _ 0 _ (cX KS _)
theorem np(KS:List Int)(s:Sc):∀i,(iQ KS s i).size=32*i
 |0=>rfl
 |i+1=>by rw[iQ,ByteArray.size_append,np KS s i,A0];omega
theorem iL(KS:List Int)(seed:ByteArray)(lf:Nat):∀i,(lJ KS seed lf i).size=32*i
 |0=>rfl
 |i+1=>by rw[lJ,ByteArray.size_append,iL KS seed lf i,pB,cX];omega
theorem nc(KS:List Int)(id seed:ByteArray)(lf:Nat)(x:ByteArray)(a:x.size=32):∀i,(gJ KS id seed lf x i).size=32
 |0=>a
 |_+1=>dT KS _
theorem Gk(j:KS.length=64)(g:gW KS){s:Sc}{en:ByteArray}{u o b10 b4:Nat}(C:i<65536)(e:s.id.size+3+s.seed.size<=140737488355328)(r:s.id.size<=1000)(y:s.q<4294967296)(x:s.wd<=8)(D:2^s.wd<=256)(B:1<=2^s.wd)(q:bQ s.wd<65536)(l:ll KS cv w)(b:w.heap[u]?=some (.cells cv 26)){t:Int}{h sh:Nat}(f:w.heap[o]?=some (.cells (aE t c h s.wd n sh) 29))(d:w.heap[b4]?=some (.cells s.cells 31))
 (A:aJ [(2, .string s.id),(3, .i s.q),(4, .string s.seed),(5, .pt u),(6, .pt o),(10, .pt b10),(11, .pt b4),(12, .string en),(13, .i i)] 93 [] a)
 (next:∀a w',(Below w.heap.size w w'/\aJ [(14, .string (yB KS s i)),(2, .string s.id),(3, .i s.q),(4, .string s.seed),(5, .pt u),(6, .pt o),(10, .pt b10),(11, .pt b4),(12, .string en),(13, .i i)] 93 [] a)->Rn lT Goal (fr.atR a K) cs w'):
 Rn lT Goal (fr.atR a (.code (.region 6 (gT Tryz.f28 6) true)::K)) cs w:=by
 exact Rn.tab A [(28, .agg cv),(29, .string s.id),(30, .i s.q),(31, .i i),(32, .pointer (some ⟨o,3,none⟩)),(33, .i s.wd),(34, .i ((2^s.wd:Nat):Int)),(35, .i (bQ s.wd)),(36, .agg cv),(37, .agg s.cells),(38, .i i),(39, .string (gf KS s i)),(40, .string (yB KS s i)),(14, .string (yB KS s i))] [29,30,31,38,14] 14
  ⟨λz=>dv (bO l.two z.e (z.k 5) ((z.b.block _ (gA b).1).trans b)),
   λz=>dv (i5 3 (by decide) z.e (z.k 6)),
   λz=>dv ((tM aG z.e (z.k 32) ((o9 ((z.b.block _ (gA f).1).trans f) 3).trans rfl)).1),
   λz=>by
    have v:(1:Int)*2^s.wd=((2^s.wd:Nat):Int):=(by rw[Int.one_mul,Int.natCast_pow];rfl);exact qo (gh (m:=1) (k:=s.wd) (z.e (p:= .binOp .shl 3 (.const (.i 1)) (.tmp 33) 3)) rfl (z.k 33) (by omega) (by rw[v];omega)) (by rw[v]<;>rfl),
   λz=>qo (gZ (n:=1) (z.e (p:= .binOp .sub 3 (.tmp 34) (.const (.i 1)) 3)) (z.k 34) rfl (by omega)) (by exact congrArg (Value.int .i64) (by unfold bQ;omega)),
   λz=>dv (bO l.two z.e (z.k 5) ((z.b.block _ (gA b).1).trans b)),
   λz=>dv (nS z.e (z.k 11) ((z.b.block _ (gA d).1).trans d)),
   λz=>z.c3 (z.k 36) (z.k 37) (z.k 38) (tn j g s i (by omega) e _ (l.mono z.b)),
   λz=>z.c7 (z.k 28) (z.k 29) (z.k 30) (z.k 31) kc (z.k 35) (z.k 39) (yP j g s.id (gf KS s i) s.q i 0 (bQ s.wd) y (by omega) (by decide) q r (cX KS _) _ (l.mono z.b)),
   trivial⟩ next
theorem Gj(e:KS.length=64)(d:gW KS){id seed:ByteArray}{b f b10 b4:Nat}(i:pB KS seed b=⟨(dx KS (ob b 4++seed).data.toList).toArray⟩)(k:b<4294967296)(g:seed.size+4<=140737488355328)(h:ll KS cv w)(c:w.heap[f]?=some (.cells cv 26))
 (j:aJ [(2, .string id),(4, .string seed),(5, .pt f),(10, .pt b10),(11, .pt b4),(15, .i b)] 93 [] a)
 (next:∀a w',(Below w.heap.size w w'/\aJ [(16, .string (pB KS seed b)),(2, .string id),(4, .string seed),(5, .pt f),(10, .pt b10),(11, .pt b4),(15, .i b)] 93 [] a)->Rn lT Goal (fr.atR a K) cs w'):
 Rn lT Goal (fr.atR a (.code (.region 12 (gT Tryz.f28 12) true)::K)) cs w:=by
 exact Rn.tab j [(60, .agg cv),(61, .i b),(62, .string (ob b 4)),(63, .string seed),(64, .string (ob b 4++seed)),(65, .string (pB KS seed b)),(16, .string (pB KS seed b))] [61,63,16] 16
  ⟨λz=>dv (bO h.two z.e (z.k 5) ((z.b.block _ (gA c).1).trans c)),
   λz=>z.c2 (z.k 61) kc (cB (b) 4 _ (by decide) (by omega)),
   λz=>dv (bA (z.e (p:= .binOp .add 9 (.tmp 62) (.tmp 63) 9)) (z.k 62) (z.k 63) (by first|(simp only[tl];omega)|(simp only[ByteArray.size_append,tl];omega))),
   λz=>z.c2 (z.k 60) (z.k 64) (ig KS e d cv (ob b 4++seed) _ (h.mono z.b) (by first|(simp only[tl];omega)|(simp only[ByteArray.size_append,tl];omega))) (congrArg Value.string i.symm),
   trivial⟩ next
section
variable{w:World}{ev:Operand->Value}{o:Oper}{x y:Operand}{m:Int}{u:TypeId}
theorem Hy(a:o.op= .unOp .neg 3 x)(b:ev x= .i m)(h: -9223372036854775808<= -m/\ -m<9223372036854775808):(execOp ev o).run lT w= .ok (.value (.i (-m))) w:=by
 have e:IntKind.i64.wrap (-m)= -m:=by rw[IntKind.wrap_i64];omega
 simp[execOp,a,b,go_sem,e]
theorem Di{t:ByteArray}(a:o.op= .slice 9 x none (some y) none)(c:ev x= .string t)(b:ev y= .i n)(e:n<=t.size):(execOp ev o).run lT w= .ok (.value (.string (t.extract 0 n))) w:=by
 have d:lT.underlying 9=some .string:=by kernel_rfl
 simp[execOp,a,c,b,Instr.sliceAt,Instr.slice,Instr.sliceBounds,run_underlying d,Instr.sliceBound,asIntOf,e]
end
theorem IV:Tryz.f17.body=some (.seq (.region 0 (gT Tryz.f17 0) false) (.seq (.seq (.region 1 (gT Tryz.f17 1) false) (.cond (.tmp 6) (.seq (.region 2 (gT Tryz.f17 2) false) .ret) .skip)) (.seq (.seq (.region 3 (gT Tryz.f17 3) false) (.cond (.tmp 8) (.region 4 (gT Tryz.f17 4) false) .skip)) (.seq (.region 5 (gT Tryz.f17 5) false) .ret)))):=by kernel_rfl
theorem wG(d:0<n)(b:aJ [(0, .i m),(1, .i n)] 15 [] a)(next:∀a,aJ [(4, .i ((m%n:Nat):Int))] 15 [] a->Rn lT Goal ((base 17).atR a [.code .ret]) cs w):
 Rn lT Goal ((base 17).atR a [.code (.seq (.region 5 (gT Tryz.f17 5) false) .ret)]) cs w:=by
 refine Rn.p rfl (Rn.r (L:=[0,1,2,3]) rfl ?_);refine Rn.y b 12 0 rfl λa b=> ?_;refine Rn.y b 13 1 rfl λa b=> ?_;refine Rn.O b 14 (.binOp .rem 3 (.tmp 12) (.tmp 13) 3) (λo c=>uQ c (b.G 12) (b.G 13) d) λa b=> ?_;refine Rn.S b 4 14 rfl λa b=> ?_;exact Rn.p rfl (next a (b.only ⟨rfl,trivial⟩))
def tO(c:Int)(n:Nat):Nat:=(if c<0 then-(c+1)else c).toNat%n
theorem wH(c:Int)(a:0<n):tO c n<n:=Nat.mod_lt _ a
theorem tP(c:Int)(n:Nat)(g: -9223372036854775808<=c/\c<9223372036854775808)(f:0<n)(w:World):
 Calls lT 17 #[.i c, .i n] w λe w'=>e= .returned (.i (tO c n:Nat))/\w'=w:=by
 refine aX (t:=4) Lf.func17 rfl λi=> ?_;rw[bE (N:=15) [.i c, .i n] Lf.func17 IV rfl];have b:=aR [.i c, .i n] 15 (by simp);refine Rn.p rfl (Rn.r (L:=[0]) rfl ?_);refine Rn.C b 4 (.i 0) λa b=> ?_;refine Rn.p rfl (Rn.p rfl (Rn.p rfl (Rn.r (L:=[0,1]) rfl ?_)));refine Rn.y b 5 1 rfl λa b=> ?_;refine Rn.O b 6 (.binOp .eql 3 (.tmp 5) (.const (.i 0)) 3) (λo d=>kD d (b.G 5) rfl) λa b=> ?_;refine Rn.p rfl (Rn.cond _ (b.G 6) ?_);rw[show((n:Int)==0)=false from by simp;omega];have b:aJ [(0, .i c),(1, .i n)] 15 [] a:=b.only ⟨rfl,rfl,trivial⟩;refine Rn.p rfl (Rn.p rfl (Rn.p rfl (Rn.r (L:=[0,1]) rfl ?_)));refine Rn.y b 7 0 rfl λa b=> ?_;refine Rn.O b 8 (.binOp .lss 3 (.tmp 7) (.const (.i 0)) 3) (λo d=>(cH d (b.G 7) rfl).1) λa b=> ?_;refine Rn.p rfl (Rn.cond _ (b.G 8) ?_);by_cases h:c<0
 ·rw[decide_eq_true h];have b:aJ [(0, .i c),(1, .i n)] 15 [] a:=b.only ⟨rfl,rfl,trivial⟩;refine Rn.r (L:=[0,1,2,3]) rfl ?_;refine Rn.y b 9 0 rfl λa b=> ?_;refine Rn.O b 10 (.binOp .add 3 (.tmp 9) (.const (.i 1)) 3) (λo d=>cL (n:=1) d (b.G 9) rfl (by omega)) λa b=> ?_;refine Rn.O b 11 (.unOp .neg 3 (.tmp 10)) (λo d=>Hy d (b.G 10) (by omega)) λa b=> ?_;refine Rn.S b 0 11 rfl λa b=> ?_;refine Rn.p rfl (wG (m:=(-(c+1)).toNat) f (b.only ⟨?_,rfl,trivial⟩) λa b=>Rn.ends rfl (.inr ⟨_,rfl⟩) (Rn.now ⟨a,_,_,rfl,b.defers,b.slot 4 _ rfl,by simp[tO,h],rfl⟩));rw[Int.toNat_of_nonneg (by omega)];rfl
 ·rw[decide_eq_false h];refine Rn.p rfl (wG (m:=c.toNat) f (b.only ⟨?_,rfl,trivial⟩) λa b=>Rn.ends rfl (.inr ⟨_,rfl⟩) (Rn.now ⟨a,_,_,rfl,b.defers,b.slot 4 _ rfl,by simp[tO,h],rfl⟩));rw[Int.toNat_of_nonneg (by omega)];rfl
theorem tN(c:Int)(n:Nat)(b: -9223372036854775808<=c/\c<9223372036854775808)(a:0<n)(w:World):
 Calls lT 17 #[.i c, .i n] w λe w'=>∃r:Nat,e= .returned (.i r)/\r<n/\w'=w:=(tP c n b a w).mono λ_ _ h=>⟨_,h.1,wH c a,h.2⟩
section
variable{Goal:Goroutine->World->Prop}{b:Frame}{a:Act}{k:List Item}{cs:List Frame}{w:World}{F:List (Nat×Value)}{N:Nat}{ds:List Deferred}{ops:Array Oper}{m:Nat}{rest:List Nat}
theorem Rn.pick(f:aJ F N ds a)(d x n:Nat)(i:F.lookup x=some (.i c))(t: -9223372036854775808<=c/\c<9223372036854775808)(q:0<n)
 (next:∀r:Nat,r<n->∀a',aJ ((d, .i r)::F) N ds a'->Rn lT Goal (b.atR a' (.inRegion ops rest::k)) cs w) (s:d<N:=by decide) (h:(ops[m]?).map (λo=>(o.dst,o.op,o.guard))=some (some d, .call {callee:= .value (.func 17),args:=#[.tmp x, .const (.i n)],argTypes:=#[3,3]},none):=by kernel_rfl):Rn lT Goal (b.atR a (.inRegion ops (m::rest)::k)) cs w:=by
 refine Rn.calls (args:=#[.i c, .i n]) f d s h (by simp only[List.map_toArray,List.map_cons,List.map_nil,f.get i];rfl) Lf.func17 (by kernel_rfl) (by kernel_rfl) (R:=λv g=>∃r:Nat,v= .i r/\r<n/\g=w) ((tN c n t q w).mono λe g ⟨r,z,y,u⟩=>⟨_,z,r,rfl,y,u⟩) λv g l a f=> ?_;obtain⟨r,rfl,p,j⟩:=l;rw[j];exact next r p a f
theorem Rn.cat(c:aJ F N ds a)(d x y:Nat){t:ByteArray}(f:F.lookup x=some (.string s))(e:F.lookup y=some (.string t))(g:s.size+t.size<=9223372036854775807)
 (next:∀a',aJ ((d, .string (s++t))::F) N ds a'->Rn lT Goal (b.atR a' (.inRegion ops rest::k)) cs w) (j:d<N:=by decide) (h:(ops[m]?).map (λo=>(o.dst,o.op,o.guard))=some (some d, .binOp .add 9 (.tmp x) (.tmp y) 9,none):=by kernel_rfl):Rn lT Goal (b.atR a (.inRegion ops (m::rest)::k)) cs w:=
 Rn.op c d (.binOp .add 9 (.tmp x) (.tmp y) 9) j h (by simp) (λo i=>bA i (c.get f) (c.get e) g) next
theorem Rn.kf(f:aJ F N ds a)(d e x j:Nat){c1 c2:Int}{p wd sh c:Nat}(v:Value)(q:F.lookup x=some (.pointer (some ⟨c,0,none⟩)))(i:w.heap[c]?=some (.cells (aE c1 c2 p wd n sh) 29))(r:j<6)(hv:(aE c1 c2 p wd n sh)[j]?=some v)
 (next:∀a',aJ ((e,v)::(d, .pointer (some ⟨c,j,none⟩))::F) N ds a'->Rn lT Goal (b.atR a' (.inRegion ops rest::k)) cs w) {l:Nat} (t:d<N:=by decide) (s:e<N:=by decide) (h:(ops[m]?).map (λo=>(o.dst,o.op,o.guard))=some (some d, .fieldAddr 29 (.tmp x) j,none):=by kernel_rfl) (u:(ops[l]?).map (λo=>(o.dst,o.op,o.guard))=some (some e, .load 3 (.tmp d),none):=by kernel_rfl):Rn lT Goal (b.atR a (.inRegion ops (m::l::rest)::k)) cs w:=by
 refine Rn.op f d (.fieldAddr 29 (.tmp x) j) t h (by simp) (λo g=>i5 j r g (f.get q)) λa f=> ?_;exact Rn.op f e (.load 3 (.tmp d)) s u (by simp) (λo g=>(tM aG g (f.get (d:=d) (by simp[List.lookup])) ((o9 i j).trans hv)).1) next
end
def va(f:Func):Code:= .seq (.seq (.region 4 (gT f 4) false) (.cond (.tmp 25) .skip (.exit 0))) (.seq (.block 1 (.seq (.region 6 (gT f 6) true) (.region 7 (gT f 7) false))) (.region 5 (gT f 5) false))
def qE(f:Func):Code:= .seq (.seq (.region 10 (gT f 10) false) (.cond (.tmp 57) .skip (.exit 2))) (.seq (.block 3 (.seq (.region 12 (gT f 12) true) (.seq (.region 13 (gT f 13) false) (.seq (.region 14 (gT f 14) false) (.cond (.tmp 73) (.region 15 (gT f 15) false) (.region 16 (gT f 16) false)))))) (.region 11 (gT f 11) false))
theorem IQ:Tryz.f28.body=some (.seq (.region 0 (gT Tryz.f28 0) false) (.seq (.region 1 (gT Tryz.f28 1) false) (.seq (.region 2 (gT Tryz.f28 2) false) (.seq (.seq (.region 3 (gT Tryz.f28 3) false) (.block 0 (.loop (va Tryz.f28)))) (.seq (.region 8 (gT Tryz.f28 8) false) (.seq (.seq (.region 9 (gT Tryz.f28 9) false) (.block 2 (.loop (qE Tryz.f28)))) (.seq (.region 17 (gT Tryz.f28 17) false) .ret))))))):=by kernel_rfl
structure Sw (w0 w:World) (cv:Array Value) (s:Sc) (N:Nat):Prop where
 at0:N=w0.heap.size
 old:Below w0.heap.size w0 w
 h5:w.heap[N]?=some (.cells cv 26)
 h6:w.heap[N+1]?=some (.cells (aE s.t s.c s.h s.wd s.n s.sh) 29)
 h10:w.heap[N+2]?=some (.cells (Sc.mk 0 0 0 0 0 0 ⟨#[]⟩ 0 ⟨#[]⟩ ⟨#[]⟩ ⟨#[]⟩).cells 31)
 h11:w.heap[N+3]?=some (.cells s.cells 31)
section
variable{w0 w w':World}{cv:Array Value}{s:Sc}{N:Nat}
theorem Sw.mono(h:Sw w0 w cv s N)(a:Below w.heap.size w w'):Sw w0 w' cv s N:=⟨h.at0,kM h.old h.old.size a,(a.block _ (gA h.h5).1).trans h.h5,(a.block _ (gA h.h6).1).trans h.h6,(a.block _ (gA h.h10).1).trans h.h10,(a.block _ (gA h.h11).1).trans h.h11⟩
theorem Sw.put(h:Sw w0 w cv s N)(s':Sc)(k:Nat)(v:Value)(e:s.cells.setIfInBounds k v=s'.cells)(b:(aE s.t s.c s.h s.wd s.n s.sh)=(aE s'.t s'.c s'.h s'.wd s'.n s'.sh)):Sw w0 (w.setCell ⟨N+3,k,none⟩ v) cv s' N:=by
 have a:=cU w ⟨N+3,k,none⟩ v (Nat.le_refl (N+3));refine⟨h.at0,h.old.trans (a.mono (by have:=h.at0;omega)),(a.block _ (by omega)).trans h.h5, ?_,(a.block _ (by omega)).trans h.h10, ?_⟩
 ·rw[←b];exact(a.block _ (by omega)).trans h.h6
 ·rw[←e];exact gH h.h11
end
section
variable{KS:List Int}(hKl:KS.length=64)(hKw:gW KS){cv:Array Value}{Goal:Goroutine->World->Prop}{cs:List Frame}{fr:Frame}{w0:World}(hC0:ll KS cv w0){N:Nat}{K:List Item}
include hKl hKw hC0
theorem FZ{s:Sc}(f:s.id.size+3+s.seed.size<=140737488355328)(j:s.id.size<=1000)(v:s.q<256)(r:oD s.wd)(x:s.n<=136)
 (next:∀a w,Sw w0 w cv s N->aJ [(2, .string s.id),(3, .i s.q),(4, .string s.seed),(5, .pt N),(6, .pt ((N+1))),(10, .pt ((N+2))),(11, .pt ((N+3))),(12, .string (iQ KS s s.n))] 93 [] a->Rn lT Goal (fr.atR a K) cs w):
 ∀(m i:Nat) (a:Act) (w:World),s.n- i=m->i<=s.n->Sw w0 w cv s N->aJ [(2, .string s.id),(3, .i s.q),(4, .string s.seed),(5, .pt N),(6, .pt ((N+1))),(10, .pt ((N+2))),(11, .pt ((N+3))),(12, .string (iQ KS s i)),(13, .i i)] 93 [] a->
  Rn lT Goal (fr.atR a (.code (va Tryz.f28):: .inLoop (va Tryz.f28):: .inBlock 0::K)) cs w:=by
 have l:2^s.wd<=256/\1<=2^s.wd/\s.wd<=8:=by rcases r with h|h|h<;>rw[h]<;>decide
 have g:bQ s.wd<65536:=by unfold bQ;omega
 intro m;induction m with
 |zero=>
  intro i a w t u c b;refine Rn.p rfl (Rn.p rfl (Rn.r (L:=[0,1,2,3]) rfl ?_));refine Rn.y b 22 13 rfl λa b=> ?_;refine Rn.kf b 23 24 6 4 (.i s.n) rfl c.h6 (by decide) rfl λa b=> ?_;refine Rn.O b 25 (.binOp .lss 3 (.tmp 22) (.tmp 24) 3) (λo d=>(cH d (b.G 22) (b.G 24)).1) λa b=> ?_;refine Rn.p rfl (Rn.cond _ (b.G 25) ?_);rw[decide_eq_false (by omega)];have e:i=s.n:=by omega
  subst e;exact Rn.p rfl (next a w c (b.only ⟨rfl,rfl,rfl,rfl,rfl,rfl,rfl,rfl,trivial⟩))
 |succ m q=>
  intro i a w t u c b;refine Rn.p rfl (Rn.p rfl (Rn.r (L:=[0,1,2,3]) rfl ?_));refine Rn.y b 22 13 rfl λa b=> ?_;refine Rn.kf b 23 24 6 4 (.i s.n) rfl c.h6 (by decide) rfl λa b=> ?_;refine Rn.O b 25 (.binOp .lss 3 (.tmp 22) (.tmp 24) 3) (λo d=>(cH d (b.G 22) (b.G 24)).1) λa b=> ?_;refine Rn.p rfl (Rn.cond _ (b.G 25) ?_);rw[decide_eq_true (by omega)];refine Rn.p rfl (Rn.p rfl (Rn.p rfl (Rn.p rfl ?_)));refine Gk hKl hKw (by omega) f j (by omega) l.2.2 l.1 l.2.1 g (hC0.mono c.old) c.h5 c.h6 c.h11 (b.only ⟨rfl,rfl,rfl,rfl,rfl,rfl,rfl,rfl,rfl,trivial⟩) λa p ⟨k,b⟩=> ?_;have c:=c.mono k;refine Rn.r (L:=[0,1,2,3]) rfl ?_;refine Rn.y b 41 12 rfl λa b=> ?_;refine Rn.y b 42 14 rfl λa b=> ?_;refine Rn.cat b 43 41 42 rfl rfl (by rw[np,A0];omega) λa b=> ?_;refine Rn.S b 12 43 rfl λa b=> ?_;refine Rn.p rfl (Rn.p rfl (Rn.r (L:=[0,1,2]) rfl ?_));refine Rn.y b 26 13 rfl λa b=> ?_;refine Rn.O b 27 (.binOp .add 3 (.tmp 26) (.const (.i 1)) 3) (λo d=>cL (n:=1) d (b.G 26) rfl (by omega)) λa b=> ?_;refine Rn.S b 13 27 rfl λa b=> ?_;refine Rn.p rfl (Rn.p rfl (q (i+1) a p (by omega) (by omega) c (b.only ⟨rfl,rfl,rfl,rfl,rfl,rfl,rfl,rfl, ?_,trivial⟩)));rw[Int.natCast_add];rfl
end
section
variable{Goal:Goroutine->World->Prop}{b:Frame}{a:Act}{k:List Item}{cs:List Frame}{w:World}{F:List (Nat×Value)}{N:Nat}{ds:List Deferred}{ops:Array Oper}{m:Nat}{rest:List Nat}
theorem Rn.sts(c:aJ F N ds a)(x y j:Nat){g:Nat}{cells:Array Value}{v0:Value}(f:F.lookup x=some (.pointer (some ⟨g,j,none⟩)))(e:F.lookup y=some (.string s))(d:w.heap[g]?=some (.cells cells t))(hv:cells[j]?=some v0)
 (next:∀a',aJ F N ds a'->Rn lT Goal (b.atR a' (.inRegion ops rest::k)) cs (w.setCell ⟨g,j,none⟩ (.string s))) (h:(ops[m]?).map (λo=>(o.dst,o.op,o.guard))=some (none, .store 9 (.tmp x) (.tmp y),none):=by kernel_rfl):Rn lT Goal (b.atR a (.inRegion ops (m::rest)::k)) cs w:=
 Rn.does0 c (.store 9 (.tmp x) (.tmp y)) h (by simp) (λo i=>(ey (ql:=true) (w:=w) (b:=g) (k:=j) (v:= .string s) (v0:=v0) rfl rfl (by kernel_rfl) i (c.get f) (c.get e) (by rw[o9 d];exact hv) (by simp[World.frozen?,d])).1) next
theorem Rn.sf(c:aJ F N ds a)(d e x j f:Nat){g:Nat}{s:Sc}(v:ByteArray)(n:F.lookup x=some (.pointer (some ⟨g,0,none⟩)))(q:∀o:Oper,o.op= .fieldAddr 31 (.tmp x) j->a.eval (.tmp x)= .pointer (some ⟨g,0,none⟩)->(execOp a.eval o).run lT w= .ok (.value (.pointer (some ⟨g,f,none⟩))) w)(p:w.heap[g]?=some (.cells s.cells 31))(hv:s.cells[f]?=some (.string v))
 (next:∀a',aJ ((e, .string v)::(d, .pointer (some ⟨g,f,none⟩))::F) N ds a'->Rn lT Goal (b.atR a' (.inRegion ops rest::k)) cs w) {l:Nat} (t:d<N:=by decide) (r:e<N:=by decide) (h:(ops[m]?).map (λo=>(o.dst,o.op,o.guard))=some (some d, .fieldAddr 31 (.tmp x) j,none):=by kernel_rfl) (u:(ops[l]?).map (λo=>(o.dst,o.op,o.guard))=some (some e, .load 9 (.tmp d),none):=by kernel_rfl):Rn lT Goal (b.atR a (.inRegion ops (m::l::rest)::k)) cs w:=by
 refine Rn.op c d (.fieldAddr 31 (.tmp x) j) t h (by simp) (λo i=>q o i (c.get n)) λa c=> ?_;exact Rn.op c e (.load 9 (.tmp d)) r u (by simp) (λo i=>(tM aQ i (c.get (d:=d) (by simp[List.lookup])) ((o9 p f).trans hv)).1) next
end
theorem tU{lf h:Nat}(g:2^h<=lf)(f:lf<2^(h+1))(i:Nat)(j:i<=h):(1<bT lf i↔i<h)/\1<=bT lf i/\bT lf i<=lf:=by
 rw[oh];have e:h=i+(h- i):=by omega
 have p:2^h=2^i*2^(h- i):=by rw[←Nat.pow_add,←e]
 have a:0<2^i:=Nat.pow_pos (by decide);have c:2^(h- i)<=lf/2^i:=by rw[Nat.le_div_iff_mul_le a,Nat.mul_comm,←p];exact g
 have b:1<=2^(h- i):=Nat.one_le_two_pow;refine⟨⟨λd=> ?_,λd=> ?_⟩,Nat.le_trans b c,Nat.div_le_self _ _⟩
 ·rcases Nat.lt_or_ge i h with k|k
  ·exact k
  ·have:i=h:=(by omega);subst this;have:lf/2^i<2:=(by rw[Nat.div_lt_iff_lt_mul a];rw[Nat.pow_succ]at f;omega);omega
 ·have:2<=2^(h- i):=by
   rw[show h- i=(h- i- 1)+1 from by omega,Nat.pow_succ];have:=Nat.one_le_two_pow (n:=h- i- 1);omega
  omega
def px(KS:List Int)(s:Sc)(lf:Nat)(x:ByteArray)(i:Nat):Sc:={s with path:=lJ KS s.seed lf i,root:=gJ KS s.id s.seed lf x i}
section
variable{KS:List Int}(hKl:KS.length=64)(hKw:gW KS){cv:Array Value}{Goal:Goroutine->World->Prop}{cs:List Frame}{fr:Frame}{w0:World}(hC0:ll KS cv w0){N:Nat}{K:List Item}
include hKl hKw hC0
theorem FY{s:Sc}{lf:Nat}{x:ByteArray}(k:x.size=32)(C:2^s.h<=lf)(B:lf<2^(s.h+1))(J:lf<512)(O:s.h<=8)(u:s.seed.size+4<=140737488355328)(M:s.id.size<=1000)
 (next:∀a w,Sw w0 w cv (px KS s lf x s.h) N->aJ [(10, .pt ((N+2))),(11, .pt ((N+3)))] 93 [] a->Rn lT Goal (fr.atR a K) cs w):
 ∀(m i:Nat) (a:Act) (w:World),s.h- i=m->i<=s.h->Sw w0 w cv (px KS s lf x i) N->aJ [(2, .string s.id),(4, .string s.seed),(5, .pt N),(10, .pt ((N+2))),(11, .pt ((N+3))),(15, .i (bT lf i))] 93 [] a->
  Rn lT Goal (fr.atR a (.code (qE Tryz.f28):: .inLoop (qE Tryz.f28):: .inBlock 2::K)) cs w:=by
 intro m;induction m with
 |zero=>
  intro i a w I z d b;have l:=tU C B i z;refine Rn.p rfl (Rn.p rfl (Rn.r (L:=[0,1]) rfl ?_));refine Rn.y b 56 15 rfl λa b=> ?_;refine Rn.O b 57 (.binOp .gtr 3 (.tmp 56) (.const (.i 1)) 3) (λo c=>lF c (b.G 56) rfl) λa b=> ?_;refine Rn.p rfl (Rn.cond _ (b.G 57) ?_);rw[decide_eq_false (by have:=l.1;omega)];have e:i=s.h:=by omega
  subst e;exact Rn.p rfl (next a w d (b.only ⟨rfl,rfl,trivial⟩))
 |succ m E=>
  intro i a w I z d b;have l:=tU C B i z;have F:=nc KS s.id s.seed lf x k i;have H:=iL KS s.seed lf i;refine Rn.p rfl (Rn.p rfl (Rn.r (L:=[0,1]) rfl ?_));refine Rn.y b 56 15 rfl λa b=> ?_;refine Rn.O b 57 (.binOp .gtr 3 (.tmp 56) (.const (.i 1)) 3) (λo c=>lF c (b.G 56) rfl) λa b=> ?_;refine Rn.p rfl (Rn.cond _ (b.G 57) ?_);rw[decide_eq_true (by have:=l.1;omega)];refine Rn.p rfl (Rn.p rfl (Rn.p rfl (Rn.p rfl ?_)));have G:(pB KS s.seed (bT lf i)).size=32:=cX KS _;refine Gj hKl hKw rfl (by omega) u (hC0.mono d.old) d.h5 (b.only ⟨rfl,rfl,rfl,rfl,rfl,rfl,trivial⟩) λa D ⟨A,b⟩=> ?_;have d:=d.mono A;refine Rn.p rfl (Rn.r (L:=[0,1,2,3,4,5]) rfl ?_);refine Rn.sf b 66 67 11 4 9 (lJ KS s.seed lf i) rfl (λo c k=>Da c k) d.h11 rfl λa b=> ?_;refine Rn.y b 68 16 rfl λa b=> ?_;refine Rn.cat b 69 67 68 rfl rfl (by omega) λa b=> ?_;refine Rn.O b 70 (.fieldAddr 31 (.tmp 11) 4) (λo c=>Da c (b.G 11)) λa b=> ?_;refine Rn.sts b 70 69 9 rfl rfl d.h11 rfl λa b=> ?_;have d:=d.put {px KS s lf x i with path:=lJ KS s.seed lf (i+1)} 9 (.string (lJ KS s.seed lf i++pB KS s.seed (bT lf i))) rfl rfl;revert d;generalize D.setCell ⟨N+3,9,none⟩ (.string (lJ KS s.seed lf i++pB KS s.seed (bT lf i)))=r;intro d;refine Rn.p rfl (Rn.p rfl (Rn.r (L:=[0,1,2]) rfl ?_));refine Rn.y b 71 15 rfl λa b=> ?_;refine Rn.O b 72 (.binOp .rem 3 (.tmp 71) (.const (.i 2)) 3) (λo c=>uQ (n:=2) c (b.G 71) rfl (by decide)) λa b=> ?_;refine Rn.O b 73 (.binOp .eql 3 (.tmp 72) (.const (.i 1)) 3) (λo c=>kD c (b.G 72) rfl) λa b=> ?_;refine Rn.p rfl (Rn.cond _ (b.G 73) ?_);have b:aJ [(2, .string s.id),(4, .string s.seed),(5, .pt N),(10, .pt ((N+2))),(11, .pt ((N+3))),(15, .i (bT lf i)),(16, .string (pB KS s.seed (bT lf i)))] 93 [] a:=b.only ⟨rfl,rfl,rfl,rfl,rfl,rfl,rfl,trivial⟩;have j:∀(a:Act) (q:World),Sw w0 q cv (px KS s lf x (i+1)) N->aJ [(2, .string s.id),(4, .string s.seed),(5, .pt N),(10, .pt ((N+2))),(11, .pt ((N+3))),(15, .i (bT lf i))] 93 [] a->Rn lT Goal (fr.atR a (.inBlock 3:: .code (.region 11 (gT Tryz.f28 11) false):: .inLoop (qE Tryz.f28):: .inBlock 2::K)) cs q:=by
   intro a q d b;refine Rn.p rfl (Rn.r (L:=[0,1,2]) rfl ?_);refine Rn.y b 58 15 rfl λa b=> ?_;refine Rn.O b 59 (.binOp .quo 3 (.tmp 58) (.const (.i 2)) 3) (λo c=>ml (n:=2) c (b.G 58) rfl (by decide) (by omega)) λa b=> ?_;refine Rn.S b 15 59 rfl λa b=> ?_;exact Rn.p rfl (Rn.p rfl (E (i+1) a q (by omega) (by omega) d (b.only ⟨rfl,rfl,rfl,rfl,rfl,rfl,trivial⟩)))
  by_cases g:bT lf i%2=1
  ·rw[show(((bT lf i%2:Nat):Int)==1)=true from by simp;omega];refine Rn.r (L:=[0,1,2,3,4,5,6,7,8,9]) rfl ?_;refine Rn.O b 74 (.load 26 (.tmp 5)) (λo c=>bO hC0.two c (b.G 5) d.h5) λa b=> ?_;refine Rn.y b 75 2 rfl λa b=> ?_;refine Rn.y b 76 15 rfl λa b=> ?_;refine Rn.O b 77 (.binOp .quo 3 (.tmp 76) (.const (.i 2)) 3) (λo c=>ml (n:=2) c (b.G 76) rfl (by decide) (by omega)) λa b=> ?_;refine Rn.y b 78 16 rfl λa b=> ?_;refine Rn.sf b 79 80 11 5 10 (gJ KS s.id s.seed lf x i) rfl (λo c k=>tD c k) d.h11 rfl λa b=> ?_;refine Rn.calls (f:=65) (xs:=#[.tmp 74, .tmp 75, .tmp 77, .tmp 78, .tmp 80]) (ats:=#[26,9,3,9,9]) (args:=#[.agg cv, .string s.id, .i ((bT lf i/2:Nat):Int), .string (pB KS s.seed (bT lf i)), .string (gJ KS s.id s.seed lf x i)]) b 81 (by decide) (by kernel_rfl) (by simp only[List.map_toArray,List.map_cons,List.map_nil,b.G 74,b.G 75,b.G 77,b.G 78,b.G 80]) Lf.func65 (by kernel_rfl) (by kernel_rfl)
    (R:=λv t=>v= .string (gJ KS s.id s.seed lf x (i+1))/\Below r.heap.size r t) ((kI hKl hKw s.id (pB KS s.seed (bT lf i)) (gJ KS s.id s.seed lf x i) (bT lf i/2) (by omega) (by omega) r (hC0.mono d.old)).mono λe t h=>⟨_,h.1,by rw[gJ,B5,if_pos g,if_pos g],h.2⟩) λv q y a b=> ?_
   obtain⟨rfl,p⟩:=y;have d:=d.mono p;refine Rn.O b 82 (.fieldAddr 31 (.tmp 11) 5) (λo c=>tD c (b.G 11)) λa b=> ?_;refine Rn.sts b 82 81 10 rfl rfl d.h11 rfl λa b=> ?_;exact Rn.p rfl (j a _ (d.put (px KS s lf x (i+1)) 10 (.string (gJ KS s.id s.seed lf x (i+1))) rfl rfl) (b.only ⟨rfl,rfl,rfl,rfl,rfl,rfl,trivial⟩))
  ·rw[show(((bT lf i%2:Nat):Int)==1)=false from by simp;omega];refine Rn.r (L:=[0,1,2,3,4,5,6,7,8,9]) rfl ?_;refine Rn.O b 83 (.load 26 (.tmp 5)) (λo c=>bO hC0.two c (b.G 5) d.h5) λa b=> ?_;refine Rn.y b 84 2 rfl λa b=> ?_;refine Rn.y b 85 15 rfl λa b=> ?_;refine Rn.O b 86 (.binOp .quo 3 (.tmp 85) (.const (.i 2)) 3) (λo c=>ml (n:=2) c (b.G 85) rfl (by decide) (by omega)) λa b=> ?_;refine Rn.sf b 87 88 11 5 10 (gJ KS s.id s.seed lf x i) rfl (λo c k=>tD c k) d.h11 rfl λa b=> ?_;refine Rn.y b 89 16 rfl λa b=> ?_;refine Rn.calls (f:=65) (xs:=#[.tmp 83, .tmp 84, .tmp 86, .tmp 88, .tmp 89]) (ats:=#[26,9,3,9,9]) (args:=#[.agg cv, .string s.id, .i ((bT lf i/2:Nat):Int), .string (gJ KS s.id s.seed lf x i), .string (pB KS s.seed (bT lf i))]) b 90 (by decide) (by kernel_rfl) (by simp only[List.map_toArray,List.map_cons,List.map_nil,b.G 83,b.G 84,b.G 86,b.G 88,b.G 89]) Lf.func65 (by kernel_rfl) (by kernel_rfl)
    (R:=λv t=>v= .string (gJ KS s.id s.seed lf x (i+1))/\Below r.heap.size r t) ((kI hKl hKw s.id (gJ KS s.id s.seed lf x i) (pB KS s.seed (bT lf i)) (bT lf i/2) (by omega) (by omega) r (hC0.mono d.old)).mono λe t h=>⟨_,h.1,by rw[gJ,B5,if_neg g,if_neg g],h.2⟩) λv q y a b=> ?_
   obtain⟨rfl,p⟩:=y;have d:=d.mono p;refine Rn.O b 91 (.fieldAddr 31 (.tmp 11) 5) (λo c=>tD c (b.G 11)) λa b=> ?_;refine Rn.sts b 91 90 10 rfl rfl d.h11 rfl λa b=> ?_;exact Rn.p rfl (j a _ (d.put (px KS s lf x (i+1)) 10 (.string (gJ KS s.id s.seed lf x (i+1))) rfl rfl) (b.only ⟨rfl,rfl,rfl,rfl,rfl,rfl,trivial⟩))
end
theorem D3(w:World)(a:Array Value)(s:Sc):Sw w (((((w.alloc (.cells a 26)).alloc (.cells (aE s.t s.c s.h s.wd s.n s.sh) 29)).alloc (.cells (Sc.mk 0 0 0 0 0 0 ⟨#[]⟩ 0 ⟨#[]⟩ ⟨#[]⟩ ⟨#[]⟩).cells 31)).alloc (.cells (Sc.mk 0 0 0 0 0 0 ⟨#[]⟩ 0 ⟨#[]⟩ ⟨#[]⟩ ⟨#[]⟩).cells 31)).setRow (w.heap.size+3) s.cells) a s w.heap.size:=by
 have e:(w.alloc (.cells a 26)).heap.size=w.heap.size+1:=mE w _;have c:((w.alloc (.cells a 26)).alloc (.cells (aE s.t s.c s.h s.wd s.n s.sh) 29)).heap.size=w.heap.size+2:=by rw[mE,e]
 have b:(((w.alloc (.cells a 26)).alloc (.cells (aE s.t s.c s.h s.wd s.n s.sh) 29)).alloc (.cells (Sc.mk 0 0 0 0 0 0 ⟨#[]⟩ 0 ⟨#[]⟩ ⟨#[]⟩ ⟨#[]⟩).cells 31)).heap.size=w.heap.size+3:=by rw[mE,c]
 have o:=y6 w (.cells a 26);have m:=y6 (w.alloc (.cells a 26)) (.cells (aE s.t s.c s.h s.wd s.n s.sh) 29);have l:=y6 ((w.alloc (.cells a 26)).alloc (.cells (aE s.t s.c s.h s.wd s.n s.sh) 29)) (.cells (Sc.mk 0 0 0 0 0 0 ⟨#[]⟩ 0 ⟨#[]⟩ ⟨#[]⟩ ⟨#[]⟩).cells 31);have j:=y6 (((w.alloc (.cells a 26)).alloc (.cells (aE s.t s.c s.h s.wd s.n s.sh) 29)).alloc (.cells (Sc.mk 0 0 0 0 0 0 ⟨#[]⟩ 0 ⟨#[]⟩ ⟨#[]⟩ ⟨#[]⟩).cells 31)) (.cells (Sc.mk 0 0 0 0 0 0 ⟨#[]⟩ 0 ⟨#[]⟩ ⟨#[]⟩ ⟨#[]⟩).cells 31);rw[e]at m;rw[c]at l;rw[b]at j;have i:=ox w (.cells a 26);have h:=ox (w.alloc (.cells a 26)) (.cells (aE s.t s.c s.h s.wd s.n s.sh) 29);have g:=ox ((w.alloc (.cells a 26)).alloc (.cells (aE s.t s.c s.h s.wd s.n s.sh) 29)) (.cells (Sc.mk 0 0 0 0 0 0 ⟨#[]⟩ 0 ⟨#[]⟩ ⟨#[]⟩ ⟨#[]⟩).cells 31);have d:=ox (((w.alloc (.cells a 26)).alloc (.cells (aE s.t s.c s.h s.wd s.n s.sh) 29)).alloc (.cells (Sc.mk 0 0 0 0 0 0 ⟨#[]⟩ 0 ⟨#[]⟩ ⟨#[]⟩ ⟨#[]⟩).cells 31)) (.cells (Sc.mk 0 0 0 0 0 0 ⟨#[]⟩ 0 ⟨#[]⟩ ⟨#[]⟩ ⟨#[]⟩).cells 31);have f:=λk n=>setRow_other ((((w.alloc (.cells a 26)).alloc (.cells (aE s.t s.c s.h s.wd s.n s.sh) 29)).alloc (.cells (Sc.mk 0 0 0 0 0 0 ⟨#[]⟩ 0 ⟨#[]⟩ ⟨#[]⟩ ⟨#[]⟩).cells 31)).alloc (.cells (Sc.mk 0 0 0 0 0 0 ⟨#[]⟩ 0 ⟨#[]⟩ ⟨#[]⟩ ⟨#[]⟩).cells 31)) (w.heap.size+3) k s.cells n;refine⟨rfl, ?_, ?_, ?_, ?_, ?_⟩
 ·exact(kM (kM (kM i i.size h) (by rw[c];omega) g) (by rw[b];omega) d).trans (bN _ _ _ (by omega))
 ·exact(f _ (by omega)).trans ((d.block _ (by rw[b];omega)).trans ((g.block _ (by rw[c];omega)).trans ((h.block _ (by rw[e];omega)).trans o)))
 ·exact(f _ (by omega)).trans ((d.block _ (by rw[b];omega)).trans ((g.block _ (by rw[c];omega)).trans m))
 ·exact(f _ (by omega)).trans ((d.block _ (by rw[b];omega)).trans l)
 ·exact setRow_heap _ _ _ _ _ _ j
def rH(KS:List Int)(s:Sc):ByteArray:=lC KS [s.id,ob (2^s.h+s.q) 4,ob 33410 2,lC KS [s.id,ob s.q 4,ob 32896 2,iQ KS s s.n]]
def cQ(KS:List Int)(s:Sc):Sc:=px KS s (2^s.h+s.q) (rH KS s) s.h
structure CL (s:Sc):Prop where
 len:s.id.size+100+s.seed.size<=140737488355328
 id:s.id.size<=1000
 q:s.q<2^s.h
 h:s.h<=5
 wd:oD s.wd
 n:s.n<=136
theorem ns(KS:List Int)(s:Sc)(p r:ByteArray):∀i,iQ KS {s with path:=p,root:=r} i=iQ KS s i
 |0=>rfl
 |i+1=>by rw[iQ,iQ,ns KS s p r i];rfl
theorem yz(l:KS.length=64)(j:gW KS)(s:Sc)(E:CL s)(w:World)(r:ll KS cv w):
 Calls lT 28 #[.agg cv, .agg s.kind, .string s.id, .i s.q, .string s.seed] w λe w'=>e= .returned (.agg (cQ KS s).cells)/\Below w.heap.size w w':=by
 obtain⟨O,y,M,H,G,F⟩:=E;have K:2^s.h<=32:=Nat.le_trans (Nat.pow_le_pow_right (by decide) H) (by decide);refine ow (t:=10) (ty:=31) (n:=11) Lf.func28 rfl (by rw[aZ];exact Tryz.underlying31) rfl mr λP=> ?_;rw[bE (N:=93) [.agg cv, .agg s.kind, .string s.id, .i s.q, .string s.seed] Lf.func28 IQ rfl];have c:=aR [.agg cv, .agg s.kind, .string s.id, .i s.q, .string s.seed] 93 (by simp);refine Rn.p rfl (Rn.r (L:=[0,1,2]) rfl ?_);refine Rn.z c 5 0 26 rfl λa c=> ?_;show Rn _ _ _ _ (w.alloc (.cells cv 26));refine Rn.z c 6 1 29 rfl λa c=> ?_;rw[mE]at c;show Rn _ _ _ _ ((w.alloc (.cells cv 26)).alloc (.cells (aE s.t s.c s.h s.wd s.n s.sh) 29));refine Rn.O c 10 (.alloc 31) (λo d=>uZ d) λa c=> ?_;rw[mE,mE]at c;have q:=y6 (w.alloc (.cells cv 26)) (.cells (aE s.t s.c s.h s.wd s.n s.sh) 29);have i:=(fm ((w.alloc (.cells cv 26)).alloc (.cells (aE s.t s.c s.h s.wd s.n s.sh) 29)) (.cells (Sc.mk 0 0 0 0 0 0 ⟨#[]⟩ 0 ⟨#[]⟩ ⟨#[]⟩ ⟨#[]⟩).cells 31) (b:=(w.alloc (.cells cv 26)).heap.size) (by simp only[mE];omega)).trans q;rw[mE]at i;refine Rn.p rfl (Rn.p rfl (Rn.r (L:=[0,1,2,3,4,5,6]) rfl ?_));refine Rn.O c 17 (.load 29 (.tmp 6)) (λo d=>gi d (c.G 6) i) λa c=> ?_;refine Rn.y c 18 2 rfl λa c=> ?_;refine Rn.y c 19 3 rfl λa c=> ?_;refine Rn.y c 20 4 rfl λa c=> ?_;refine Rn.O c 21 (.build 31 #[(0, .tmp 17),(1, .tmp 18),(2, .tmp 19),(3, .tmp 20)]) (λo d=>Dc (s:=s) d (c.G 17) (c.G 18) (c.G 19) (c.G 20)) λa c=> ?_;refine Rn.O c 11 (.alloc 31) (λo d=>uZ d) λa c=> ?_;have p:=y6 (((w.alloc (.cells cv 26)).alloc (.cells (aE s.t s.c s.h s.wd s.n s.sh) 29)).alloc (.cells (Sc.mk 0 0 0 0 0 0 ⟨#[]⟩ 0 ⟨#[]⟩ ⟨#[]⟩ ⟨#[]⟩).cells 31)) (.cells (Sc.mk 0 0 0 0 0 0 ⟨#[]⟩ 0 ⟨#[]⟩ ⟨#[]⟩ ⟨#[]⟩).cells 31);rw[mE,mE,mE]at c p;refine Rn.does0 c (.store 31 (.tmp 11) (.tmp 21)) (by kernel_rfl) (by simp) (λo d=>bM (cells:={s with path:=⟨#[]⟩,root:=⟨#[]⟩}.cells) d (c.G 11) (c.G 21) p mr rfl (by simp[Sc.cells,Value.oneCell'])) λa c=> ?_;have g:=D3 w cv {s with path:=⟨#[]⟩,root:=⟨#[]⟩};clear q i p;revert g;show Sw w _ cv {s with path:=⟨#[]⟩,root:=⟨#[]⟩} w.heap.size->_;generalize (((((w.alloc (.cells cv 26)).alloc (.cells (aE s.t s.c s.h s.wd s.n s.sh) 29)).alloc (.cells (Sc.mk 0 0 0 0 0 0 ⟨#[]⟩ 0 ⟨#[]⟩ ⟨#[]⟩ ⟨#[]⟩).cells 31)).alloc (.cells (Sc.mk 0 0 0 0 0 0 ⟨#[]⟩ 0 ⟨#[]⟩ ⟨#[]⟩ ⟨#[]⟩).cells 31)).setRow (w.heap.size+3) {s with path:=⟨#[]⟩,root:=⟨#[]⟩}.cells)=D;intro g;refine Rn.p rfl (Rn.p rfl (Rn.r (L:=[0]) rfl ?_));refine Rn.C c 12 (.string ⟨#[]⟩) λa c=> ?_;refine Rn.p rfl (Rn.p rfl (Rn.p rfl (Rn.r (L:=[0]) rfl ?_)));refine Rn.C c 13 (.i 0) λa c=> ?_;refine Rn.p rfl (Rn.p rfl (Rn.p rfl ?_));have z:s.q<32:=by omega
 refine FZ l j r (s:={s with path:=⟨#[]⟩,root:=⟨#[]⟩}) (by show s.id.size+3+s.seed.size<=_;omega) y (by show s.q<256;omega) G F (λa w g c=> ?_) s.n 0 a D rfl (Nat.zero_le _) g (c.only ⟨rfl,rfl,rfl,rfl,rfl,rfl,rfl,rfl,rfl,trivial⟩);have J:=np KS {s with path:=⟨#[]⟩,root:=⟨#[]⟩} s.n;refine Rn.p rfl (Rn.r (L:=[0,1,2,3,4,5,6,7]) rfl ?_);refine Rn.O c 44 (.load 26 (.tmp 5)) (λo d=>bO r.two d (c.G 5) g.h5) λa c=> ?_;refine Rn.O c 45 (.load 29 (.tmp 6)) (λo d=>gi d (c.G 6) g.h6) λa c=> ?_;refine Rn.y c 46 2 rfl λa c=> ?_;refine Rn.y c 47 3 rfl λa c=> ?_;refine Rn.y c 48 12 rfl λa c=> ?_;refine Rn.calls (f:=64) (xs:=#[.tmp 44, .tmp 45, .tmp 46, .tmp 47, .tmp 48]) (ats:=#[26,29,9,3,9]) (args:=#[.agg cv, .agg (aE s.t s.c s.h s.wd s.n s.sh), .string s.id, .i s.q, .string (iQ KS {s with path:=⟨#[]⟩,root:=⟨#[]⟩} s.n)]) c 49 (by decide) (by kernel_rfl) (by simp only[List.map_toArray,List.map_cons,List.map_nil,c.G 44,c.G 45,c.G 46,c.G 47,c.G 48]) Lf.func64 (by kernel_rfl) (by kernel_rfl)
  (R:=λv w'=>v= .string (rH KS s)/\Below w.heap.size w w') ((xl l j s.id (iQ KS {s with path:=⟨#[]⟩,root:=⟨#[]⟩} s.n) s.q s.h s.wd s.n s.sh s.t s.c (by omega) (by omega) (by omega) w (r.mono g.old)).mono λe w' h=>⟨_,h.1,by rw[rH,ns],h.2⟩) λv C I a c=> ?_
 obtain⟨rfl,u⟩:=I;have g:=g.mono u;refine Rn.O c 50 (.fieldAddr 31 (.tmp 11) 5) (λo d=>tD d (c.G 11)) λa c=> ?_;refine Rn.sts c 50 49 10 rfl rfl g.h11 rfl λa c=> ?_;have g:=g.put (px KS s (2^s.h+s.q) (rH KS s) 0) 10 (.string (rH KS s)) rfl rfl;revert g;generalize C.setCell _ _=B;intro g;refine Rn.p rfl (Rn.p rfl (Rn.p rfl (Rn.r (L:=[0,1,2,3,4,5]) rfl ?_)));refine Rn.kf c 51 52 6 2 (.i s.h) rfl g.h6 (by decide) rfl λa c=> ?_;have A:(1:Int)*2^s.h=((2^s.h:Nat):Int):=by rw[Int.one_mul,Int.natCast_pow];rfl
 refine Rn.O c 53 (.binOp .shl 3 (.const (.i 1)) (.tmp 52) 3) (λo d=>gh (m:=1) (k:=s.h) d rfl (c.G 52) (by omega) (by rw[A];omega)) λa c=> ?_;rw[A]at c;refine Rn.y c 54 3 rfl λa c=> ?_;refine Rn.O c 55 (.binOp .add 3 (.tmp 53) (.tmp 54) 3) (λo d=>cL d (c.G 53) (c.G 54) (by show _<=((2^s.h:Nat):Int)+(s.q:Int)/\_+(s.q:Int)<_;omega)) λa c=> ?_;refine Rn.S c 15 55 rfl λa c=> ?_;refine Rn.p rfl (Rn.p rfl (Rn.p rfl ?_));refine FY l j r (s:=s) (lf:=2^s.h+s.q) (x:=rH KS s) (dT KS _) (by omega) (by rw[Nat.pow_succ];omega) (by omega) (by omega) (by omega) y (λa w g c=> ?_) s.h 0 a B rfl (Nat.zero_le _) g (c.only ⟨rfl,rfl,rfl,rfl,rfl, ?_,trivial⟩)
 ·refine Rn.p rfl (Rn.r (L:=[0,1]) rfl ?_);refine Rn.O c 92 (.load 31 (.tmp 11)) (λo d=>nS d (c.G 11) g.h11) λa c=> ?_;refine Rn.does0 c (.store 31 (.tmp 10) (.tmp 92)) (by kernel_rfl) (by simp) (λo d=>bM (cells:=(cQ KS s).cells) d (c.G 10) (c.G 92) g.h10 mr rfl (by simp[Sc.cells,Value.oneCell'])) λa c=> ?_;exact Rn.p rfl (Rn.ends rfl (.inr ⟨_,rfl⟩) (Rn.now ⟨a,_,_,_,_,rfl,c.defers,c.slot 10 _ rfl,setRow_heap _ _ _ _ _ _ g.h10,rfl,rfl,g.old.trans (bN _ _ _ (by omega))⟩))
 ·show some (Value.i (((2^s.h:Nat):Int)+(s.q:Int)))=some (Value.i ((2^s.h+s.q:Nat):Int));rw[Int.natCast_add]
theorem Lf.func11:(jx q Tryz.prog).funcs[11]?=some Tryz.f11:=aC Tryz.func11 (by decide) rfl rfl (by kernel_rfl)
theorem Gv{s:Sc}{salt:ByteArray}{d b4:Nat}(f:s.q<1000)(g:s.c<1000)(c:salt.size<=1000)(b:w.heap[b4]?=some (.cells s.cells 31))
 (e:aJ [(2, .string salt),(3, .string msg),(4, .pt d),(5, .pt b4)] 68 [] a)
 (next:∀a w',(Below w.heap.size w w'/\aJ [(9, .string (ob s.q 4++ob s.c 4++salt)),(2, .string salt),(3, .string msg),(4, .pt d),(5, .pt b4)] 68 [] a)->Rn lT Goal (fr.atR a K) cs w'):
 Rn lT Goal (fr.atR a (.code (.region 1 (gT Tryz.f11 1) true)::K)) cs w:=by
 exact Rn.tab e [(13, .pointer (some ⟨b4,7,none⟩)),(14, .i s.q),(15, .string (ob s.q 4)),(16, .pt b4),(17, .pointer (some ⟨b4,1,none⟩)),(18, .i s.c),(19, .string (ob s.c 4)),(20, .string (ob s.q 4++ob s.c 4)),(21, .string salt),(22, .string (ob s.q 4++ob s.c 4++salt)),(9, .string (ob s.q 4++ob s.c 4++salt))] [21,9] 9
  ⟨λz=>dv (Db z.e (z.k 5)),
   λz=>dv ((tM aG z.e (z.k 13) ((o9 ((z.b.block _ (gA b).1).trans b) 7).trans rfl)).1),
   λz=>z.c2 (z.k 14) kc (cB (s.q) 4 _ (by decide) (by omega)),
   λz=>dv (rj z.e (z.k 5)),
   λz=>dv (i5 1 (by decide) z.e (z.k 16)),
   λz=>dv ((tM aG z.e (z.k 17) ((o9 ((z.b.block _ (gA b).1).trans b) 1).trans rfl)).1),
   λz=>z.c2 (z.k 18) kc (cB (s.c) 4 _ (by decide) (by omega)),
   λz=>dv (bA (z.e (p:= .binOp .add 9 (.tmp 15) (.tmp 19) 9)) (z.k 15) (z.k 19) (by first|(simp only[tl];omega)|(simp only[ByteArray.size_append,tl];omega))),
   λz=>dv (bA (z.e (p:= .binOp .add 9 (.tmp 20) (.tmp 21) 9)) (z.k 20) (z.k 21) (by first|(simp only[tl];omega)|(simp only[ByteArray.size_append,tl];omega))),
   trivial⟩ next
def Jl(cv:Array Value)(s:Sc)(salt msg Qb:ByteArray)(b4:Nat):Nat->Value->World->Prop
 |0,v,_=>v= .pointer (some ⟨b4,0,none⟩)
 |1,v,_=>v= .agg s.kind
 |2,v,_=>v= .agg cv
 |3,v,_=>v= .pointer (some ⟨b4,6,none⟩)
 |4,v,_=>v= .string s.id
 |5,v,_=>v= .pointer (some ⟨b4,7,none⟩)
 |6,v,_=>v= .int .i64 s.q
 |7,v,_=>v= .string salt
 |8,v,_=>v= .string msg
 |9,v,_=>v= .string Qb
 |10,v,w=>fW s.n (λc=>cp (fA Qb.data.toList s.wd s.sh) s.wd c) v w
 |_,v,w=>fW s.n (λc=>cp (fA Qb.data.toList s.wd s.sh) s.wd c) v w
theorem Cd{s:Sc}{salt Qb:ByteArray}{b4:Nat}(k:Nat)(v:Value)(w w':World)(a:Jl cv s salt msg Qb b4 k v w)(b:Below w.heap.size w w'):Jl cv s salt msg Qb b4 k v w':=by
 match k,a with
 |0,a|1,a|2,a|3,a|4,a|5,a|6,a|7,a|8,a|9,a=>exact a
 |10,a=>exact fW.mono a b
 |_+11,a=>exact fW.mono a b
theorem Gu(L:KS.length=64)(J:gW KS){s:Sc}{salt y Qb:ByteArray}{x b4:Nat}(r:Qb=lC KS [s.id,ob s.q 4,ob 33153 2,salt,msg])(U:oD s.wd)(D:s.sh<=8)(H:1<=s.n)(F:s.n<=34*(8/s.wd))(hq:s.q<1000)(p:s.id.size+6+salt.size+msg.size<=281474976710400)(R:ll KS cv w)(n:w.heap[x]?=some (.cells cv 26))(f:w.heap[b4]?=some (.cells s.cells 31))
 (M:aJ [(2, .string salt),(3, .string msg),(4, .pt x),(5, .pt b4),(9, .string y)] 68 [] a)
 (next:∀a w',(Below w.heap.size w w'/\∃v,fW s.n (λc=>cp (fA Qb.data.toList s.wd s.sh) s.wd c) v w'/\aJ [(10,v),(2, .string salt),(3, .string msg),(4, .pt x),(5, .pt b4),(9, .string y)] 68 [] a)->Rn lT Goal (fr.atR a K) cs w'):
 Rn lT Goal (fr.atR a (.code (.region 2 (gT Tryz.f11 2) true)::K)) cs w:=by
 refine Rn.grows (fx:=[(2, .string salt),(3, .string msg),(4, .pt x),(5, .pt b4),(9, .string y)]) (ds:=[23,24,25,26,27,28,29,30,31,32,33,10]) (N:=68) (df:=[]) (G:=Jl cv s salt msg Qb b4) (by kernel_rfl) (by kernel_rfl) Cd (λm o a w' Q g q j b=> ?_)
  (λm a w'=>m=12/\Below w.heap.size w w'/\∃v,fW s.n (λc=>cp (fA Qb.data.toList s.wd s.sh) s.wd c) v w'/\aJ [(10,v),(2, .string salt),(3, .string msg),(4, .pt x),(5, .pt b4),(9, .string y)] 68 [] a) (λa w' t=> ?_) (λm o a w' O Q g I W=> ?_) (λa w' I=> ?_) M.defers M.size (M.all (by simp))
 ·have V:m<12:=Q;rcases(by omega:m=0\/m=1\/m=2\/m=3\/m=4\/m=5\/m=6\/m=7\/m=8\/m=9\/m=10\/m=11)with rfl|rfl|rfl|rfl|rfl|rfl|rfl|rfl|rfl|rfl|rfl|rfl
  ·have d:=cy g 23 ( .fieldAddr 31 (.tmp 5) 0);exact l0 (rj d (ce (j _ (mG (i:=3) rfl)))) ⟨rfl,bR⟩
  ·have d:=cy g 24 ( .load 29 (.tmp 23));obtain⟨u,l,rfl⟩:=nE b 0 23;exact l0 (D9 d (ce l) ((q.block _ (gA f).1).trans f)) ⟨rfl,bR⟩
  ·have d:=cy g 25 ( .load 26 (.tmp 4));exact l0 (bO R.two d (ce (j _ (mG (i:=2) rfl))) ((q.block _ (gA n).1).trans n)) ⟨rfl,bR⟩
  ·have d:=cy g 26 ( .fieldAddr 31 (.tmp 5) 1);exact l0 (A2 d (ce (j _ (mG (i:=3) rfl)))) ⟨rfl,bR⟩
  ·have d:=cy g 27 ( .load 9 (.tmp 26));obtain⟨u,l,rfl⟩:=nE b 3 26;exact l0 (tM aQ d (ce l) ((o9 ((q.block _ (gA f).1).trans f) 6).trans rfl)).1 ⟨rfl,bR⟩
  ·have d:=cy g 28 ( .fieldAddr 31 (.tmp 5) 2);exact l0 (Db d (ce (j _ (mG (i:=3) rfl)))) ⟨rfl,bR⟩
  ·have d:=cy g 29 ( .load 3 (.tmp 28));obtain⟨u,l,rfl⟩:=nE b 5 28;exact l0 (tM aG d (ce l) ((o9 ((q.block _ (gA f).1).trans f) 7).trans rfl)).1 ⟨rfl,bR⟩
  ·have d:=cy g 30 ( .move (.tmp 2));exact kX (.inl d) (j _ (mG (i:=0) rfl)) ⟨rfl,bR⟩
  ·have d:=cy g 31 ( .move (.tmp 3));exact kX (.inl d) (j _ (mG (i:=1) rfl)) ⟨rfl,bR⟩
  ·have d:=cy g 32 ( .call {callee:= .value (.func 31),args:=#[.tmp 25, .tmp 27, .tmp 29, .tmp 30, .tmp 31],argTypes:=#[26,9,3,9,9]});obtain⟨T,k,rfl⟩:=nE b 2 25;obtain⟨u4,C,rfl⟩:=nE b 4 27;obtain⟨Z,B,rfl⟩:=nE b 6 29;obtain⟨Y,A,rfl⟩:=nE b 7 30;obtain⟨X,z,rfl⟩:=nE b 8 31;have E:=aO (w:=w') d (show(#[Operand.tmp 25, .tmp 27, .tmp 29, .tmp 30, .tmp 31]:Array Operand).map a.eval=#[.agg cv, .string s.id, .i s.q, .string salt, .string msg]from by simp[ce k,ce C,ce B,ce A,ce z]) (rI (P:=jx true Tryz.prog) Lf.func31 _);exact .inr ⟨_,_,E.1,(o6 L J s.id salt msg s.q (by omega) p w' (R.mono q)).mono λe S h=>⟨_,h.1,congrArg Value.string r.symm,h.2⟩⟩
  ·have d:=cy g 33 ( .call {callee:= .value (.func 30),args:=#[.tmp 24, .tmp 32],argTypes:=#[29,9]});obtain⟨u,l,rfl⟩:=nE b 1 24;obtain⟨T,k,rfl⟩:=nE b 9 32;have E:=aO (w:=w') d (show(#[Operand.tmp 24, .tmp 32]:Array Operand).map a.eval=#[.agg s.kind, .string Qb]from by simp[ce l,ce k]) (rI (P:=jx true Tryz.prog) Lf.func30 _);exact .inr ⟨_,_,E.1,AA Qb s.t s.c s.h s.wd s.n s.sh w' U D H F (by rw[r];exact dT _ _)⟩
  ·have d:=cy g 10 ( .assign (.tmp 33));obtain⟨u,l,t⟩:=nE b 10 33;exact kX (.inr d) l ⟨t,bR⟩
 ·obtain⟨u,l,k⟩:=t.come 11 10 rfl trivial;exact⟨rfl,t.old,u,k,t.base.more l⟩
 ·exact absurd (gA g).1 (by obtain⟨rfl,_⟩:=I;decide)
 ·exact next a w' I.2
theorem Gt(k:KS.length=64)(j:gW KS){s:Sc}{q:ByteArray}{d f g p b4:Nat}(m:i<s.n)(A:s.n<=136)(r:d<256)(h:s.id.size+3+s.seed.size<=140737488355328)(n:s.id.size<=1000)(y:s.q<1000)(o:f<w.heap.size)(u:w.cell? ⟨f,i,none⟩=some (.i (d:Int)))(l:ll KS cv w)(c:w.heap[p]?=some (.cells cv 26))(b:w.heap[b4]?=some (.cells s.cells 31))
 (x:aJ [(4, .pt p),(5, .pt b4),(9, .string q),(10, .slice (some ⟨f,0,none⟩) s.n g),(11, .i i)] 68 [] a)
 (next:∀a w',(Below w.heap.size w w'/\aJ [(12, .string (rO KS s.id s.q i d 0 (gf KS s i))),(4, .pt p),(5, .pt b4),(9, .string q),(10, .slice (some ⟨f,0,none⟩) s.n g),(11, .i i)] 68 [] a)->Rn lT Goal (fr.atR a K) cs w'):
 Rn lT Goal (fr.atR a (.code (.region 6 (gT Tryz.f11 6) true)::K)) cs w:=by
 exact Rn.tab x [(41, .agg cv),(42, .pointer (some ⟨b4,6,none⟩)),(43, .string s.id),(44, .pointer (some ⟨b4,7,none⟩)),(45, .i s.q),(46, .i i),(47, .slice (some ⟨f,0,none⟩) s.n g),(48, .i i),(49, .pointer (some ⟨f,i,none⟩)),(50, .i (d:Int)),(51, .agg cv),(52, .agg s.cells),(53, .i i),(54, .string (gf KS s i)),(55, .string (rO KS s.id s.q i d 0 (gf KS s i))),(12, .string (rO KS s.id s.q i d 0 (gf KS s i)))] [46,47,48,53,12] 12
  ⟨λz=>dv (bO l.two z.e (z.k 4) ((z.b.block _ (gA c).1).trans c)),
   λz=>dv (A2 z.e (z.k 5)),
   λz=>dv ((tM aQ z.e (z.k 42) ((o9 ((z.b.block _ (gA b).1).trans b) 6).trans rfl)).1),
   λz=>dv (Db z.e (z.k 5)),
   λz=>dv ((tM aG z.e (z.k 44) ((o9 ((z.b.block _ (gA b).1).trans b) 7).trans rfl)).1),
   λz=>qo ((eq (w:=_) (t:=24) (e:=3) (by kernel_rfl) (λw=>by kernel_rfl) z.e (z.k 47) (z.k 48) m).1) (by rw[jy,Nat.zero_add]<;>rfl),
   λz=>dv ((tM (v:= .i (d:Int)) aG z.e (z.k 49) ((World.cell?_of_block (w:=w) (a:=⟨f,i,none⟩) (z.b.block f o)).trans u)).1),
   λz=>dv (bO l.two z.e (z.k 4) ((z.b.block _ (gA c).1).trans c)),
   λz=>dv (nS z.e (z.k 5) ((z.b.block _ (gA b).1).trans b)),
   λz=>z.c3 (z.k 51) (z.k 52) (z.k 53) (tn k j s i (by omega) h _ (l.mono z.b)),
   λz=>z.c7 (z.k 41) (z.k 43) (z.k 45) (z.k 46) kc (z.k 50) (z.k 54) (yP k j s.id (gf KS s i) s.q i 0 d (by omega) (by omega) (by decide) (by omega) n (cX KS _) _ (l.mono z.b)),
   trivial⟩ next
theorem Gs{s:Sc}{c:ByteArray}{b4:Nat}(e:s.t<1000)(g:c.size<=100000)(f:s.path.size<=1000)(b:w.heap[b4]?=some (.cells s.cells 31))
 (d:aJ [(5, .pt b4),(9, .string c)] 68 [] a)
 (next:∀a w',(Below w.heap.size w w'/\aJ [(8, .string (c++ob s.t 4++s.path)),(5, .pt b4),(9, .string c)] 68 [] a)->Rn lT Goal (fr.atR a K) cs w'):
 Rn lT Goal (fr.atR a (.code (.region 8 (gT Tryz.f11 8) true)::K)) cs w:=by
 exact Rn.tab d [(59, .string c),(60, .pt b4),(61, .pt b4),(62, .i s.t),(63, .string (ob s.t 4)),(64, .string (c++ob s.t 4)),(65, .pointer (some ⟨b4,9,none⟩)),(66, .string s.path),(67, .string (c++ob s.t 4++s.path)),(8, .string (c++ob s.t 4++s.path))] [59,8] 8
  ⟨λz=>dv (rj z.e (z.k 5)),
   λz=>dv (i5 0 (by decide) z.e (z.k 60)),
   λz=>dv ((tM aG z.e (z.k 61) ((o9 ((z.b.block _ (gA b).1).trans b) 0).trans rfl)).1),
   λz=>z.c2 (z.k 62) kc (cB (s.t) 4 _ (by decide) (by omega)),
   λz=>dv (bA (z.e (p:= .binOp .add 9 (.tmp 59) (.tmp 63) 9)) (z.k 59) (z.k 63) (by first|(simp only[tl];omega)|(simp only[ByteArray.size_append,tl];omega))),
   λz=>dv (Da z.e (z.k 5)),
   λz=>dv ((tM aQ z.e (z.k 65) ((o9 ((z.b.block _ (gA b).1).trans b) 9).trans rfl)).1),
   λz=>dv (bA (z.e (p:= .binOp .add 9 (.tmp 64) (.tmp 66) 9)) (z.k 64) (z.k 66) (by first|(simp only[tl];omega)|(simp only[ByteArray.size_append,tl];omega))),
   trivial⟩ next
def zd(f:Func):Code:= .seq (.seq (.region 4 (gT f 4) false) (.cond (.tmp 38) .skip (.exit 0))) (.seq (.block 1 (.seq (.region 6 (gT f 6) true) (.region 7 (gT f 7) false))) (.region 5 (gT f 5) false))
theorem IZ:Tryz.f11.body=some (.seq (.region 0 (gT Tryz.f11 0) false) (.seq (.region 1 (gT Tryz.f11 1) true) (.seq (.region 2 (gT Tryz.f11 2) true) (.seq (.seq (.region 3 (gT Tryz.f11 3) false) (.block 0 (.loop (zd Tryz.f11)))) (.seq (.region 8 (gT Tryz.f11 8) true) .ret))))):=by kernel_rfl
def my(KS:List Int)(s:Sc)(dg:Nat->Nat)(x:ByteArray):Nat->ByteArray
 |0=>x
 |i+1=>my KS s dg x i++rO KS s.id s.q i (dg i) 0 (gf KS s i)
theorem vi(KS:List Int)(s:Sc)(i d:Nat):(rO KS s.id s.q i d 0 (gf KS s i)).size=32:=Lq KS s.id s.q i d 0 _ (cX KS _)
theorem iw(KS:List Int)(s:Sc)(dg:Nat->Nat)(x:ByteArray):∀i,(my KS s dg x i).size=x.size+32*i
 |0=>rfl
 |i+1=>by rw[my,ByteArray.size_append,iw KS s dg x i,vi];omega
section
variable{KS:List Int}(hKl:KS.length=64)(hKw:gW KS){cv:Array Value}{Goal:Goroutine->World->Prop}{cs:List Frame}{fr:Frame}{w0:World}(hC0:ll KS cv w0){s:Sc}{b3 b4 gb cap:Nat}(hbox0:w0.heap[b3]?=some (.cells cv 26))(hsec0:w0.heap[b4]?=some (.cells s.cells 31)){K:List Item}
include hKl hKw hC0 hbox0 hsec0
theorem zc{dg:Nat->Nat}{x:ByteArray}(D:x.size<=2000)(j:s.id.size+3+s.seed.size<=140737488355328)(l:s.id.size<=1000)(y:s.q<1000)(A:s.n<=136)(q:∀c,dg c<256)(k:gb<w0.heap.size)(p:∀c,c<s.n->w0.cell? ⟨gb,c,none⟩=some (.i (dg c)))
 (next:∀a w,Below w0.heap.size w0 w->aJ [(5, .pt b4),(9, .string (my KS s dg x s.n))] 68 [] a->Rn lT Goal (fr.atR a K) cs w):
 ∀(m i:Nat) (a:Act) (w:World),s.n- i=m->i<=s.n->Below w0.heap.size w0 w->aJ [(4, .pt b3),(5, .pt b4),(10, .slice (some ⟨gb,0,none⟩) s.n cap),(9, .string (my KS s dg x i)),(11, .i i)] 68 [] a->
  Rn lT Goal (fr.atR a (.code (zd Tryz.f11):: .inLoop (zd Tryz.f11):: .inBlock 0::K)) cs w:=by
 intro m;induction m with
 |zero=>
  intro i a w B C h b;have g:=(h.block _ (gA hsec0).1).trans hsec0;refine Rn.p rfl (Rn.p rfl (Rn.r (L:=[0,1,2,3,4]) rfl ?_));refine Rn.y b 34 11 rfl λa b=> ?_;refine Rn.O b 35 (.fieldAddr 31 (.tmp 5) 0) (λo f=>rj f (b.G 5)) λa b=> ?_;refine Rn.O b 36 (.fieldAddr 29 (.tmp 35) 4) (λo f=>i5 4 (by decide) f (b.G 35)) λa b=> ?_;refine Rn.O b 37 (.load 3 (.tmp 36)) (λo f=>(tM (v:= .i s.n) aG f (b.G 36) ((o9 g 4).trans rfl)).1) λa b=> ?_;refine Rn.O b 38 (.binOp .lss 3 (.tmp 34) (.tmp 37) 3) (λo f=>(cH f (b.G 34) (b.G 37)).1) λa b=> ?_;refine Rn.p rfl (Rn.cond _ (b.G 38) ?_);rw[decide_eq_false (by omega)];have e:i=s.n:=by omega
  subst e;exact Rn.p rfl (next a w h (b.only ⟨rfl,rfl,trivial⟩))
 |succ m u=>
  intro i a w B C h b;have g:=(h.block _ (gA hsec0).1).trans hsec0;have z:=iw KS s dg x i;refine Rn.p rfl (Rn.p rfl (Rn.r (L:=[0,1,2,3,4]) rfl ?_));refine Rn.y b 34 11 rfl λa b=> ?_;refine Rn.O b 35 (.fieldAddr 31 (.tmp 5) 0) (λo f=>rj f (b.G 5)) λa b=> ?_;refine Rn.O b 36 (.fieldAddr 29 (.tmp 35) 4) (λo f=>i5 4 (by decide) f (b.G 35)) λa b=> ?_;refine Rn.O b 37 (.load 3 (.tmp 36)) (λo f=>(tM (v:= .i s.n) aG f (b.G 36) ((o9 g 4).trans rfl)).1) λa b=> ?_;refine Rn.O b 38 (.binOp .lss 3 (.tmp 34) (.tmp 37) 3) (λo f=>(cH f (b.G 34) (b.G 37)).1) λa b=> ?_;refine Rn.p rfl (Rn.cond _ (b.G 38) ?_);rw[decide_eq_true (by omega)];refine Rn.p rfl (Rn.p rfl (Rn.p rfl (Rn.p rfl ?_)));refine Gt (d:=dg i) hKl hKw (by omega) A (q i) j l y (Nat.lt_of_lt_of_le k h.size) ((World.cell?_of_block (w:=w0) (a:=⟨gb,i,none⟩) (h.block gb k)).trans (p i (by omega))) (hC0.mono h) ((h.block _ (gA hbox0).1).trans hbox0) g (b.only ⟨rfl,rfl,rfl,rfl,rfl,trivial⟩) λa t ⟨r,b⟩=> ?_;refine Rn.r (L:=[0,1,2,3]) rfl ?_;refine Rn.y b 56 9 rfl λa b=> ?_;refine Rn.y b 57 12 rfl λa b=> ?_;refine Rn.cat b 58 56 57 rfl rfl (by rw[vi];omega) λa b=> ?_;refine Rn.S b 9 58 rfl λa b=> ?_;refine Rn.p rfl (Rn.p rfl (Rn.r (L:=[0,1,2]) rfl ?_));refine Rn.y b 39 11 rfl λa b=> ?_;refine Rn.O b 40 (.binOp .add 3 (.tmp 39) (.const (.i 1)) 3) (λo f=>cL (n:=1) f (b.G 39) rfl (by omega)) λa b=> ?_;refine Rn.S b 11 40 rfl λa b=> ?_;refine Rn.p rfl (Rn.p rfl (u (i+1) a t (by omega) (by omega) (kM h h.size r) (b.only ⟨rfl,rfl,rfl,rfl, ?_,trivial⟩)));rw[Int.natCast_add];rfl
end
def Cl(KS:List Int)(s:Sc)(salt msg:ByteArray)(c:Nat):Nat:=cp (fA (lC KS [s.id,ob s.q 4,ob 33153 2,salt,msg]).data.toList s.wd s.sh) s.wd c
def sK(KS:List Int)(s:Sc)(salt msg:ByteArray):ByteArray:=my KS s (Cl KS s salt msg) (ob s.q 4++ob s.c 4++salt) s.n++ob s.t 4++s.path
theorem D7(y:KS.length=64)(v:gW KS)(s:Sc)(salt msg:ByteArray)(P:CL s)(A:s.sh<=8)(C:1<=s.n)(B:s.n<=34*(8/s.wd))(U:s.t<1000)(X:s.c<1000)(V:s.path.size<=1000)(i:salt.size<=1000)(u:s.id.size+6+salt.size+msg.size<=281474976710400)(w:World)(M:ll KS cv w):
 Calls lT 11 #[.agg cv, .agg s.cells, .string salt, .string msg] w λe w'=>e= .returned (.string (sK KS s salt msg))/\Below w.heap.size w w':=by
 obtain⟨k1,S,k3,R,K,Q⟩:=P;have p5:2^s.h<=32:=Nat.le_trans (Nat.pow_le_pow_right (by decide) R) (by decide);have h2:2^s.wd<=256:=by rcases K with h|h|h<;>rw[h]<;>decide
 refine aX (t:=8) Lf.func11 rfl λcs=> ?_;rw[bE (N:=68) [.agg cv, .agg s.cells, .string salt, .string msg] Lf.func11 IZ rfl];have d:=aR [.agg cv, .agg s.cells, .string salt, .string msg] 68 (by simp);refine Rn.p rfl (Rn.r (L:=[0,1,2]) rfl ?_);refine Rn.z d 4 0 26 rfl λa d=> ?_;show Rn _ _ _ _ (w.alloc (.cells cv 26));refine Rn.z d 5 1 31 rfl λa d=> ?_;rw[mE]at d;show Rn _ _ _ _ ((w.alloc (.cells cv 26)).alloc (.cells s.cells 31));have f:Below w.heap.size w ((w.alloc (.cells cv 26)).alloc (.cells s.cells 31)):=kM (ox w _) (by rw[mE];omega) (ox _ _);have z:=(fm (w.alloc (.cells cv 26)) (.cells s.cells 31) (b:=w.heap.size) (by rw[mE];omega)).trans (y6 w _);have r:=y6 (w.alloc (.cells cv 26)) (.cells s.cells 31);rw[mE]at r;revert f z r;generalize (w.alloc (.cells cv 26)).alloc (.cells s.cells 31)=w1;intro f z r;refine Rn.C d 8 (.string ⟨#[]⟩) λa d=> ?_;refine Rn.p rfl (Rn.p rfl ?_);refine Gv (by omega) X i r (d.only ⟨rfl,rfl,rfl,rfl,trivial⟩) λa w2 ⟨l,d⟩=> ?_;have n:=kM f f.size l;have q:=(l.block _ (gA z).1).trans z;have p:=(l.block _ (gA r).1).trans r;refine Rn.p rfl ?_;refine Gu (Qb:=lC KS [s.id,ob s.q 4,ob 33153 2,salt,msg]) y v rfl K A C B (by omega) u (M.mono n) q p (d.only ⟨rfl,rfl,rfl,rfl,rfl,trivial⟩) λa O ⟨k,vg,j,d⟩=> ?_;have g:=kM n n.size k;have J:=(k.block _ (gA q).1).trans q;have o:=(k.block _ (gA p).1).trans p;obtain⟨gb,Z,rfl,D,E⟩:=j;refine Rn.p rfl (Rn.p rfl (Rn.r (L:=[0]) rfl ?_));refine Rn.C d 11 (.i 0) λa d=> ?_;refine Rn.p rfl (Rn.p rfl (Rn.p rfl ?_));have F:∀c,Cl KS s salt msg c<256:=λc=>by
  have:=ka (fA (lC KS [s.id,ob s.q 4,ob 33153 2,salt,msg]).data.toList s.wd s.sh) s.wd c;have T:bQ s.wd<256:=by unfold bQ;omega
  unfold Cl;omega
 have Y:(ob s.q 4++ob s.c 4++salt).size<=1000+8:=by simp only[ByteArray.size_append,tl];omega
 refine zc (dg:=Cl KS s salt msg) (x:=ob s.q 4++ob s.c 4++salt) y v (M.mono g) J o (by omega) (by omega) S (by omega) Q F D E (λa w4 m d=> ?_) s.n 0 a O rfl (Nat.zero_le _) (bR) (d.only ⟨rfl,rfl,rfl,rfl,rfl,trivial⟩);have I:=(m.block _ (gA o).1).trans o;have W:=iw KS s (Cl KS s salt msg) (ob s.q 4++ob s.c 4++salt) s.n;refine Rn.p rfl ?_;refine Gs U (by omega) V I (d.only ⟨rfl,rfl,trivial⟩) λa w5 ⟨G,d⟩=> ?_;have H:=kM (kM g g.size m) (by have:=g.size;have:=m.size;omega) G;exact Rn.ends rfl (.inr ⟨_,rfl⟩) (Rn.now ⟨a,_,_,rfl,d.defers,d.slot 8 _ rfl,rfl,H⟩)
theorem gu(a b c:ByteArray):a++b++c=a++(b++c):=by
 apply rZ;simp only[ByteArray.data_append,Array.toList_append,List.append_assoc]
theorem vu(a b c:ByteArray)(e:i=a.size)(d:j=a.size+b.size):(a++b++c).extract i j=b:=by
 subst e;subst d;have h:=ByteArray.extract_append_size_add (a:=a) (b:=b++c) (i:=0) (j:=b.size);rw[Nat.add_zero]at h;rw[gu,h];exact ByteArray.extract_append_eq_left rfl
theorem AF(a b:ByteArray)(d:i=a.size)(c:j=a.size+b.size):(a++b).extract i j=b:=ByteArray.extract_append_eq_right d c
theorem HU(v:Nat):∀k,v<256^k->fM (cg v k)=v:=by
 intro k;induction k generalizing v with
 |zero=>intro h;have:v=0:=by omega
        subst this;rfl
 |succ k a=>
  intro h;rw[cg,jQ,a (v/256) (by rw[Nat.pow_succ]at h;omega),UInt8.toNat_ofNat'];omega
theorem Av(KS:List Int)(id:ByteArray)(q i b:Nat):∀(a j:Nat) (y:ByteArray),rO KS id q i (a+b) j y=rO KS id q i b (j+a) (rO KS id q i a j y)
 |0,j,y=>by rw[Nat.zero_add];rfl
 |a+1,j,y=>by
  rw[show a+1+b=(a+b)+1 from by omega,rO,rO,Av KS id q i b a (j+1),show j+1+a=j+(a+1)from by omega]
theorem wQ(KS:List Int)(s:Sc)(dg:Nat->Nat)(x:ByteArray):∀n,my KS s dg x n=x++my KS s dg ByteArray.empty n
 |0=>by rw[my,my,ByteArray.append_empty]
 |n+1=>by rw[my,my,wQ KS s dg x n,gu]
theorem Ac(KS:List Int)(s:Sc)(dg:Nat->Nat):∀(n i:Nat) (r:ByteArray),i<n->(my KS s dg ByteArray.empty n++r).extract (32*i) (32*i+32)=rO KS s.id s.q i (dg i) 0 (gf KS s i)
 |0,i,r,h=>absurd h (by omega)
 |n+1,i,r,h=>by
  have a:=iw KS s dg ByteArray.empty n;rw[show(ByteArray.empty).size=0 from rfl]at a;rw[my];rcases(by omega:i=n\/i<n)with rfl|h
  ·exact vu _ _ _ (by omega) (by rw[vi];omega)
  ·rw[gu];exact Ac KS s dg n i _ h
theorem wI(KS:List Int)(seed:ByteArray)(lf:Nat):∀(n i:Nat) (r:ByteArray),i<n->(lJ KS seed lf n++r).extract (32*i) (32*i+32)=pB KS seed (bT lf i)
 |0,i,r,h=>absurd h (by omega)
 |n+1,i,r,h=>by
  have a:=iL KS seed lf n;rw[lJ];rcases(by omega:i=n\/i<n)with rfl|h
  ·exact vu _ _ _ (by omega) (by rw[show(pB KS seed (bT lf i)).size=32 from cX KS _];omega)
  ·rw[gu];exact wI KS seed lf n i _ h
theorem tV(KS:List Int)(id seed:ByteArray)(lf:Nat)(x:ByteArray)(n:Nat):∀i,i<=n->fN KS id (lJ KS seed lf n) lf x i=gJ KS id seed lf x i
 |0,_=>rfl
 |i+1,h=>by
  have e:=wI KS seed lf n i ByteArray.empty (by omega);rw[ByteArray.append_empty]at e;rw[fN,gJ,e,tV KS id seed lf x n i (by omega)]
theorem uh(KS:List Int)(s:Sc)(dg:Nat->Nat)(n:Nat)(a:∀c,dg c<=bQ s.wd):∀i,i<=n->yj KS s.id (my KS s dg ByteArray.empty n) s.q (bQ s.wd) dg i=iQ KS s i
 |0,_=>rfl
 |i+1,h=>by
  have e:=Ac KS s dg n i ByteArray.empty (by omega);rw[ByteArray.append_empty]at e;have:=Av KS s.id s.q i (bQ s.wd- dg i) (dg i) 0 (gf KS s i);rw[Nat.zero_add,show dg i+(bQ s.wd- dg i)=bQ s.wd from by have:=a i;omega]at this;rw[yj,iQ,e,uh KS s dg n a i (by omega),yB,this]
end L1
end Go.Proofs.YtkmoglhgkcnalaaGreatDoor
