/- A part of what the last text of the claim imports: texts laid together, and made small, by a program. -/
import Derived.StillTailTactics
import Derived.Test.YtkmoglhgkcnalaaGreatDoorOwn8
set_option maxHeartbeats 16000000
set_option maxRecDepth 100000
open Array renaming length_toList->QB
open ByteArray renaming size_append->Tg
open Go.Addr renaming add->QM
open Go.Frame renaming enter->Qc,finish_atR->Ql
open Go.Instr renaming loadAt->AT,fieldAt->BY,sliceBounds->Qq,sliceBound->Qx,alloc->Qz,sliceAt->QG,slice->R0
open Go.IntKind renaming wrap_i64->Q3,i64->Q4
open Go.StepsIn renaming steps->Sq
open Go.World renaming frozen?->Qa,cell?->Qe
open Int renaming natCast_pow->Q1,toNat_of_nonneg->R8
open List renaming getElem?_eq_some_iff->Tf,map_cons->IN,size_toArray->Q5,length_map->Qg,map_nil->Ri,map_toArray->Rk
open Nat renaming le_refl->T6,lt_of_lt_of_le->T7,le_trans->By,zero_add->IS,pow_le_pow_right->Qp,zero_le->QH,pow_succ->RX
open Option renaming map_some->T8,bind_some->QA
namespace Go.Proofs.YtkmoglhgkcnalaaGreatDoor
open Go
variable{n b i N l m k j b3 b4 b7 b9 Wg wd:Nat}{w w' w0 wL wM wE:World}{fr:Frame}{v:Value}{cs:List Frame}{args cv:Array Value}{V RO D V0:Nat->Prop}{q main listen ql:Bool}{g:Goroutine}{a:Act}{K:List Item}{P PL PM:Program}{x:Operand}{ops:Array Oper}{KS:List Int}{t u:TypeId}{o:Oper}{f:FuncId}{es:Array Event}{Goal:Goroutine->World->Prop}{fn:Func}{rest:List Nat}{ds:List Deferred}{X:aW}{F:List (Nat×Value)}{e:Event}{listed:Array Bool}{c:Int}{s msg key sig:ByteArray}{ρ:Nat->Nat}{ev:Operand->Value}{Post:Value->World->Prop}
namespace L1
open Go.Conc Go.RowKit
theorem Kc{rt:ByteArray}{q T b4 b9 h wd sh:Nat}{t:Int}(g:key.size=56)(l:T+4<=sig.size)(k:40<=T)(j:T<1000000)(f:∀w',Bw w w'->Calls lT 38 #[.agg cv, .agg (bB t c h wd n sh), .s (key.extract 8 24), .i q, .s (sig.extract 8 40), .s msg, .s (sig.extract 40 T), .s (sig.extract (T+4) sig.size)] w' λe d=>e= .returned (.s rt)/\Bw w' d)(r:kZ KS cv w)(i:w.heap[b4]?=some (.cells cv 26))(b:w.heap[b9]?=some (.cells (bB t c h wd n sh) 29))
 (o:Has [(1, .s key),(2, .s msg),(3, .s sig),(4, .pt b4),(9, .pt b9),(11, .i q),(12, .i T)] 85 [] a)
 (next:∀a w',(Bw w w'/\Has [(13, .s rt),(1, .s key),(2, .s msg),(3, .s sig),(4, .pt b4),(9, .pt b9),(11, .i q),(12, .i T)] 85 [] a)->Rn lT Goal (fr.atR a K) cs w'):
 Rn lT Goal (fr.atR a (.code (rD Tryz.f15 12)::K)) cs w:=by
 exact Rn.tab o [(65, .agg cv),(66, .agg (bB t c h wd n sh)),(67, .s key),(68, .s (key.extract 8 24)),(69, .i q),(70, .s sig),(71, .s (sig.extract 8 40)),(72, .s msg),(73, .s sig),(74, .i T),(75, .s (sig.extract 40 T)),(76, .s sig),(77, .i T),(78, .i ((T+4:Nat):Int)),(79, .s (sig.extract (T+4) sig.size)),(80, .s rt),(13, .s rt)] [67,69,70,72,73,74,76,77,13] 13
  ⟨tq,
   λz=>dv (jt z.e (z.k 9) ((z.b.block _ (gA b).1).trans b)),
   λz=>dv ((dR (m:=8) (n:=24) (z.e (p:= .slice 9 (.tmp 67) (some (.const (.i 8))) (some (.const (.i 24))) none)) (z.k 67) rfl rfl o_ o_).1),
   λz=>dv ((dR (m:=8) (n:=40) (z.e (p:= .slice 9 (.tmp 70) (some (.const (.i 8))) (some (.const (.i 40))) none)) (z.k 70) rfl rfl o_ o_).1),
   λz=>dv ((dR (m:=40) (n:=T) (z.e (p:= .slice 9 (.tmp 73) (some (.const (.i 40))) (some (.tmp 74)) none)) (z.k 73) rfl (z.k 74) o_ o_).1),
   λz=>pv (iA (n:=4) (z.e (p:= .binOp .add 3 (.tmp 77) (.const (.i 4)) 3)) (z.k 77) rfl o_) (by rw[show(T:Int)+4=((T+4:Nat):Int)from o_]<;>rfl),
   λz=>dv (pI (n:=T+4) z.e (z.k 76) (z.k 78) l),
   λz=>z.c8 (z.k 65) (z.k 66) (z.k 68) (z.k 69) (z.k 71) (z.k 72) (z.k 75) (z.k 79) (f _ z.b),
   trivial⟩ next
def Pi(sig:ByteArray)(b9 h H2 T:Nat)(q t c:Int)(c1 n1 n2:Bool):Nat->Value->World->Prop
 |0,v,_=>v= .int .i64 q
 |1,v,_=>v= .pk b9 2
 |2,v,_=>v= .int .i64 h
 |3,v,_=>v= .int .i64 (H2:Int)
 |4,v,_=>v= .bool c1
 |5,v,_=>v= .bool c1
 |6,v,_=>c1=false->v= .string sig
 |7,v,_=>c1=false->v= .int .i64 (bV sig 4 8)
 |8,v,_=>c1=false->v= .pk b9 1
 |9,v,_=>c1=false->v= .int .i64 c
 |10,v,_=>c1=false->v= .bool n1
 |11,v,_=>v= .bool (c1||n1)
 |12,v,_=>v= .bool (c1||n1)
 |13,v,_=>(c1||n1)=false->v= .string sig
 |14,v,_=>(c1||n1)=false->v= .int .i64 T
 |15,v,_=>(c1||n1)=false->v= .int .i64 (bV sig T (T+4))
 |16,v,_=>(c1||n1)=false->v= .pk b9 0
 |17,v,_=>(c1||n1)=false->v= .int .i64 t
 |18,v,_=>(c1||n1)=false->v= .bool n2
 |_,v,_=>v= .bool (c1||n1||n2)
theorem Hh{b9 h H2 T:Nat}{q t:Int}{c1 n1 n2:Bool}(m:Nat)(v:Value)(w w':World)(a:Pi sig b9 h H2 T q t c c1 n1 n2 m v w):Pi sig b9 h H2 T q t c c1 n1 n2 m v w':=by
 match m,a with
 |0,a|1,a|2,a|3,a|4,a|5,a|6,a|7,a|8,a|9,a|10,a|11,a|12,a|13,a|14,a|15,a|16,a|17,a|18,a|_+19,a=>exact a
theorem Kd{b4 b9 h wd sh H2 T:Nat}{q t:Int}{c1 n1 n2:Bool}(a3:H2=2^h)(ai:h<=8)(ak:H2<=256)(D:sig.size<=1125899906842624)(hT:T+4<=sig.size)(ag:8<=sig.size)(a2:c1=decide (q≥(H2:Int)))(a1:n1=(bV sig 4 8 !=c))(a0:n2=(bV sig T (T+4) !=t))(C:w.heap[b9]?=some (.cells (bB t c h wd n sh) 29))
 (hF:Has [(1, .s key),(2, .s msg),(3, .s sig),(4, .pt b4),(9, .pt b9),(11, .i q),(12, .i T)] 85 [] a)
 (next:∀a w',(Bw w w'/\Has [(64, .bool (c1||n1||n2)),(1, .s key),(2, .s msg),(3, .s sig),(4, .pt b4),(9, .pt b9),(11, .i q),(12, .i T)] 85 [] a)->Rn lT Goal (fr.atR a K) cs w'):
 Rn lT Goal (fr.atR a (.code (rD Tryz.f15 10)::K)) cs w:=by
 refine Rn.growsG (fx:=[(1, .s key),(2, .s msg),(3, .s sig),(4, .pt b4),(9, .pt b9),(11, .i q),(12, .i T)]) (ds:=[45,46,47,48,49,50,51,52,53,54,55,56,57,58,59,60,61,62,63,64]) (N:=85) (df:=[]) (G:=Pi sig b9 h H2 T q t c c1 n1 n2) k_ k_ (λm v w w' hg _=>Hh m v w w' hg) (λm o a w' hm s hb af A b=> ?_)
  (λm a w'=>m=20/\Bw w w'/\Has [(64, .bool (c1||n1||n2)),(1, .s key),(2, .s msg),(3, .s sig),(4, .pt b4),(9, .pt b9),(11, .i q),(12, .i T)] 85 [] a) (λa w' I=> ?_) (λm o a w' a9 hm s hS aj=> ?_) (λa w' hS=> ?_) hF.defers hF.size (hF.all s_)
 ·have first:∀{o:Oper} {R:Value->World->Prop} (q:Bool) (g d:Nat),o.guard=some (g,false)->((bK Tryz.f15 10)[g]?).bind (·.dst)=some d->a.tmps[d]?=some (.bool q)->(q=false->qo lT a o w' R)->(q=true->R undef w')->wJ lT (bK Tryz.f15 10) a o w' R:=λ{o R} q g d S h2 h3 h4 h5=>by
   have hw:=jr (ops:=bK Tryz.f15 10) (tmps:=a.tmps) S h2 h3;cases q with
   |false=>exact .inl ⟨hw,h4 rfl⟩
   |true=>exact .inr ⟨hw,h5 rfl⟩
  have x:∀{m:Nat} {o:Oper} {d:Option Tmp} {p:Op} {g:Nat},(bK Tryz.f15 10)[m]?=some o->((bK Tryz.f15 10)[m]?).map (λo=>(o.dst,o.op,o.guard))=some (d,p,some (g,false))->o.op=p/\o.guard=some (g,false):=λ{m o d p g} s B=>by rw[s]at B;simp only[T8,Option.some.injEq,Prod.mk.injEq]at B;exact⟨B.2.1,B.2.2⟩
  have ah:m<20:=hm;rcases(o_:m=0\/m=1\/m=2\/m=3\/m=4\/m=5\/m=6\/m=7\/m=8\/m=9\/m=10\/m=11\/m=12\/m=13\/m=14\/m=15\/m=16\/m=17\/m=18\/m=19)with rfl|rfl|rfl|rfl|rfl|rfl|rfl|rfl|rfl|rfl|rfl|rfl|rfl|rfl|rfl|rfl|rfl|rfl|rfl|rfl
  ·obtain⟨E,j,z⟩:=oQ s;exact .inl ⟨z _,mp (.inl j) (A _ (mG (i:=5) rfl)) ⟨rfl,bR⟩⟩
  ·obtain⟨E,j,z⟩:=oQ s;exact .inl ⟨z _,aF (jI 2 d_ j (aA (A _ (mG (i:=4) rfl)))) ⟨rfl,bR⟩⟩
  ·obtain⟨E,j,z⟩:=oQ s;obtain⟨u,l,rfl⟩:=nE b 1 46;exact .inl ⟨z _,aF (aN cq j (aA l) ((aH ((hb.block _ (gA C).1).trans C) 2).trans rfl)).1 ⟨rfl,bR⟩⟩
  ·obtain⟨E,j,z⟩:=oQ s;obtain⟨u,l,rfl⟩:=nE b 2 47;have hp:(1:Int)*2^h=(H2:Int):=(by rw[Int.one_mul,a3,Q1];rfl);refine .inl ⟨z _,aF (iz (m:=1) (k:=h) j rfl (aA l) o_ (by rw[hp];omega)) ⟨?_,bR⟩⟩;rw[hp];rfl
  ·obtain⟨E,j,z⟩:=oQ s;obtain⟨u,l,rfl⟩:=nE b 0 45;obtain⟨u2,F,rfl⟩:=nE b 3 48;exact .inl ⟨z _,aF (Lu j (aA l) (aA F)) ⟨by rw[a2];rfl,bR⟩⟩
  ·obtain⟨E,j,z⟩:=oQ s;obtain⟨u,l,I⟩:=nE b 4 49;exact .inl ⟨z _,mp (.inl j) l ⟨I,bR⟩⟩
  ·obtain⟨j,y⟩:=x (d:=some 51) (p:= .move (.tmp 3)) s k_;obtain⟨u,l,rfl⟩:=nE b 5 50;exact first c1 5 50 y k_ l (λf=>mp (.inl j) (A _ (mG (i:=2) rfl)) ⟨λ_=>rfl,bR⟩) λf=>⟨λr=>(by rw[f]at r;cases r),bR⟩
  ·obtain⟨j,y⟩:=x (d:=some 52) (p:= .call {callee:= .value (.func 37),args:=#[.tmp 51, .const (.i 4), .const (.i 4)],argTypes:=#[9,3,3]}) s k_;obtain⟨u,l,rfl⟩:=nE b 5 50;obtain⟨u6,Y,h6⟩:=nE b 6 51;refine first c1 5 50 y k_ l (λf=> ?_) λf=>⟨λr=>(by rw[f]at r;cases r),bR⟩
   have Z:=bG (w:=w') j (show(#[Operand.tmp 51, .const (.i 4), .const (.i 4)]:Array Operand).map a.eval=#[.s sig, .i ((4:Nat):Int), .i ((4:Nat):Int)]from by simp only[Rk,IN,Ri,aA Y,h6 f];rfl) (rI (P:=aJ true tP) Lf.func37 _);exact .inr ⟨_,_,Z.1,(gh sig 4 4 w' d_ o_ D).mono λe U h=>⟨_,h.1,λ_=>by rw[na],by rw[h.2];exact bR⟩⟩
  ·obtain⟨j,y⟩:=x (d:=some 53) (p:= .fieldAddr 29 (.tmp 9) 1) s k_;obtain⟨u,l,rfl⟩:=nE b 5 50;exact first c1 5 50 y k_ l (λf=>aF (jI 1 d_ j (aA (A _ (mG (i:=4) rfl)))) ⟨λ_=>rfl,bR⟩) λf=>⟨λr=>(by rw[f]at r;cases r),bR⟩
  ·obtain⟨j,y⟩:=x (d:=some 54) (p:= .load 3 (.tmp 53)) s k_;obtain⟨u,l,rfl⟩:=nE b 5 50;obtain⟨u8,W,h8⟩:=nE b 8 53;exact first c1 5 50 y k_ l (λf=>aF ((aN (v:= .i c) cq j ((aA W).trans (h8 f)) ((aH ((hb.block _ (gA C).1).trans C) 1).trans rfl)).1) ⟨λ_=>rfl,bR⟩) λf=>⟨λr=>(by rw[f]at r;cases r),bR⟩
  ·obtain⟨j,y⟩:=x (d:=some 55) (p:= .binOp .neq 3 (.tmp 52) (.tmp 54) 3) s k_;obtain⟨u,l,rfl⟩:=nE b 5 50;obtain⟨u7,X,h7⟩:=nE b 7 52;obtain⟨u9,V,h9⟩:=nE b 9 54;exact first c1 5 50 y k_ l (λf=>aF (AH j ((aA X).trans (h7 f)) ((aA V).trans (h9 f))) ⟨λ_=>by rw[a1],bR⟩) λf=>⟨λr=>(by rw[f]at r;cases r),bR⟩
  ·obtain⟨E,j,z⟩:=oQ s;obtain⟨u,l,rfl⟩:=nE b 5 50;obtain⟨u1,H,S⟩:=nE b 10 55;refine .inl ⟨z _,aF (li j (aA l)) ⟨?_,bR⟩⟩;cases f:c1 with
   |true=>rfl
   |false=>exact(aA H).trans (S f)
  ·obtain⟨E,j,z⟩:=oQ s;obtain⟨u,l,I⟩:=nE b 11 56;exact .inl ⟨z _,mp (.inl j) l ⟨I,bR⟩⟩
  ·obtain⟨j,y⟩:=x (d:=some 58) (p:= .move (.tmp 3)) s k_;obtain⟨u,l,rfl⟩:=nE b 12 57;exact first (c1||n1) 12 57 y k_ l (λf=>mp (.inl j) (A _ (mG (i:=2) rfl)) ⟨λ_=>rfl,bR⟩) λf=>⟨λr=>(by rw[f]at r;cases r),bR⟩
  ·obtain⟨j,y⟩:=x (d:=some 59) (p:= .move (.tmp 12)) s k_;obtain⟨u,l,rfl⟩:=nE b 12 57;exact first (c1||n1) 12 57 y k_ l (λf=>mp (.inl j) (A _ (mG (i:=6) rfl)) ⟨λ_=>rfl,bR⟩) λf=>⟨λr=>(by rw[f]at r;cases r),bR⟩
  ·obtain⟨j,y⟩:=x (d:=some 60) (p:= .call {callee:= .value (.func 37),args:=#[.tmp 58, .tmp 59, .const (.i 4)],argTypes:=#[9,3,3]}) s k_;obtain⟨u,l,rfl⟩:=nE b 12 57;obtain⟨ae,Q,a8⟩:=nE b 13 58;obtain⟨ad,O,a7⟩:=nE b 14 59;refine first (c1||n1) 12 57 y k_ l (λf=> ?_) λf=>⟨λr=>(by rw[f]at r;cases r),bR⟩
   have Z:=bG (w:=w') j (show(#[Operand.tmp 58, .tmp 59, .const (.i 4)]:Array Operand).map a.eval=#[.s sig, .i (T:Int), .i ((4:Nat):Int)]from by simp only[Rk,IN,Ri,aA Q,a8 f,aA O,a7 f];rfl) (rI (P:=aJ true tP) Lf.func37 _);exact .inr ⟨_,_,Z.1,(gh sig T 4 w' d_ hT D).mono λe U h=>⟨_,h.1,λ_=>by rw[na],by rw[h.2];exact bR⟩⟩
  ·obtain⟨j,y⟩:=x (d:=some 61) (p:= .fieldAddr 29 (.tmp 9) 0) s k_;obtain⟨u,l,rfl⟩:=nE b 12 57;exact first (c1||n1) 12 57 y k_ l (λf=>aF (jI 0 d_ j (aA (A _ (mG (i:=4) rfl)))) ⟨λ_=>rfl,bR⟩) λf=>⟨λr=>(by rw[f]at r;cases r),bR⟩
  ·obtain⟨j,y⟩:=x (d:=some 62) (p:= .load 3 (.tmp 61)) s k_;obtain⟨u,l,rfl⟩:=nE b 12 57;obtain⟨ab,L,a5⟩:=nE b 16 61;exact first (c1||n1) 12 57 y k_ l (λf=>aF ((aN (v:= .i t) cq j ((aA L).trans (a5 f)) ((aH ((hb.block _ (gA C).1).trans C) 0).trans rfl)).1) ⟨λ_=>rfl,bR⟩) λf=>⟨λr=>(by rw[f]at r;cases r),bR⟩
  ·obtain⟨j,y⟩:=x (d:=some 63) (p:= .binOp .neq 3 (.tmp 60) (.tmp 62) 3) s k_;obtain⟨u,l,rfl⟩:=nE b 12 57;obtain⟨ac,M,a6⟩:=nE b 15 60;obtain⟨aa,J,a4⟩:=nE b 17 62;exact first (c1||n1) 12 57 y k_ l (λf=>aF (AH j ((aA M).trans (a6 f)) ((aA J).trans (a4 f))) ⟨λ_=>by rw[a0],bR⟩) λf=>⟨λr=>(by rw[f]at r;cases r),bR⟩
  ·obtain⟨E,j,z⟩:=oQ s;obtain⟨u,l,rfl⟩:=nE b 12 57;obtain⟨u1,H,S⟩:=nE b 18 63;refine .inl ⟨z _,aF (li j (aA l)) ⟨?_,bR⟩⟩;show _=Value.bool ((c1||n1)||n2);cases f:(c1||n1)with
   |true=>rfl
   |false=>exact(aA H).trans (S f)
 ·obtain⟨u,l,F⟩:=I.come 19 64 rfl trivial;obtain rfl:=F;exact⟨rfl,I.old,I.base.more l⟩
 ·exact absurd (gA s).1 (by obtain⟨rfl,_⟩:=hS;decide)
 ·exact next a w' hS.2
theorem MF:Tryz.f15.body=some (.seq (rG Tryz.f15 0) (.seq (.seq (rG Tryz.f15 1) (.cond (.tmp 16) (.seq (rG Tryz.f15 2) .ret) .skip)) (.seq (rG Tryz.f15 3) (.seq (.seq (rG Tryz.f15 4) (.cond (.tmp 26) (.seq (rG Tryz.f15 5) .ret) .skip))
 (.seq (.seq (rG Tryz.f15 6) (.cond (.tmp 38) (.seq (rG Tryz.f15 7) .ret) .skip)) (.seq (rG Tryz.f15 8) (.seq (rG Tryz.f15 9) (.seq (.seq (rD Tryz.f15 10) (.cond (.tmp 64) (.seq (rG Tryz.f15 11) .ret) .skip))
 (.seq (rD Tryz.f15 12) (.seq (.seq (rG Tryz.f15 13) (.cond (.tmp 84) (.seq (rG Tryz.f15 14) .ret) .skip)) (.seq (rG Tryz.f15 15) .ret))))))))))):=rfl
theorem CZ(a:key.size=56):(decide (((hK key:Nat):Int)>0)&&decide (((wK key:Nat):Int)>0))=true↔gj key:=by
 unfold gj hK wK
 grind
theorem xW(a5:KS.length=64)(a4:iU KS)(key msg sig:ByteArray)(hm:msg.size<=281474976706560)(hk:key.size<=1125899906842624)(hs:sig.size<=1125899906842624)(w:World)(hC:kZ KS cv w):
 Calls lT 15 #[.agg cv, .s key, .s msg, .s sig] w λe w'=>∃c,e= .returned (.i c)/\uw KS key msg sig c/\Bw w w':=by
 refine bJ (t:=8) Lf.func15 rfl λcs=> ?_;rw[bP (N:=85) [.agg cv, .s key, .s msg, .s sig] Lf.func15 MF rfl];have b:=aY [.agg cv, .s key, .s msg, .s sig] 85 s_;refine Rn.zz b λw1 a u h4 _ b=> ?_;have a6:=hC.mono u;refine Rn.uu b λa b=> ?_;have l:∀(id:Nat) (c:Int) (a:Act) (w':World) (F:List (Nat×Value)) (k:List Item),uw KS key msg sig c->Bw w w'->Has F 85 [] a->List.range (bK Tryz.f15 id).size=[0]->((bK Tryz.f15 id)[0]?).map (λo=>(o.dst,o.op,o.guard))=some (some 8, .assign (.const (.i c)),none)->
  Rn lT (λg w'=>∃(a:Act) (k:List Item) (v:Value),g=dN {(base 15).atR a k with mode:= .returning} cs/\a.defers=[]/\a.tmps[8]?=some v/\∃c,Ending.returned v=Ending.returned (.i c)/\uw KS key msg sig c/\Bw w w') ((base 15).atR a (.code (.seq (rG Tryz.f15 id) .ret)::k)) cs w':=by intro id c a w' F k M hB b hL a0;refine Rn.p rfl (Rn.r hL ?_);refine Rn.asc b 8 (.i c) d_ a0 λa b=> ?_;exact Rn.p rfl (Rn.ends rfl (.inr ⟨_,rfl⟩) (Rn.now ⟨a,_,_,rfl,b.defers,b.slot 8 _ (by simp[List.lookup]),c,rfl,M,hB⟩))
 iterate 3 refine Rn.uu b λa b=> ?_
 refine Rn.p rfl (Rn.cond _ (b.G 16) ?_);by_cases A:key.size=56
 ·rw[show((key.size:Int) !=56)=false from by simp;omega];refine Rn.uu b λa b=> ?_;refine Rn.cl b Lf.func37 (R:=λv w'=>v= .i (bV key 0 4)/\w'=w1) ((gh key 0 4 w1 d_ o_ hk).mono λe w' h=>⟨_,h.1,by rw[na],h.2⟩) λv w2 O a b=> ?_;obtain⟨rfl,rfl⟩:=O;refine Rn.uu b λa b=> ?_;refine Rn.cl b Lf.func37 (R:=λv w'=>v= .i (bV key 4 8)/\w'=w2) ((gh key 4 4 w2 d_ o_ hk).mono λe w' h=>⟨_,h.1,by rw[na],h.2⟩) λv w3 O a b=> ?_;obtain⟨rfl,rfl⟩:=O;refine Rn.cw b Lf.func27 ((tY (bV key 0 4) (bV key 4 8) w3)) λL m a b=> ?_
  iterate 3 refine Rn.uu b λa b=> ?_
  refine Rn.al b (λo E=>sT E) λK a I h9 _ b=> ?_;refine Rn.nn b (λo E=>cd (cells:=bB (bV key 0 4) (bV key 4 8) (hK key) (wK key) (nK key) (CB key)) E (b.G 9) (b.G 23) h9 tZ rfl (by simp[bB,Value.oneCell'])) λa b=> ?_;have s:=setRow_heap K L.heap.size _ (bB (bV key 0 4) (bV key 4 8) (hK key) (wK key) (nK key) (CB key)) _ _ h9;have U:=(gA h4).1;have aa:=m.size;have p:(K.setRow L.heap.size (bB (bV key 0 4) (bV key 4 8) (hK key) (wK key) (nK key) (CB key))).heap[w.heap.size]?=some (.cells cv 26):=(setRow_other K _ _ _ o_).trans ((I.block _ o_).trans ((m.block _ U).trans h4));have z:Bw w3 (K.setRow L.heap.size (bB (bV key 0 4) (bV key 4 8) (hK key) (wK key) (nK key) (CB key))):=(aE m m.size I).trans (bT _ _ _ m.size);revert s p z;generalize K.setRow L.heap.size (bB (bV key 0 4) (bV key 4 8) (hK key) (wK key) (nK key) (CB key))=J;intro s p z;have r:Bw w J:=aE u u.size z;have ad:=hC.mono r;clear h9 I m h4 z a6;refine Rn.uu b λa b=> ?_;have b:Has [(10, .bool (decide (((hK key:Nat):Int)>0)&&decide (((wK key:Nat):Int)>0))),(9, .pt L.heap.size),(1, .s key),(2, .s msg),(3, .s sig),(4, .pt w.heap.size)] 85 [] a:=b.only ⟨rfl,rfl,rfl,rfl,rfl,rfl,trivial⟩
  iterate 2 refine Rn.uu b λa b=> ?_
  refine Rn.p rfl (Rn.cond _ (b.G 26) ?_);by_cases j:gj key
  ·rw[(CZ A).2 j];obtain⟨hh,ab⟩:=kinds j;refine Rn.gr ?_
   iterate 12 refine Rn.uu b λa b=> ?_
   refine Rn.p rfl (Rn.cond _ (b.G 38) ?_);by_cases P:sig.size=44+32*nK key+32*hK key
   ·rw[show((sig.size:Int) !=40+32*((nK key:Nat):Int)+4+32*((hK key:Nat):Int))=false from by simp;omega];refine Rn.uu b λa b=> ?_;refine Rn.cl b Lf.func37 (R:=λv w'=>v= .i (bV sig 0 4)/\w'=J) ((gh sig 0 4 J d_ o_ hs).mono λe w' h=>⟨_,h.1,by rw[na],h.2⟩) λv w7 O a b=> ?_;obtain⟨rfl,rfl⟩:=O
    iterate 5 refine Rn.uu b λa b=> ?_
    rw[show(40:Int)+32*((nK key:Nat):Int)=((40+32*nK key:Nat):Int)from o_]at b;refine Rn.uu b λa b=> ?_;refine Rn.p rfl (Rn.p rfl (Rn.p rfl ?_));have a7:2^hK key<=256:=By (Qp d_ (show hK key<=8 by omega)) d_;refine Kd (H2:=2^hK key) (T:=40+32*nK key) (q:=bV sig 0 4) rfl o_ a7 hs o_ o_ rfl rfl rfl s (b.only ⟨rfl,rfl,rfl,rfl,rfl,rfl,rfl,trivial⟩) λa w8 ⟨H,b⟩=> ?_;have y:Bw w w8:=aE r r.size H;have G:=bk H p;have V:=bk H s;have W:=hC.mono y;refine Rn.cond _ (b.G 64) ?_;have e4:∀(x:ByteArray) (i:Nat),i+4<=x.size->(x.extract i (i+4)).size=4:=λx i h=>by rw[ByteArray.size_extract];omega
    have C:bV sig 4 8=bV key 4 8↔(sig.extract 4 8).data.toList=(key.extract 4 8).data.toList:=CO (e4 sig 4 o_) (e4 key 4 o_);have B:bV sig (40+32*nK key) (40+32*nK key+4)=bV key 0 4↔(sig.extract (40+32*nK key) (40+32*nK key+4)).data.toList=(key.extract 0 4).data.toList:=CO (e4 sig _ o_) (e4 key 0 o_);by_cases d:kr (gY key) (hK key) (nK key) sig
    ·have e:(decide (bV sig 0 4≥((2^hK key:Nat):Int))||(bV sig 4 8 !=bV key 4 8)||(bV sig (40+32*nK key) (40+32*nK key+4) !=bV key 0 4))=false:=by obtain⟨_,h1,h2,Z⟩:=d;rw[show 44+32*nK key=40+32*nK key+4 from o_]at Z;have a8:¬bV sig 0 4≥((2^hK key:Nat):Int):=(by rw[Q1];exact Int.not_le.2 h1);rw[decide_eq_false a8,C.2 h2,B.2 Z];simp
     rw[e];have f:=Hq j d;have h0:0<=bV sig 0 4:=(jj (sig.extract 0 4).data.toList 4 (by simp;omega)).1;have Q:((bV sig 0 4).toNat:Int)=bV sig 0 4:=R8 h0;have a1:=f.leaf;rw[←Q]at b;refine Rn.p rfl (Rn.p rfl ?_);have ac:(key.extract 8 24).size<=16:=(by rw[ByteArray.size_extract];omega);have a9:(sig.extract 8 40).size<=32:=(by rw[ByteArray.size_extract];omega);have D:uj KS (key.extract 8 24) (sig.extract 8 40) msg (sig.extract 40 (40+32*nK key)) (sig.extract (40+32*nK key+4) sig.size) (hK key) (wK key) (CB key) (nK key) (bV sig 0 4).toNat=mE KS key msg sig:=by have:=Eh KS (uM (gY key) (nK key) sig) (hK key) (wK key) (CB key) (nK key) (bV sig 0 4).toNat msg Q.symm rfl;rw[show 40+32*nK key+4=44+32*nK key from o_];exact this
     refine Kc (KS:=KS) (rt:=mE KS key msg sig) A o_ o_ o_ (λw' a3=> ?_) W G V (b.only ⟨rfl,rfl,rfl,rfl,rfl,rfl,rfl,trivial⟩) λa w9 ⟨a2,b⟩=> ?_
     ·have:=Ff a5 a4 (key.extract 8 24) (sig.extract 8 40) msg (sig.extract 40 (40+32*nK key)) (sig.extract (40+32*nK key+4) sig.size) (bV key 0 4) (bV key 4 8) (hK key) (wK key) (CB key) (nK key) (bV sig 0 4).toNat f.wid f.shift8 f.one f.most o_ o_ o_ o_ (by rw[ByteArray.size_extract];omega) (by rw[ByteArray.size_extract];omega) w' (W.mono a3);rw[D]at this;exact this
     have X:Bw w w9:=aE y y.size a2
     iterate 2 refine Rn.uu b λa b=> ?_
     refine Rn.vv b (λo E=>pI (n:=24) E (b.G 82) rfl o_) λa b=> ?_;refine Rn.vv b (λo E=>pJ E (b.G 81) (b.G 83)) λa b=> ?_;refine Rn.p rfl (Rn.cond _ (b.G 84) ?_);by_cases Y:(mE KS key msg sig).data.toList=(key.extract 24 key.size).data.toList
     ·rw[show((mE KS key msg sig).data.toList !=(key.extract 24 key.size).data.toList)=false from by rw[bne_eq_false_iff_eq];exact Y];refine Rn.p rfl ?_;exact l 15 0 a w9 _ _ (.inr (.inr (.inr ⟨j,d,Y,rfl⟩))) X b rfl k_
     ·rw[show((mE KS key msg sig).data.toList !=(key.extract 24 key.size).data.toList)=true from by rw[bne_iff_ne];exact Y];exact l 14 10 a w9 _ _ (.inr (.inr (.inl ⟨j,d,Y,rfl⟩))) X b rfl k_
    ·have e:(decide (bV sig 0 4≥((2^hK key:Nat):Int))||(bV sig 4 8 !=bV key 4 8)||(bV sig (40+32*nK key) (40+32*nK key+4) !=bV key 0 4))=true:=by
      refine Classical.byContradiction λS=>d ?_;rw[Bool.not_eq_true,Bool.or_eq_false_iff,Bool.or_eq_false_iff,decide_eq_false_iff_not,bne_eq_false_iff_eq,bne_eq_false_iff_eq]at S;obtain⟨⟨h1,h2⟩,Z⟩:=S;refine⟨P, ?_,C.1 h2, ?_⟩
      ·rw[Q1]at h1;exact Int.not_le.1 h1
      ·rw[show 44+32*nK key=40+32*nK key+4 from o_];exact B.1 Z
     rw[e];exact l 11 10 a w8 _ _ (.inr (.inl ⟨j,d,rfl⟩)) y b rfl k_
   ·rw[show((sig.size:Int) !=40+32*((nK key:Nat):Int)+4+32*((hK key:Nat):Int))=true from by simp;omega];exact l 7 10 a J _ _ (.inr (.inl ⟨j,λh=>P h.1,rfl⟩)) r b rfl k_
  ·rw[show(decide (((hK key:Nat):Int)>0)&&decide (((wK key:Nat):Int)>0))=false from Bool.not_eq_true _▸λh=>j ((CZ A).1 h)];exact l 5 9 a J _ _ (.inl ⟨j,rfl⟩) r b rfl k_
 ·rw[show((key.size:Int) !=56)=true from by simp;omega];exact l 2 9 a w1 _ _ (.inl ⟨λh=>A h.1,rfl⟩) u b rfl k_
theorem wV{d:Int}(h:uw KS key msg sig c)(j:uw KS key msg sig d):c=d:=by rcases h with⟨i,rfl⟩|⟨i,b,rfl⟩|⟨i,b,g,rfl⟩|⟨i,b,g,rfl⟩<;>rcases j with⟨f,rfl⟩|⟨f,a,rfl⟩|⟨f,a,e,rfl⟩|⟨f,a,e,rfl⟩<;>first|rfl|exact absurd ‹gj key› ‹¬gj key›|exact absurd b a|exact absurd a b|exact absurd g e|exact absurd e g
section
variable{y:Operand}
theorem OE{m n:Int}(a:o.op= .binOp .eql t x y u)(d:t=36)(c:ev x= .i m)(b:ev y= .i n):(execOp ev o).run lT w= .ok (.value (.bool (m==n))) w:=by subst d;simp[execOp,a,c,b,go_sem]
end
end L1
section
open Go.Conc Go.RowKit
structure Sc where
 t:Nat
 c:Nat
 h:Nat
 wd:Nat
 n:Nat
 sh:Nat
 id:ByteArray
 q:Nat
 seed:ByteArray
 path:ByteArray
 root:ByteArray
def Sc.cells(s:Sc):Array Value:=#[.int .i64 s.t, .int .i64 s.c, .int .i64 s.h, .int .i64 s.wd, .int .i64 s.n, .int .i64 s.sh, .string s.id, .int .i64 s.q, .string s.seed, .string s.path, .string s.root]
def I8:ByteArray:=⟨#[255]⟩
theorem PE:I8.size=1:=rfl
def Sc.kind(s:Sc):Array Value:=bB s.t s.c s.h s.wd s.n s.sh
theorem qc{R:Ending->World->Prop}{t:Tmp}{ty:TypeId}{d:TypeDesc}(r:P.funcs[f]?=some fn)(c:fn.results=#[.cell t ty])(l:P.underlying ty=some d)(s:d.isRow=true)(q:(P.info? ty).map (·.size)=some n)
 (h:∀cs,Rn P (λg w'=>∃(a:Act) (k:List Item) (b:Nat) (cells:Array Value) (e:TypeId),g=dN {(base f).atR a k with mode:= .returning} cs/\a.defers=[]/\a.tmps[t]?=some (.pk b 0)/\w'.heap[b]?=some (.cells cells e)/\cells.size=n/\R (.returned (.agg cells)) w') (Qc P f args .normal) cs w):Calls P f args w R:=λcs=>by
 obtain⟨C,w',B,a,k,b,cells,e,rfl,A,z,y,v,u⟩:=h cs;refine⟨.returned (.agg cells),w',{(base f).atR a k with mode:= .returning},u,Sq B,rfl,rfl,A,rfl,fn,r, ?_⟩;have o:a.tmps[t]?.getD undef= .pk b 0:=by rw[z];rfl
 have m:w'.rangeAt b 0 cells.toList:=λj x i=>by
  rw[IS];have:w'.cell? ⟨b,j,none⟩=cells[j]?:=by simp[Qe,y]
  rw[this,←i,Array.getElem?_toList]
 have p:=run_loadVar_mid (P:=P) w' b 0 ty cells.toList d m l s (by rw[q];simp[v]);show(results fn a.tmps).run P w'=_;simp[results,c,o,asAddr,p]
end
namespace L1
open Go.Conc Go.RowKit
theorem oc:(lT.info? 31).map (·.size)=some 11:=k_
section
variable{y z u:Operand}{s:Sc}
theorem NT(a:o.op= .fieldAddr 31 x 0)(c:ev x= .pk b 0):(execOp ev o).run lT w= .ok (.value (.pk b 0)) w:=by
 have e:execOp ev o=(do pure (.value (←BY 31 (.pk b 0) 0))):=by simp only[execOp,a,c]
 have d:(do pure (.value (←BY 31 (.pk b 0) 0)):Sem Next).run lT w= .ok (.value (.pk b 0)) w:=k_
 rw[e,d]
theorem NS(a:o.op= .fieldAddr 31 x 1)(c:ev x= .pk b 0):(execOp ev o).run lT w= .ok (.value (.pk b 6)) w:=by
 have e:execOp ev o=(do pure (.value (←BY 31 (.pk b 0) 1))):=by simp only[execOp,a,c]
 have d:(do pure (.value (←BY 31 (.pk b 0) 1)):Sem Next).run lT w= .ok (.value (.pk b 6)) w:=k_
 rw[e,d]
theorem NR(a:o.op= .fieldAddr 31 x 2)(c:ev x= .pk b 0):(execOp ev o).run lT w= .ok (.value (.pk b 7)) w:=by
 have e:execOp ev o=(do pure (.value (←BY 31 (.pk b 0) 2))):=by simp only[execOp,a,c]
 have d:(do pure (.value (←BY 31 (.pk b 0) 2)):Sem Next).run lT w= .ok (.value (.pk b 7)) w:=k_
 rw[e,d]
theorem NQ(a:o.op= .fieldAddr 31 x 3)(c:ev x= .pk b 0):(execOp ev o).run lT w= .ok (.value (.pk b 8)) w:=by
 have e:execOp ev o=(do pure (.value (←BY 31 (.pk b 0) 3))):=by simp only[execOp,a,c]
 have d:(do pure (.value (←BY 31 (.pk b 0) 3)):Sem Next).run lT w= .ok (.value (.pk b 8)) w:=k_
 rw[e,d]
theorem NP(a:o.op= .fieldAddr 31 x 4)(c:ev x= .pk b 0):(execOp ev o).run lT w= .ok (.value (.pk b 9)) w:=by
 have e:execOp ev o=(do pure (.value (←BY 31 (.pk b 0) 4))):=by simp only[execOp,a,c]
 have d:(do pure (.value (←BY 31 (.pk b 0) 4)):Sem Next).run lT w= .ok (.value (.pk b 9)) w:=k_
 rw[e,d]
theorem KU(a:o.op= .fieldAddr 31 x 5)(c:ev x= .pk b 0):(execOp ev o).run lT w= .ok (.value (.pk b 10)) w:=by
 have e:execOp ev o=(do pure (.value (←BY 31 (.pk b 0) 5))):=by simp only[execOp,a,c]
 have d:(do pure (.value (←BY 31 (.pk b 0) 5)):Sem Next).run lT w= .ok (.value (.pk b 10)) w:=k_
 rw[e,d]
theorem sP(a:o.op= .load 31 x)(c:ev x= .pk b 0)(h:w.heap[b]?=some (.cells s.cells 31)):(execOp ev o).run lT w= .ok (.value (.agg s.cells)) w:=by
 have e:(isAgg 31).run lT w= .ok true w:=k_
 have d:=aH h;simp[execOp,a,c,AT,loadVar,e,loadCells,loadCellsFrom,QM,d,Sc.cells,go_sem]
theorem G4(a:o.op= .load 29 x)(c:ev x= .pk b 0)(h:w.heap[b]?=some (.cells s.cells 31)):(execOp ev o).run lT w= .ok (.value (.agg s.kind)) w:=by
 have e:(isAgg 29).run lT w= .ok true w:=k_
 have d:=aH h;simp[execOp,a,c,AT,loadVar,e,loadCells,loadCellsFrom,QM,d,Sc.cells,Sc.kind,bB,go_sem]
theorem xn(a:o.op= .alloc 31):(execOp ev o).run lT w= .ok (.value (.pk w.heap.size 0)) (w.alloc (.cells (Sc.mk 0 0 0 0 0 0 ⟨#[]⟩ 0 ⟨#[]⟩ ⟨#[]⟩ ⟨#[]⟩).cells 31)):=by
 have e:execOp ev o=(do pure (.value (←Qz 31 true (.tuple #[])))):=by simp only[execOp,a]
 have b:(do pure (.value (←Qz 31 true (.tuple #[]))):Sem Next).run lT w= .ok (.value (.pk w.heap.size 0)) (w.alloc (.cells (Sc.mk 0 0 0 0 0 0 ⟨#[]⟩ 0 ⟨#[]⟩ ⟨#[]⟩ ⟨#[]⟩).cells 31)):=k_
 rw[e,b]
theorem G5(a:o.op= .build 31 #[(0,x),(1,y),(2,z),(3,u)])(g:ev x= .agg s.kind)(f:ev y= .s s.id)(d:ev z= .i s.q)(c:ev u= .s s.seed):(execOp ev o).run lT w= .ok (.value (.agg {s with path:=⟨#[]⟩,root:=⟨#[]⟩}.cells)) w:=by
 have e:execOp ev o=(do pure (.value (←Instr.build 31 #[(0, .agg s.kind),(1, .s s.id),(2, .i s.q),(3, .s s.seed)]))):=by simp[execOp,a,g,f,d,c]
 have b:(do pure (.value (←Instr.build 31 #[(0, .agg s.kind),(1, .s s.id),(2, .i s.q),(3, .s s.seed)])):Sem Next).run lT w= .ok (.value (.agg {s with path:=⟨#[]⟩,root:=⟨#[]⟩}.cells)) w:=k_
 rw[e,b]
end
theorem Lf.func33:(aJ q tP).funcs[33]?=some Tryz.f33:=aO Tryz.func33 d_ rfl rfl k_
theorem M3(d:KS.length=64)(c:iU KS){s:Sc}{Xn:ByteArray}{e b4:Nat}(h:Xn=⟨(dU KS (s.id++ob i 2++I8++s.seed).data.toList).toArray⟩)(l:i<65536)(f:s.id.size+3+s.seed.size<=140737488355328)(k:kZ KS cv w)(g:w.heap[e]?=some (.cells cv 26))(b:w.heap[b4]?=some (.cells s.cells 31))
 (j:Has [(2, .i i),(3, .pt e),(4, .pt b4)] 18 [] a)
 (next:∀a w',(Bw w w'/\Has [(6, .s Xn),(2, .i i),(3, .pt e),(4, .pt b4)] 18 [] a)->Rn lT Goal (fr.atR a K) cs w'):
 Rn lT Goal (fr.atR a (.code (rD Tryz.f33 1)::K)) cs w:=by
 exact Rn.tab j [(7, .agg cv),(8, .pk b4 6),(9, .s s.id),(10, .i i),(11, .s (ob i 2)),(12, .s (s.id++ob i 2)),(13, .s (s.id++ob i 2++I8)),(14, .pk b4 8),(15, .s s.seed),(16, .s (s.id++ob i 2++I8++s.seed)),(17, .s Xn),(6, .s Xn)] [10,6] 6
  ⟨tq,
   tq,
   λz=>dv ((aN bA z.e (z.k 8) ((aH ((z.b.block _ (gA b).1).trans b) 6).trans rfl)).1),
   λz=>z.c2 (z.k 10) kc (dA (i) 2 _ d_ o_),
   tq,
   λz=>dv (eF (z.e (p:= .binOp .add 9 (.tmp 12) (.const (.string ⟨#[255]⟩)) 9)) (z.k 12) rfl (by simp only[Tg,cE,PE];omega)),
   λz=>dv (NQ z.e (z.k 4)),
   λz=>dv ((aN bA z.e (z.k 14) ((aH ((z.b.block _ (gA b).1).trans b) 8).trans rfl)).1),
   λz=>dv (eF (z.e (p:= .binOp .add 9 (.tmp 13) (.tmp 15) 9)) (z.k 13) (z.k 15) (by simp only[Tg,cE,PE];omega)),
   λz=>z.c2 (z.k 7) (z.k 16) (gP KS d c cv (s.id++ob i 2++I8++s.seed) _ (k.mono z.b) (by simp only[Tg,cE,PE];omega)) (congrArg Value.string h.symm),
   trivial⟩ next
def jE(KS:List Int)(s:Sc)(i:Nat):ByteArray:=⟨(dU KS (s.id++ob i 2++I8++s.seed).data.toList).toArray⟩
theorem Mz:Tryz.f33.body=some (.seq (rG Tryz.f33 0) (.seq (rD Tryz.f33 1) .ret)):=k_
theorem vw(k:KS.length=64)(j:iU KS)(s:Sc)(i:Nat)(m:i<65536)(f:s.id.size+3+s.seed.size<=140737488355328)(w:World)(n:kZ KS cv w):
 Calls lT 33 #[.agg cv, .agg s.cells, .i i] w λe w'=>e= .returned (.s (jE KS s i))/\Bw w w':=by refine bJ (t:=6) Lf.func33 rfl λq=> ?_;rw[bP (N:=18) [.agg cv, .agg s.cells, .i i] Lf.func33 Mz rfl];have d:=aY [.agg cv, .agg s.cells, .i i] 18 s_;refine Rn.gr ?_;refine Rn.z d 3 0 26 rfl λa d=> ?_;show Rn _ _ _ _ (w.alloc (.cells cv 26));refine Rn.z d 4 1 31 rfl λa d=> ?_;rw[aI]at d;show Rn _ _ _ _ ((w.alloc (.cells cv 26)).alloc (.cells s.cells 31));have c:Bw w ((w.alloc (.cells cv 26)).alloc (.cells s.cells 31)):=aE (PK w _) (by rw[aI];omega) (PK _ _);have l:=(cm (w.alloc (.cells cv 26)) (.cells s.cells 31) (b:=w.heap.size) (by rw[aI];omega)).trans (aP w _);have g:=aP (w.alloc (.cells cv 26)) (.cells s.cells 31);rw[aI]at g;revert c l g;generalize (w.alloc (.cells cv 26)).alloc (.cells s.cells 31)=p;intro c l g;refine Rn.uu d λa d=> ?_;refine Rn.p rfl (Rn.p rfl ?_);refine M3 k j rfl m f (n.mono c) l g (d.only ⟨rfl,rfl,rfl,trivial⟩) λa o ⟨h,d⟩=> ?_;exact Rn.fi d ⟨rfl,aE c c.size h⟩
theorem Lf.func10:(aJ q tP).funcs[10]?=some Tryz.f10:=aO Tryz.func10 d_ rfl rfl k_
theorem M6{s:Sc}{b4:Nat}(f:s.t<1000)(g:s.c<1000)(d:s.id.size<=1000)(c:s.root.size<=1000)(b:w.heap[b4]?=some (.cells s.cells 31))
 (e:Has [(1, .pt b4)] 18 [] a)
 (next:∀a w',(Bw w w'/\Has [(2, .s (ob s.t 4++ob s.c 4++s.id++s.root)),(1, .pt b4)] 18 [] a)->Rn lT Goal (fr.atR a K) cs w'):
 Rn lT Goal (fr.atR a (.code (rD Tryz.f10 1)::K)) cs w:=by
 exact Rn.tab e [(3, .pt b4),(4, .pt b4),(5, .i s.t),(6, .s (ob s.t 4)),(7, .pt b4),(8, .pk b4 1),(9, .i s.c),(10, .s (ob s.c 4)),(11, .s (ob s.t 4++ob s.c 4)),(12, .pk b4 6),(13, .s s.id),(14, .s (ob s.t 4++ob s.c 4++s.id)),(15, .pk b4 10),(16, .s s.root),(17, .s (ob s.t 4++ob s.c 4++s.id++s.root)),(2, .s (ob s.t 4++ob s.c 4++s.id++s.root))] [2] 2
  ⟨tq,
   tq,
   tq,
   λz=>z.c2 (z.k 5) kc (dA (s.t) 4 _ d_ o_),
   tq,
   tq,
   tq,
   λz=>z.c2 (z.k 9) kc (dA (s.c) 4 _ d_ o_),
   tq,
   tq,
   λz=>dv ((aN bA z.e (z.k 12) ((aH ((z.b.block _ (gA b).1).trans b) 6).trans rfl)).1),
   tq,
   tq,
   λz=>dv ((aN bA z.e (z.k 15) ((aH ((z.b.block _ (gA b).1).trans b) 10).trans rfl)).1),
   tq,
   trivial⟩ next
theorem MI:Tryz.f10.body=some (.seq (rG Tryz.f10 0) (.seq (rD Tryz.f10 1) .ret)):=k_
theorem JO(s:Sc)(h:s.t<1000)(i:s.c<1000)(f:s.id.size<=1000)(d:s.root.size<=1000)(w:World):
 Calls lT 10 #[.agg s.cells] w λe w'=>e= .returned (.s (ob s.t 4++ob s.c 4++s.id++s.root))/\Bw w w':=by refine bJ (t:=2) Lf.func10 rfl λk=> ?_;rw[bP (N:=18) [.agg s.cells] Lf.func10 MI rfl];have b:=aY [.agg s.cells] 18 s_;refine Rn.gr ?_;refine Rn.z b 1 0 31 rfl λa b=> ?_;show Rn _ _ _ _ (w.alloc (.cells s.cells 31));have c:=PK w (.cells s.cells 31);refine Rn.uu b λa b=> ?_;refine Rn.p rfl (Rn.p rfl ?_);refine M6 h i f d (aP w _) (b.only ⟨rfl,trivial⟩) λa j ⟨g,b⟩=> ?_;exact Rn.fi b ⟨rfl,aE c c.size g⟩
theorem Lf.func28:(aJ q tP).funcs[28]?=some Tryz.f28:=aO Tryz.func28 d_ rfl rfl k_
def yB(KS:List Int)(s:Sc)(i:Nat):ByteArray:=zt KS s.id s.q i (cU s.wd) 0 (jE KS s i)
def nz(KS:List Int)(s:Sc):Nat->ByteArray
 |0=>⟨#[]⟩
 |i+1=>nz KS s i++yB KS s i
def pB(KS:List Int)(seed:ByteArray)(n:Nat):ByteArray:=⟨(dU KS (ob n 4++seed).data.toList).toArray⟩
def rK(KS:List Int)(seed:ByteArray)(lf:Nat):Nat->ByteArray
 |0=>⟨#[]⟩
 |i+1=>rK KS seed lf i++pB KS seed (dn lf i)
def lj(KS:List Int)(id seed:ByteArray)(lf:Nat)(x:ByteArray):Nat->ByteArray
 |0=>x
 |i+1=>DT KS id (dn lf i) (pB KS seed (dn lf i)) (lj KS id seed lf x i)
theorem Cx(KS:List Int)(s:Sc)(i:Nat):(yB KS s i).size=32:=nl KS s.id s.q i _ 0 _ (eH KS _)
theorem pf(KS:List Int)(s:Sc):∀i,(nz KS s i).size=32*i
 |0=>rfl
 |i+1=>by rw[nz,Tg,pf KS s i,Cx];omega
theorem oV(KS:List Int)(seed:ByteArray)(lf:Nat):∀i,(rK KS seed lf i).size=32*i
 |0=>rfl
 |i+1=>by rw[rK,Tg,oV KS seed lf i,pB,eH];omega
theorem tH(KS:List Int)(id seed:ByteArray)(lf:Nat)(x:ByteArray)(a:x.size=32):∀i,(lj KS id seed lf x i).size=32
 |0=>a
 |_+1=>fH KS _
theorem K9(f:KS.length=64)(e:iU KS){s:Sc}{en:ByteArray}{o g b10 b4:Nat}(C:i<65536)(d:s.id.size+3+s.seed.size<=140737488355328)(l:s.id.size<=1000)(x:s.q<4294967296)(v:s.wd<=8)(D:2^s.wd<=256)(B:1<=2^s.wd)(j:cU s.wd<65536)(u:kZ KS cv w)(r:w.heap[o]?=some (.cells cv 26)){t:Int}{h sh:Nat}(y:w.heap[g]?=some (.cells (bB t c h s.wd n sh) 29))(b:w.heap[b4]?=some (.cells s.cells 31))
 (A:Has [(2, .s s.id),(3, .i s.q),(4, .s s.seed),(5, .pt o),(6, .pt g),(10, .pt b10),(11, .pt b4),(12, .s en),(13, .i i)] 93 [] a)
 (next:∀a w',(Bw w w'/\Has [(14, .s (yB KS s i)),(2, .s s.id),(3, .i s.q),(4, .s s.seed),(5, .pt o),(6, .pt g),(10, .pt b10),(11, .pt b4),(12, .s en),(13, .i i)] 93 [] a)->Rn lT Goal (fr.atR a K) cs w'):
 Rn lT Goal (fr.atR a (.code (rD Tryz.f28 6)::K)) cs w:=by
 exact Rn.tab A [(28, .agg cv),(29, .s s.id),(30, .i s.q),(31, .i i),(32, .pk g 3),(33, .i s.wd),(34, .i ((2^s.wd:Nat):Int)),(35, .i (cU s.wd)),(36, .agg cv),(37, .agg s.cells),(38, .i i),(39, .s (jE KS s i)),(40, .s (yB KS s i)),(14, .s (yB KS s i))] [29,30,31,38,14] 14
  ⟨tq,
   tq,
   tq,
   λz=>by have q:(1:Int)*2^s.wd=((2^s.wd:Nat):Int):=(by rw[Int.one_mul,Q1];rfl);exact pv (iz (m:=1) (k:=s.wd) (z.e (p:= .binOp .shl 3 (.const (.i 1)) (.tmp 33) 3)) rfl (z.k 33) o_ (by rw[q];omega)) (by rw[q]<;>rfl),
   λz=>pv (lZ (n:=1) (z.e (p:= .binOp .sub 3 (.tmp 34) (.const (.i 1)) 3)) (z.k 34) rfl o_) (by exact congrArg (Value.int .i64) (by unfold cU;omega)),
   tq,
   λz=>dv (sP z.e (z.k 11) ((z.b.block _ (gA b).1).trans b)),
   λz=>z.c3 (z.k 36) (z.k 37) (z.k 38) (vw f e s i o_ d _ (u.mono z.b)),
   λz=>z.c7 (z.k 28) (z.k 29) (z.k 30) (z.k 31) kc (z.k 35) (z.k 39) (Bb f e s.id (jE KS s i) s.q i 0 (cU s.wd) x o_ d_ j l (eH KS _) _ (u.mono z.b)),
   trivial⟩ next
theorem K8(d:KS.length=64)(c:iU KS){id seed:ByteArray}{b e b10 b4:Nat}(h:pB KS seed b=⟨(dU KS (ob b 4++seed).data.toList).toArray⟩)(k:b<4294967296)(f:seed.size+4<=140737488355328)(j:kZ KS cv w)(g:w.heap[e]?=some (.cells cv 26))
 (i:Has [(2, .s id),(4, .s seed),(5, .pt e),(10, .pt b10),(11, .pt b4),(15, .i b)] 93 [] a)
 (next:∀a w',(Bw w w'/\Has [(16, .s (pB KS seed b)),(2, .s id),(4, .s seed),(5, .pt e),(10, .pt b10),(11, .pt b4),(15, .i b)] 93 [] a)->Rn lT Goal (fr.atR a K) cs w'):
 Rn lT Goal (fr.atR a (.code (rD Tryz.f28 12)::K)) cs w:=by
 exact Rn.tab i [(60, .agg cv),(61, .i b),(62, .s (ob b 4)),(63, .s seed),(64, .s (ob b 4++seed)),(65, .s (pB KS seed b)),(16, .s (pB KS seed b))] [61,63,16] 16
  ⟨tq,
   λz=>z.c2 (z.k 61) kc (dA (b) 4 _ d_ o_),
   tq,
   λz=>z.c2 (z.k 60) (z.k 64) (gP KS d c cv (ob b 4++seed) _ (j.mono z.b) (by first|(simp only[cE];omega)|(simp only[Tg,cE];omega))) (congrArg Value.string h.symm),
   trivial⟩ next
section
variable{y:Operand}{m:Int}
theorem Ls(a:o.op= .unOp .neg 3 x)(b:ev x= .i m)(h: -9223372036854775808<= -m/\ -m<9223372036854775808):(execOp ev o).run lT w= .ok (.value (.i (-m))) w:=by
 have e:Q4.wrap (-m)= -m:=by rw[Q3];omega
 simp[execOp,a,b,go_sem,e]
theorem Gg{t:ByteArray}(a:o.op= .slice 9 x none (some y) none)(c:ev x= .s t)(b:ev y= .i n)(e:n<=t.size):(execOp ev o).run lT w= .ok (.value (.s (t.extract 0 n))) w:=by
 have d:lT.underlying 9=some .string:=k_
 simp[execOp,a,c,b,QG,R0,Qq,run_underlying d,Qx,asIntOf,e]
end
theorem ME:Tryz.f17.body=some (.seq (rG Tryz.f17 0) (.seq (.seq (rG Tryz.f17 1) (.cond (.tmp 6) (.seq (rG Tryz.f17 2) .ret) .skip)) (.seq (.seq (rG Tryz.f17 3) (.cond (.tmp 8) (rG Tryz.f17 4) .skip)) (.seq (rG Tryz.f17 5) .ret)))):=k_
theorem yL(c:0<n)(b:Has [(0, .i m),(1, .i n)] 15 [] a)(next:∀a,Has [(4, .i ((m%n:Nat):Int))] 15 [] a->Rn lT Goal ((base 17).atR a [.code .ret]) cs w):
 Rn lT Goal ((base 17).atR a [.code (.seq (rG Tryz.f17 5) .ret)]) cs w:=by
 iterate 2 refine Rn.uu b λa b=> ?_
 refine Rn.uu b λa b=> ?_;refine Rn.uu b λa b=> ?_;exact Rn.p rfl (next a (b.only ⟨rfl,trivial⟩))
def eo(c:Int)(n:Nat):Nat:=(if c<0 then-(c+1)else c).toNat%n
theorem mY(c:Int)(a:0<n):eo c n<n:=Nat.mod_lt _ a
theorem nX(c:Int)(n:Nat)(g: -9223372036854775808<=c/\c<9223372036854775808)(d:0<n)(w:World):
 Calls lT 17 #[.i c, .i n] w λe w'=>e= .returned (.i (eo c n:Nat))/\w'=w:=by
 refine bJ (t:=4) Lf.func17 rfl λi=> ?_;rw[bP (N:=15) [.i c, .i n] Lf.func17 ME rfl];have b:=aY [.i c, .i n] 15 s_
 iterate 3 refine Rn.uu b λa b=> ?_
 refine Rn.p rfl (Rn.cond _ (b.G 6) ?_);rw[show((n:Int)==0)=false from by simp;omega]
 iterate 2 refine Rn.uu b λa b=> ?_
 refine Rn.p rfl (Rn.cond _ (b.G 8) ?_);by_cases h:c<0
 ·rw[decide_eq_true h]
  iterate 2 refine Rn.uu b λa b=> ?_
  refine Rn.vv b (λo f=>Ls f (b.G 10) o_) λa b=> ?_;refine Rn.uu b λa b=> ?_;refine Rn.p rfl (yL (m:=(-(c+1)).toNat) d (b.only ⟨?_,rfl,trivial⟩) λa b=>Rn.ends rfl (.inr ⟨_,rfl⟩) (Rn.now ⟨a,_,_,rfl,b.defers,b.slot 4 _ rfl,by simp[eo,h],rfl⟩));rw[R8 o_];rfl
 ·rw[decide_eq_false h];refine Rn.p rfl (yL (m:=c.toNat) d (b.only ⟨?_,rfl,trivial⟩) λa b=>Rn.ends rfl (.inr ⟨_,rfl⟩) (Rn.now ⟨a,_,_,rfl,b.defers,b.slot 4 _ rfl,by simp[eo,h],rfl⟩));rw[R8 o_];rfl
theorem vM(c:Int)(n:Nat)(b: -9223372036854775808<=c/\c<9223372036854775808)(a:0<n)(w:World):
 Calls lT 17 #[.i c, .i n] w λe w'=>∃r:Nat,e= .returned (.i r)/\r<n/\w'=w:=(nX c n b a w).mono λ_ _ h=>⟨_,h.1,mY c a,h.2⟩
section
variable{b:Frame}{k:List Item}
theorem Rn.pick(f:Has F N ds a)(d x n:Nat)(i:F.lookup x=some (.i c))(t: -9223372036854775808<=c/\c<9223372036854775808)(q:0<n)
 (next:∀r:Nat,r<n->∀a',Has ((d, .i r)::F) N ds a'->Rn lT Goal (b.atR a' (.inRegion ops rest::k)) cs w) (s:d<N:=by decide) (h:(ops[m]?).map (λo=>(o.dst,o.op,o.guard))=some (some d, .call {callee:= .value (.func 17),args:=#[.tmp x, .const (.i n)],argTypes:=#[3,3]},none):=by kernel_rfl):Rn lT Goal (b.atR a (.inRegion ops (m::rest)::k)) cs w:=by refine Rn.calls (args:=#[.i c, .i n]) f d s h (by simp only[List.map_toArray,List.map_cons,List.map_nil,f.get i];rfl) Lf.func17 k_ k_ (R:=λv g=>∃r:Nat,v= .i r/\r<n/\g=w) ((vM c n t q w).mono λe g ⟨r,z,y,u⟩=>⟨_,z,r,rfl,y,u⟩) λv g l a f=> ?_;obtain⟨r,rfl,p,j⟩:=l;rw[j];exact next r p a f
theorem Rn.cat(c:Has F N ds a)(d x y:Nat){t:ByteArray}(f:F.lookup x=some (.s s))(e:F.lookup y=some (.s t))(g:s.size+t.size<=9223372036854775807)
 (next:∀a',Has ((d, .s (s++t))::F) N ds a'->Rn lT Goal (b.atR a' (.inRegion ops rest::k)) cs w) (j:d<N:=by decide) (h:(ops[m]?).map (λo=>(o.dst,o.op,o.guard))=some (some d, .binOp .add 9 (.tmp x) (.tmp y) 9,none):=by kernel_rfl):Rn lT Goal (b.atR a (.inRegion ops (m::rest)::k)) cs w:=
 Rn.op c d (.binOp .add 9 (.tmp x) (.tmp y) 9) j h s_ (λo i=>eF i (c.get f) (c.get e) g) next
theorem Rn.kf(f:Has F N ds a)(d e x j:Nat){c1 c2:Int}{p wd sh c:Nat}(v:Value)(q:F.lookup x=some (.pk c 0))(i:w.heap[c]?=some (.cells (bB c1 c2 p wd n sh) 29))(r:j<6)(hv:(bB c1 c2 p wd n sh)[j]?=some v)
 (next:∀a',Has ((e,v)::(d, .pk c j)::F) N ds a'->Rn lT Goal (b.atR a' (.inRegion ops rest::k)) cs w) {l:Nat} (t:d<N:=by decide) (s:e<N:=by decide) (h:(ops[m]?).map (λo=>(o.dst,o.op,o.guard))=some (some d, .fieldAddr 29 (.tmp x) j,none):=by kernel_rfl) (u:(ops[l]?).map (λo=>(o.dst,o.op,o.guard))=some (some e, .load 3 (.tmp d),none):=by kernel_rfl):Rn lT Goal (b.atR a (.inRegion ops (m::l::rest)::k)) cs w:=by refine Rn.op f d (.fieldAddr 29 (.tmp x) j) t h s_ (λo g=>jI j r g (f.get q)) λa f=> ?_;exact Rn.op f e (.load 3 (.tmp d)) s u s_ (λo g=>(aN cq g (f.get (d:=d) (by simp[List.lookup])) ((aH i j).trans hv)).1) next
theorem Rn.G(hF:Has F N ds a)(d:Nat)(p:Op)(g gd:Nat)(q:Bool)(V:Value->Prop)(hq:F.lookup gd=some (.bool q))(hnd:∀c,p≠ .defer c)(hy:q=true->∀o:Oper,o.op=p->qo (aJ true tP) a o w λv w'=>V v/\w'=w)
 (next:∀v a',(q=true->V v)->Has ((d,v)::F) N ds a'->Rn (aJ true tP) Goal (b.atR a' (.inRegion ops rest::k)) cs w) (hd:d<N:=by decide) (h:(ops[m]?).map (λo=>(o.dst,o.op,o.guard))=some (some d,p,some (g,true)):=by kernel_rfl) (hg:(ops[g]?).bind (·.dst)=some gd:=by kernel_rfl):Rn (aJ true tP) Goal (b.atR a (.inRegion ops (m::rest)::k)) cs w:=by
 cases ho:ops[m]? with
 |none=>rw[ho]at h;cases h
 |some o=>
  rw[ho]at h;simp only[Option.map_some,Option.some.injEq,Prod.mk.injEq]at h;obtain⟨e1,e2,e3⟩:=h;have hw:=jr (tmps:=a.tmps) e3 hg (hF.slot gd _ hq);cases q with
  |false=>
   refine Rn.skips ho hw ?_;rw[e1];exact next _ _ (λh=>by cases h) (hF.put hd _)
  |true=>
   refine Rn.does ho hw (by rw[e2];exact hnd) (hy rfl o e2) λv w' ⟨hv,hw'⟩=> ?_;rw[e1,hw'];exact next v _ (λ_=>hv) (hF.put hd v)
end
def xo(f:Func):Code:= .seq (.seq (rG f 4) (.cond (.tmp 25) .skip (.exit 0))) (.seq (.block 1 (.seq (rD f 6) (rG f 7))) (rG f 5))
def PR(f:Func):Code:= .seq (.seq (rG f 10) (.cond (.tmp 57) .skip (.exit 2))) (.seq (.block 3 (.seq (rD f 12) (.seq (rG f 13) (.seq (rG f 14) (.cond (.tmp 73) (rG f 15) (rG f 16)))))) (rG f 11))
theorem MB:Tryz.f28.body=some (.seq (rG Tryz.f28 0) (.seq (rG Tryz.f28 1) (.seq (rG Tryz.f28 2) (.seq (.seq (rG Tryz.f28 3) (.block 0 (.loop (xo Tryz.f28)))) (.seq (rG Tryz.f28 8) (.seq (.seq (rG Tryz.f28 9) (.block 2 (.loop (PR Tryz.f28)))) (.seq (rG Tryz.f28 17) .ret))))))):=k_
structure Sw (w0 w:World) (cv:Array Value) (s:Sc) (N:Nat):Prop where
 at0:N=w0.heap.size
 old:Bw w0 w
 h5:w.heap[N]?=some (.cells cv 26)
 h6:w.heap[N+1]?=some (.cells (bB s.t s.c s.h s.wd s.n s.sh) 29)
 h10:w.heap[N+2]?=some (.cells (Sc.mk 0 0 0 0 0 0 ⟨#[]⟩ 0 ⟨#[]⟩ ⟨#[]⟩ ⟨#[]⟩).cells 31)
 h11:w.heap[N+3]?=some (.cells s.cells 31)
section
variable{s:Sc}
theorem Sw.mono(h:Sw w0 w cv s N)(a:Bw w w'):Sw w0 w' cv s N:=⟨h.at0,aE h.old h.old.size a,bk a h.h5,bk a h.h6,bk a h.h10,bk a h.h11⟩
theorem Sw.put(h:Sw w0 w cv s N)(s':Sc)(k:Nat)(v:Value)(e:s.cells.setIfInBounds k v=s'.cells)(b:(bB s.t s.c s.h s.wd s.n s.sh)=(bB s'.t s'.c s'.h s'.wd s'.n s'.sh)):Sw w0 (w.setCell ⟨N+3,k,none⟩ v) cv s' N:=by
 have a:=cP w ⟨N+3,k,none⟩ v (T6 (N+3));refine⟨h.at0,h.old.trans (a.mono (by have:=h.at0;omega)),(a.block _ o_).trans h.h5, ?_,(a.block _ o_).trans h.h10, ?_⟩
 ·rw[←b];exact(a.block _ o_).trans h.h6
 ·rw[←e];exact iX h.h11
end
section
variable(hKl:KS.length=64)(hKw:iU KS)(hC0:kZ KS cv w0)
include hKl hKw hC0
theorem JK{s:Sc}(d:s.id.size+3+s.seed.size<=140737488355328)(g:s.id.size<=1000)(r:s.q<256)(o:qn s.wd)(t:s.n<=136)
 (next:∀a w,Sw w0 w cv s N->Has [(2, .s s.id),(3, .i s.q),(4, .s s.seed),(5, .pt N),(6, .pt ((N+1))),(10, .pt ((N+2))),(11, .pt ((N+3))),(12, .s (nz KS s s.n))] 93 [] a->Rn lT Goal (fr.atR a K) cs w):
 ∀(m i:Nat) (a:Act) (w:World),s.n- i=m->i<=s.n->Sw w0 w cv s N->Has [(2, .s s.id),(3, .i s.q),(4, .s s.seed),(5, .pt N),(6, .pt ((N+1))),(10, .pt ((N+2))),(11, .pt ((N+3))),(12, .s (nz KS s i)),(13, .i i)] 93 [] a->
  Rn lT Goal (fr.atR a (.code (xo Tryz.f28):: .inLoop (xo Tryz.f28):: .inBlock 0::K)) cs w:=by
 have k:2^s.wd<=256/\1<=2^s.wd/\s.wd<=8:=by rcases o with h|h|h<;>rw[h]<;>decide
 have f:cU s.wd<65536:=by unfold cU;omega
 intro m;induction m with
 |zero=>
  intro i a w p q c b;refine Rn.uu b λa b=> ?_;refine Rn.kf b 23 24 6 4 (.i s.n) rfl c.h6 d_ rfl λa b=>Rn.uu b λa b=> ?_;refine Rn.p rfl (Rn.cond _ (b.G 25) ?_);rw[decide_eq_false o_];have e:i=s.n:=o_
  subst e;exact Rn.p rfl (next a w c (b.only ⟨rfl,rfl,rfl,rfl,rfl,rfl,rfl,rfl,trivial⟩))
 |succ m n=>
  intro i a w p q c b;refine Rn.uu b λa b=> ?_;refine Rn.kf b 23 24 6 4 (.i s.n) rfl c.h6 d_ rfl λa b=>Rn.uu b λa b=> ?_;refine Rn.p rfl (Rn.cond _ (b.G 25) ?_);rw[decide_eq_true o_];refine Rn.p rfl (Rn.p rfl (Rn.p rfl (Rn.p rfl ?_)));refine K9 hKl hKw o_ d g o_ k.2.2 k.1 k.2.1 f (hC0.mono c.old) c.h5 c.h6 c.h11 (b.only ⟨rfl,rfl,rfl,rfl,rfl,rfl,rfl,rfl,rfl,trivial⟩) λa l ⟨j,b⟩=> ?_;have c:=c.mono j
  iterate 2 refine Rn.uu b λa b=> ?_
  refine Rn.cat b 43 41 42 rfl rfl (by rw[pf,Cx];omega) λa b=> ?_
  iterate 4 refine Rn.uu b λa b=> ?_
  refine Rn.p rfl (Rn.p rfl (n (i+1) a l o_ o_ c (b.only ⟨rfl,rfl,rfl,rfl,rfl,rfl,rfl,rfl, ?_,trivial⟩)));rw[Int.natCast_add];rfl
end
section
variable{b:Frame}{k:List Item}
theorem Rn.sts(c:Has F N ds a)(x y j:Nat){g:Nat}{cells:Array Value}{v0:Value}(f:F.lookup x=some (.pk g j))(e:F.lookup y=some (.s s))(d:w.heap[g]?=some (.cells cells t))(hv:cells[j]?=some v0)
 (next:∀a',Has F N ds a'->Rn lT Goal (b.atR a' (.inRegion ops rest::k)) cs (w.setCell ⟨g,j,none⟩ (.s s))) (h:(ops[m]?).map (λo=>(o.dst,o.op,o.guard))=some (none, .store 9 (.tmp x) (.tmp y),none):=by kernel_rfl):Rn lT Goal (b.atR a (.inRegion ops (m::rest)::k)) cs w:=
 Rn.does0 c (.store 9 (.tmp x) (.tmp y)) h s_ (λo i=>(dH (ql:=true) (w:=w) (b:=g) (k:=j) (v:= .s s) (v0:=v0) rfl rfl k_ i (c.get f) (c.get e) (by rw[aH d];exact hv) (by simp[World.frozen?,d])).1) next
theorem Rn.sf(c:Has F N ds a)(d e x j f:Nat){g:Nat}{s:Sc}(v:ByteArray)(n:F.lookup x=some (.pk g 0))(q:∀o:Oper,o.op= .fieldAddr 31 (.tmp x) j->a.eval (.tmp x)= .pk g 0->(execOp a.eval o).run lT w= .ok (.value (.pk g f)) w)(p:w.heap[g]?=some (.cells s.cells 31))(hv:s.cells[f]?=some (.s v))
 (next:∀a',Has ((e, .s v)::(d, .pk g f)::F) N ds a'->Rn lT Goal (b.atR a' (.inRegion ops rest::k)) cs w) {l:Nat} (t:d<N:=by decide) (r:e<N:=by decide) (h:(ops[m]?).map (λo=>(o.dst,o.op,o.guard))=some (some d, .fieldAddr 31 (.tmp x) j,none):=by kernel_rfl) (u:(ops[l]?).map (λo=>(o.dst,o.op,o.guard))=some (some e, .load 9 (.tmp d),none):=by kernel_rfl):Rn lT Goal (b.atR a (.inRegion ops (m::l::rest)::k)) cs w:=by refine Rn.op c d (.fieldAddr 31 (.tmp x) j) t h s_ (λo i=>q o i (c.get n)) λa c=> ?_;exact Rn.op c e (.load 9 (.tmp d)) r u s_ (λo i=>(aN bA i (c.get (d:=d) (by simp[List.lookup])) ((aH p f).trans hv)).1) next
end
theorem vR{lf h:Nat}(g:2^h<=lf)(f:lf<2^(h+1))(i:Nat)(j:i<=h):(1<dn lf i↔i<h)/\1<=dn lf i/\dn lf i<=lf:=by
 rw[pW];have e:h=i+(h- i):=o_
 have p:2^h=2^i*2^(h- i):=by rw[←Nat.pow_add,←e]
 have a:0<2^i:=Nat.pow_pos d_;have c:2^(h- i)<=lf/2^i:=by rw[Nat.le_div_iff_mul_le a,Nat.mul_comm,←p];exact g
 have b:1<=2^(h- i):=Nat.one_le_two_pow;refine⟨⟨λd=> ?_,λd=> ?_⟩,By b c,Nat.div_le_self _ _⟩
 ·rcases Nat.lt_or_ge i h with k|k
  ·exact k
  ·have:i=h:=o_;subst this;have:lf/2^i<2:=(by rw[Nat.div_lt_iff_lt_mul a];rw[RX]at f;omega);omega
 ·have:2<=2^(h- i):=by rw[show h- i=(h- i- 1)+1 from o_,RX];have:=Nat.one_le_two_pow (n:=h- i- 1);omega
  omega
def rz(KS:List Int)(s:Sc)(lf:Nat)(x:ByteArray)(i:Nat):Sc:={s with path:=rK KS s.seed lf i,root:=lj KS s.id s.seed lf x i}
section
variable(hKl:KS.length=64)(hKw:iU KS)(hC0:kZ KS cv w0)
include hKl hKw hC0
theorem JJ{s:Sc}{lf:Nat}{x:ByteArray}(j:x.size=32)(B:2^s.h<=lf)(A:lf<2^(s.h+1))(I:lf<512)(L:s.h<=8)(t:s.seed.size+4<=140737488355328)(J:s.id.size<=1000)
 (next:∀a w,Sw w0 w cv (rz KS s lf x s.h) N->Has [(10, .pt ((N+2))),(11, .pt ((N+3)))] 93 [] a->Rn lT Goal (fr.atR a K) cs w):
 ∀(m i:Nat) (a:Act) (w:World),s.h- i=m->i<=s.h->Sw w0 w cv (rz KS s lf x i) N->Has [(2, .s s.id),(4, .s s.seed),(5, .pt N),(10, .pt ((N+2))),(11, .pt ((N+3))),(15, .i (dn lf i))] 93 [] a->
  Rn lT Goal (fr.atR a (.code (PR Tryz.f28):: .inLoop (PR Tryz.f28):: .inBlock 2::K)) cs w:=by
 intro m;induction m with
 |zero=>
  intro i a w H y c b;have k:=vR B A i y
  iterate 2 refine Rn.uu b λa b=> ?_
  refine Rn.p rfl (Rn.cond _ (b.G 57) ?_);rw[decide_eq_false (by have:=k.1;omega)];have e:i=s.h:=o_
  subst e;exact Rn.p rfl (next a w c (b.only ⟨rfl,rfl,trivial⟩))
 |succ m D=>
  intro i a w H y c b;have k:=vR B A i y;have E:=tH KS s.id s.seed lf x j i;have G:=oV KS s.seed lf i
  iterate 2 refine Rn.uu b λa b=> ?_
  refine Rn.p rfl (Rn.cond _ (b.G 57) ?_);rw[decide_eq_true (by have:=k.1;omega)];refine Rn.p rfl (Rn.p rfl (Rn.p rfl (Rn.p rfl ?_)));have F:(pB KS s.seed (dn lf i)).size=32:=eH KS _;refine K8 hKl hKw rfl o_ t (hC0.mono c.old) c.h5 (b.only ⟨rfl,rfl,rfl,rfl,rfl,rfl,trivial⟩) λa C ⟨z,b⟩=> ?_;have c:=c.mono z;refine Rn.gr ?_;refine Rn.sf b 66 67 11 4 9 (rK KS s.seed lf i) rfl (λo d j=>NP d j) c.h11 rfl λa b=>Rn.uu b λa b=> ?_;refine Rn.cat b 69 67 68 rfl rfl o_ λa b=>Rn.uu b λa b=> ?_;refine Rn.sts b 70 69 9 rfl rfl c.h11 rfl λa b=> ?_;have c:=c.put {rz KS s lf x i with path:=rK KS s.seed lf (i+1)} 9 (.s (rK KS s.seed lf i++pB KS s.seed (dn lf i))) rfl rfl;revert c;generalize C.setCell ⟨N+3,9,none⟩ (.s (rK KS s.seed lf i++pB KS s.seed (dn lf i)))=q;intro c;refine Rn.uu b λa b=> ?_;refine Rn.vv b (λo d=>CE (n:=2) d (b.G 71) rfl d_) λa b=> ?_;refine Rn.uu b λa b=> ?_;refine Rn.p rfl (Rn.cond _ (b.G 73) ?_);have g:∀(a:Act) (p:World),Sw w0 p cv (rz KS s lf x (i+1)) N->Has [(2, .s s.id),(4, .s s.seed),(5, .pt N),(10, .pt ((N+2))),(11, .pt ((N+3))),(15, .i (dn lf i))] 93 [] a->Rn lT Goal (fr.atR a (.inBlock 3:: .code (rG Tryz.f28 11):: .inLoop (PR Tryz.f28):: .inBlock 2::K)) cs p:=by
   intro a p c b
   iterate 3 refine Rn.uu b λa b=> ?_
   exact Rn.p rfl (Rn.p rfl (D (i+1) a p o_ o_ c (b.only ⟨rfl,rfl,rfl,rfl,rfl,rfl,trivial⟩)))
  by_cases f:dn lf i%2=1
  ·rw[show(((dn lf i%2:Nat):Int)==1)=true from by simp;omega];refine Rn.vv b (λo d=>gg hC0.two d (b.G 5) c.h5) λa b=> ?_
   iterate 4 refine Rn.uu b λa b=> ?_
   refine Rn.sf b 79 80 11 5 10 (lj KS s.id s.seed lf x i) rfl (λo d j=>KU d j) c.h11 rfl λa b=>Rn.cl b Lf.func65 (R:=λv r=>v= .s (lj KS s.id s.seed lf x (i+1))/\Bw q r) ((m9 hKl hKw s.id (pB KS s.seed (dn lf i)) (lj KS s.id s.seed lf x i) (dn lf i/2) o_ o_ q (hC0.mono c.old)).mono λe r h=>⟨_,h.1,by rw[lj,DT,if_pos f,if_pos f],h.2⟩) λv p u a b=> ?_;obtain⟨rfl,l⟩:=u;have c:=c.mono l;refine Rn.uu b λa b=> ?_;refine Rn.sts b 82 81 10 rfl rfl c.h11 rfl λa b=> ?_;exact Rn.p rfl (g a _ (c.put (rz KS s lf x (i+1)) 10 (.s (lj KS s.id s.seed lf x (i+1))) rfl rfl) (b.only ⟨rfl,rfl,rfl,rfl,rfl,rfl,trivial⟩))
  ·rw[show(((dn lf i%2:Nat):Int)==1)=false from by simp;omega];refine Rn.vv b (λo d=>gg hC0.two d (b.G 5) c.h5) λa b=> ?_
   iterate 3 refine Rn.uu b λa b=> ?_
   refine Rn.sf b 87 88 11 5 10 (lj KS s.id s.seed lf x i) rfl (λo d j=>KU d j) c.h11 rfl λa b=>Rn.uu b λa b=> ?_;refine Rn.cl b Lf.func65 (R:=λv r=>v= .s (lj KS s.id s.seed lf x (i+1))/\Bw q r) ((m9 hKl hKw s.id (lj KS s.id s.seed lf x i) (pB KS s.seed (dn lf i)) (dn lf i/2) o_ o_ q (hC0.mono c.old)).mono λe r h=>⟨_,h.1,by rw[lj,DT,if_neg f,if_neg f],h.2⟩) λv p u a b=> ?_;obtain⟨rfl,l⟩:=u;have c:=c.mono l;refine Rn.uu b λa b=> ?_;refine Rn.sts b 91 90 10 rfl rfl c.h11 rfl λa b=> ?_;exact Rn.p rfl (g a _ (c.put (rz KS s lf x (i+1)) 10 (.s (lj KS s.id s.seed lf x (i+1))) rfl rfl) (b.only ⟨rfl,rfl,rfl,rfl,rfl,rfl,trivial⟩))
end
theorem FY(w:World)(a:Array Value)(s:Sc):Sw w (((((w.alloc (.cells a 26)).alloc (.cells (bB s.t s.c s.h s.wd s.n s.sh) 29)).alloc (.cells (Sc.mk 0 0 0 0 0 0 ⟨#[]⟩ 0 ⟨#[]⟩ ⟨#[]⟩ ⟨#[]⟩).cells 31)).alloc (.cells (Sc.mk 0 0 0 0 0 0 ⟨#[]⟩ 0 ⟨#[]⟩ ⟨#[]⟩ ⟨#[]⟩).cells 31)).setRow (w.heap.size+3) s.cells) a s w.heap.size:=by
 have e:(w.alloc (.cells a 26)).heap.size=w.heap.size+1:=aI w _;have c:((w.alloc (.cells a 26)).alloc (.cells (bB s.t s.c s.h s.wd s.n s.sh) 29)).heap.size=w.heap.size+2:=by rw[aI,e]
 have b:(((w.alloc (.cells a 26)).alloc (.cells (bB s.t s.c s.h s.wd s.n s.sh) 29)).alloc (.cells (Sc.mk 0 0 0 0 0 0 ⟨#[]⟩ 0 ⟨#[]⟩ ⟨#[]⟩ ⟨#[]⟩).cells 31)).heap.size=w.heap.size+3:=by rw[aI,c]
 have o:=aP w (.cells a 26);have m:=aP (w.alloc (.cells a 26)) (.cells (bB s.t s.c s.h s.wd s.n s.sh) 29);have l:=aP ((w.alloc (.cells a 26)).alloc (.cells (bB s.t s.c s.h s.wd s.n s.sh) 29)) (.cells (Sc.mk 0 0 0 0 0 0 ⟨#[]⟩ 0 ⟨#[]⟩ ⟨#[]⟩ ⟨#[]⟩).cells 31);have j:=aP (((w.alloc (.cells a 26)).alloc (.cells (bB s.t s.c s.h s.wd s.n s.sh) 29)).alloc (.cells (Sc.mk 0 0 0 0 0 0 ⟨#[]⟩ 0 ⟨#[]⟩ ⟨#[]⟩ ⟨#[]⟩).cells 31)) (.cells (Sc.mk 0 0 0 0 0 0 ⟨#[]⟩ 0 ⟨#[]⟩ ⟨#[]⟩ ⟨#[]⟩).cells 31);rw[e]at m;rw[c]at l;rw[b]at j;have i:=PK w (.cells a 26);have h:=PK (w.alloc (.cells a 26)) (.cells (bB s.t s.c s.h s.wd s.n s.sh) 29);have g:=PK ((w.alloc (.cells a 26)).alloc (.cells (bB s.t s.c s.h s.wd s.n s.sh) 29)) (.cells (Sc.mk 0 0 0 0 0 0 ⟨#[]⟩ 0 ⟨#[]⟩ ⟨#[]⟩ ⟨#[]⟩).cells 31);have d:=PK (((w.alloc (.cells a 26)).alloc (.cells (bB s.t s.c s.h s.wd s.n s.sh) 29)).alloc (.cells (Sc.mk 0 0 0 0 0 0 ⟨#[]⟩ 0 ⟨#[]⟩ ⟨#[]⟩ ⟨#[]⟩).cells 31)) (.cells (Sc.mk 0 0 0 0 0 0 ⟨#[]⟩ 0 ⟨#[]⟩ ⟨#[]⟩ ⟨#[]⟩).cells 31);have f:=λk n=>setRow_other ((((w.alloc (.cells a 26)).alloc (.cells (bB s.t s.c s.h s.wd s.n s.sh) 29)).alloc (.cells (Sc.mk 0 0 0 0 0 0 ⟨#[]⟩ 0 ⟨#[]⟩ ⟨#[]⟩ ⟨#[]⟩).cells 31)).alloc (.cells (Sc.mk 0 0 0 0 0 0 ⟨#[]⟩ 0 ⟨#[]⟩ ⟨#[]⟩ ⟨#[]⟩).cells 31)) (w.heap.size+3) k s.cells n;refine⟨rfl, ?_, ?_, ?_, ?_, ?_⟩
 ·exact(aE (aE (aE i i.size h) (by rw[c];omega) g) (by rw[b];omega) d).trans (bT _ _ _ o_)
 ·exact(f _ o_).trans ((d.block _ (by rw[b];omega)).trans ((g.block _ (by rw[c];omega)).trans ((h.block _ (by rw[e];omega)).trans o)))
 ·exact(f _ o_).trans ((d.block _ (by rw[b];omega)).trans ((g.block _ (by rw[c];omega)).trans m))
 ·exact(f _ o_).trans ((d.block _ (by rw[b];omega)).trans l)
 ·exact setRow_heap _ _ _ _ _ _ j
def vT(KS:List Int)(s:Sc):ByteArray:=j8 KS [s.id,ob (2^s.h+s.q) 4,ob 33410 2,j8 KS [s.id,ob s.q 4,ob 32896 2,nz KS s s.n]]
def eE(KS:List Int)(s:Sc):Sc:=rz KS s (2^s.h+s.q) (vT KS s) s.h
structure FD (s:Sc):Prop where
 len:s.id.size+100+s.seed.size<=140737488355328
 id:s.id.size<=1000
 q:s.q<2^s.h
 h:s.h<=5
 wd:qn s.wd
 n:s.n<=136
theorem uf(KS:List Int)(s:Sc)(p r:ByteArray):∀i,nz KS {s with path:=p,root:=r} i=nz KS s i
 |0=>rfl
 |i+1=>by rw[nz,nz,uf KS s p r i];rfl
theorem AE(j:KS.length=64)(i:iU KS)(s:Sc)(D:FD s)(w:World)(q:kZ KS cv w):
 Calls lT 28 #[.agg cv, .agg s.kind, .s s.id, .i s.q, .s s.seed] w λe w'=>e= .returned (.agg (eE KS s).cells)/\Bw w w':=by
 obtain⟨L,u,K,G,F,E⟩:=D;have J:2^s.h<=32:=By (Qp d_ G) d_;refine qc (t:=10) (ty:=31) (n:=11) Lf.func28 rfl (by rw[cc];exact Tryz.underlying31) rfl oc λM=> ?_;rw[bP (N:=93) [.agg cv, .agg s.kind, .s s.id, .i s.q, .s s.seed] Lf.func28 MB rfl];have c:=aY [.agg cv, .agg s.kind, .s s.id, .i s.q, .s s.seed] 93 s_;refine Rn.gr ?_;refine Rn.z c 5 0 26 rfl λa c=> ?_;show Rn _ _ _ _ (w.alloc (.cells cv 26));refine Rn.z c 6 1 29 rfl λa c=> ?_;rw[aI]at c;show Rn _ _ _ _ ((w.alloc (.cells cv 26)).alloc (.cells (bB s.t s.c s.h s.wd s.n s.sh) 29));refine Rn.vv c (λo d=>xn d) λa c=> ?_;rw[aI,aI]at c;have p:=aP (w.alloc (.cells cv 26)) (.cells (bB s.t s.c s.h s.wd s.n s.sh) 29);have g:=(cm ((w.alloc (.cells cv 26)).alloc (.cells (bB s.t s.c s.h s.wd s.n s.sh) 29)) (.cells (Sc.mk 0 0 0 0 0 0 ⟨#[]⟩ 0 ⟨#[]⟩ ⟨#[]⟩ ⟨#[]⟩).cells 31) (b:=(w.alloc (.cells cv 26)).heap.size) (by simp only[aI];omega)).trans p;rw[aI]at g;refine Rn.vv c (λo d=>jt d (c.G 6) g) λa c=> ?_
 iterate 3 refine Rn.uu c λa c=> ?_
 refine Rn.vv c (λo d=>G5 (s:=s) d (c.G 17) (c.G 18) (c.G 19) (c.G 20)) λa c=> ?_;refine Rn.vv c (λo d=>xn d) λa c=> ?_;have l:=aP (((w.alloc (.cells cv 26)).alloc (.cells (bB s.t s.c s.h s.wd s.n s.sh) 29)).alloc (.cells (Sc.mk 0 0 0 0 0 0 ⟨#[]⟩ 0 ⟨#[]⟩ ⟨#[]⟩ ⟨#[]⟩).cells 31)) (.cells (Sc.mk 0 0 0 0 0 0 ⟨#[]⟩ 0 ⟨#[]⟩ ⟨#[]⟩ ⟨#[]⟩).cells 31);rw[aI,aI,aI]at c l;refine Rn.nn c (λo d=>cd (cells:={s with path:=⟨#[]⟩,root:=⟨#[]⟩}.cells) d (c.G 11) (c.G 21) l oc rfl (by simp[Sc.cells,Value.oneCell'])) λa c=> ?_;have f:=FY w cv {s with path:=⟨#[]⟩,root:=⟨#[]⟩};clear p g l;revert f;show Sw w _ cv {s with path:=⟨#[]⟩,root:=⟨#[]⟩} w.heap.size->_;generalize (((((w.alloc (.cells cv 26)).alloc (.cells (bB s.t s.c s.h s.wd s.n s.sh) 29)).alloc (.cells (Sc.mk 0 0 0 0 0 0 ⟨#[]⟩ 0 ⟨#[]⟩ ⟨#[]⟩ ⟨#[]⟩).cells 31)).alloc (.cells (Sc.mk 0 0 0 0 0 0 ⟨#[]⟩ 0 ⟨#[]⟩ ⟨#[]⟩ ⟨#[]⟩).cells 31)).setRow (w.heap.size+3) {s with path:=⟨#[]⟩,root:=⟨#[]⟩}.cells)=C;intro f
 iterate 2 refine Rn.uu c λa c=> ?_
 refine Rn.p rfl (Rn.p rfl (Rn.p rfl ?_));have y:s.q<32:=o_
 refine JK j i q (s:={s with path:=⟨#[]⟩,root:=⟨#[]⟩}) (by show s.id.size+3+s.seed.size<=_;omega) u (by show s.q<256;omega) F E (λa w f c=> ?_) s.n 0 a C rfl (QH _) f (c.only ⟨rfl,rfl,rfl,rfl,rfl,rfl,rfl,rfl,rfl,trivial⟩);have I:=pf KS {s with path:=⟨#[]⟩,root:=⟨#[]⟩} s.n;refine Rn.vv c (λo d=>gg q.two d (c.G 5) f.h5) λa c=> ?_;refine Rn.vv c (λo d=>jt d (c.G 6) f.h6) λa c=> ?_
 iterate 3 refine Rn.uu c λa c=> ?_
 refine Rn.cl c Lf.func64 (R:=λv w'=>v= .s (vT KS s)/\Bw w w') ((zk j i s.id (nz KS {s with path:=⟨#[]⟩,root:=⟨#[]⟩} s.n) s.q s.h s.wd s.n s.sh s.t s.c o_ o_ o_ w (q.mono f.old)).mono λe w' h=>⟨_,h.1,by rw[vT,uf],h.2⟩) λv B H a c=> ?_;obtain⟨rfl,r⟩:=H;have f:=f.mono r;refine Rn.uu c λa c=> ?_;refine Rn.sts c 50 49 10 rfl rfl f.h11 rfl λa c=> ?_;have f:=f.put (rz KS s (2^s.h+s.q) (vT KS s) 0) 10 (.s (vT KS s)) rfl rfl;revert f;generalize B.setCell _ _=A;intro f;refine Rn.gr ?_;refine Rn.kf c 51 52 6 2 (.i s.h) rfl f.h6 d_ rfl λa c=> ?_;have z:(1:Int)*2^s.h=((2^s.h:Nat):Int):=by rw[Int.one_mul,Q1];rfl
 refine Rn.vv c (λo d=>iz (m:=1) (k:=s.h) d rfl (c.G 52) o_ (by rw[z];omega)) λa c=> ?_;rw[z]at c;refine Rn.uu c λa c=> ?_;refine Rn.vv c (λo d=>iA d (c.G 53) (c.G 54) (by show _<=((2^s.h:Nat):Int)+(s.q:Int)/\_+(s.q:Int)<_;omega)) λa c=> ?_;refine Rn.uu c λa c=> ?_;refine Rn.p rfl (Rn.p rfl (Rn.p rfl ?_));refine JJ j i q (s:=s) (lf:=2^s.h+s.q) (x:=vT KS s) (fH KS _) o_ (by rw[RX];omega) o_ o_ o_ u (λa w f c=> ?_) s.h 0 a A rfl (QH _) f (c.only ⟨rfl,rfl,rfl,rfl,rfl, ?_,trivial⟩)
 ·refine Rn.vv c (λo d=>sP d (c.G 11) f.h11) λa c=> ?_;refine Rn.nn c (λo d=>cd (cells:=(eE KS s).cells) d (c.G 10) (c.G 92) f.h10 oc rfl (by simp[Sc.cells,Value.oneCell'])) λa c=> ?_;exact Rn.p rfl (Rn.ends rfl (.inr ⟨_,rfl⟩) (Rn.now ⟨a,_,_,_,_,rfl,c.defers,c.slot 10 _ rfl,setRow_heap _ _ _ _ _ _ f.h10,rfl,rfl,f.old.trans (bT _ _ _ o_)⟩))
 ·show some (Value.i (((2^s.h:Nat):Int)+(s.q:Int)))=some (Value.i ((2^s.h+s.q:Nat):Int));rw[Int.natCast_add]
theorem Lf.func11:(aJ q tP).funcs[11]?=some Tryz.f11:=aO Tryz.func11 d_ rfl rfl k_
theorem Kj{s:Sc}{salt:ByteArray}{d b4:Nat}(f:s.q<1000)(g:s.c<1000)(b:salt.size<=1000)(c:w.heap[b4]?=some (.cells s.cells 31))
 (e:Has [(2, .s salt),(3, .s msg),(4, .pt d),(5, .pt b4)] 68 [] a)
 (next:∀a w',(Bw w w'/\Has [(9, .s (ob s.q 4++ob s.c 4++salt)),(2, .s salt),(3, .s msg),(4, .pt d),(5, .pt b4)] 68 [] a)->Rn lT Goal (fr.atR a K) cs w'):
 Rn lT Goal (fr.atR a (.code (rD Tryz.f11 1)::K)) cs w:=by
 exact Rn.tab e [(13, .pk b4 7),(14, .i s.q),(15, .s (ob s.q 4)),(16, .pt b4),(17, .pk b4 1),(18, .i s.c),(19, .s (ob s.c 4)),(20, .s (ob s.q 4++ob s.c 4)),(21, .s salt),(22, .s (ob s.q 4++ob s.c 4++salt)),(9, .s (ob s.q 4++ob s.c 4++salt))] [21,9] 9
  ⟨tq,
   tq,
   λz=>z.c2 (z.k 14) kc (dA (s.q) 4 _ d_ o_),
   tq,
   tq,
   tq,
   λz=>z.c2 (z.k 18) kc (dA (s.c) 4 _ d_ o_),
   tq,
   tq,
   trivial⟩ next
def Nb(cv:Array Value)(s:Sc)(salt msg Qb:ByteArray)(b4:Nat):Nat->Value->World->Prop
 |0,v,_=>v= .pk b4 0
 |1,v,_=>v= .agg s.kind
 |2,v,_=>v= .agg cv
 |3,v,_=>v= .pk b4 6
 |4,v,_=>v= .string s.id
 |5,v,_=>v= .pk b4 7
 |6,v,_=>v= .int .i64 s.q
 |7,v,_=>v= .string salt
 |8,v,_=>v= .string msg
 |9,v,_=>v= .string Qb
 |10,v,w=>ij s.n (λc=>dl (ib Qb.data.toList s.wd s.sh) s.wd c) v w
 |_,v,w=>ij s.n (λc=>dl (ib Qb.data.toList s.wd s.sh) s.wd c) v w
theorem EY{s:Sc}{salt Qb:ByteArray}{b4:Nat}(k:Nat)(v:Value)(w w':World)(a:Nb cv s salt msg Qb b4 k v w)(b:Bw w w'):Nb cv s salt msg Qb b4 k v w':=by
 match k,a with
 |0,a|1,a|2,a|3,a|4,a|5,a|6,a|7,a|8,a|9,a=>exact a
 |10,a=>exact ij.mono a b
 |_+11,a=>exact ij.mono a b
theorem Ki(L:KS.length=64)(J:iU KS){s:Sc}{salt y Qb:ByteArray}{x b4:Nat}(r:Qb=j8 KS [s.id,ob s.q 4,ob 33153 2,salt,msg])(U:qn s.wd)(D:s.sh<=8)(H:1<=s.n)(F:s.n<=34*(8/s.wd))(hq:s.q<1000)(p:s.id.size+6+salt.size+msg.size<=281474976710400)(R:kZ KS cv w)(n:w.heap[x]?=some (.cells cv 26))(f:w.heap[b4]?=some (.cells s.cells 31))
 (M:Has [(2, .s salt),(3, .s msg),(4, .pt x),(5, .pt b4),(9, .s y)] 68 [] a)
 (next:∀a w',(Bw w w'/\∃v,ij s.n (λc=>dl (ib Qb.data.toList s.wd s.sh) s.wd c) v w'/\Has [(10,v),(2, .s salt),(3, .s msg),(4, .pt x),(5, .pt b4),(9, .s y)] 68 [] a)->Rn lT Goal (fr.atR a K) cs w'):
 Rn lT Goal (fr.atR a (.code (rD Tryz.f11 2)::K)) cs w:=by
 refine Rn.grows (fx:=[(2, .s salt),(3, .s msg),(4, .pt x),(5, .pt b4),(9, .s y)]) (ds:=[23,24,25,26,27,28,29,30,31,32,33,10]) (N:=68) (df:=[]) (G:=Nb cv s salt msg Qb b4) k_ k_ EY (λm o a w' Q g q j b=> ?_)
  (λm a w'=>m=12/\Bw w w'/\∃v,ij s.n (λc=>dl (ib Qb.data.toList s.wd s.sh) s.wd c) v w'/\Has [(10,v),(2, .s salt),(3, .s msg),(4, .pt x),(5, .pt b4),(9, .s y)] 68 [] a) (λa w' t=> ?_) (λm o a w' O Q g I W=> ?_) (λa w' I=> ?_) M.defers M.size (M.all s_)
 ·have V:m<12:=Q;rcases(o_:m=0\/m=1\/m=2\/m=3\/m=4\/m=5\/m=6\/m=7\/m=8\/m=9\/m=10\/m=11)with rfl|rfl|rfl|rfl|rfl|rfl|rfl|rfl|rfl|rfl|rfl|rfl
  ·have d:=oS g;exact aF (NT d (aA (j _ (mG (i:=3) rfl)))) ⟨rfl,bR⟩
  ·have d:=oS g;obtain⟨u,l,rfl⟩:=nE b 0 23;exact aF (G4 d (aA l) ((q.block _ (gA f).1).trans f)) ⟨rfl,bR⟩
  ·have d:=oS g;exact aF (gg R.two d (aA (j _ (mG (i:=2) rfl))) ((q.block _ (gA n).1).trans n)) ⟨rfl,bR⟩
  ·have d:=oS g;exact aF (NS d (aA (j _ (mG (i:=3) rfl)))) ⟨rfl,bR⟩
  ·have d:=oS g;obtain⟨u,l,rfl⟩:=nE b 3 26;exact aF (aN bA d (aA l) ((aH ((q.block _ (gA f).1).trans f) 6).trans rfl)).1 ⟨rfl,bR⟩
  ·have d:=oS g;exact aF (NR d (aA (j _ (mG (i:=3) rfl)))) ⟨rfl,bR⟩
  ·have d:=oS g;obtain⟨u,l,rfl⟩:=nE b 5 28;exact aF (aN cq d (aA l) ((aH ((q.block _ (gA f).1).trans f) 7).trans rfl)).1 ⟨rfl,bR⟩
  ·have d:=oS g;exact mp (.inl d) (j _ (mG (i:=0) rfl)) ⟨rfl,bR⟩
  ·have d:=oS g;exact mp (.inl d) (j _ (mG (i:=1) rfl)) ⟨rfl,bR⟩
  ·have d:=oS g;obtain⟨T,k,rfl⟩:=nE b 2 25;obtain⟨u4,C,rfl⟩:=nE b 4 27;obtain⟨Z,B,rfl⟩:=nE b 6 29;obtain⟨Y,A,rfl⟩:=nE b 7 30;obtain⟨X,z,rfl⟩:=nE b 8 31;have E:=bG (w:=w') d (show(#[Operand.tmp 25, .tmp 27, .tmp 29, .tmp 30, .tmp 31]:Array Operand).map a.eval=#[.agg cv, .s s.id, .i s.q, .s salt, .s msg]from by simp[aA k,aA C,aA B,aA A,aA z]) (rI (P:=aJ true tP) Lf.func31 _);exact .inr ⟨_,_,E.1,(pO L J s.id salt msg s.q o_ p w' (R.mono q)).mono λe S h=>⟨_,h.1,congrArg Value.string r.symm,h.2⟩⟩
  ·have d:=oS g;obtain⟨u,l,rfl⟩:=nE b 1 24;obtain⟨T,k,rfl⟩:=nE b 9 32;have E:=bG (w:=w') d (show(#[Operand.tmp 24, .tmp 32]:Array Operand).map a.eval=#[.agg s.kind, .s Qb]from by simp[aA l,aA k]) (rI (P:=aJ true tP) Lf.func30 _);exact .inr ⟨_,_,E.1,De Qb s.t s.c s.h s.wd s.n s.sh w' U D H F (by rw[r];exact fH _ _)⟩
  ·have d:=oS g;obtain⟨u,l,t⟩:=nE b 10 33;exact mp (.inr d) l ⟨t,bR⟩
 ·obtain⟨u,l,k⟩:=t.come 11 10 rfl trivial;exact⟨rfl,t.old,u,k,t.base.more l⟩
 ·exact absurd (gA g).1 (by obtain⟨rfl,_⟩:=I;decide)
 ·exact next a w' I.2
theorem Kh(j:KS.length=64)(h:iU KS){s:Sc}{o:ByteArray}{d c f n b4:Nat}(k:i<s.n)(A:s.n<=136)(r:d<256)(g:s.id.size+3+s.seed.size<=140737488355328)(l:s.id.size<=1000)(y:s.q<1000)(m:c<w.heap.size)(u:w.cell? ⟨c,i,none⟩=some (.i (d:Int)))(q:kZ KS cv w)(p:w.heap[n]?=some (.cells cv 26))(b:w.heap[b4]?=some (.cells s.cells 31))
 (x:Has [(4, .pt n),(5, .pt b4),(9, .s o),(10, .sk c s.n f),(11, .i i)] 68 [] a)
 (next:∀a w',(Bw w w'/\Has [(12, .s (zt KS s.id s.q i d 0 (jE KS s i))),(4, .pt n),(5, .pt b4),(9, .s o),(10, .sk c s.n f),(11, .i i)] 68 [] a)->Rn lT Goal (fr.atR a K) cs w'):
 Rn lT Goal (fr.atR a (.code (rD Tryz.f11 6)::K)) cs w:=by
 exact Rn.tab x [(41, .agg cv),(42, .pk b4 6),(43, .s s.id),(44, .pk b4 7),(45, .i s.q),(46, .i i),(47, .sk c s.n f),(48, .i i),(49, .pk c i),(50, .i (d:Int)),(51, .agg cv),(52, .agg s.cells),(53, .i i),(54, .s (jE KS s i)),(55, .s (zt KS s.id s.q i d 0 (jE KS s i))),(12, .s (zt KS s.id s.q i d 0 (jE KS s i)))] [46,47,48,53,12] 12
  ⟨tq,
   tq,
   λz=>dv ((aN bA z.e (z.k 42) ((aH ((z.b.block _ (gA b).1).trans b) 6).trans rfl)).1),
   tq,
   tq,
   λz=>pv ((dx (w:=_) (t:=24) (e:=3) k_ (λw=>k_) z.e (z.k 47) (z.k 48) k).1) (by rw[ka,IS]<;>rfl),
   λz=>dv ((aN (v:= .i (d:Int)) cq z.e (z.k 49) ((World.cell?_of_block (w:=w) (a:=⟨c,i,none⟩) (z.b.block c m)).trans u)).1),
   tq,
   λz=>dv (sP z.e (z.k 5) ((z.b.block _ (gA b).1).trans b)),
   λz=>z.c3 (z.k 51) (z.k 52) (z.k 53) (vw j h s i o_ g _ (q.mono z.b)),
   λz=>z.c7 (z.k 41) (z.k 43) (z.k 45) (z.k 46) kc (z.k 50) (z.k 54) (Bb j h s.id (jE KS s i) s.q i 0 d o_ o_ d_ o_ l (eH KS _) _ (q.mono z.b)),
   trivial⟩ next
theorem Kg{s:Sc}{b:ByteArray}{b4:Nat}(e:s.t<1000)(g:b.size<=100000)(f:s.path.size<=1000)(c:w.heap[b4]?=some (.cells s.cells 31))
 (d:Has [(5, .pt b4),(9, .s b)] 68 [] a)
 (next:∀a w',(Bw w w'/\Has [(8, .s (b++ob s.t 4++s.path)),(5, .pt b4),(9, .s b)] 68 [] a)->Rn lT Goal (fr.atR a K) cs w'):
 Rn lT Goal (fr.atR a (.code (rD Tryz.f11 8)::K)) cs w:=by
 exact Rn.tab d [(59, .s b),(60, .pt b4),(61, .pt b4),(62, .i s.t),(63, .s (ob s.t 4)),(64, .s (b++ob s.t 4)),(65, .pk b4 9),(66, .s s.path),(67, .s (b++ob s.t 4++s.path)),(8, .s (b++ob s.t 4++s.path))] [59,8] 8
  ⟨tq,
   tq,
   tq,
   λz=>z.c2 (z.k 62) kc (dA (s.t) 4 _ d_ o_),
   tq,
   tq,
   λz=>dv ((aN bA z.e (z.k 65) ((aH ((z.b.block _ (gA c).1).trans c) 9).trans rfl)).1),
   tq,
   trivial⟩ next
def Bq(f:Func):Code:= .seq (.seq (rG f 4) (.cond (.tmp 38) .skip (.exit 0))) (.seq (.block 1 (.seq (rD f 6) (rG f 7))) (rG f 5))
theorem MH:Tryz.f11.body=some (.seq (rG Tryz.f11 0) (.seq (rD Tryz.f11 1) (.seq (rD Tryz.f11 2) (.seq (.seq (rG Tryz.f11 3) (.block 0 (.loop (Bq Tryz.f11)))) (.seq (rD Tryz.f11 8) .ret))))):=k_
def Es(KS:List Int)(s:Sc)(dg:Nat->Nat)(x:ByteArray):Nat->ByteArray
 |0=>x
 |i+1=>Es KS s dg x i++zt KS s.id s.q i (dg i) 0 (jE KS s i)
theorem D6(KS:List Int)(s:Sc)(i d:Nat):(zt KS s.id s.q i d 0 (jE KS s i)).size=32:=nl KS s.id s.q i d 0 _ (eH KS _)
theorem nZ(KS:List Int)(s:Sc)(dg:Nat->Nat)(x:ByteArray):∀i,(Es KS s dg x i).size=x.size+32*i
 |0=>rfl
 |i+1=>by rw[Es,Tg,nZ KS s dg x i,D6];omega
section
variable(hKl:KS.length=64)(hKw:iU KS)(hC0:kZ KS cv w0){s:Sc}{gb cap:Nat}(hbox0:w0.heap[b3]?=some (.cells cv 26))(hsec0:w0.heap[b4]?=some (.cells s.cells 31))
include hKl hKw hC0 hbox0 hsec0
theorem Bp{dg:Nat->Nat}{x:ByteArray}(z:x.size<=2000)(h:s.id.size+3+s.seed.size<=140737488355328)(k:s.id.size<=1000)(r:s.q<1000)(u:s.n<=136)(n:∀c,dg c<256)(j:gb<w0.heap.size)(l:∀c,c<s.n->w0.cell? ⟨gb,c,none⟩=some (.i (dg c)))
 (next:∀a w,Bw w0 w->Has [(5, .pt b4),(9, .s (Es KS s dg x s.n))] 68 [] a->Rn lT Goal (fr.atR a K) cs w):
 ∀(m i:Nat) (a:Act) (w:World),s.n- i=m->i<=s.n->Bw w0 w->Has [(4, .pt b3),(5, .pt b4),(10, .sk gb s.n cap),(9, .s (Es KS s dg x i)),(11, .i i)] 68 [] a->
  Rn lT Goal (fr.atR a (.code (Bq Tryz.f11):: .inLoop (Bq Tryz.f11):: .inBlock 0::K)) cs w:=by
 intro m;induction m with
 |zero=>
  intro i a w v y f b;have g:=(f.block _ (gA hsec0).1).trans hsec0
  iterate 5 refine Rn.uu b λa b=> ?_
  refine Rn.p rfl (Rn.cond _ (b.G 38) ?_);rw[decide_eq_false o_];have e:i=s.n:=o_
  subst e;exact Rn.p rfl (next a w f (b.only ⟨rfl,rfl,trivial⟩))
 |succ m q=>
  intro i a w v y f b;have g:=(f.block _ (gA hsec0).1).trans hsec0;have t:=nZ KS s dg x i
  iterate 5 refine Rn.uu b λa b=> ?_
  refine Rn.p rfl (Rn.cond _ (b.G 38) ?_);rw[decide_eq_true o_];refine Rn.p rfl (Rn.p rfl (Rn.p rfl (Rn.p rfl ?_)));refine Kh (d:=dg i) hKl hKw o_ u (n i) h k r (T7 j f.size) ((World.cell?_of_block (w:=w0) (a:=⟨gb,i,none⟩) (f.block gb j)).trans (l i o_)) (hC0.mono f) ((f.block _ (gA hbox0).1).trans hbox0) g (b.only ⟨rfl,rfl,rfl,rfl,rfl,trivial⟩) λa p ⟨o,b⟩=> ?_
  iterate 2 refine Rn.uu b λa b=> ?_
  refine Rn.cat b 58 56 57 rfl rfl (by rw[D6];omega) λa b=> ?_
  iterate 4 refine Rn.uu b λa b=> ?_
  refine Rn.p rfl (Rn.p rfl (q (i+1) a p o_ o_ (aE f f.size o) (b.only ⟨rfl,rfl,rfl,rfl, ?_,trivial⟩)));rw[Int.natCast_add];rfl
end
def HY(KS:List Int)(s:Sc)(salt msg:ByteArray)(c:Nat):Nat:=dl (ib (j8 KS [s.id,ob s.q 4,ob 33153 2,salt,msg]).data.toList s.wd s.sh) s.wd c
def AC(KS:List Int)(s:Sc)(salt msg:ByteArray):ByteArray:=Es KS s (HY KS s salt msg) (ob s.q 4++ob s.c 4++salt) s.n++ob s.t 4++s.path
theorem G2(y:KS.length=64)(v:iU KS)(s:Sc)(salt msg:ByteArray)(O:FD s)(A:s.sh<=8)(C:1<=s.n)(B:s.n<=34*(8/s.wd))(T:s.t<1000)(W:s.c<1000)(U:s.path.size<=1000)(i:salt.size<=1000)(u:s.id.size+6+salt.size+msg.size<=281474976710400)(w:World)(L:kZ KS cv w):
 Calls lT 11 #[.agg cv, .agg s.cells, .s salt, .s msg] w λe w'=>e= .returned (.s (AC KS s salt msg))/\Bw w w':=by
 obtain⟨k1,R,k3,Q,K,P⟩:=O;have p5:2^s.h<=32:=By (Qp d_ Q) d_;have h2:2^s.wd<=256:=by rcases K with h|h|h<;>rw[h]<;>decide
 refine bJ (t:=8) Lf.func11 rfl λcs=> ?_;rw[bP (N:=68) [.agg cv, .agg s.cells, .s salt, .s msg] Lf.func11 MH rfl];have d:=aY [.agg cv, .agg s.cells, .s salt, .s msg] 68 s_;refine Rn.gr ?_;refine Rn.z d 4 0 26 rfl λa d=> ?_;show Rn _ _ _ _ (w.alloc (.cells cv 26));refine Rn.z d 5 1 31 rfl λa d=> ?_;rw[aI]at d;show Rn _ _ _ _ ((w.alloc (.cells cv 26)).alloc (.cells s.cells 31));have f:Bw w ((w.alloc (.cells cv 26)).alloc (.cells s.cells 31)):=aE (PK w _) (by rw[aI];omega) (PK _ _);have z:=(cm (w.alloc (.cells cv 26)) (.cells s.cells 31) (b:=w.heap.size) (by rw[aI];omega)).trans (aP w _);have r:=aP (w.alloc (.cells cv 26)) (.cells s.cells 31);rw[aI]at r;revert f z r;generalize (w.alloc (.cells cv 26)).alloc (.cells s.cells 31)=w1;intro f z r;refine Rn.uu d λa d=> ?_;refine Rn.p rfl (Rn.p rfl ?_);refine Kj o_ W i r (d.only ⟨rfl,rfl,rfl,rfl,trivial⟩) λa w2 ⟨l,d⟩=> ?_;have n:=aE f f.size l;have q:=(l.block _ (gA z).1).trans z;have p:=(l.block _ (gA r).1).trans r;refine Rn.p rfl ?_;refine Ki (Qb:=j8 KS [s.id,ob s.q 4,ob 33153 2,salt,msg]) y v rfl K A C B o_ u (L.mono n) q p (d.only ⟨rfl,rfl,rfl,rfl,rfl,trivial⟩) λa M ⟨k,vg,j,d⟩=> ?_;have g:=aE n n.size k;have J:=(k.block _ (gA q).1).trans q;have o:=(k.block _ (gA p).1).trans p;obtain⟨gb,Y,rfl,D,E⟩:=j;refine Rn.uu d λa d=> ?_;refine Rn.p rfl (Rn.p rfl (Rn.p rfl ?_));have F:∀c,HY KS s salt msg c<256:=λc=>by
  have:=nA (ib (j8 KS [s.id,ob s.q 4,ob 33153 2,salt,msg]).data.toList s.wd s.sh) s.wd c;have S:cU s.wd<256:=by unfold cU;omega
  unfold HY;omega
 have X:(ob s.q 4++ob s.c 4++salt).size<=1000+8:=by simp only[Tg,cE];omega
 refine Bp (dg:=HY KS s salt msg) (x:=ob s.q 4++ob s.c 4++salt) y v (L.mono g) J o o_ o_ R o_ P F D E (λa w4 m d=> ?_) s.n 0 a M rfl (QH _) (bR) (d.only ⟨rfl,rfl,rfl,rfl,rfl,trivial⟩);have I:=(m.block _ (gA o).1).trans o;have V:=nZ KS s (HY KS s salt msg) (ob s.q 4++ob s.c 4++salt) s.n;refine Rn.p rfl ?_;refine Kg T o_ U I (d.only ⟨rfl,rfl,trivial⟩) λa Z ⟨G,d⟩=> ?_;have H:=aE (aE g g.size m) (by have:=g.size;have:=m.size;omega) G;exact Rn.fi d ⟨rfl,H⟩
structure Ag (s:Sc):Prop where
 t:s.t=226\/s.t=5
 c:s.c=2\/s.c=3\/s.c=4
 h:s.h=d8 s.t
 wd:s.wd=ee s.c
 n:s.n=fb s.c
 sh:s.sh=eR s.c
 id:s.id.size=16
 q:s.q<2^s.h
def H1(s:Sc):ByteArray:=ob s.t 4++ob s.c 4++s.id++s.root
theorem Lf.func9:(aJ q tP).funcs[9]?=some Tryz.f9:=aO Tryz.func9 d_ rfl rfl k_
theorem Og{KS:List Int}(g:KS.length=64)(f:iU KS){i:Array Value}{s:Sc}{Xn:ByteArray}{c:Int}{E j b10:Nat}(J:Xn=⟨(dU KS s.seed.data.toList).toArray⟩)(u:Xn.size=32)(r:s.id=Xn.extract 0 16)(H:s.q=eo c (2^s.h))(G:FD s)(N:s.h<=5)(L:2^s.h<=32)(M:1<=2^s.h)(q: -9223372036854775808<=c/\c<9223372036854775808)(l:s.seed.size<=140737488355328){w:World}(B:kZ KS i w)(A:w.heap[E]?=some (.cells i 26))(D:w.heap[j]?=some (.cells (Sc.mk 0 0 0 0 0 0 ⟨#[]⟩ 0 ⟨#[]⟩ ⟨#[]⟩ ⟨#[]⟩).cells 31))(d:w.heap[b10]?=some (.cells (bB s.t s.c s.h s.wd s.n s.sh) 29)){fr:Frame}{Goal:Goroutine->World->Prop}{cs:List Frame}{K:List Item}{a:Act}
 (b:Has [(2, .i c),(3, .s s.seed),(4, .pt E),(8, .pt j),(10, .pt b10)] 36 [] a)
 (next:∀a w',(∃v,Bw w v/\w'=v.setRow j (eE KS s).cells/\Has [(8, .pt j)] 36 [] a)->Rn lT Goal (fr.atR a K) cs w'):
 Rn lT Goal (fr.atR a (.code (rD Tryz.f9 5)::K)) cs w:=by
 refine Rn.tab1 next b [(23, .agg i),(24, .agg s.kind),(25, .agg i),(26, .s s.seed),(27, .s Xn),(28, .s s.id),(29, .i c),(30, .pk b10 2),(31, .i s.h),(32, .i ((2^s.h:Nat):Int)),(33, .i s.q),(34, .s s.seed),(35, .agg (eE KS s).cells)] [26,29,34] [(35, .agg (eE KS s).cells)]
  ⟨tq,
   λz=>dv (jt z.e (z.k 10) ((z.b.block _ (gA d).1).trans d)),
   tq,
   λz=>z.c2 (z.k 25) (z.k 26) (gP KS g f i s.seed _ (B.mono z.b) o_) (congrArg Value.string J.symm),
   λz=>pv (Gg (n:=16) (z.e (p:= .slice 9 (.tmp 27) none (some (.const (.i 16))) none)) (z.k 27) rfl (by rw[u];decide)) (by exact congrArg Value.string r.symm),
   tq,
   tq,
   λz=>by have y:(1:Int)*2^s.h=((2^s.h:Nat):Int):=(by rw[Int.one_mul,Q1];rfl);exact pv (iz (m:=1) (k:=s.h) (z.e (p:= .binOp .shl 3 (.const (.i 1)) (.tmp 31) 3)) rfl (z.k 31) o_ (by rw[y];omega)) (by rw[y]<;>rfl),
   λz=>z.c2 (z.k 29) (z.k 32) ((nX c (2^s.h) q (Nat.pow_pos d_) _).mono λe F h=>⟨h.1,by rw[h.2];exact bR⟩) (congrArg (λn:Nat=>Value.i (n:Int)) H.symm),
   λz=>z.c5 (z.k 23) (z.k 24) (z.k 28) (z.k 33) (z.k 34) (AE g f s G _ (B.mono z.b)),
   trivial⟩ λa w' x C b t=> ?_
 exact Rn.does0 b (.store 31 (.tmp 8) (.tmp 35)) k_ s_ (λo I=>cd (cells:=(eE KS s).cells) I (b.G 8) (b.G 35) ((C.block _ (gA D).1).trans D) oc rfl (by simp[Sc.cells,Value.oneCell'])) λa b=>t a _ ⟨_,C,rfl,b.only ⟨rfl,trivial⟩⟩
def t4(f:Func):Code:= .seq (rG f 4) (.seq (rD f 5) .ret)
theorem Oi:Tryz.f9.body=some (.seq (rG Tryz.f9 0) (.seq (rG Tryz.f9 1) (.seq (.seq (rG Tryz.f9 2) (.cond (.tmp 14) (rG Tryz.f9 3) .skip)) (t4 Tryz.f9)))):=k_
def OV(KS:List Int)(t c:Nat)(seed:ByteArray)(qi:Int):Sc:={t:=t,c:=c,h:=d8 t,wd:=ee c,n:=fb c,sh:=eR c,id:=(⟨(dU KS seed.data.toList).toArray⟩:ByteArray).extract 0 16,q:=eo qi (2^d8 t),seed:=seed,path:=⟨#[]⟩,root:=⟨#[]⟩}
theorem Lm(KS:List Int){t c:Nat}(seed:ByteArray)(a:Int)(b:t=226\/t=5)(d:c=2\/c=3\/c=4):Ag (OV KS t c seed a):=by refine⟨b,d,rfl,rfl,rfl,rfl, ?_,mY a (Nat.pow_pos d_)⟩;show(ByteArray.extract _ 0 16).size=16;rw[ByteArray.size_extract,eH];decide
theorem Ag.ok{s:Sc}(k:Ag s)(n:s.seed.size<=140737488351232):FD s:=by
 obtain⟨g,a,f,d,c,m,l,b⟩:=k;have j:s.h<=5:=by rcases g with e|e<;>rw[f,e]<;>decide
 have h:qn s.wd:=by rcases a with e|e|e<;>rw[d,e]<;>first|exact .inl rfl|exact .inr (.inl rfl)|exact .inr (.inr rfl)
 have i:s.n<=136:=by rcases a with e|e|e<;>rw[c,e]<;>decide
 exact⟨o_,o_,b,j,h,i⟩
section
variable(hKl:KS.length=64)(hKw:iU KS){chains qi:Int}{seed:ByteArray}(hch: -9223372036854775808<=chains/\chains<9223372036854775808)(hqi: -9223372036854775808<=qi/\qi<9223372036854775808)(hseed:seed.size<=140737488351232)
 (fin:∀(s:Sc) (a:Act) (w':World),Ag s->s.seed=seed->Bw w0 w'->w'.heap[w0.heap.size+1]?=some (.cells (eE KS s).cells 31)->Has [(8, .pt ((w0.heap.size+1)))] 36 [] a->Rn (aJ true Tryz.prog) Goal ((base 9).atR a [.code .ret]) cs w')
include hKl hKw hch hqi hseed fin
theorem NN{t:Nat}(I:t=226\/t=5)(g:Bw w0 w)(J:kZ KS cv w0)(l:w.heap[w0.heap.size]?=some (.cells cv 26))(K:w.heap[w0.heap.size+1]?=some (.cells (Sc.mk 0 0 0 0 0 0 ⟨#[]⟩ 0 ⟨#[]⟩ ⟨#[]⟩ ⟨#[]⟩).cells 31)){a:Act}
 (b:Has [(1, .i chains),(2, .i qi),(3, .s seed),(4, .pt w0.heap.size),(8, .pt ((w0.heap.size+1))),(9, .i t)] 36 [] a):Rn lT Goal ((base 9).atR a [.code (t4 Tryz.f9)]) cs w:=by
 iterate 2 refine Rn.uu b λa b=> ?_
 refine Rn.pick b 18 17 3 rfl hch d_ λr P a b=>Rn.uu b λa b=> ?_;rw[show(2:Int)+(r:Int)=((2+r:Nat):Int)from o_]at b;have y:2+r=2\/2+r=3\/2+r=4:=o_
 revert y b;generalize 2+r=c;intro b y;refine Rn.cl b Lf.func27 (R:=λv B=>(∃q:Bool,v= .tuple #[.agg (bB t c (d8 t) (ee c) (fb c) (eR c)), .bool q])/\Bw w B) ((tY t c w).mono λe B h=>⟨_,h.1,⟨_,rfl⟩,h.2⟩) λv p H a b=> ?_;obtain⟨⟨q,rfl⟩,k⟩:=H
 iterate 3 refine Rn.uu b λa b=> ?_
 refine Rn.al b (λo x=>sT x) λu a z E _ b=> ?_;refine Rn.nn b (λo x=>cd (cells:=(bB t c (d8 t) (ee c) (fb c) (eR c))) x (b.G 10) (b.G 21) E tZ rfl (by simp[bB,Value.oneCell'])) λa b=> ?_;have i:=setRow_heap u p.heap.size _ (bB t c (d8 t) (ee c) (fb c) (eR c)) _ _ E;have f:Bw w (u.setRow p.heap.size (bB t c (d8 t) (ee c) (fb c) (eR c))):=(aE k k.size z).trans (bT _ _ _ k.size);revert i f;generalize u.setRow p.heap.size (bB t c (d8 t) (ee c) (fb c) (eR c))=O;intro i f;have d:=aE g g.size f;have j:=bk f l;have n:=bk f K;refine Rn.uu b λa b=> ?_;refine Rn.p rfl (Rn.p rfl ?_);have D:=Lm KS seed qi I y;have C:=D.ok hseed;have F:d8 t<=5:=C.h;have G:2^d8 t<=32:=By (Qp d_ F) d_;refine Og (s:=OV KS t c seed qi) (b10:=p.heap.size) hKl hKw rfl (eH KS _) rfl rfl C F G Nat.one_le_two_pow hqi (By hseed d_) (J.mono d) j n i (b.only ⟨rfl,rfl,rfl,rfl,rfl,trivial⟩) λa M ⟨N,m,L,b⟩=> ?_;subst L;have A:=bk m n;exact fin (OV KS t c seed qi) a _ D rfl ((aE d d.size m).trans (bT _ _ _ o_)) (setRow_heap _ _ _ _ _ _ A) b
end
theorem yr(u:KS.length=64)(q:iU KS)(chains i:Int)(seed:ByteArray)(p: -9223372036854775808<=chains/\chains<9223372036854775808)(j: -9223372036854775808<=i/\i<9223372036854775808)(f:seed.size<=140737488351232)(w:World)(F:kZ KS cv w):
 Calls lT 9 #[.agg cv, .i chains, .i i, .s seed] w λe w'=>∃s:Sc,Ag s/\s.seed=seed/\e= .returned (.agg (eE KS s).cells)/\Bw w w':=by
 refine qc (t:=8) (ty:=31) (n:=11) Lf.func9 rfl (by rw[cc];exact Tryz.underlying31) rfl oc λcs=> ?_;rw[bP (N:=36) [.agg cv, .i chains, .i i, .s seed] Lf.func9 Oi rfl];have c:=aY [.agg cv, .i chains, .i i, .s seed] 36 s_;refine Rn.gr ?_;refine Rn.z c 4 0 26 rfl λa c=> ?_;show Rn _ _ _ _ (w.alloc (.cells cv 26));refine Rn.vv c (λo D=>xn D) λa c=> ?_;rw[aI]at c;have h:Bw w ((w.alloc (.cells cv 26)).alloc (.cells (Sc.mk 0 0 0 0 0 0 ⟨#[]⟩ 0 ⟨#[]⟩ ⟨#[]⟩ ⟨#[]⟩).cells 31)):=aE (PK w _) (by rw[aI];omega) (PK _ _);have v:=(cm (w.alloc (.cells cv 26)) (.cells (Sc.mk 0 0 0 0 0 0 ⟨#[]⟩ 0 ⟨#[]⟩ ⟨#[]⟩ ⟨#[]⟩).cells 31) (b:=w.heap.size) (by rw[aI];omega)).trans (aP w _);have m:=aP (w.alloc (.cells cv 26)) (.cells (Sc.mk 0 0 0 0 0 0 ⟨#[]⟩ 0 ⟨#[]⟩ ⟨#[]⟩ ⟨#[]⟩).cells 31);rw[aI]at m;revert h v m;generalize (w.alloc (.cells cv 26)).alloc (.cells (Sc.mk 0 0 0 0 0 0 ⟨#[]⟩ 0 ⟨#[]⟩ ⟨#[]⟩ ⟨#[]⟩).cells 31)=y;intro h v m;have l:=λ(t:Nat) (C:t=226\/t=5) (a:Act) c=>NN (Goal:=λg w'=>∃(a:Act) (k:List Item) (x:Nat) (d:Array Value) (z:TypeId),g=dN {(base 9).atR a k with mode:= .returning} cs/\a.defers=[]/\a.tmps[8]?=some (.pk x 0)/\w'.heap[x]?=some (.cells d z)/\d.size=11/\∃s:Sc,Ag s/\s.seed=seed/\Ending.returned (.agg d)= .returned (.agg (eE KS s).cells)/\Bw w w') (cs:=cs) (w0:=w) (w:=y) (a:=a) (t:=t) u q p j f (λs a w' A G E B c=>Rn.ends rfl (.inr ⟨_,rfl⟩) (Rn.now ⟨a,_,_,_,_,rfl,c.defers,c.slot 8 _ rfl,B,rfl,s,A,G,rfl,E⟩)) C h F v m c
 iterate 2 refine Rn.uu c λa c=> ?_
 refine Rn.pick c 13 12 64 rfl j d_ λr H a c=>Rn.uu c λa c=> ?_;refine Rn.p rfl (Rn.cond _ (c.G 14) ?_);cases decide ((r:Int)≥32)with
 |true=>
  refine Rn.uu c λa c=> ?_;exact Rn.p rfl (l 5 (.inr rfl) a (c.only ⟨rfl,rfl,rfl,rfl,rfl,rfl,trivial⟩))
 |false=>exact Rn.p rfl (l 226 (.inl rfl) a (c.only ⟨rfl,rfl,rfl,rfl,rfl,rfl,trivial⟩))
theorem Lf.func14:(aJ q tP).funcs[14]?=some Tryz.f14:=aO Tryz.func14 d_ rfl rfl k_
section
variable{y:Operand}
theorem rw_f(j:Nat)(f:j<4)(a:o.op= .fieldAddr 23 x j)(c:ev x= .pk b 0):(execOp ev o).run lT w= .ok (.value (.pk b j)) w:=by
 have e:execOp ev o=(do pure (.value (←BY 23 (.pk b 0) j))):=by simp only[execOp,a,c]
 have d:(do pure (.value (←BY 23 (.pk b 0) j)):Sem Next).run lT w= .ok (.value (.pk b j)) w:=by rcases(o_:j=0\/j=1\/j=2\/j=3)with rfl|rfl|rfl|rfl<;>kernel_rfl
 rw[e,d]
theorem Jr{g:Addr}{c t:Nat}(a:o.op= .call {callee:= .builtin .len,args:=#[.tmp t],argTypes:=#[83]})(b:ev (.tmp t)= .slice (some g) l c):(execOp ev o).run lT w= .ok (.value (.i l)) w:=by
 have d:lT.underlying 83=some (.slice 5):=k_
 simp[execOp,a,resolve,b,invoke,builtin,Builtin.len_,run_underlying d,goInt]
theorem Ju{g:Addr}{len cap:Nat}(a:o.op= .slice 83 x none (some y) none)(d:ev x= .slice (some g) len cap)(c:ev y= .i n)(h:n<=cap):(execOp ev o).run lT w= .ok (.value (.slice (some g) n cap)) w:=by
 have e:lT.underlying 83=some (.slice 5):=k_
 have b:(sizeOf 5).run lT w= .ok 1 w:=k_
 simp[execOp,a,d,c,QG,R0,Qq,run_underlying e,Qx,asIntOf,h,b,QM]
theorem Lq(a:o.op= .convert 9 83 x)(b:ev x= .s s):(execOp ev o).run lT w= .ok (.value (.sk w.heap.size s.size (grownCap w s.size 0 5))) (w.drew.alloc (.cells (bytesRow s (grownCap w s.size 0 5)) 5 ((bytesRow s (grownCap w s.size 0 5)).size,(bytesRow s (grownCap w s.size 0 5)).size+1))):=by
 have h:=run_bytes_of_string (P:=lT) w 9 83 5 s k_ k_ k_;have e:execOp ev o=(do pure (.value (←convert 9 83 (.s s)))):=by simp only[execOp,a,b]
 rw[e];simp[h]
theorem Gc{g a:Nat}{l:List UInt8}(b:o.op= .convert 83 9 x)(d:ev x= .sk g l.length a)(f:∀j (c:j<l.length),w.cell? ⟨g,j,none⟩=some (.int .u8 (l[j].toNat:Int))):(execOp ev o).run lT w= .ok (.value (.string ⟨l.toArray⟩)) w:=by
 have h:=run_convert_bytes_back (P:=lT) w 83 9 5 ⟨g,0,none⟩ a l k_ k_ k_ (λj c=>by rw[Addr.add_mid,IS];exact f j c);have e:execOp ev o=(do pure (.value (←convert 83 9 (.sk g l.length a)))):=by simp only[execOp,b,d]
 rw[e];simp[h]
theorem Gl{m:Int}(a:o.op= .convert 3 5 x)(b:ev x= .i m):(execOp ev o).run lT w= .ok (.value (.int .u8 (IntKind.u8.wrap m))) w:=by
 have d:lT.underlying 5=some (.int .u8):=k_
 have c:lT.underlying 3=some (.int .i64):=k_
 simp[execOp,a,b,go_sem,d,c]
theorem Jn{m n:Int}(a:o.op= .binOp .xor 5 x y u)(c:ev x= .int .u8 m)(b:ev y= .int .u8 n):(execOp ev o).run lT w= .ok (.value (.int .u8 (bits .xor .u8 m n))) w:=by simp[execOp,a,c,b,go_sem]
end
theorem OO(m n:Int):∃y:UInt8,bits .xor .u8 m n=(y.toNat:Int):=by
 have h:0<=bits .xor .u8 m n/\bits .xor .u8 m n<256:=by unfold bits;simp only[IntKind.wrap_u8];omega
 refine⟨UInt8.ofNat (bits .xor .u8 m n).toNat, ?_⟩;rw[UInt8.toNat_ofNat'];omega
theorem Lz:FI lT 5:=λw=>⟨k_,k_⟩
theorem Kf{c h f n:Nat}{x0 wa ww wc:Int}{more:ByteArray}(j:i<h)(l:c<w.heap.size)(d:w.cell? ⟨c,i,none⟩=some (.int .u8 x0))(r:w.frozen? ⟨c,i,none⟩=false)(x:w.heap[n]?=some (.cells #[.i wa, .i ww, .i wc, .s more] 23))
 (g:Has [(3, .pt n),(5, .sk c h f),(6, .i i)] 48 [] a)
 (next:∀a w',(∃s,Bw w s/\w'=s.setCell ⟨c,i,none⟩ (.int .u8 (bits .xor .u8 x0 (IntKind.u8.wrap ww)))/\Has [(3, .pt n),(5, .sk c h f)] 48 [] a)->Rn lT Goal (fr.atR a K) cs w'):
 Rn lT Goal (fr.atR a (.code (rD Tryz.f14 4)::K)) cs w:=by
 refine Rn.tab1 next g [(18, .sk c h f),(19, .i i),(20, .sk c h f),(21, .i i),(22, .pk c i),(23, .int .u8 x0),(24, .pk n 1),(25, .i ww),(26, .int .u8 (IntKind.u8.wrap ww)),(27, .int .u8 (bits .xor .u8 x0 (IntKind.u8.wrap ww))),(28, .pk c i)] [18,19,20,21] [(28, .pk c i),(27, .int .u8 (bits .xor .u8 x0 (IntKind.u8.wrap ww)))]
  ⟨λz=>pv ((dx (w:=_) (t:=83) (e:=5) k_ (λw=>k_) z.e (z.k 20) (z.k 21) j).1) (by rw[ka,IS]<;>rfl),
   λz=>dv ((aN (v:= .int .u8 x0) Lz z.e (z.k 22) ((World.cell?_of_block (w:=w) (a:=⟨c,i,none⟩) (z.b.block c l)).trans d)).1),
   tq,
   tq,
   λz=>dv (Gl z.e (z.k 25)),
   λz=>dv (Jn (z.e (p:= .binOp .xor 5 (.tmp 23) (.tmp 26) 5)) (z.k 23) (z.k 26)),
   λz=>pv ((dx (w:=_) (t:=83) (e:=5) k_ (λw=>k_) z.e (z.k 18) (z.k 19) j).1) (by rw[ka,IS]<;>rfl),
   trivial⟩ λa w' u y g q=> ?_
 have m:=y.block c l;exact Rn.does0 g (.store 5 (.tmp 28) (.tmp 27)) k_ s_ (λo A=>(dH (ql:=true) (w:=w') (b:=c) (k:=i) (v:= .int .u8 (bits .xor .u8 x0 (IntKind.u8.wrap ww))) (v0:= .int .u8 x0) rfl rfl k_ A (g.G 28) (g.G 27) ((World.cell?_of_block (w:=w) (a:=⟨c,i,none⟩) m).trans d) (by rw[←r];unfold Qa;rw[m])).1) λa g=>q a _ ⟨_,y,rfl,g.only ⟨rfl,rfl,trivial⟩⟩
theorem Ke{c d b f g:Nat}{wa ww wc:Int}{l:List UInt8}{more:ByteArray}(i:l.length+f=d)(n:d<=b)(o:d<9223372036854775808)(m:(⟨l.toArray⟩:ByteArray).size+more.size<=9223372036854775807)(h:c<w.heap.size)(q:∀j (k:j<l.length),w.cell? ⟨c,j,none⟩=some (.int .u8 (l[j].toNat:Int)))(e:w.heap[g]?=some (.cells #[.i wa, .i ww, .i wc, .s more] 23))
 (r:Has [(3, .pt g),(5, .sk c d b),(7, .i f)] 48 [] a)
 (next:∀a w',(Bw w w'/\Has [(4, .s (⟨l.toArray⟩++more)),(3, .pt g),(5, .sk c d b),(7, .i f)] 48 [] a)->Rn lT Goal (fr.atR a K) cs w'):
 Rn lT Goal (fr.atR a (.code (rD Tryz.f14 8)::K)) cs w:=by
 exact Rn.tab r [(38, .sk c d b),(39, .sk c d b),(40, .i d),(41, .i f),(42, .i (l.length:Int)),(43, .sk c l.length b),(44, .string ⟨l.toArray⟩),(45, .pk g 3),(46, .s more),(47, .s (⟨l.toArray⟩++more)),(4, .s (⟨l.toArray⟩++more))] [38,39,41,4] 4
  ⟨λz=>dv (Jr z.e (z.k 39)),
   λz=>pv (lZ (z.e (p:= .binOp .sub 3 (.tmp 40) (.tmp 41) 3)) (z.k 40) (z.k 41) o_) (by exact congrArg (Value.int .i64) o_),
   λz=>dv (Ju z.e (z.k 38) (z.k 42) o_),
   λz=>dv (Gc z.e (z.k 43) (λj k=>(World.cell?_of_block (w:=w) (a:=⟨c,j,none⟩) (z.b.block c h)).trans (q j k))),
   tq,
   λz=>dv ((aN bA z.e (z.k 45) ((aH ((z.b.block _ (gA e).1).trans e) 3).trans rfl)).1),
   tq,
   trivial⟩ next
def Pl(f:Func):Code:= .seq (rG f 5) (.seq (.seq (rG f 6) (.cond (.tmp 35) (rG f 7) .skip)) (.seq (rD f 8) .ret))
theorem MG:Tryz.f14.body=some (.seq (rG Tryz.f14 0) (.seq (rG Tryz.f14 1) (.seq (.seq (rG Tryz.f14 2) (.cond (.tmp 12) (.seq (rG Tryz.f14 3) (rD Tryz.f14 4)) .skip)) (Pl Tryz.f14)))):=k_
structure Tb (w0 w:World) (sz:Nat) (way:Array Value):Prop where
 old:Bw w0 w
 way:w.heap[w0.heap.size]?=some (.cells way 23)
 bytes:∃(C:Array Value) (fr:Nat×Nat),w.heap[(w0.heap.size+1)]?=some (.cells C 5 fr)/\sz<=fr.1/\∃B:List UInt8,B.length=sz/\∀j (hj:j<B.length),C[j]?=some (.int .u8 (B[j].toNat:Int))
theorem Eb{cs:Array Value}{fr:Nat×Nat}(h:w.heap[b]?=some (.cells cs t fr)):(w.setCell ⟨b,i,none⟩ v).heap[b]?=some (.cells (cs.setIfInBounds i v) t fr):=by simp only[World.setCell];rw[Array.getElem?_modify,h];simp
theorem Tb.mono{w0:World}{c:Nat}{a:Array Value}(h:Tb w0 w c a)(b:Bw w w'):Tb w0 w' c a:=by obtain⟨d,g,C,i,f,e⟩:=h;exact⟨aE d d.size b,bk b g,C,i,bk b f,e⟩
theorem Tb.put{w0:World}{c:Nat}{a:Array Value}(h:Tb w0 w c a)(i:Nat)(y:UInt8):Tb w0 (w.setCell ⟨(w0.heap.size+1),i,none⟩ (.int .u8 (y.toNat:Int))) c a:=by
 obtain⟨n,m,C,o,l,k,B,g,f⟩:=h;have d:=cP w ⟨(w0.heap.size+1),i,none⟩ (.int .u8 (y.toNat:Int)) (T6 (w0.heap.size+1));refine⟨n.trans (d.mono o_),(d.block _ o_).trans m,C.setIfInBounds i (.int .u8 (y.toNat:Int)),o,Eb l,k,B.set i y,by rw[List.length_set];exact g,λj b=> ?_⟩;rw[List.length_set]at b;by_cases e:i=j
 ·subst e;have:=f i b;rw[Array.getElem?_setIfInBounds_self_of_lt (gA this).1,List.getElem_set_self]
 ·rw[sN e,f j b,List.getElem_set_ne e]
section
variable{wa ww wc:Int}{more:ByteArray}{sz cap:Nat}(hcap:sz<=cap)(hsz:sz<=1125899906842624)(hmo:more.size<=1125899906842624)(hwc: -9223372036854775808<=wc/\wc<9223372036854775808)
 (fin:∀(a:Act) (w':World) (r:ByteArray),r.size<=sz+more.size->Bw w0 w'->Has [(4, .string r)] 48 [] a->Rn (aJ true Tryz.prog) Goal ((base 14).atR a [.code .ret]) cs w')
include hcap hsz hmo hwc fin
theorem OP(hT:Tb w0 w sz #[.i wa, .i ww, .i wc, .s more]){a:Act}(hF:Has [(3, .pt w0.heap.size),(5, .sk ((w0.heap.size+1)) sz cap)] 48 [] a):Rn lT Goal ((base 14).atR a [.code (Pl Tryz.f14)]) cs w:=by
 refine Rn.uu hF λa hF=> ?_;refine Rn.vv hF (λo ho=>(aN (v:= .i wc) cq ho (hF.G 29) ((aH hT.way 2).trans rfl)).1) λa hF=> ?_;refine Rn.pick hF 31 30 16 rfl hwc d_ λr hr a hF=> ?_
 iterate 5 refine Rn.uu hF λa hF=> ?_
 refine Rn.p rfl (Rn.cond _ (hF.G 35) ?_);have last:∀(mc:Nat) (a:Act),mc<=sz->Has [(3, .pt w0.heap.size),(5, .sk ((w0.heap.size+1)) sz cap),(7, .i mc)] 48 [] a->Rn lT Goal ((base 14).atR a [.code (.seq (rD Tryz.f14 8) .ret)]) cs w:=by
  intro mc a hmc hF;obtain⟨h1,h2,C,fr,h3,h4,B,h5,h6⟩:=hT;have hl:(B.take (sz- mc)).length=sz- mc:=by rw[List.length_take];omega
  have hls:(⟨(B.take (sz- mc)).toArray⟩:ByteArray).size=sz- mc:=by show(B.take (sz- mc)).toArray.size=_;rw[Q5];exact hl
  refine Rn.p rfl ?_;refine Ke (l:=B.take (sz- mc)) (wa:=wa) (ww:=ww) (wc:=wc) o_ hcap o_ (by rw[hls];omega) (gA h3).1 (λj hj=> ?_) h2 hF λa w2 ⟨hb2,hF⟩=> ?_
  ·have:=h6 j o_;rw[List.getElem_take];simp only[Qe,h3];exact this
  ·exact fin a w2 _ (by rw[Tg,hls];omega) (aE h1 h1.size hb2) (hF.only ⟨rfl,trivial⟩)
 by_cases hgt:(r:Int)>(sz:Int)
 ·rw[decide_eq_true hgt]
  iterate 3 refine Rn.uu hF λa hF=> ?_
  exact Rn.p rfl (last sz a (T6 _) (hF.only ⟨rfl,rfl,rfl,trivial⟩))
 ·rw[decide_eq_false hgt];exact Rn.p rfl (last r a o_ (hF.only ⟨rfl,rfl,rfl,trivial⟩))
end
theorem rp(s:ByteArray)(wa ww wc:Int)(more:ByteArray)(hs:s.size<=1125899906842624)(F:more.size<=1125899906842624)(D: -9223372036854775808<=wa/\wa<9223372036854775808)(A: -9223372036854775808<=wc/\wc<9223372036854775808)(w:World):
 Calls lT 14 #[.s s, .agg #[.i wa, .i ww, .i wc, .s more]] w λe w'=>∃r:ByteArray,e= .returned (.s r)/\r.size<=s.size+more.size/\Bw w w':=by
 refine bJ (t:=4) Lf.func14 rfl λcs=> ?_;rw[bP (N:=48) [.s s, .agg #[.i wa, .i ww, .i wc, .s more]] Lf.func14 MG rfl];have b:=aY [.s s, .agg #[.i wa, .i ww, .i wc, .s more]] 48 s_;refine Rn.zz b λd a p H J b=> ?_
 iterate 2 refine Rn.uu b λa b=> ?_
 refine Rn.vv b (λo E=>Lq E (b.G 8)) λa b=> ?_;have f:s.size<=grownCap d s.size 0 5:=grownCap_ge d s.size 0 5;revert b f;generalize grownCap d s.size 0 5=c;intro b f;rw[J]at b;have l:Tb w (d.drew.alloc (.cells (bytesRow s c) 5 ((bytesRow s c).size,(bytesRow s c).size+1))) s.size #[.i wa, .i ww, .i wc, .s more]:=by
  have Z:Bw d d.drew:=gw d;have L:=aP d.drew (.cells (bytesRow s c) 5 ((bytesRow s c).size,(bytesRow s c).size+1));have n:Bw d (d.drew.alloc (.cells (bytesRow s c) 5 ((bytesRow s c).size,(bytesRow s c).size+1))):=Z.trans (PK d.drew _);have S:d.drew.heap.size=w.heap.size+1:=J;rw[S]at L;refine⟨aE p p.size n,bk n H,_,_,L,by rw[bytesRow,Array.size_append,Array.size_map];exact Nat.le_add_right _ _,s.data.toList,by rw[QB];rfl,λj K=> ?_⟩;have m:j<s.data.size:=by rw[QB]at K;exact K
  rw[bytesRow,Array.getElem?_append_left (by rw[Array.size_map];exact m),Array.getElem?_map,Array.getElem?_eq_getElem m];simp
 revert l;generalize d.drew.alloc (.cells (bytesRow s c) 5 ((bytesRow s c).size,(bytesRow s c).size+1))=u;intro l;refine Rn.uu b λa b=> ?_;have q:=λ(P:World) l (a:Act) b=>OP (w0:=w) (Goal:=λg w'=>∃(a:Act) (k:List Item) (v:Value),g=dN {(base 14).atR a k with mode:= .returning} cs/\a.defers=[]/\a.tmps[4]?=some v/\∃r:ByteArray,Ending.returned v= .returned (.s r)/\r.size<=s.size+more.size/\Bw w w') (cs:=cs) (wa:=wa) (ww:=ww) (w:=P) (a:=a) f hs F A (λa w' r W hb b=>Rn.ends rfl (.inr ⟨_,rfl⟩) (Rn.now ⟨a,_,_,rfl,b.defers,b.slot 4 _ rfl,r,rfl,W,hb⟩)) l b
 iterate 3 refine Rn.uu b λa b=> ?_
 refine Rn.p rfl (Rn.cond _ (b.G 12) ?_);by_cases X:0<s.size
 ·rw[decide_eq_true o_];refine Rn.uu b λa b=> ?_;refine Rn.vv b (λo E=>(aN (v:= .i wa) cq E (b.G 13) ((aH l.way 0).trans rfl)).1) λa b=> ?_
  iterate 2 refine Rn.uu b λa b=> ?_
  refine Rn.cl b Lf.func17 (R:=λv w'=>∃i:Nat,v= .i i/\i<s.size/\w'=u) ((vM wa s.size D X u).mono λe w' ⟨r,I,z,H⟩=>⟨_,I,r,rfl,z,H⟩) λv Q V a b=> ?_;obtain⟨i,rfl,Y,U⟩:=V;rw[U];refine Rn.uu b λa b=> ?_;refine Rn.p rfl ?_;obtain⟨I,z,C,fr,x,h5,B,h6,M⟩:=l;have h:=M i o_;refine Kf (x0:=(B[i].toNat:Int)) (wa:=wa) (ww:=ww) (wc:=wc) (more:=more) Y (gA x).1 (by simp only[Qe,x];exact h) (by simp only[Qa,x];simp;omega) z (b.only ⟨rfl,rfl,rfl,trivial⟩) λa w4 ⟨Q,G,O,b⟩=> ?_;obtain⟨y,T⟩:=OO (B[i].toNat:Int) (IntKind.u8.wrap ww);rw[T]at O;subst O;exact q _ (((⟨I,z,C,fr,x,h5,B,h6,M⟩:Tb w u s.size #[.i wa, .i ww, .i wc, .s more]).mono G).put i y) a b
 ·rw[decide_eq_false o_];exact Rn.p rfl (q u l a (b.only ⟨rfl,rfl,trivial⟩))
section
variable{y:Operand}
theorem PG{wa ww wc:Int}{more:ByteArray}(a:o.op= .load 23 x)(c:ev x= .pk b 0)(h:w.heap[b]?=some (.cells #[.i wa, .i ww, .i wc, .s more] 23)):(execOp ev o).run lT w= .ok (.value (.agg #[.i wa, .i ww, .i wc, .s more])) w:=by
 have e:(isAgg 23).run lT w= .ok true w:=k_
 have d:=aH h;simp[execOp,a,c,AT,loadVar,e,loadCells,loadCellsFrom,QM,d,go_sem]
theorem OB{m n:Int}(a:o.op= .binOp .neq t x y u)(d:t=36)(c:ev x= .i m)(b:ev y= .i n):(execOp ev o).run lT w= .ok (.value (.bool (m !=n))) w:=by subst d;simp[execOp,a,c,b,go_sem]
end
end L1
section
open Go.RowKit Go.Lib Go.Shelf
@[simp] theorem Lf.func72:(aJ q tP).funcs[72]?=some Tryz.f72:=aO Tryz.func72 d_ rfl rfl k_
@[simp] theorem Lf.func96:(aJ q tP).funcs[96]?=some Tryz.f96:=aO Tryz.func96 d_ rfl rfl k_
@[simp] theorem Lf.call96(args:Array Value)(w:World):(callFunc 96 args).run (aJ q tP) w= .ok (.enter 96 args) w:=dp Lf.func96 k_ rfl args w
@[simp] theorem Lf.func123:(aJ q tP).funcs[123]?=some Tryz.f123:=aO Tryz.func123 d_ rfl rfl k_
@[simp] theorem Lf.call123(args:Array Value)(w:World):(callFunc 123 args).run (aJ q tP) w= .ok (.enter 123 args) w:=dp Lf.func123 k_ rfl args w
@[simp] theorem Lf.func41:(aJ q tP).funcs[41]?=some Tryz.f41:=aO Tryz.func41 d_ rfl rfl k_
@[simp] theorem Lf.func40:(aJ q tP).funcs[40]?=some Tryz.f40:=aO Tryz.func40 d_ rfl rfl k_
@[simp] theorem Lf.func73:(aJ q tP).funcs[73]?=some Tryz.f73:=aO Tryz.func73 d_ rfl rfl k_
@[simp] theorem Lf.func97:(aJ q tP).funcs[97]?=some Tryz.f97:=aO Tryz.func97 d_ rfl rfl k_
@[simp] theorem Lf.func124:(aJ q tP).funcs[124]?=some Tryz.f124:=aO Tryz.func124 d_ rfl rfl k_
@[simp] theorem Lf.func42:(aJ q tP).funcs[42]?=some Tryz.f42:=aO Tryz.func42 d_ rfl rfl k_
@[simp] theorem Lf.func19:(aJ q tP).funcs[19]?=some Tryz.f19:=aO Tryz.func19 d_ rfl rfl k_
@[simp] theorem Lf.func39:(aJ q tP).funcs[39]?=some Tryz.f39:=aO Tryz.func39 d_ rfl rfl k_
@[simp] theorem Lf.func20:(aJ q tP).funcs[20]?=some Tryz.f20:=aO Tryz.func20 d_ rfl rfl k_
@[simp] theorem Lf.func43:(aJ q tP).funcs[43]?=some Tryz.f43:=aO Tryz.func43 d_ rfl rfl k_
@[simp] theorem Lf.func44:(aJ q tP).funcs[44]?=some Tryz.f44:=aO Tryz.func44 d_ rfl rfl k_
@[simp] theorem Lf.func18:(aJ q tP).funcs[18]?=some Tryz.f18:=aO Tryz.func18 d_ rfl rfl k_
theorem Lf.underlying87:type_of%((cc (q:=q) (P:=tP) 87).trans Tryz.underlying87):=(cc 87).trans Tryz.underlying87
theorem Lf.laysM316:Go.Proofs.LaysM.n316 (aJ q tP) Tryz.laysM316_ren:=by
 cases q<;>constructor
 all_goals first|(constructor<;>first|(rw[oa];kernel_rfl)|kernel_rfl|(intro w;kernel_rfl);done)|(rw[oa];kernel_rfl)|kernel_rfl|(intro w;kernel_rfl)
theorem Lf.stringslite_Clone(s:ByteArray)(w:World)(a:s.size<=281474976710656):
 Calls (aJ q tP) 123 #[.s s] w λe w'=>e= .returned (.s s)/\Bw w w':=Any.stringslite_Clone Lf.laysM316 s w a
end
section
open Go.Conc Go.RowKit
def dP(w:World)(v:Value)(L:List Value):Prop:=∃p cap,v= .slice p L.length cap/\∀(i:Nat) (u:Value),L[i]?=some u->∃a:Addr,p=some a/\w.cell? (a.add i)=some u
theorem fO{a:Addr}{u:Value}(c:Bw w w')(h:w.cell? a=some u):w'.cell? a=some u:=by
 have b:a.block<w.heap.size:=by
  unfold Qe at h;split at h
  ·exact(gA ‹_›).1
  ·cases h
 unfold Qe at h⊢;rw[c.block _ b];exact h
theorem dP.below{L:List Value}(h:dP w v L)(d:Bw w w'):dP w' v L:=by obtain⟨p,b,g,f⟩:=h;exact⟨p,b,g,λi u c=>let ⟨a,e,hc⟩:=f i u c;⟨a,e,fO d hc⟩⟩
def dO(st le:Int)(u h:Value):Array Value:=#[.int .i64 st,u, .int .i64 le,h]
def dY:List Bool->List ByteArray->ByteArray->Bool
 |u::us,h::hs,x=>(u&&h.data.toList==x.data.toList)||dY us hs x
 |_,_,_=>false
structure Cv (tf tb ts:TypeId) (w0:World) (b3 b4 b5 l ld:Nat) (r:Loop) (fz:Array Value) (x:ByteArray) (q:Bool) (w:World):Prop where
 old:Bw w0 w
 fus:w.heap[b3]?=some (.cells fz tf)
 res:w.heap[b4]?=some (.cells #[.bool q] tb)
 hsh:w.heap[b5]?=some (.cells #[.string x] ts)
 list:w.heap[ld]?=some (.deferred (some []))
 loop:w.heap[l]?=some (.loop r)
section
variable{tf tb ts:TypeId}{b5 ld:Nat}{r:Loop}{fz:Array Value}{x:ByteArray}
theorem Cv.turn(h:Cv tf tb ts w0 b3 b4 b5 l ld r fz x q w)(f:w0.heap.size<=l)(a:Loop):Cv tf tb ts w0 b3 b4 b5 l ld a fz x q (bX w l a):=by
 have n:∀{b:Nat} {o:Obj},w.heap[b]?=some o->(∀r,o≠ .loop r)->b≠l:=λc d e=>by rw[e,h.loop]at c;exact d r (Option.some.inj c).symm
 exact⟨h.old.trans (fc w _ _ f),(bM w _ (n h.fus (by intro r e;cases e))).trans h.fus,(bM w _ (n h.res (by intro r e;cases e))).trans h.res,(bM w _ (n h.hsh (by intro r e;cases e))).trans h.hsh,(bM w _ (n h.list (by intro r e;cases e))).trans h.list,ir h.loop⟩
theorem Cv.put(h:Cv tf tb ts w0 b3 b4 b5 l ld r fz x q w)(i:tf≠tb)(g:ts≠tb)(f:w0.heap.size<=b4)(p:Bool):Cv tf tb ts w0 b3 b4 b5 l ld r fz x p (w.setCell ⟨b4,0,none⟩ (.bool p)):=by
 have d:b3≠b4:=λe=>by have:=h.fus;rw[e,h.res]at this;injection this with this;injection this with _ this;exact i this.symm
 have c:b5≠b4:=λe=>by have:=h.hsh;rw[e,h.res]at this;injection this with this;injection this with _ this;exact g this.symm
 have b:l≠b4:=λe=>by have:=h.res;rw[←e,h.loop]at this;cases this
 have a:ld≠b4:=λe=>by have:=h.res;rw[←e,h.list]at this;cases this
 exact⟨h.old.trans (cP w _ _ f),(bO w _ d).trans h.fus,jF h.res,(bO w _ c).trans h.hsh,(bO w _ a).trans h.list,(bO w _ b).trans h.loop⟩
end
end
namespace L1
open Go.Conc Go.RowKit
section
variable{y z:Operand}
theorem OD{a b:ByteArray}(c:o.op= .binOp .eql 9 x y t)(e:ev x= .s a)(d:ev y= .s b):(execOp ev o).run lT w= .ok (.value (.bool (a.data.toList==b.data.toList))) w:=by have g:=ByteArray.toList_eq a;have f:=ByteArray.toList_eq b;simp[execOp,c,e,d,go_sem,g,f]
theorem eb{p:Option Addr}{c:Nat}{ty e:TypeId}(d:lT.underlying ty=some (.slice e))(a:o.op= .call {callee:= .builtin .len,args:=#[.tmp k],argTypes:=#[ty]})(b:ev (.tmp k)= .slice p l c):(execOp ev o).run lT w= .ok (.value (.i l)) w:=by simp[execOp,a,resolve,b,invoke,builtin,Builtin.len_,run_underlying d,goInt]
theorem Lt(a:o.op= .call {callee:= .builtin .min,args:=#[.tmp k, .tmp j],argTypes:=#[3,3]})(c:ev (.tmp k)= .i m)(b:ev (.tmp j)= .i n):(execOp ev o).run lT w= .ok (.value (.i (min m n:Nat))) w:=by
 have h:(if (n:Int)<m then(n:Int)else m)=((min m n:Nat):Int):=by split<;>omega
 have e:(Builtin.min2 (.i m) (.i n):Sem Value)=pure (.i (min m n:Nat)):=by rw[←h];rfl
 simp[execOp,a,resolve,c,b,invoke,builtin,Builtin.min_,e]
theorem vF(j:Nat)(f:j<4)(a:o.op= .fieldAddr 45 x j)(c:ev x= .pk b 0):(execOp ev o).run lT w= .ok (.value (.pk b j)) w:=by
 have e:execOp ev o=(do pure (.value (←BY 45 (.pk b 0) j))):=by simp only[execOp,a,c]
 have d:(do pure (.value (←BY 45 (.pk b 0) j)):Sem Next).run lT w= .ok (.value (.pk b j)) w:=by rcases(o_:j=0\/j=1\/j=2\/j=3)with rfl|rfl|rfl|rfl<;>kernel_rfl
 rw[e,d]
theorem sQ{p r:Bool}(a:o.op= .pick x y z)(b:ev x= .bool p)(d:p=true->ev y= .bool q)(c:ev z= .bool r):(execOp ev o).run lT w= .ok (.value (.bool (if p then q else r))) w:=by
 cases p
 ·simp[execOp,a,b,c,asBool]
 ·simp[execOp,a,b,d rfl,asBool]
theorem tI{st le:Int}{u h:Value}(a:o.op= .load 45 x)(d:ev x= .pk b 0)(c:w.heap[b]?=some (.cells (dO st le u h) 45)):(execOp ev o).run lT w= .ok (.value (.agg (dO st le u h))) w:=by
 have e:(isAgg 45).run lT w= .ok true w:=k_
 have c:=aH c;simp[execOp,a,d,AT,loadVar,e,loadCells,loadCellsFrom,QM,c,dO,go_sem]
theorem lq:FI lT 4:=λw=>⟨k_,k_⟩
theorem fV:FI lT 42:=λw=>⟨k_,k_⟩
theorem eI:FI lT 43:=λw=>⟨k_,k_⟩
end
def Do(f:Func):Code:= .block 1 (.seq (rG f 4) (.cond (.tmp 15) (.seq (rG f 5) .ret) .skip))
def Cy(f:Func)(T:Array Value)(ld:Nat)(st:LoopState)(pd:Option Code):Loop:={state:=st,pending:=pd,fn:=73,tmps:=T,params:=#[12],assign:= .region 3 (bK f 3) false,body:=Do f,defers:=ld}
section
variable{b5 ld:Nat}{fz:Array Value}{x:ByteArray}{T:Array Value}{cf:Frame}
theorem Lo(hT:Has [(4, .pt b4),(5, .pt b5)] 16 [] ⟨T,[]⟩)(hl:w0.heap.size<=l)(hb:w0.heap.size<=b4){h:ByteArray}
 (hC:Cv 45 4 9 w0 b3 b4 b5 l ld (Cy Tryz.f73 T ld .ready none) fz x false w)
 (nt:(h.data.toList==x.data.toList)=false->∀w',Cv 45 4 9 w0 b3 b4 b5 l ld (Cy Tryz.f73 T ld .ready none) fz x false w'->Rn lT Goal (cf.finish (.bool true)) cs w')
 (nq:(h.data.toList==x.data.toList)=true->∀w',Cv 45 4 9 w0 b3 b4 b5 l ld (Cy Tryz.f73 T ld .done (some .ret)) fz x true w'->Rn lT Goal (cf.finish (.bool false)) cs w'):
 Rn lT Goal (Frame.round l 73 (((#[12]:Array Tmp).zip #[.s h]).foldl (λtmps (t,a)=>tmps.setIfInBounds t a) T) (rG Tryz.f73 3) (Do Tryz.f73) .normal) (cf::cs) w:=by
 have hF:=hT.put (d:=12) d_ (.s h);have ez:((#[12]:Array Tmp).zip #[.s h]).foldl (λ(tmps:Array Value) (x:Tmp×Value)=>match x with|(t,a)=>tmps.setIfInBounds t a) T=T.setIfInBounds 12 (.s h):=s_
 rw[ez];show Rn _ Goal ((rb 73 l).atR (Act.put ⟨T,[]⟩ (some 12) (.s h)) [.code (rG Tryz.f73 3), .beginRound, .code (Do Tryz.f73)]) (cf::cs) w;revert hF;generalize Act.put ⟨T,[]⟩ (some 12) (.s h)=a;intro hF;refine Rn.r (L:=[0]) rfl (Rn.S hF 6 12 rfl λa hF=> ?_);refine Rn.p rfl (Rn.rounds (r:=Cy Tryz.f73 T ld .ready none) rfl hC.loop rfl ?_);have hC1:=hC.turn hl (Cy Tryz.f73 T ld .busy none);refine Rn.uu hF λa hF=> ?_;refine Rn.vv hF (λo ho=>(aN (v:= .s x) bA ho (hF.G 5) ((aH hC1.hsh 0).trans rfl)).1) λa hF=> ?_;refine Rn.uu hF λa hF=> ?_;refine Rn.p rfl (Rn.cond _ (hF.G 15) ?_);cases he:(h.data.toList==x.data.toList)with
 |true=>
  refine Rn.nn hF (λo ho=>(dH (v:= .bool true) (v0:= .bool false) rfl rfl k_ ho (hF.G 4) rfl ((aH hC1.res 0).trans rfl) (by simp[Qa,hC1.res])).1) λa hF=> ?_;have hC2:=hC1.put d_ d_ hb true;exact Rn.p rfl (Rn.quits rfl rfl hC2.loop (nq he _ (hC2.turn hl _)))
 |false=>
  exact Rn.p rfl (Rn.p rfl (Rn.through rfl rfl hC1.loop (nt he _ (hC1.turn hl _))))
end
def GR(f:Func):Code:= .seq (rG f 1) (.seq (.cond (.tmp 12) .skip (.exit 0)) (.seq (.block 1 (.seq (rG f 2) (.seq (rG f 3) (.cond (.tmp 28) .ret .skip)))) (rG f 4)))
theorem KC:Tryz.f124.body=some (.seq (rG Tryz.f124 0) (.block 0 (.loop (GR Tryz.f124)))):=k_
theorem t8(us:List Bool)(hs:List ByteArray)(x:ByteArray)(i:Nat)(u:Bool)(h:ByteArray)(b:us[i]?=some u)(a:hs[i]?=some h):dY (us.drop i) (hs.drop i) x=((u&&h.data.toList==x.data.toList)||dY (us.drop (i+1)) (hs.drop (i+1)) x):=by obtain⟨d,rfl⟩:=Tf.1 b;obtain⟨c,rfl⟩:=Tf.1 a;rw[List.drop_eq_getElem_cons d,List.drop_eq_getElem_cons c];rfl
theorem vo(us:List Bool)(hs:List ByteArray)(x:ByteArray)(i:Nat)(h:min us.length hs.length<=i):dY (us.drop i) (hs.drop i) x=false:=by
 rcases(o_:us.length<=i\/hs.length<=i)with h|h
 ·rw[List.drop_of_length_le h];rfl
 ·rw[List.drop_of_length_le h];cases us.drop i<;>rfl
section
variable{b5 ld:Nat}{st le:Int}{vu vh:Value}{x:ByteArray}{us:List Bool}{hs:List ByteArray}{T:Array Value}{cf:Frame}
theorem EF(hT:Has [(4, .pt b4),(5, .pt b5)] 16 [] ⟨T,[]⟩)(hl:w0.heap.size<=l)(hb:w0.heap.size<=b4)(hU:dP w0 vu (us.map .bool))(hH:dP w0 vh (hs.map .string))(hlu:us.length<4611686018427387904)
 (nf:dY us hs x=false->∀w',Cv 45 4 9 w0 b3 b4 b5 l ld (Cy Tryz.f73 T ld .ready none) (dO st le vu vh) x false w'->Rn lT Goal (cf.finish (.tuple #[])) cs w')
 (nq:dY us hs x=true->∀w',Cv 45 4 9 w0 b3 b4 b5 l ld (Cy Tryz.f73 T ld .done (some .ret)) (dO st le vu vh) x true w'->Rn lT Goal (cf.finish (.tuple #[])) cs w'):
 ∀(m i:Nat) (a:Act) (w:World),min us.length hs.length- i=m->i<=min us.length hs.length->dY us hs x=dY (us.drop i) (hs.drop i) x->Has [(0, .func (.yield l) #[] #[]),(1, .pt b3),(10, .i (min us.length hs.length:Nat)),(11, .i i)] 30 [] a->
  Cv 45 4 9 w0 b3 b4 b5 l ld (Cy Tryz.f73 T ld .ready none) (dO st le vu vh) x false w->
  Rn lT Goal ((base 124).atR a [.code (GR Tryz.f124), .inLoop (GR Tryz.f124), .inBlock 0]) (cf::cs) w:=by
 intro m;induction m with
 |zero=>
  intro i a w hm hi hv hF hC;refine Rn.uu hF λa hF=> ?_;refine Rn.p rfl (Rn.p rfl (Rn.cond _ (hF.G 12) ?_));rw[decide_eq_false o_];refine Rn.p rfl (Rn.ends rfl (.inl rfl) (Rn.leave (.tuple #[]) rfl hF.defers Lf.func124 k_ k_ (nf ?_ _ hC)));rw[hv];exact vo us hs x i o_
 |succ m ih=>
  intro i a w hm hi hv hF hC;have hiu:i<us.length:=o_
  have hih:i<hs.length:=o_
  obtain⟨pu,cu,eu,hcu⟩:=hU.below hC.old;obtain⟨ph,ch,eh,hch⟩:=hH.below hC.old;obtain⟨au,rfl,hcu2⟩:=hcu i (.bool us[i]) (by simp[hiu]);obtain⟨ah,rfl,hch2⟩:=hch i (.s hs[i]) (by simp[hih]);have hvd:=t8 us hs x i us[i] hs[i] (by simp[hiu]) (by simp[hih]);refine Rn.uu hF λa hF=> ?_;refine Rn.p rfl (Rn.p rfl (Rn.cond _ (hF.G 12) ?_));rw[decide_eq_true o_]
  iterate 3 refine Rn.uu hF λa hF=> ?_
  refine Rn.vv hF (λo ho=>(aN (v:= .slice (some au) (us.map Value.bool).length cu) fV ho (hF.G 14) ((aH hC.fus 1).trans (by rw[←eu];rfl))).1) λa hF=> ?_;refine Rn.uu hF λa hF=> ?_;refine Rn.uu hF λa hF=> ?_;refine Rn.vv hF (λo ho=>(aN (v:= .bool us[i]) lq ho (hF.G 17) hcu2).1) λa hF=> ?_;refine Rn.uu hF λa hF=> ?_;obtain⟨q,hq⟩:∃q,us[i]=q:=⟨_,rfl⟩;rw[hq]at hF hvd;cases q with
  |false=>
   refine Rn.G hF 20 (.move (.tmp 0)) 5 19 false (λ_=>True) rfl s_ (λh=>by cases h) λv20 a _ hF=>Rn.G hF 21 (.fieldAddr 45 (.tmp 1) 3) 5 19 false (λ_=>True) rfl s_ (λh=>by cases h) λv21 a _ hF=>Rn.G hF 22 (.load 43 (.tmp 21)) 5 19 false (λ_=>True) rfl s_ (λh=>by cases h) λv22 a _ hF=>Rn.G hF 23 (.move (.tmp 3)) 5 19 false (λ_=>True) rfl s_ (λh=>by cases h) λv23 a _ hF=>Rn.G hF 24 (.indexAddr 43 (.tmp 22) (.tmp 23)) 5 19 false (λ_=>True) rfl s_ (λh=>by cases h) λv24 a _ hF=>Rn.G hF 25 (.load 9 (.tmp 24)) 5 19 false (λ_=>True) rfl s_ (λh=>by cases h) λv25 a _ hF=>Rn.G hF 26 (.call {callee:= .value (.tmp 20),args:=#[.tmp 25],argTypes:=#[9]}) 5 19 false (λ_=>True) rfl s_ (λh=>by cases h) λv26 a _ hF=>Rn.G hF 27 (.unOp .not 4 (.tmp 26)) 5 19 false (λ_=>True) rfl s_ (λh=>by cases h) λv27 a _ hF=>Rn.vv hF (λo ho=>sQ (q:=false) (r:=false) ho (hF.G 19) (λh=>by cases h) rfl) λa hF=> ?_;refine Rn.p rfl (Rn.cond false (hF.G 28) ?_)
   iterate 2 refine Rn.uu hF λa hF=> ?_
   refine Rn.p rfl (Rn.p rfl (ih (i+1) a _ o_ o_ (hv.trans (hvd.trans s_)) (hF.only ⟨rfl,rfl,rfl,rfl,trivial⟩) hC))
  |true=>
   iterate 2 refine Rn.uu hF λa hF=> ?_
   refine Rn.G hF 22 (.load 43 (.tmp 21)) 5 19 true (λv=>v= .slice (some ah) (hs.map Value.string).length ch) rfl s_ (λ_ o ho=>aF (aN (v:= .slice (some ah) (hs.map Value.string).length ch) eI ho (hF.G 21) ((aH hC.fus 3).trans (by rw[←eh];rfl))).1 ⟨rfl,rfl⟩) λv a hv1 hF=> ?_;obtain rfl:=hv1 rfl;refine Rn.uu hF λa hF=> ?_;refine Rn.uu hF λa hF=> ?_;refine Rn.G hF 25 (.load 9 (.tmp 24)) 5 19 true (λv=>v= .s hs[i]) rfl s_ (λ_ o ho=>aF (aN (v:= .s hs[i]) bA ho (hF.G 24) hch2).1 ⟨rfl,rfl⟩) λv a hv1 hF=> ?_;obtain rfl:=hv1 rfl;have h26:((bK Tryz.f124 3)[12]?).map (λo=>(o.dst,o.op,o.guard))=some (some 26, .call {callee:= .value (.tmp 20),args:=#[.tmp 25],argTypes:=#[9]},some (5,true)):=k_;cases ho:(bK Tryz.f124 3)[12]? with
   |none=>rw[ho]at h26;cases h26
   |some o=>
   rw[ho]at h26;simp only[T8,Option.some.injEq,Prod.mk.injEq]at h26;obtain⟨e1,e2,e3⟩:=h26;have hw:=jr (ops:=bK Tryz.f124 3) (tmps:=a.tmps) (d:=19) e3 k_ (hF.slot 19 _ rfl);refine Rn.yields (args:=#[.s hs[i]]) ho (hw.trans rfl) (by rw[e2];simp) hC.loop rfl (λw=>lW e2 (hF.G 20) (by simp[hF.G 25]) w) ?_;refine Lo hT hl hb hC (λhne w2 hC2=> ?_) (λheq w2 hC2=> ?_)
   ·rw[Ql,ho,QA,e1];have hF:=hF.put (d:=26) d_ (.bool true);revert hF;generalize a.put (some 26) (.bool true)=a;intro hF;clear e1 e2 e3 ho;refine Rn.uu hF λa hF=> ?_;refine Rn.uu hF λa hF=> ?_;refine Rn.p rfl (Rn.cond false (hF.G 28) ?_)
    iterate 2 refine Rn.uu hF λa hF=> ?_
    refine Rn.p rfl (Rn.p rfl (ih (i+1) a _ o_ o_ (hv.trans (hvd.trans (by simp[hne]))) (hF.only ⟨rfl,rfl,rfl,rfl,trivial⟩) hC2))
   ·rw[Ql,ho,QA,e1];have hF:=hF.put (d:=26) d_ (.bool false);revert hF;generalize a.put (some 26) (.bool false)=a;intro hF;clear e1 e2 e3 ho;refine Rn.uu hF λa hF=> ?_;refine Rn.uu hF λa hF=> ?_;refine Rn.p rfl (Rn.cond true (hF.G 28) ?_);refine Rn.ends rfl (.inr ⟨_,rfl⟩) (Rn.leave (.tuple #[]) rfl hF.defers Lf.func124 k_ k_ (nq ?_ _ hC2));rw[hv,hvd,heq];rfl
end
theorem JI(a:o.op= .alloc 4):(execOp ev o).run lT w= .ok (.value (.pk w.heap.size 0)) (w.alloc (.cells #[.bool false] 4)):=by
 have e:execOp ev o=(do pure (.value (←Qz 4 true (.tuple #[])))):=by simp only[execOp,a]
 have b:(do pure (.value (←Qz 4 true (.tuple #[]))):Sem Next).run lT w= .ok (.value (.pk w.heap.size 0)) (w.alloc (.cells #[.bool false] 4)):=k_
 rw[e,b]
theorem Jp{a:ByteArray}(b:o.op= .buildSlice 43 1 #[(0,x)])(d:ev x= .s a):
 (execOp ev o).run lT w= .ok (.value (.sk w.heap.size 1 1)) (w.alloc (.cells #[.s a] 9)):=by
 have e:execOp ev o=(do pure (.value (←Instr.buildSlice 43 1 #[(0, .s a)]))):=by simp[execOp,b,d]
 have c:(do pure (.value (←Instr.buildSlice 43 1 #[(0, .s a)])):Sem Next).run lT w= .ok (.value (.sk w.heap.size 1 1)) (w.alloc (.cells #[.s a] 9)):=k_
 rw[e,c]
theorem M9:Tryz.f97.body=some (.seq (rG Tryz.f97 0) (.seq (rG Tryz.f97 1) .ret)):=k_
theorem Au(c:Array Value)(w:World):Calls lT 97 #[.agg c] w λe w'=>e= .returned (.func (.func 124) #[] #[.pk w.heap.size 0])/\w'=w.alloc (.cells c 45):=by
 refine bJ (t:=2) Lf.func97 rfl λf=> ?_;rw[bP (N:=4) [.agg c] Lf.func97 M9 rfl];have b:=aY [.agg c] 4 s_;refine Rn.gr ?_;refine Rn.z b 1 0 45 rfl λa b=> ?_;show Rn _ _ _ _ (w.alloc (.cells c 45));refine Rn.uu b λa b=> ?_;refine Rn.gr ?_;refine Rn.O b 3 (.makeFunc (.func 124) #[] #[.tmp 1]) (v:= .func (.func 124) #[] #[.pk w.heap.size 0]) (w':=w.alloc (.cells c 45)) (λo d=> ?_) λa b=> ?_
 ·have:=(iW (ev:=a.eval) (w:=w.alloc (.cells c 45)) lT d).1
  rwa [show(#[Operand.tmp 1]:Array Operand).map a.eval=#[.pk w.heap.size 0]from by simp[b.G 1]]at this
 refine Rn.uu b λa b=> ?_;exact Rn.fi b ⟨rfl,rfl⟩
theorem Mj:Tryz.f73.body=some (.seq (rG Tryz.f73 0) (.seq (rG Tryz.f73 1) (.seq (.seq (rG Tryz.f73 2) (.block 0 (.rangeFunc (.tmp 11) #[12] (rG Tryz.f73 3) (Do Tryz.f73)))) (.seq (rG Tryz.f73 6) .ret)))):=k_
theorem xV(KS:List Int)(O:KS.length=64)(c:ByteArray)(st le:Int)(z A:Value)(us:List Bool)(hs:List ByteArray)(w:World)(hU:dP w z (us.map .bool))(hH:dP w A (hs.map .string))(L:us.length<4611686018427387904)(a0:c.size<=281474976710656)(hK:w.rangeAt 0 0 (aM KS))(h0:0<w.heap.size):
 Calls lT 73 #[.s c, .agg (dO st le z A)] w λe w'=>e= .returned (.bool (dY us hs (j8 KS [c])))/\Bw w w':=by
 refine xE (t:=4) (ty:=4) Lf.func73 rfl (λw=>(lq w).1) λcs=> ?_;rw[bP (N:=16) [.s c, .agg (dO st le z A)] Lf.func73 Mj rfl];have d:=aY [.s c, .agg (dO st le z A)] 16 s_;refine Rn.zz d λw1 a Y u z1 d=> ?_;refine Rn.al d (λo i=>JI i) λw2 a X x z2 d=> ?_;rw[z1]at d x z2;have u:=(X.block _ o_).trans u;have B2:Bw w w2:=aE Y Y.size X;clear Y X z1;refine Rn.uu d λa d=> ?_;refine Rn.al d (λo i=>Jp i (d.G 7)) λH a W c8 z3 d=> ?_;have B3:Bw w H:=aE B2 B2.size W;have u:=(W.block _ o_).trans u;have x:=(W.block _ o_).trans x;refine Rn.cl d Lf.func91 (R:=λv w'=>v= .s (j8 KS [c])/\Bw H w') (pU KS [c] _ H _ 1 rfl rfl c8 (Pq h0 B3 hK) O (by simp;omega) s_) λv k E a d=> ?_;obtain⟨rfl,I⟩:=E;have Z:Bw w k:=aE B3 B3.size I;have z4:=I.size;have u:=(I.block _ o_).trans u;have x:=(I.block _ o_).trans x;refine Rn.al d (λo i=>(qA i).1) λy a V S z5 d=> ?_;have B5:Bw w y:=aE Z Z.size V;have u:=(V.block _ o_).trans u;have x:=(V.block _ o_).trans x;refine Rn.nn d (λo i=>(dH (v:= .s (j8 KS [c])) (v0:= .string ⟨#[]⟩) rfl rfl k_ i (d.G 5) (d.G 9) ((aH S 0).trans rfl) (by simp[Qa,S])).1) λa d=> ?_;have K:Bw w (y.setCell ⟨k.heap.size,0,none⟩ (.s (j8 KS [c]))):=B5.trans (cP y _ _ (by have:=Z.size;exact this));have C:(y.setCell ⟨k.heap.size,0,none⟩ (.s (j8 KS [c]))).heap[k.heap.size]?=some (.cells #[.s (j8 KS [c])] 9):=jF S;have d3:=(bO y (a:=⟨k.heap.size,0,none⟩) (.s (j8 KS [c])) (show w.heap.size≠k.heap.size by omega)).trans u;have D:=(bO y (a:=⟨k.heap.size,0,none⟩) (.s (j8 KS [c])) (show w.heap.size+1≠k.heap.size by omega)).trans x;revert K C d3 D;generalize y.setCell ⟨k.heap.size,0,none⟩ (.s (j8 KS [c]))=r;intro K C d3 D;refine Rn.uu d λa d=> ?_;refine Rn.cw d Lf.func97 ((Au (dO st le z A) r)) λb s a d=> ?_;have U:Bw r b:=by rw[s];exact PK _ _
 have c7:b.heap[r.heap.size]?=some (.cells (dO st le z A) 45):=by rw[s];exact aP _ _
 have z7:b.heap.size=r.heap.size+1:=by rw[s];exact aI _ _
 clear s;have B7:Bw w b:=aE K K.size U;have l5:=(gA C).1;have C:=(U.block _ l5).trans C;have l4:=(gA D).1;have D:=(U.block _ l4).trans D;refine Rn.p rfl (Rn.p rfl ?_);refine Rn.rangeAs (Cy Tryz.f73 a.tmps b.heap.size .ready none) (args:=[.func (.yield (b.heap.size+1)) #[] #[], .pk r.heap.size 0].toArray) rfl rfl Lf.func124 k_ k_ (d.G 11) rfl ?_;have B:Cv 45 4 9 w r.heap.size (w.heap.size+1) k.heap.size (b.heap.size+1) b.heap.size (Cy Tryz.f73 a.tmps b.heap.size .ready none) (dO st le z A) (j8 KS [c]) false (di b (Cy Tryz.f73 a.tmps b.heap.size .ready none)):=
  ⟨aE B7 B7.size (ia b _),(cb b _ o_).trans c7,(cb b _ o_).trans D,(cb b _ o_).trans C,fU b _,fT b _⟩
 revert B;generalize di b (Cy Tryz.f73 a.tmps b.heap.size .ready none)=w8;intro B;rw[bP (N:=30) _ Lf.func124 KC rfl];have P:=aY [.func (.yield (b.heap.size+1)) #[] #[], .pk r.heap.size 0] 30 s_;revert P;generalize (Act.mk (([.func (.yield (b.heap.size+1)) #[] #[], .pk r.heap.size 0]:List Value).toArray++Array.replicate (30-([.func (.yield (b.heap.size+1)) #[] #[], .pk r.heap.size 0]:List Value).toArray.size) undef) [])=g;intro f;have M:=hU;have Q:=hH;obtain⟨pu,cu,eu,_⟩:=hU;obtain⟨ph,ch,eh,_⟩:=hH;have z8:=B.old.size;refine Rn.gr ?_;refine Rn.O f 4 (.fieldAddr 45 (.tmp 1) 1) (λo i=>vF 1 d_ i (f.G 1)) λg f=> ?_;refine Rn.O f 5 (.load 42 (.tmp 4)) (λo i=>(aN (v:= .slice pu (us.map Value.bool).length cu) fV i (f.G 4) ((aH B.fus 1).trans (by rw[←eu];rfl))).1) λg f=> ?_;refine Rn.O f 6 (.call {callee:= .builtin .len,args:=#[.tmp 5],argTypes:=#[42]}) (λo i=>eb (e:=4) k_ i (f.G 5)) λg f=> ?_;refine Rn.O f 7 (.fieldAddr 45 (.tmp 1) 3) (λo i=>vF 3 d_ i (f.G 1)) λg f=> ?_;refine Rn.O f 8 (.load 43 (.tmp 7)) (λo i=>(aN (v:= .slice ph (hs.map Value.string).length ch) eI i (f.G 7) ((aH B.fus 3).trans (by rw[←eh];rfl))).1) λg f=> ?_;refine Rn.O f 9 (.call {callee:= .builtin .len,args:=#[.tmp 8],argTypes:=#[43]}) (λo i=>eb (e:=9) k_ i (f.G 8)) λg f=> ?_;refine Rn.O f 10 (.call {callee:= .builtin .min,args:=#[.tmp 6, .tmp 9],argTypes:=#[3,3]}) (λo i=>Lt i (f.G 6) (f.G 9)) λg f=> ?_;refine Rn.O f 11 (.move (.const (.i 0))) (λo i=>bF (.inl i)) λg f=> ?_;rw[Qg,Qg]at f;refine Rn.p rfl (Rn.p rfl (Rn.p rfl ?_));have hT:Has [(4, .pt (w.heap.size+1)),(5, .pt k.heap.size)] 16 [] a:=d.only ⟨rfl,rfl,trivial⟩;have l:Has [(4, .pt (w.heap.size+1))] 16 [{target:= .collected b.heap.size,args:=#[]}] ⟨a.tmps,{target:= .collected b.heap.size,args:=#[]}::a.defers⟩:=⟨by rw[d.defers],d.size,(d.only (G:=[(4, .pt (w.heap.size+1))]) ⟨rfl,trivial⟩).slot⟩;have F:∀(p:World) (q:Bool),p.heap[w.heap.size+1]?=some (.cells #[.bool q] 4)->Qe {p with heap:=p.heap.setIfInBounds b.heap.size (.deferred none)} ⟨w.heap.size+1,0,none⟩=some (.bool q):=λp q h=>
  (aH (w:={p with heap:=p.heap.setIfInBounds b.heap.size (.deferred none)}) ((sN o_).trans h) 0).trans rfl
 refine EF (T:=a.tmps) (w0:=w) ⟨rfl,hT.size,hT.slot⟩ o_ o_ M Q L (λE p m=> ?_) (λE p m=> ?_) _ 0 g w8 rfl (QH _) rfl (f.only ⟨rfl,rfl,rfl,rfl,trivial⟩) B
 ·show Rn lT _ ((base 73).atR ⟨a.tmps,{target:= .collected b.heap.size,args:=#[]}::a.defers⟩ (.endRangeFunc (b.heap.size+1)::_)) cs p;revert l;generalize (Act.mk a.tmps ({target:= .collected b.heap.size,args:=#[]}::a.defers))=J;intro l;refine Rn.rangeOver m.loop rfl rfl ?_;have j:=m.turn o_ (Cy Tryz.f73 a.tmps b.heap.size .exhausted none);refine Rn.gr ?_;refine Rn.does0 l (.store 4 (.tmp 4) (.const (.bool false))) k_ s_ (λo i=>(dH (v:= .bool false) (v0:= .bool false) rfl rfl k_ i (l.G 4) rfl ((aH j.res 0).trans rfl) (by simp[Qa,j.res])).1) λJ l=> ?_;have n:=j.put d_ d_ o_ false;refine Rn.p rfl (Rn.ends rfl (.inr ⟨_,rfl⟩) (Rn.take (ds:=[]) l.defers n.list (Rn.now ⟨⟨J.tmps,[]⟩,_,⟨w.heap.size+1,0,none⟩, .bool false,rfl,rfl,l.slot 4 _ rfl,F _ _ n.res, ?_,n.old.trans (iI _ _ o_)⟩)));rw[E]
 ·show Rn lT _ ((base 73).atR ⟨a.tmps,{target:= .collected b.heap.size,args:=#[]}::a.defers⟩ (.endRangeFunc (b.heap.size+1)::_)) cs p;revert l;generalize (Act.mk a.tmps ({target:= .collected b.heap.size,args:=#[]}::a.defers))=J;intro l;refine Rn.rangeQuit m.loop rfl rfl ?_;have j:=m.turn o_ (Cy Tryz.f73 a.tmps b.heap.size .exhausted (some .ret));refine Rn.ends rfl (.inr ⟨_,rfl⟩) (Rn.take (ds:=[]) l.defers j.list (Rn.now ⟨⟨J.tmps,[]⟩,_,⟨w.heap.size+1,0,none⟩, .bool true,rfl,rfl,l.slot 4 _ rfl,F _ _ j.res, ?_,j.old.trans (iI _ _ o_)⟩));rw[E]
end L1
section
open Go.RowKit
theorem bE{p q:Tmp}{ty:TypeId}(h:fn.results=#[.cell p ty, .tmp q])(tmps:Array Value)(w:World)(b o:Nat)(cs:List Value)(d:TypeDesc)(v:Value)
 (f:tmps.getD p undef= .pk b o) (j:w.rangeAt b o cs) (hv:tmps.getD q undef=v)
 (e:P.underlying ty=some d) (i:d.isRow=true) (g:(P.info? ty).map (·.size)=some cs.length):
 (results fn tmps).run P w= .ok (.tuple #[.agg cs.toArray,v]) w:=by
 have c:tmps[p]?.getD undef= .pk b o:=by simpa using f
 have a:tmps[q]?.getD undef=v:=by simpa using hv
 simp[results,h,c,a,asAddr,run_loadVar_mid w b o ty cs d j e i g]
theorem PC(s:ByteArray)(a b:Nat):s.extract a b=⟨(cz s.data.toList a b).toArray⟩:=by obtain⟨⟨l⟩⟩:=s;apply ByteArray.ext;simp[cz,List.drop_take,List.extract]
def pa(v s e a l:Int)(k:List UInt8):List Value:=[.int .i64 v, .int .i64 s, .int .i64 e, .int .i64 a, .int .i64 l, .string ⟨k.toArray⟩]
def eC:List Value:=pa 0 0 0 0 0 []
def lJ(v sg en a l:Int)(k:List UInt8):List Value×Int:=
 if sg<78\/8192<sg\/a<sg\/8192<a+l then(eC,5)else
 if en%4≠0\/en<78\/sg<=en then(eC,6)else
 (pa v sg en a l k,0)
def lz(L:List UInt8):List Value×Int:=
 if L.length<8192 then(eC,3)else
 if L.take 4≠[76,78,84,76]then(eC,4)else
 lJ (cZ (cz L 4 6)) (cZ (cz L 6 10)) (cZ (cz L 10 14)) (cZ (cz L 14 18)) (cZ (cz L 18 22)) (cz L 22 78)
theorem vW(L:List UInt8):(lz L).1=eC\/∃v b en a l k,(lz L).1=pa v b en a l k:=by
 unfold lz;split
 ·exact .inl rfl
 ·split
  ·exact .inl rfl
  ·unfold lJ;split
   ·exact .inl rfl
   ·split
    ·exact .inl rfl
    ·exact .inr ⟨_,_,_,_,_,_,rfl⟩
theorem D5(L:List UInt8):(lz L).1.length=6:=by rcases vW L with h|⟨v,b,c,a,l,k,h⟩<;>rw[h]<;>rfl
theorem D4(L:List UInt8):∀v∈(lz L).1,v.oneCell'=true:=by
 rcases vW L with h|⟨v,c,d,a,l,k,h⟩
 ·rw[h];intro v b;simp[eC,pa]at b;rcases b with rfl|rfl<;>rfl
 ·rw[h];intro v b;simp[pa]at b;rcases b with rfl|rfl|rfl|rfl|rfl|rfl<;>rfl
end
namespace L1
open Go.RowKit
theorem Fg(s:ByteArray)(w:World)(a:s.size<=281474976710656):Calls lT 96 #[.s s] w λe w'=>e= .returned (.s s)/\Bw w w':=by
 go_enter Lf.func96,Tryz.ntmps96
 go_wp2_with (go_at_call 123;refine(Lf.stringslite_Clone s _ a).mono ?_;rintro e w' ⟨rfl,b⟩)
 go_ret
 exact⟨rfl,b⟩
theorem H5(s:ByteArray)(w:World)(hs:s.size<=281474976000000):
 Calls lT 72 #[.s s] w λe w'=>e= .returned (.tuple #[.agg (lz s.data.toList).1.toArray, .i (lz s.data.toList).2])/\Bw w w':=by
 have i:s.data.toList.length=s.size:=by rw[QB];rfl
 by_cases H:s.size<8192
 ·have E:lz s.data.toList=(eC,3):=by rw[lz,if_pos (by rw[i];exact H)]
  rw[E];have G:(s.size:Int)<8192:=o_
  go_enter Lf.func72,Tryz.ntmps72
  go_wp2_with fail
  exact bodyPost_ret (v:= .tuple #[.agg eC.toArray, .i 3]) (bE (p:=2) (q:=3) (ty:=87) k_ _ _ w.heap.size 0 eC _ _ rfl (dm _ eC _ _ rfl) rfl Lf.underlying87 rfl k_) rfl ⟨rfl,(bR).alloc (T6 _) _⟩
 ·have G:¬(s.size:Int)<8192:=o_
  have a0:(8192:Int)<=(s.size:Int):=o_
  have g:=λa b (h:b<=8192)=>nC s.data.toList a b (by rw[i];omega);have Z:s.extract 0 4=⟨(s.data.toList.take 4).toArray⟩:=by rw[PC];rfl
  by_cases y:s.data.toList.take 4≠[76,78,84,76]
  ·have E:lz s.data.toList=(eC,4):=(by rw[lz,if_neg (by rw[i];exact H),if_pos y]);rw[E];have F:(s.data.toList.take 4==[76,78,84,76])=false:=by rw[beq_eq_false_iff_ne];exact y
   go_enter Lf.func72,Tryz.ntmps72
   go_wp2_with fail
   exact bodyPost_ret (v:= .tuple #[.agg eC.toArray, .i 4]) (bE (p:=2) (q:=3) (ty:=87) k_ _ _ w.heap.size 0 eC _ _ rfl (dm _ eC _ _ rfl) rfl Lf.underlying87 rfl k_) rfl ⟨rfl,(bR).alloc (T6 _) _⟩
  ·have x:s.data.toList.take 4=[76,78,84,76]:=Classical.not_not.1 y;have F:(s.data.toList.take 4==[76,78,84,76])=true:=(by rw[beq_iff_eq];exact x);rw[show lz s.data.toList=lJ (cZ (cz s.data.toList 4 6)) (cZ (cz s.data.toList 6 10)) (cZ (cz s.data.toList 10 14)) (cZ (cz s.data.toList 14 18)) (cZ (cz s.data.toList 18 22)) (cz s.data.toList 22 78)from by rw[lz,if_neg (by rw[i];exact H),if_neg y]];have t:Hid (∀a b,b<=8192->(cz s.data.toList a b).length=b- a):=g;have r:∀a b,b<=8192->b- a<=4->0<=cZ (cz s.data.toList a b)/\cZ (cz s.data.toList a b)<4294967296:=λa b h h'=>jj _ 4 (by rw[g a b h];exact h');have O:=r 4 6 o_ o_;have N:=r 6 10 o_ o_;have M:=r 10 14 o_ o_;have L:=r 14 18 o_ o_;have K:=r 18 22 o_ o_;clear r g y x
   go_enter Lf.func72,Tryz.ntmps72
   go_wp2_with fail
   rw[PC];refine(eY _ _ (by show(cz s.data.toList 4 6).toArray.size<=8;rw[Q5,t.out _ _ o_];omega)).mono ?_;rintro e m ⟨rfl,rfl⟩
   go_wp2_with fail
   rw[PC];refine(eY _ _ (by show(cz s.data.toList 6 10).toArray.size<=8;rw[Q5,t.out _ _ o_];omega)).mono ?_;rintro e m ⟨rfl,rfl⟩
   go_wp2_with fail
   rw[PC];refine(eY _ _ (by show(cz s.data.toList 10 14).toArray.size<=8;rw[Q5,t.out _ _ o_];omega)).mono ?_;rintro e m ⟨rfl,rfl⟩
   go_wp2_with fail
   rw[PC];refine(eY _ _ (by show(cz s.data.toList 14 18).toArray.size<=8;rw[Q5,t.out _ _ o_];omega)).mono ?_;rintro e m ⟨rfl,rfl⟩
   go_wp2_with fail
   rw[PC];refine(eY _ _ (by show(cz s.data.toList 18 22).toArray.size<=8;rw[Q5,t.out _ _ o_];omega)).mono ?_;rintro e m ⟨rfl,rfl⟩;rw[show(ByteArray.mk (cz s.data.toList 18 22).toArray).data.toList=cz s.data.toList 18 22 from rfl];obtain⟨v,A⟩:∃v,cZ (cz s.data.toList 4 6)=v:=⟨_,rfl⟩;obtain⟨c,j⟩:∃v,cZ (cz s.data.toList 6 10)=v:=⟨_,rfl⟩;obtain⟨d,k⟩:∃v,cZ (cz s.data.toList 10 14)=v:=⟨_,rfl⟩;obtain⟨a,C⟩:∃v,cZ (cz s.data.toList 14 18)=v:=⟨_,rfl⟩;obtain⟨l,B⟩:∃v,cZ (cz s.data.toList 18 22)=v:=⟨_,rfl⟩;have n:Hid (lJ (cZ (cz s.data.toList 4 6)) (cZ (cz s.data.toList 6 10)) (cZ (cz s.data.toList 10 14)) (cZ (cz s.data.toList 14 18)) (cZ (cz s.data.toList 18 22)) (cz s.data.toList 22 78)=lJ v c d a l (cz s.data.toList 22 78)):=by show lJ _ _ _ _ _ _=_;rw[A,j,k,C,B]
   rw[A,j,k,C,B];rw[A]at O;rw[j]at N;rw[k]at M;rw[C]at L;rw[B]at K;clear A j k C B;obtain⟨Y,X⟩:=O;obtain⟨W,V⟩:=N;obtain⟨U,T⟩:=M;obtain⟨S,R⟩:=L;obtain⟨Q,P⟩:=K;have hw:IntKind.u64.wrap (a+l)=a+l:=(by rw[IntKind.wrap_u64,Int.emod_eq_of_lt o_ o_]);by_cases c1:c<78
   ·have f:lJ v c d a l (cz s.data.toList 22 78)=(eC,5):=by rw[lJ,if_pos o_]
    go_wp2_with fail
    exact bodyPost_ret (v:= .tuple #[.agg eC.toArray, .i 5]) (bE (p:=2) (q:=3) (ty:=87) k_ _ _ w.heap.size 0 eC _ _ rfl (dm _ eC _ _ rfl) rfl Lf.underlying87 rfl k_) rfl ⟨by rw[n.out,f],(bR).alloc (T6 _) _⟩
   ·have a6:¬c<78:=c1;by_cases c2:8192<c
    ·have f:lJ v c d a l (cz s.data.toList 22 78)=(eC,5):=by rw[lJ,if_pos o_]
     go_wp2_with fail
     exact bodyPost_ret (v:= .tuple #[.agg eC.toArray, .i 5]) (bE (p:=2) (q:=3) (ty:=87) k_ _ _ w.heap.size 0 eC _ _ rfl (dm _ eC _ _ rfl) rfl Lf.underlying87 rfl k_) rfl ⟨by rw[n.out,f],(bR).alloc (T6 _) _⟩
    ·have a5:¬8192<c:=c2;by_cases c3:a<c
     ·have f:lJ v c d a l (cz s.data.toList 22 78)=(eC,5):=by rw[lJ,if_pos o_]
      go_wp2_with fail
      exact bodyPost_ret (v:= .tuple #[.agg eC.toArray, .i 5]) (bE (p:=2) (q:=3) (ty:=87) k_ _ _ w.heap.size 0 eC _ _ rfl (dm _ eC _ _ rfl) rfl Lf.underlying87 rfl k_) rfl ⟨by rw[n.out,f],(bR).alloc (T6 _) _⟩
     ·have a4:¬a<c:=c3;by_cases c4:8192<a+l
      ·have f:lJ v c d a l (cz s.data.toList 22 78)=(eC,5):=by rw[lJ,if_pos o_]
       go_wp2_with fail
       exact bodyPost_ret (v:= .tuple #[.agg eC.toArray, .i 5]) (bE (p:=2) (q:=3) (ty:=87) k_ _ _ w.heap.size 0 eC _ _ rfl (dm _ eC _ _ rfl) rfl Lf.underlying87 rfl k_) rfl ⟨by rw[n.out,f],(bR).alloc (T6 _) _⟩
      ·have a3:¬8192<a+l:=c4;have D:¬(c<78\/8192<c\/a<c\/8192<a+l):=o_;by_cases d1:d%4≠0
       ·have f:lJ v c d a l (cz s.data.toList 22 78)=(eC,6):=(by rw[lJ,if_neg D,if_pos o_]);have I:(d%4==0)=false:=by rw[beq_eq_false_iff_ne];exact d1
        go_wp2_with fail
        exact bodyPost_ret (v:= .tuple #[.agg eC.toArray, .i 6]) (bE (p:=2) (q:=3) (ty:=87) k_ _ _ w.heap.size 0 eC _ _ rfl (dm _ eC _ _ rfl) rfl Lf.underlying87 rfl k_) rfl ⟨by rw[n.out,f],(bR).alloc (T6 _) _⟩
       ·have I:(d%4==0)=true:=(by rw[beq_iff_eq];omega);by_cases d2:d<78
        ·have f:lJ v c d a l (cz s.data.toList 22 78)=(eC,6):=by rw[lJ,if_neg D,if_pos o_]
         go_wp2_with fail
         exact bodyPost_ret (v:= .tuple #[.agg eC.toArray, .i 6]) (bE (p:=2) (q:=3) (ty:=87) k_ _ _ w.heap.size 0 eC _ _ rfl (dm _ eC _ _ rfl) rfl Lf.underlying87 rfl k_) rfl ⟨by rw[n.out,f],(bR).alloc (T6 _) _⟩
        ·have a2:¬d<78:=d2;by_cases d3:c<=d
         ·have f:lJ v c d a l (cz s.data.toList 22 78)=(eC,6):=by rw[lJ,if_neg D,if_pos o_]
          go_wp2_with fail
          exact bodyPost_ret (v:= .tuple #[.agg eC.toArray, .i 6]) (bE (p:=2) (q:=3) (ty:=87) k_ _ _ w.heap.size 0 eC _ _ rfl (dm _ eC _ _ rfl) rfl Lf.underlying87 rfl k_) rfl ⟨by rw[n.out,f],(bR).alloc (T6 _) _⟩
         ·have a1:¬c<=d:=d3;have f:lJ v c d a l (cz s.data.toList 22 78)=(pa v c d a l (cz s.data.toList 22 78),0):=by rw[lJ,if_neg D,if_neg o_]
          go_wp2_with fail
          rw[PC];refine(Fg _ _ (by show(cz s.data.toList 22 78).toArray.size<=_;rw[Q5,t.out _ _ o_];omega)).mono ?_;rintro e m ⟨rfl,o⟩;have u:m.there w.heap.size 0 6:=eO o s_ (cX _ _ _ _ _ rfl rfl);have J:Hid (Bw w m):=((bR).alloc (T6 _) _).trans (o.mono s_);have y1:Q4.wrap v=v:=(by rw[Q3];omega);have y2:Q4.wrap c=c:=(by rw[Q3];omega);have y3:Q4.wrap d=d:=(by rw[Q3];omega);have y4:Q4.wrap a=a:=(by rw[Q3];omega);have y5:Q4.wrap l=l:=(by rw[Q3];omega);have z:Hid (m.there w.heap.size 0 (pa v c d a l (cz s.data.toList 22 78)).toArray.size):=u;clear o u
          go_wp2_with (refine wpList_store_mid rfl 87 (.tmp 2) (.tmp 76) rfl w.heap.size 0 (pa v c d a l (cz s.data.toList 22 78)).toArray rfl rfl z.out k_ k_ ?_)
          exact bodyPost_ret (v:= .tuple #[.agg (pa v c d a l (cz s.data.toList 22 78)).toArray, .i 0]) (bE (p:=2) (q:=3) (ty:=87) k_ _ _ w.heap.size 0 (pa v c d a l (cz s.data.toList 22 78)) _ _ rfl (World.rangeAt_setCells_same _ _ _ _ z.out) rfl Lf.underlying87 rfl k_) rfl ⟨by rw[n.out,f],bN (T6 _) _ _ _ _ J.out⟩
end L1
section
open Go.Conc Go.RowKit
theorem jm{R:Ending->World->Prop}{t u:Tmp}(d:P.funcs[f]?=some fn)(b:fn.results=#[.tmp t, .tmp u])
 (h:∀cs,Rn P (λg w'=>∃(a:Act) (k:List Item) (v v':Value),g=dN {(base f).atR a k with mode:= .returning} cs/\a.defers=[]/\a.tmps[t]?=some v/\a.tmps[u]?=some v'/\R (.returned (.tuple #[v,v'])) w') (Qc P f args .normal) cs w):Calls P f args w R:=λcs=>by obtain⟨m,w',l,a,k,v,v',rfl,j,i,c,e⟩:=h cs;refine⟨.returned (.tuple #[v,v']),w',{(base f).atR a k with mode:= .returning},e,Sq l,rfl,rfl,j,rfl,fn,d, ?_⟩;show(results fn a.tmps).run P w'=_;simp[results,b,i,c]
theorem n0(L:List UInt8)(h:L.length<=4):∃n:Nat,cZ L=n/\n<4294967296:=by obtain⟨b,a⟩:=jj L 4 h;exact⟨(cZ L).toNat,o_,o_⟩
theorem H7(s:ByteArray)(h:(lz s.data.toList).2=0):∃(v en:Int) (d a l:Nat) (k:List UInt8),lz s.data.toList=(pa v d en a l k,0)/\8192<=s.size/\78<=d/\d<=a/\a+l<=8192/\k.length<=56:=by
 have e:s.data.toList.length=s.size:=by rw[QB];rfl
 unfold lz at h⊢;split at h
 ·cases h
 ·rename_i j;rw[if_neg j];split at h
  ·cases h
  ·rename_i i;rw[if_neg i];have c:=λa b (h:b<=8192)=>nC s.data.toList a b o_;obtain⟨d,o,r⟩:=n0 (cz s.data.toList 6 10) (by rw[c _ _ o_];omega);obtain⟨a,n,q⟩:=n0 (cz s.data.toList 14 18) (by rw[c _ _ o_];omega);obtain⟨l,m,p⟩:=n0 (cz s.data.toList 18 22) (by rw[c _ _ o_];omega);rw[o,n,m]at h⊢;unfold lJ at h⊢;split at h
   ·cases h
   ·rename_i g;rw[if_neg g];split at h
    ·cases h
    ·rename_i f;rw[if_neg f];exact⟨_,_,d,a,l,_,rfl,o_,o_,o_,o_,by rw[c _ _ o_];omega⟩
end
namespace L1
open Go.Conc Go.RowKit
def Cr(KS:List Int)(s:ByteArray)(le:Int)(us:List Bool)(hs:List ByteArray)(n c:Int):Prop:=
 ((lz s.data.toList).2≠0/\n=0/\c=(lz s.data.toList).2)\/∃(v en:Int) (sg a l:Nat) (k:List UInt8),lz s.data.toList=(pa v sg en a l k,0)/\
   ((v<le/\n=0/\c=7)\/(le<=v/\dY us hs (j8 KS [⟨k.toArray⟩])=false/\n=0/\c=8)\/
     (le<=v/\dY us hs (j8 KS [⟨k.toArray⟩])=true/\∃d,uw KS ⟨k.toArray⟩ (s.extract 0 sg) (s.extract a (a+l)) d/\((d≠0/\n=0/\c=d)\/(d=0/\n=en/\c=0))))
theorem xX(KS:List Int)(key msg sig:ByteArray):∃c,uw KS key msg sig c:=by
 unfold uw;by_cases a:gj key
 ·by_cases b:kr (gY key) (hK key) (nK key) sig
  ·by_cases d:(mE KS key msg sig).data.toList=(key.extract 24 key.size).data.toList
   ·exact⟨0, .inr (.inr (.inr ⟨a,b,d,rfl⟩))⟩
   ·exact⟨10, .inr (.inr (.inl ⟨a,b,d,rfl⟩))⟩
  ·exact⟨10, .inr (.inl ⟨a,b,rfl⟩)⟩
 ·exact⟨9, .inl ⟨a,rfl⟩⟩
theorem Ja(KS:List Int)(a:KS.length=64)(key msg sig:ByteArray)(f:msg.size<=281474976706560)(hs:sig.size<=1125899906842624):∃c,uw KS key msg sig c/\∀w:World,w.rangeAt 0 0 (aM KS)->0<w.heap.size->Calls lT 36 #[.s key, .s msg, .s sig] w λe w'=>e= .returned (.i c)/\Bw w w':=by obtain⟨c,b⟩:=xX KS key msg sig;exact⟨c,b,λw h g=>(uL KS a key msg sig f hs w h g).mono λe w' ⟨d,k,j,i⟩=>⟨by rw[k,wV j b],i⟩⟩
theorem CU(a:o.op= .alloc 87):(execOp ev o).run lT w= .ok (.value (.pk w.heap.size 0)) (w.alloc (.cells eC.toArray 87)):=by
 have e:execOp ev o=(do pure (.value (←Qz 87 true (.tuple #[])))):=by simp only[execOp,a]
 have b:(do pure (.value (←Qz 87 true (.tuple #[]))):Sem Next).run lT w= .ok (.value (.pk w.heap.size 0)) (w.alloc (.cells eC.toArray 87)):=k_
 rw[e,b]
theorem NU(j:Nat)(f:j<6)(a:o.op= .fieldAddr 87 x j)(c:ev x= .pk b 0):(execOp ev o).run lT w= .ok (.value (.pk b j)) w:=by
 have e:execOp ev o=(do pure (.value (←BY 87 (.pk b 0) j))):=by simp only[execOp,a,c]
 have d:(do pure (.value (←BY 87 (.pk b 0) j)):Sem Next).run lT w= .ok (.value (.pk b j)) w:=by rcases(o_:j=0\/j=1\/j=2\/j=3\/j=4\/j=5)with rfl|rfl|rfl|rfl|rfl|rfl<;>kernel_rfl
 rw[e,d]
theorem H3:(lT.info? 87).map (·.size)=some 6:=k_
theorem Ms:Tryz.f40.body=some (.seq (rG Tryz.f40 0) (.seq (rG Tryz.f40 1) (.seq (.seq (rG Tryz.f40 2) (.cond (.tmp 14) (.seq (rG Tryz.f40 3) .ret) .skip)) (.seq (.seq (rG Tryz.f40 4) (.cond (.tmp 20) (.seq (rG Tryz.f40 5) .ret) .skip)) (.seq (.seq (rG Tryz.f40 6) (.cond (.tmp 25) (.seq (rG Tryz.f40 7) .ret) .skip)) (.seq (rD Tryz.f40 8) (.seq (.seq (rG Tryz.f40 9) (.cond (.tmp 43) (.seq (rG Tryz.f40 10) .ret) .skip)) (.seq (rG Tryz.f40 11) .ret)))))))):=k_
theorem Fh(KS:List Int)(E:KS.length=64)(s:ByteArray)(st le:Int)(i j:Value)(us:List Bool)(hs:List ByteArray)(w:World)(hU:dP w i (us.map .bool))(hH:dP w j (hs.map .string))(P:us.length<4611686018427387904)(O:s.size<=281474976000000)(U:w.rangeAt 0 0 (aM KS))(K:0<w.heap.size):
 Calls lT 40 #[.s s, .agg (dO st le i j)] w λe w'=>∃n c,e= .returned (.tuple #[.i n, .i c])/\Cr KS s le us hs n c/\Bw w w':=by
 refine jm (t:=4) (u:=5) Lf.func40 rfl λcs=> ?_;rw[bP (N:=47) [.s s, .agg (dO st le i j)] Lf.func40 Ms rfl];have b:=aY [.s s, .agg (dO st le i j)] 47 s_;refine Rn.gr ?_;refine Rn.z b 3 1 45 rfl λa b=> ?_;show Rn _ _ _ _ (w.alloc (.cells (dO st le i j) 45));have H:=PK w (.cells (dO st le i j) 45);have p:=aP w (.cells (dO st le i j) 45);have R:=aI w (.cells (dO st le i j) 45);revert H p R;generalize w.alloc (.cells (dO st le i j) 45)=w1;intro H p R
 iterate 3 refine Rn.uu b λa b=> ?_
 refine Rn.cw b Lf.func72 ((H5 s w1 O)) λf L a b=> ?_;have Z:Bw w f:=aE H H.size L;have z2:=L.size;have p:=(L.block _ o_).trans p
 iterate 3 refine Rn.uu b λa b=> ?_
 refine Rn.vv b (λo C=>CU C) λa b=> ?_;have x:=PK f (.cells eC.toArray 87);have G:=aP f (.cells eC.toArray 87);revert x G;generalize f.alloc (.cells eC.toArray 87)=M;intro x G;have p:=(x.block _ o_).trans p;have m:=D5 s.data.toList;have B:=D4 s.data.toList;refine Rn.nn b (λo C=>cd (cells:=(lz s.data.toList).1.toArray) C (b.G 6) (b.G 11) G (by rw[H3,Q5,m]) (by rw[Q5,Q5,m];rfl) (by rw[Array.all_eq_true'];intro v y;exact B v (by simpa using y))) λa b=> ?_;have h:=setRow_heap M f.heap.size _ (lz s.data.toList).1.toArray _ _ G;have g:Bw f (M.setRow f.heap.size (lz s.data.toList).1.toArray):=x.trans (bT _ _ _ (T6 _));have V:=(g.block _ (o_:w.heap.size<f.heap.size)).trans ((x.block _ o_).symm.trans p);revert h g V;generalize M.setRow f.heap.size (lz s.data.toList).1.toArray=S;intro h g V;have g:Bw w S:=aE Z Z.size g;refine Rn.uu b λa b=> ?_;clear H L x p G
 iterate 2 refine Rn.uu b λa b=> ?_
 refine Rn.p rfl (Rn.cond _ (b.G 14) ?_);by_cases J:(lz s.data.toList).2=0
 ·rw[show((lz s.data.toList).2 !=0)=false from by simpa using J];obtain⟨v,F,q,d,l,k,D,g1,g2,g3,g4,g5⟩:=H7 s J;rw[D]at h;have e3:((d+l:Nat):Int)=(d:Int)+l:=Int.natCast_add _ _
  iterate 5 refine Rn.uu b λa b=> ?_
  refine Rn.p rfl (Rn.cond _ (b.G 20) ?_);by_cases Q:v<le
  ·rw[decide_eq_true Q]
   iterate 2 refine Rn.uu b λa b=> ?_
   exact Rn.fj b ⟨0,7,rfl, .inr ⟨v,F,q,d,l,k,D, .inl ⟨Q,rfl,rfl⟩⟩,g⟩
  rw[decide_eq_false Q];refine Rn.vv b (λo C=>NU 5 d_ C (b.G 6)) λa b=> ?_
  iterate 2 refine Rn.uu b λa b=> ?_
  refine Rn.cw b Lf.func73 ((xV KS E ⟨k.toArray⟩ st le i j us hs S (hU.below g) (hH.below g) P (by show k.toArray.size<=_;rw[Q5];omega) (Pq K g U) (T7 K g.size))) λw5 X a b=> ?_;have r:Bw w w5:=aE g g.size X;have h:=(X.block _ (gA h).1).trans h;refine Rn.uu b λa b=> ?_;refine Rn.p rfl (Rn.cond _ (b.G 25) ?_);cases y:dY us hs (j8 KS [⟨k.toArray⟩])with
  |false=>
   iterate 2 refine Rn.uu b λa b=> ?_
   exact Rn.fj b ⟨0,8,rfl, .inr ⟨v,F,q,d,l,k,D, .inr (.inl ⟨o_,y,rfl,rfl⟩)⟩,r⟩
  |true=>
   obtain⟨c,T,A⟩:=Ja KS E ⟨k.toArray⟩ (s.extract 0 q) (s.extract d (d+l)) (by rw[ByteArray.size_extract];omega) (by rw[ByteArray.size_extract];omega);have b:Has [(6, .pt f.heap.size),(0, .s s)] 47 [] a:=b.only ⟨rfl,rfl,trivial⟩;refine Rn.p rfl (Rn.p rfl ?_);refine Rn.tab (v:= .i c) b [(26, .pk f.heap.size 5),(27, .string ⟨k.toArray⟩),(28, .s s),(29, .pk f.heap.size 1),(30, .i q),(31, .s (s.extract 0 q)),(32, .s s),(33, .pk f.heap.size 3),(34, .i d),(35, .pk f.heap.size 3),(36, .i d),(37, .pk f.heap.size 4),(38, .i l),(39, .i (d+l:Nat)),(40, .s (s.extract d (d+l))),(41, .i c),(7, .i c)] [28,32,7] 7
    ⟨tq,
     λz=>dv (aN bA z.e (z.k 26) ((aH ((z.b.block _ (gA h).1).trans h) 5).trans rfl)).1,
     tq,
     tq,
     λz=>dv (nT z.e (z.k 28) (z.k 30) o_),
     tq,
     tq,
     tq,
     tq,
     tq,
     tq,
     λz=>pv (iA (u:=3) z.e (z.k 36) (z.k 38) o_) (by rw[e3]),
     λz=>dv (dR z.e (z.k 32) (z.k 34) (z.k 39) o_ o_).1,
     λz=>z.c3 (z.k 27) (z.k 31) (z.k 40) (A _ (Pq K (aE r r.size z.b) U) (T7 K (aE r r.size z.b).size)),
     trivial⟩ λa w6 ⟨W,b⟩=> ?_
   have Y:Bw w w6:=aE r r.size W;have h:=(W.block _ (gA h).1).trans h
   iterate 2 refine Rn.uu b λa b=> ?_
   refine Rn.p rfl (Rn.cond _ (b.G 43) ?_);by_cases I:c=0
   ·rw[show(c !=0)=false from by simpa using I]
    iterate 4 refine Rn.uu b λa b=> ?_
    exact Rn.fj b ⟨F,0,rfl, .inr ⟨v,F,q,d,l,k,D, .inr (.inr ⟨o_,y,c,T, .inr ⟨I,rfl,rfl⟩⟩)⟩,Y⟩
   ·rw[show(c !=0)=true from by simpa using I]
    iterate 3 refine Rn.uu b λa b=> ?_
    exact Rn.fj b ⟨0,c,rfl, .inr ⟨v,F,q,d,l,k,D, .inr (.inr ⟨o_,y,c,T, .inl ⟨I,rfl,rfl⟩⟩)⟩,Y⟩
 ·rw[show((lz s.data.toList).2 !=0)=true from by simpa using J]
  iterate 3 refine Rn.uu b λa b=> ?_
  exact Rn.fj b ⟨0,_,rfl, .inl ⟨J,rfl,rfl⟩,g⟩
end L1
end Go.Proofs.YtkmoglhgkcnalaaGreatDoor
