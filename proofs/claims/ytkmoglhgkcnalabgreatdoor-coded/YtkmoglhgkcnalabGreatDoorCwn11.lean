/- A part of what the last text of the claim imports: texts laid together, and made small, by a program. -/
import Derived.Test.YtkmoglhgkcnalabGreatDoorCwn10
set_option maxHeartbeats 16000000
set_option maxRecDepth 100000
open Go.Addr renaming add_mid->CH
open Go.Instr renaming loadAt->a47,alloc->Ee,sureAddr->NK
open Go.Value renaming oneCell'->LN
open Go.World renaming cell?->AB
open List renaming getD_eq_getElem?_getD->a50,getElem?_eq_getElem->AS
open Nat renaming zero_add->a46
namespace Go.Proofs.YtkmoglhgkcnalabGreatDoor
open Go
variable{n b i N l m k j b3 b4 b7 b9 Wg wd:Nat}{w w' w0 wL wM wE:World}{fr:Frame}{v:Value}{cs:List Frame}{args cv:Array Value}{V RO D V0:Nat->Prop}{q main listen ql:Bool}{g:Goroutine}{a:Act}{K:List Item}{P PL PM:Program}{x:Operand}{ops:Array Oper}{KS:List Int}{t u:TypeId}{o:Oper}{f:FuncId}{es:Array Event}{Goal:Goroutine->World->Prop}{fn:Func}{rest:List Nat}{ds:List Deferred}{X:bS}{F:List (Nat×Value)}{e:Event}{listed:Array Bool}{c:Int}{s msg key sig:ByteArray}{ρ:Nat->Nat}{ev:Operand->Value}{Post:Value->World->Prop}
section
open Go.Conc Go.RowKit Go.Proofs.YtkmoglhgkcnalabGreatDoor.L1
theorem UZ(a:o.op= .alloc 27):(execOp ev o).run tP w= .ok (.value (.pk w.heap.size 0)) (w.alloc (.cells #[.string ⟨#[]⟩, .string ⟨#[]⟩, .slice none 0 0] 27))/\(execOp ev o).events tP w #[]=#[]:=by
 have e:execOp ev o=(do pure (.value (←Ee 27 true (.tuple #[])))):=by simp only[execOp,a]
 rw[e];constructor<;>kernel_rfl
theorem UQ(a:o.op= .alloc 36):(execOp ev o).run tP w= .ok (.value (.pk w.heap.size 0)) (w.alloc (.cells (L1.cH 0 false 0 0 0) 36))/\(execOp ev o).events tP w #[]=#[]:=by
 have e:execOp ev o=(do pure (.value (←Ee 36 true (.tuple #[])))):=by simp only[execOp,a]
 rw[e];constructor<;>kernel_rfl
theorem V2(a:o.op= .alloc 48):(execOp ev o).run tP w= .ok (.value (.pk w.heap.size 0)) (w.alloc (.cells (ik 0 0 (.slice none 0 0) (.slice none 0 0)) 48))/\(execOp ev o).events tP w #[]=#[]:=by
 have e:execOp ev o=(do pure (.value (←Ee 48 true (.tuple #[])))):=by simp only[execOp,a]
 rw[e];constructor<;>kernel_rfl
theorem Ut{y:Operand}{d:Nat}{id seed:ByteArray}{old:Array Value}{c:TypeId}(a:o.op= .store 27 x y)(g:ev x= .pk b 0)(f:ev y= .agg (gR id seed d))(h:w.heap[b]?=some (.cells old c))(i:old.size=3):
 (execOp ev o).run tP w= .ok .skip (gy w b (gR id seed d) c)/\∀e∈(execOp ev o).events tP w #[],∃k,e=⟨.cell ⟨b,k,none⟩,true,false⟩:=Tw (λw=>⟨k_,k_⟩) a g f h k_ i (by simp[gR,LN])
theorem TF{y:Operand}{r s e:Int}{j:Bool}{old:Array Value}{d:TypeId}(a:o.op= .store 36 x y)(g:ev x= .pk b 0)(f:ev y= .agg (L1.cH r j s e c))(h:w.heap[b]?=some (.cells old d))(i:old.size=5):
 (execOp ev o).run tP w= .ok .skip (gy w b (L1.cH r j s e c) d)/\∀e∈(execOp ev o).events tP w #[],∃k,e=⟨.cell ⟨b,k,none⟩,true,false⟩:=Tw (λw=>⟨k_,k_⟩) a g f h k_ i (by simp[L1.cH,LN])
theorem Uv{y:Operand}{cells old:Array Value}{d:TypeId}(c:cells.size=4)(i:cells.all (·.oneCell')=true)(a:o.op= .store 48 x y)(g:ev x= .pk b 0)(f:ev y= .agg cells)(h:w.heap[b]?=some (.cells old d))(j:old.size=4):
 (execOp ev o).run tP w= .ok .skip (gy w b cells d)/\∀e∈(execOp ev o).events tP w #[],∃k,e=⟨.cell ⟨b,k,none⟩,true,false⟩:=Tw (λw=>by rw[c];exact⟨k_,k_⟩) a g f h (by rw[c];kernel_rfl) (j.trans c.symm) i
theorem Un{c:Nat}{id seed:ByteArray}{g:TypeId}(a:o.op= .load 27 x)(d:ev x= .pk b 0)(h:w.heap[b]?=some (.cells (gR id seed c) g)):(execOp ev o).run tP w= .ok (.value (.agg (gR id seed c))) w/\∀e∈(execOp ev o).events tP w #[],∃k,e=⟨.cell ⟨b,k,none⟩,false,false⟩:=by
 obtain⟨j,i⟩:=Ty (P:=tP) (ty:=27) (n:=3) k_ k_ k_ h rfl;constructor
 ·simp[execOp,a,d,a47,NK,j]
 ·intro e f;simp[execOp,a,d,a47,NK]at f;exact i e f
section
variable{S:Nat->Prop}{b:Frame}{k:List Item}
theorem em.lv{i:List Item}{d:Tmp}{p:Op}{n:Nat}{r:Obj}(x:aW F N ds a)(s:w.heap[n]?=some r)(j:¬S n)(q:∀(o:Oper) (c:Nat),o.op=p->(execOp a.eval o).run P (w.at c)= .ok (.value v) (w.at c)/\∀e∈(execOp a.eval o).events P (w.at c) #[],∃k,e=⟨.cell ⟨n,k,none⟩,false,false⟩)(next:∀a',aW ((d,v)::F) N ds a'->em P Post S (gB (b.atR a' (.inRegion ops rest::i)) cs) w)(y:mc 6 (b.atR a k)= .inRegion ops (m::rest)::i:=by rfl)
 (h:(ops[m]?).map (λo=>(o.dst,o.op,o.guard))=some (some d,p,none):=by rfl) (u:d<N:=by decide) (f:nd p=true:=by rfl):em P Post S (gB (b.atR a k) cs) w:=by
 refine em.gr ?_ y;cases g:ops[m]? with
 |none=>rw[g]at h;cases h
 |some o=>
  rw[g]at h;simp only[Option.map_some,Option.some.injEq,Prod.mk.injEq]at h;obtain⟨A,l,z⟩:=h;refine em.oper g (by simp[Region.wanted,z]) (λc e=>by rw[←l,e]at f;cases f) λc=>⟨.value v,w.at c,(q o c l).1,rfl,Nat.le_refl _,λe t=> ?_,em.at ?_ c⟩
  ·obtain⟨k,rfl⟩:=(q o c l).2 e t;exact T7 (bH s) j
  ·show em P Post S (gB ((b.atR a (.inRegion ops (m::rest)::i)).finish v) cs) w;rw[Frame.finish_atR,g,Option.bind_some,A];exact next _ (x.put u v)
theorem em.ab{f:List Item}{d:Tmp}{p:Op}{cells:Array Value}(n:aW F N ds a)(g:∀(o:Oper) (w:World),o.op=p->(execOp a.eval o).run P w= .ok (.value (.pk w.heap.size 0)) (w.alloc (.cells cells t))/\(execOp a.eval o).events P w #[]=#[])
 (next:(∀r,S r->r<w.heap.size)->∀w' a',Bw w w'->w'.heap[w.heap.size]?=some (.cells cells t)->aW ((d, .pk w.heap.size 0)::F) N ds a'->em P Post S (gB (b.atR a' (.inRegion ops rest::f)) cs) w') (x:mc 6 (b.atR a k)= .inRegion ops (m::rest)::f:=by rfl)
 (h:(ops[m]?).map (λo=>(o.dst,o.op,o.guard))=some (some d,p,none):=by rfl) (j:d<N:=by decide) (e:nd p=true:=by rfl):em P Post S (gB (b.atR a k) cs) w:=
 em.low λl=>em.aa (u:= .pk w.heap.size 0) n (λo c i=>g o (w.at c) i) (λw' a' v s _ q=>next l w' a' v s q) x h j e
theorem Tl{bk k:Nat}{c:Obj}{b:Bool}(d:w.heap[bk]?=some c)(a:¬S bk):∀e∈(#[⟨.cell ⟨bk,k,none⟩,b,false⟩]:Array Event),EvL (eZ S) w.heap.size e:=λe f=>by
 obtain rfl:e=⟨.cell ⟨bk,k,none⟩,b,false⟩:=by simpa using f
 exact T7 (bH d) a
end
def TZ(f:Func):Code:= .seq (rG f 18) (.seq (rG f 19) (.seq (rG f 20) .ret))
def TG(f:Func):Code:= .seq (rG f 13) (.seq (rG f 14) (.seq (rG f 15) (.seq (.seq (rG f 16) (.cond (.tmp 82) (rG f 17) .skip)) (TZ f))))
def UA(f:Func):Code:= .seq (.seq (rG f 10) (.cond (.tmp 54) .skip (.exit 0))) (.seq (.block 1 (rG f 12)) (rG f 11))
def U3(f:Func):Code:= .seq (rG f 8) (.seq (.seq (rG f 9) (.block 0 (.loop (UA f)))) (TG f))
theorem UO:Tryz.f7.body=some (.seq (rG Tryz.f7 0) (.seq (rG Tryz.f7 1) (.seq (rG Tryz.f7 2) (.seq (rG Tryz.f7 3) (.seq (rG Tryz.f7 4) (.seq (rG Tryz.f7 5) (.seq (.seq (rG Tryz.f7 6) (.cond (.tmp 46) (.seq (rG Tryz.f7 7) .ret) .skip)) (U3 Tryz.f7)))))))):=k_
theorem Hd.first{W:World}(a:2<=W.heap.size):Hd W (λ_=>False) (λ_=>False) W:=⟨a,bR,λ_ h=>h.elim,λ_ h=>h.elim⟩
abbrev Ta(seed:ByteArray):ByteArray:=sA SN seed 1 ⟨#[]⟩++sB SN seed 1 ⟨#[]⟩
abbrev Tz(seed:ByteArray):List Int:=jp 3855 (gU 3) 0 0 (jN SN seed 1) 4
theorem UY(seed:ByteArray):gD (Tz seed):=GY 3855 _ d_ ⟨(oA (show 3<=16 by decide)).2.2.2.1,(oA (show 3<=16 by decide)).2.2.2.2⟩ 0 0 _
section
variable{W:World}{seed:ByteArray}{which:Int}{bits:Value}{both:Bool}
theorem UK(h2:2<=W.heap.size)(y:Tb W)(hs:seed.size<=140737488351232)(nt:∀(S D:Nat->Prop) (w:World) (a:Act) (l cap x:Nat) (z old:Array Value),Hd W S D w->D l->85<=cap->w.heap[l]?=some (.cells z 3)->w.rangeAt l 0 ((Tz seed).map (Value.int .i64))->Ow W S D w x (.cells old 36)->old.size=5->aW [(1, .i which),(2,bits),(3, .bool both),(11, .s (Ta seed)),(12, .sk l 85 cap),(14, .pt x)] 121 [] a->em tP Post S (gB ((base 7).atR a [.code (U3 Tryz.f7)]) []) w):
 em tP Post (λ_=>False) (cd tP 7 #[.s seed, .i which,bits, .bool both] []) W:=by
 show em tP Post (λ_=>False) (gB (Frame.enter tP 7 ([.s seed, .i which,bits, .bool both]:List Value).toArray .normal) []) W;rw[aV (N:=121) [.s seed, .i which,bits, .bool both] Tryz.func7 UO rfl];have b:=aN [.s seed, .i which,bits, .bool both] 121 s_;refine em.uu b λa b=> ?_;refine em.cc b Tryz.func8 λE e d=>(Hd.first h2).known y e λS1 D1 w1 v f H1 _ _ _ _=>d S1 w1 v λa b=> ?_;subst f
 iterate 2 refine em.uu b λa b=> ?_
 refine em.cc b Tryz.func10 λE e d=>H1.grown seed o_ 1 d_ y e λS2 D2 K v f H2 _ _ _ _=>d S2 K v λa b=> ?_;obtain⟨r,rfl,n2,L⟩:=f;refine em.ab b (λo w k=>UZ k) λR w3 a b3 c3 b=> ?_;obtain⟨H3,G,_⟩:=H2.made R b3 c3;refine em.sp b G.lies G.ours (λo c k=>Ut k (b.G 10) (b.G 23) G.lies rfl) λa b=> ?_;obtain⟨M,C,_⟩:=H3.set G (gR (gi SN seed) seed r) 27;have H:=(cn (cs:=gR (gi SN seed) seed r) (t:=27) (by rintro rfl;exact G.out L:r≠K.heap.size)).trans (bk b3 n2);revert M C H;generalize gy w3 K.heap.size (gR (gi SN seed) seed r) 27=w4;intro M C H;refine em.lv b C.lies C.ours (λo c k=>Un k (b.G 10) C.lies) λa b=> ?_;refine em.cc b Tryz.func11 λE e d=>M.twoI (id:=gi SN seed) (seed:=seed) (dc ..) o_ (aY ..) (aY ..) (cW ..) (cW ..) 1 d_ ⟨#[]⟩ ⟨#[]⟩ H L y e λS5 D5 w5 v f H5 e5 _ k5 t5=>d S5 w5 v λa b=> ?_;subst f;have O:=t5 _ _ C;have n5:=(k5 r (bH H) (M.own r L).2.1).1.trans H;have d5:=e5 r L;have b:aW [(1, .i which),(2,bits),(3, .bool both),(9, .bool true),(10, .pt K.heap.size),(25, .s (Ta seed))] 121 [] a:=b.only ⟨rfl,rfl,rfl,rfl,rfl,rfl,trivial⟩;refine em.uu b λa b=> ?_;refine em.lv b O.lies O.ours (λo c k=>Un k (b.G 10) O.lies) λa b=> ?_;refine em.cc b Tryz.func14 λE e d=>H5.kyy (seed:=seed) (rt:=Bo SN seed 1) (dc ..) n5 rfl (aY ..) d5 y e λS6 D6 w6 v f H6 _ _ _ _=>d S6 w6 v λa b=> ?_;subst f;refine em.cc b Tryz.func13 λE e d=>H6.sha (pi (gi SN seed) (Bo SN seed 1)) (by rw[jK (gi SN seed) (Bo SN seed 1) (dc ..) (aY ..)];omega) y e λS7 D7 w7 v f H7 _ _ _ _=>d S7 w7 v λa b=> ?_;subst f;have b:aW [(1, .i which),(2,bits),(3, .bool both),(9, .bool true),(11, .s (Ta seed)),(28, .s (jN SN seed 1))] 121 [] a:=b.only ⟨rfl,rfl,rfl,rfl,rfl,rfl,trivial⟩;refine em.cc b Tryz.func12 λE e d=>H7.fuses (fa (KS:=SN) (seed:=seed) (used:=1)) 3855 3 0 0 d_ y e λS8 D8 w8 v f H8 _ _ _ _=>d S8 w8 v λa b=> ?_;obtain⟨l,cap,z,rfl,⟨I,g⟩,X,T⟩:=f
 iterate 3 refine em.uu b λa b=> ?_
 refine em.cc b Tryz.func15 λE e d=>H8.started (cap:=cap) i4 rfl (UY seed) X T y e λS9 D9 B v f H9 e9 _ k9 _=>d S9 B v λa b=> ?_;obtain⟨lb,j,s,n,c,rfl,u⟩:=f;obtain⟨rfl,rfl⟩:j=true/\c=0:=by obtain⟨q1,_,_,q4⟩:=(I3 (.inr rfl) d_ d_ u).1 d_;exact⟨q1,q4⟩
 have Y:=k9 l (bH g) (H8.own l T).2.1;have g:=Y.1.trans g;have r9:B.rangeAt l 0 ((Tz seed).map (Value.int .i64)):=λi v f=>by have:=X i v f;unfold AB at this⊢;rw[Y.1];exact this
 have Z:=e9 l T
 iterate 3 refine em.uu b λa b=> ?_
 refine em.ab b (λo w k=>UQ k) λQ F a J U b=> ?_;obtain⟨V,m,_⟩:=H9.made Q J U;refine em.uu b λa b=> ?_;refine em.sp b m.lies m.ours (λo c k=>TF k (b.G 14) (b.G 35) m.lies rfl) λa b=> ?_;obtain⟨A,h,_⟩:=V.set m (L1.cH 1 true s n 0) 36;have P:l≠B.heap.size:=by rintro rfl;exact m.out Z
 have p:=(cn (cs:=L1.cH 1 true s n 0) (t:=36) P).trans (bk J g);have q:(gy F B.heap.size (L1.cH 1 true s n 0) 36).rangeAt l 0 ((Tz seed).map (Value.int .i64)):=λi v f=>by have:=r9 i v f;unfold AB at this⊢;rw[p];rw[g]at this;exact this
 revert A h p q;generalize gy F B.heap.size (L1.cH 1 true s n 0) 36=a0;intro A h p q;have b:aW [(1, .i which),(2,bits),(3, .bool both),(9, .bool true),(11, .s (Ta seed)),(12, .sk l 85 cap),(13, .pt lb),(14, .pt B.heap.size)] 121 [] a:=b.only ⟨rfl,rfl,rfl,rfl,rfl,rfl,rfl,rfl,trivial⟩
 iterate 8 refine em.uu b λa b=> ?_
 refine em.vv b (λo c k=>aP U6 k (b.G 43) ((aK h.lies 1).trans rfl)) (Tl h.lies h.ours) λa b=> ?_
 iterate 2 refine em.uu b λa b=> ?_
 refine em.plain rfl (em.cond _ (b.G 46) ?_);exact em.plain rfl (nt _ _ _ _ l cap _ z _ A Z I p q h rfl (b.only ⟨rfl,rfl,rfl,rfl,rfl,rfl,trivial⟩))
end
theorem Uh:Bq tP 3:=λw=>⟨k_,k_⟩
structure Sg (W:World) (V:List Int) (gb x:Nat) (S D:Nat->Prop) (w:World):Prop where
 hd:Hd W S D w
 dg:D gb
 cur:∃cur,w.heap[gb]?=some (.cells cur 3)
 rng:w.rangeAt gb 0 (V.map (Value.int .i64))
 out:∃old,Ow W S D w x (.cells old 36)/\old.size=5
section
variable{W:World}{V:List Int}{gb x:Nat}{S S' E:Nat->Prop}
theorem Sg.call(h:Sg W V gb x S D w)(m:Hd W S' E w')(n:∀b,D b->E b)(l:∀r,r<w.heap.size->¬S r->w'.heap[r]?=w.heap[r]?/\¬S' r)(g:∀x o,Ow W S D w x o->Ow W S' E w' x o):Sg W V gb x S' E w':=by obtain⟨c,e⟩:=h.cur;obtain⟨a,k,j⟩:=h.out;have d:=l gb (bH e) (h.hd.own gb h.dg).2.1;refine⟨m,n gb h.dg,⟨c,d.1.trans e⟩,λi v f=> ?_,a,g _ _ k,j⟩;have:=h.rng i v f;unfold AB at this⊢;rw[d.1];exact this
theorem Ui(Q:List Nat)(p:Nat):T6 Q|||2^p=T6 (Q++[p]):=by simp[T6]
variable{seed:ByteArray}{which:Int}{bits:Value}{both:Bool}{B:List Int}{cap:Nat}
theorem Uk(X:Tb W)(Y:sW W bits (B.map (Value.int .i64)))(O:∀(i:Nat) z,B[i]?=some z-> -9223372036854775808<=z/\z<9223372036854775808)
 (u:∀(S D:Nat->Prop) (w:World) (a:Act) (Q:List Nat),Q.length<=6->(∀x∈Q,x<16)->Sg W V gb x S D w->aW [(1, .int .i64 which),(3, .bool both),(11, .s (Ta seed)),(12, .sk gb 85 cap),(14, .pt x),(15, .int .i64 (T6 Q))] 121 [] a->em tP Post S (gB ((base 7).atR a [.code (TG Tryz.f7)]) []) w):
 ∀(n i:Nat) (Q:List Nat) (S D:Nat->Prop) (w:World) (a:Act),6- i=n->i<=6->Q.length=i->(∀x∈Q,x<16)->Sg W V gb x S D w->aW [(1, .int .i64 which),(2,bits),(3, .bool both),(11, .s (Ta seed)),(12, .sk gb 85 cap),(14, .pt x),(15, .int .i64 (T6 Q)),(16, .int .i64 i)] 121 [] a->
  em tP Post S (gB ((base 7).atR a [.code (UA Tryz.f7), .inLoop (UA Tryz.f7), .inBlock 0, .code (TG Tryz.f7)]) []) w:=by
 obtain⟨p,c,j,l⟩:=Y;rw[List.length_map]at j;subst j;intro n;induction n with
 |zero=>
  intro i Q S D w a P T G q k b;obtain rfl:i=6:=o_
  iterate 3 refine em.uu b λa b=> ?_
  refine em.vv b (λo c f=>dw (m:=(6:Nat)) (n:=B.length) f (b.get (d:=47) rfl) (b.get (d:=49) rfl)) (λe g=>by simp at g) λa b=> ?_;by_cases s:6<B.length
  ·rw[decide_eq_true o_]at b
   iterate 2 refine em.uu b λa b=> ?_
   refine em.vv b (λo c f=>dw (m:=(6:Nat)) (n:=6) f (b.get (d:=52) rfl) rfl) (λe g=>by simp at g) λa b=> ?_;rw[decide_eq_false o_]at b;refine em.uu b λa b=> ?_;refine em.plain rfl (em.cond _ (b.get (d:=54) rfl) ?_);exact em.plain rfl (u _ _ _ _ Q o_ q k (b.only ⟨rfl,rfl,rfl,rfl,rfl,rfl,trivial⟩))
  ·rw[decide_eq_false o_]at b;refine em.uu b λa b=> ?_
   iterate 2 refine em.us b λa b=> ?_
   refine em.uu b λa b=> ?_;refine em.plain rfl (em.cond _ (b.get (d:=54) rfl) ?_);exact em.plain rfl (u _ _ _ _ Q o_ q k (b.only ⟨rfl,rfl,rfl,rfl,rfl,rfl,trivial⟩))
 |succ n L=>
  intro i Q S D w a P T G q k b
  iterate 3 refine em.uu b λa b=> ?_
  refine em.vv b (λo c f=>dw (m:=i) (n:=B.length) f (b.get (d:=47) rfl) (b.get (d:=49) rfl)) (λe g=>by simp at g) λa b=> ?_;by_cases s:i<B.length
  ·rw[decide_eq_true o_]at b
   iterate 2 refine em.uu b λa b=> ?_
   refine em.vv b (λo c f=>dw (m:=i) (n:=6) f (b.get (d:=52) rfl) rfl) (λe g=>by simp at g) λa b=> ?_;rw[decide_eq_true o_]at b;refine em.uu b λa b=> ?_;refine em.plain rfl (em.cond _ (b.get (d:=54) rfl) ?_)
   iterate 3 refine em.uu b λa b=> ?_
   obtain⟨H,rfl,t⟩:=l i (.int .i64 B[i]) (by rw[List.getElem?_map,AS s];rfl);have C:=cG k.hd.old t;have U:(H.add i).block<W.heap.size:=by
    unfold AB at t;split at t
    ·exact bH ‹_›
    ·cases t
   have R:=k.hd.old.size;refine em.vv b (λo c f=>Tc f (b.get (d:=58) rfl) (b.get (d:=59) rfl) s) (λe g=>by simp at g) λa b=> ?_;refine em.vv b (λo c f=>aP Uh f (b.get (d:=60) rfl) C) (Tj λe g=>⟨H.add i,false,by simpa using g,o_,λh=>by have:=k.hd.shun _ h;omega⟩) λa b=> ?_;refine em.cc b Tryz.func9 λc' A r=>k.hd.pick B[i] 16 d_ (O i _ (AS s)) X A λS1 D1 I v N H1 e1 _ K J=>r S1 I v λa b=> ?_;obtain⟨p,rfl,F⟩:=N;have E:=k.call H1 e1 K J;have hm:=(U7 Q o_ q).2.2;have Z:2^p<65536:=Nat.pow_lt_pow_right d_ F;refine em.vv b (λo c f=>Uo F f rfl (b.get (d:=62) rfl)) (λe g=>by simp at g) λa b=> ?_;refine em.vv b (λo c f=>UT o_ o_ f (b.get (d:=57) rfl) (b.get (d:=63) rfl)) (λe g=>by simp at g) λa b=> ?_;rw[Ui]at b
   iterate 2 refine em.uu b λa b=> ?_
   refine em.vv b (λo c f=>oP (m:=i) (n:=1) f (b.get (d:=55) rfl) rfl o_) (λe g=>by simp at g) λa b=> ?_;rw[show((i:Int)+1)=((i+1:Nat):Int)from o_]at b;refine em.uu b λa b=> ?_;exact em.plain rfl (em.plain rfl (L (i+1) (Q++[p]) _ _ _ _ o_ o_ (by simp[G]) (λy M=>by
    rcases List.mem_append.1 M with h|h
    ·exact q y h
    ·rw[List.mem_singleton]at h;omega) E (b.only ⟨rfl,rfl,rfl,rfl,rfl,rfl,rfl,rfl,trivial⟩)))
  ·rw[decide_eq_false o_]at b;refine em.uu b λa b=> ?_
   iterate 2 refine em.us b λa b=> ?_
   refine em.uu b λa b=> ?_;refine em.plain rfl (em.cond _ (b.get (d:=54) rfl) ?_);exact em.plain rfl (u _ _ _ _ Q o_ q k (b.only ⟨rfl,rfl,rfl,rfl,rfl,rfl,trivial⟩))
end
section
variable{S:Nat->Prop}{k:List Item}
theorem U9{w:World}(c:fr.kind= .normal)(e:fr.defers=[])(b:fr.mode= .returning)(d:P.funcs[fr.fn]?=some fn)(f:P.inits.idxOf? fr.fn=none)(a:(results fn fr.tmps).run P w= .ok v w):stepG P true (gB fr []) w= .ended (.done v) w (seen P fr.fn ((results fn fr.tmps).events P w #[])):=by simp[stepG,unwind,doReturn,c,e,b,d,f,a,GStep.after]
theorem em.finS{r:Nat}(c:P.funcs[f]?=some fn)(j:P.inits.idxOf? f=none)(b:fn.results=#[.tmp r])(hv:a.tmps[r]?=some v)(h:a.defers=[])(i:∀d,Post v (w.at d)):em P Post S (gB {(base f).atR a k with mode:= .returning} []) w:=by refine em.fin rfl λd=>⟨v,_,U9 (fr:={(base f).atR a k with mode:= .returning}) rfl h rfl c j (pR (P:=P) b hv (w.at d)).1,λe g=> ?_,i d⟩;have:=dp _ _ _ e g;rw[show(results fn ({(base f).atR a k with mode:= .returning}:Frame).tmps).events P (w.at d) #[]=#[]from(pR (P:=P) b hv (w.at d)).2]at this;simp at this
end
theorem V1(b:∀v,ev (.const v)=v)(a:o.op= .buildSlice 22 9 #[(0, .const (.i 0)),(1, .const (.i 5)),(2, .const (.i 7)),(3, .const (.i 25)),(4, .const (.i 27)),(5, .const (.i 45)),(6, .const (.i 47)),(7, .const (.i 65)),(8, .const (.i 67))]):(execOp ev o).run tP w= .ok (.value (.sk w.heap.size 9 9)) (w.alloc (.cells (Ug.map λn:Nat=>Value.i n).toArray 3))/\(execOp ev o).events tP w #[]=#[]:=by
 have e:execOp ev o=(do pure (.value (←Instr.buildSlice 22 9 #[(0, .i 0),(1, .i 5),(2, .i 7),(3, .i 25),(4, .i 27),(5, .i 45),(6, .i 47),(7, .i 65),(8, .i 67)]))):=by simp[execOp,a,b]
 rw[e];constructor<;>kernel_rfl
theorem Ux{p:Nat}(a:p<9):((Ug.map λn:Nat=>Value.i n).toArray)[p]?=some (.i (Ug.getD p 0))/\Ug.getD p 0+1<85:=by rcases(o_:p=0\/p=1\/p=2\/p=3\/p=4\/p=5\/p=6\/p=7\/p=8)with rfl|rfl|rfl|rfl|rfl|rfl|rfl|rfl|rfl<;>exact⟨rfl,d_⟩
theorem Ul{V:List Int}(a:gD V)(d:m<65536)(i:Nat):gD (tw V i m):=by
 refine⟨by rw[tw,List.length_set];exact a.1,λj b=> ?_⟩;rw[tw,a50,List.getElem?_set];have:=a.2 j b;split
 ·rename_i e;subst e;rw[if_pos (by rw[a.1];exact b)];have c:(V.getD i 0).toNat^^^m<2^16:=Nat.xor_lt_two_pow o_ o_;simp only[Option.getD_some];omega
 ·rw[←a50];exact this
section
variable{W:World}{V:List Int}{gb x:Nat}{S:Nat->Prop}
theorem Sg.poke(h:Sg W V gb x S D w){a:Array Value}(c:w.heap[gb]?=some (.cells a 3))(i:Nat)(n:Int):Sg W (V.set i n) gb x S D (gy w gb (a.setIfInBounds i (.i n)) 3):=by obtain⟨b,e,d⟩:=h.out;obtain⟨g,f⟩:=h.hd.poke h.dg c i n;exact⟨g,h.dg,⟨_,co c⟩,Kk c h.rng n,b,f _ _ e,d⟩
theorem Sg.made(h:Sg W V gb x S D w){o:Obj}(l:∀r,S r->r<w.heap.size)(c:Bw w w')(k:w'.heap[w.heap.size]?=some o):Sg W V gb x S D w'/\Ow W S D w' w.heap.size o/\w.heap.size≠x:=by obtain⟨d,b⟩:=h.cur;obtain⟨a,f,j⟩:=h.out;obtain⟨p,n,m⟩:=h.hd.made l c k;refine⟨⟨p,h.dg,⟨d,(c.block _ (bH b)).trans b⟩,λi v g=> ?_,a,m _ _ f,j⟩,n,λe=>by have:=bH f.lies;omega⟩;have:=h.rng i v g;unfold AB at this⊢;rw[show(⟨gb,0+i,none⟩:Addr).block=gb from rfl]at this⊢;rw[c.block _ (bH b)];exact this
theorem Sg.set(h:Sg W V gb x S D w){y:Nat}{o:Obj}(d:Ow W S D w y o)(b:y≠x)(cs:Array Value)(t:TypeId):Sg W V gb x S D (gy w y cs t):=by
 obtain⟨c,k⟩:=h.cur;obtain⟨a,j,g⟩:=h.out;obtain⟨m,n,l⟩:=h.hd.set d cs t;have e:gb≠y:=by rintro rfl;exact d.out h.dg
 refine⟨m,h.dg,⟨c,(cn e).trans k⟩,λi v f=> ?_,a,l _ _ (Ne.symm b) j,g⟩;have:=h.rng i v f;unfold AB at this⊢;rw[show(⟨gb,0+i,none⟩:Addr).block=gb from rfl]at this⊢;rw[cn e];exact this
theorem Sg.word(h:Sg W V gb x S D w)(b:gD V)(a:n<85):w.cell? ((⟨gb,0,none⟩:Addr).add n)=some (.i ((V.getD n 0).toNat:Int)):=by rw[CH,Int.toNat_of_nonneg (b.2 n a).1];exact Mv h.rng n (by rw[b.1];exact a)
variable{seed:ByteArray}{cap:Nat}
theorem TH(H:Tb W)(G:gD V)(m:p8 V=false)(B:85<=cap)(Q:∀w',Bw W w'->Post (.bool true) w')(r:Sg W V gb x S D w)(b:aW [(11, .s (Ta seed)),(12, .sk gb 85 cap),(14, .pt x)] 121 [] a):
 em tP Post S (gB ((base 7).atR a [.code (TZ Tryz.f7)]) []) w:=by
 refine em.uu b λa b=> ?_;refine em.cc b Tryz.func22 λY k f=>r.hd.fuL G m r.rng B r.dg H k λS1 D1 F v u H1 U _ P L=>f S1 F v λa b=> ?_;obtain⟨e,rfl,y,z⟩:=u;have G1:=r.call H1 U P L
 iterate 3 refine em.uu b λa b=> ?_
 refine em.ab b (λo w g=>V2 g) λA J a Z X b=> ?_;obtain⟨G2,q,t⟩:=G1.made A Z X;refine em.sp b q.lies q.ours (λo c g=>Uv y z g (b.G 19) (b.G 97) q.lies rfl) λa b=> ?_;have l:=G2.set q t e 48;revert l;generalize gy J F.heap.size e 48=w3;intro l
 iterate 3 refine em.uu b λa b=> ?_
 have b:aW [(14, .pt x),(20, .i 1),(100, .s (Ta seed)),(101, .sk gb 85 cap)] 121 [] a:=b.only ⟨rfl,rfl,rfl,rfl,trivial⟩;refine em.cc b Tryz.func15 λY k f=>l.hd.started (cap:=cap) i4 rfl G l.rng l.dg H k λS4 D4 E v u H4 T _ O K=>f S4 E v λa b=> ?_;obtain⟨N,j,s,n,c,rfl,i⟩:=u;obtain⟨rfl,rfl⟩:=Ue i m;have I:=l.call H4 T O K;obtain⟨M,p,R⟩:=I.out
 iterate 4 refine em.uu b λa b=> ?_
 refine em.sp b p.lies p.ours (λo c g=>TF g (b.G 14) (b.G 104) p.lies R) λa b=> ?_;obtain⟨C,h,_⟩:=I.hd.set p (L1.cH 1 false s n 1) 36;revert C h;generalize gy E x (L1.cH 1 false s n 1) 36=w5;intro C h;have b:aW [(13, .pt N),(14, .pt x),(20, .i 1)] 121 [] a:=b.only ⟨rfl,rfl,rfl,trivial⟩
 iterate 8 refine em.uu b λa b=> ?_
 refine em.vv b (λo c g=>aP U6 g (b.G 112) ((aK h.lies 1).trans rfl)) (Tl h.lies h.ours) λa b=> ?_
 iterate 4 refine em.uu b λa b=> ?_
 refine em.vv b (λo c g=>aP Uz g (b.G 117) ((aK h.lies 4).trans rfl)) (Tl h.lies h.ours) λa b=> ?_
 iterate 3 refine em.uu b λa b=> ?_
 refine em.plain rfl (em.ends rfl (.inr ⟨_,rfl⟩) (em.finS Tryz.func7 k_ rfl (b.slot 8 (.bool true) rfl) b.defers λd=>Q _ (C.at d).old))
variable{which:Int}{both:Bool}
theorem UL(hT:Tb W)(hw: -9223372036854775808<=which/\which<9223372036854775808){Q:List Nat}(hQ:Q.length<=6)(hq:∀x∈Q,x<16)(h85:85<=cap)(hP:∀w',Bw W w'->Post (.bool true) w')(hG:Sg W (Tz seed) gb x S D w)(hF:aW [(1, .int .i64 which),(3, .bool both),(11, .s (Ta seed)),(12, .sk gb 85 cap),(14, .pt x),(15, .int .i64 (T6 Q))] 121 [] a):
 em tP Post S (gB ((base 7).atR a [.code (TG Tryz.f7)]) []) w:=by
 have hV:=UY seed;obtain⟨m1,m2,m3⟩:=U7 Q hQ hq;have hoff:∀i:Nat,i<9->∀both,p8 (Um (Tz seed) (Ug.getD i 0) (T6 Q) both)=false:=λi hi both=>UM (jN SN seed 1) m1 m2 i hi both;revert hG hV hoff;generalize Tz seed=V;intro hG hV hoff;refine em.low λhS=>em.aa (u:= .sk w.heap.size 9 9) hF (λo c ho=>V1 (λ_=>rfl) ho) λw1 a b1 c1 _ hF=> ?_;obtain⟨G1,o1,_⟩:=hG.made hS b1 c1
 iterate 5 refine em.uu hF λa hF=> ?_
 refine em.cc hF Tryz.func9 λc' hcm j2=>G1.hd.pick which 9 d_ hw hT hcm λS2 D2 w2 v hv H2 e2 _ k2 t2=>j2 S2 w2 v λa hF=> ?_;obtain⟨p,rfl,hp⟩:=hv;have G2:=G1.call H2 e2 k2 t2;have o2:=t2 _ _ o1;obtain⟨hpl,hat⟩:=Ux hp;have hno:=λb=>hoff p hp b;clear hoff;revert hpl hat hno;generalize Ug.getD p 0=i;intro hpl hi hno;refine em.vv hF (λo c ho=>Tc ho (hF.get (d:=66) rfl) (hF.get (d:=70) rfl) hp) (λe he=>by simp at he) λa hF=> ?_;rw[CH,a46]at hF;refine em.vv hF (λo c ho=>aP cp ho (hF.get (d:=71) rfl) ((aK o2.lies p).trans hpl)) (Tl o2.lies o2.ours) λa hF=> ?_;refine em.uu hF λa hF=> ?_;obtain⟨cur,hc⟩:=G2.cur;have hSg:=(G2.hd.own gb G2.dg).2.1;have hF:aW [(3, .bool both),(11, .s (Ta seed)),(12, .sk gb 85 cap),(14, .pt x),(15, .int .i64 (T6 Q)),(18, .int .i64 i)] 121 [] a:=hF.only ⟨rfl,rfl,rfl,rfl,rfl,rfl,trivial⟩
 iterate 4 refine em.uu hF λa hF=> ?_
 refine em.vv hF (λo c ho=>Tc ho (hF.get (d:=75) rfl) (hF.get (d:=76) rfl) o_) (λe he=>by simp at he) λa hF=> ?_;refine em.vv hF (λo c ho=>aP cp ho (hF.get (d:=77) rfl) (G2.word hV o_)) (by rw[CH];exact Tl hc hSg) λa hF=> ?_;refine em.uu hF λa hF=> ?_;have hx:=hV.2 i o_;refine em.vv hF (λo c ho=>TR o_ o_ ho (hF.get (d:=78) rfl) (hF.get (d:=79) rfl)) (λe he=>by simp at he) λa hF=> ?_;refine em.vv hF (λo c ho=>Tc ho (hF.get (d:=73) rfl) (hF.get (d:=74) rfl) o_) (λe he=>by simp at he) λa hF=> ?_;have sz:∀{w:World} {V:List Int} {cur:Array Value} {S D:Nat->Prop},Sg W V gb x S D w->gD V->w.heap[gb]?=some (.cells cur 3)->∀j,j<85->j<cur.size:=λhG hV hc j hj=>by have:=hG.word hV hj;rw[CH,a46,aK hc]at this;exact(gA this).1
 rw[CH,a46]at hF;refine em.sp hF hc hSg (λo c ho=>U1 rfl rfl k_ ho (hF.get (d:=81) rfl) (hF.get (d:=80) rfl) hc (sz G2 hV hc i o_)) λa hF=> ?_;have G3:Sg W (tw V i (T6 Q)) gb x S2 D2 _:=G2.poke hc i (((V.getD i 0).toNat^^^T6 Q:Nat):Int);have c3:=co (cs:=cur.setIfInBounds i (.int .i64 (((V.getD i 0).toNat^^^T6 Q:Nat):Int))) (t:=3) hc;have hV3:=Ul hV m3 i;have hF:aW [(3, .bool both),(11, .s (Ta seed)),(12, .sk gb 85 cap),(14, .pt x),(15, .int .i64 (T6 Q)),(18, .int .i64 i)] 121 [] a:=hF.only ⟨rfl,rfl,rfl,rfl,rfl,rfl,trivial⟩;revert G3 c3;generalize gy w2 gb (cur.setIfInBounds i (.int .i64 (((V.getD i 0).toNat^^^T6 Q:Nat):Int))) 3=w3;intro G3 c3;revert c3;generalize cur.setIfInBounds i (.int .i64 (((V.getD i 0).toNat^^^T6 Q:Nat):Int))=cur3;intro c3;refine em.uu hF λa hF=> ?_;refine em.plain rfl (em.cond _ (hF.get (d:=82) rfl) ?_);cases both with
 |false=>exact em.plain rfl (TH hT hV3 (hno false) h85 hP G3 (hF.only ⟨rfl,rfl,rfl,trivial⟩))
 |true=>
  have hno:=hno true;rw[show Um V i (T6 Q) true=tw (tw V i (T6 Q)) (i+1) (T6 Q)from rfl]at hno;revert hno G3 hV3;generalize tw V i (T6 Q)=V3;intro hV3 G3 hno
  iterate 2 refine em.uu hF λa hF=> ?_
  refine em.vv hF (λo c ho=>oP (m:=i) (n:=1) ho (hF.get (d:=84) rfl) rfl o_) (λe he=>by simp at he) λa hF=> ?_
  iterate 2 refine em.uu hF λa hF=> ?_
  refine em.vv hF (λo c ho=>oP (m:=i) (n:=1) ho (hF.get (d:=87) rfl) rfl o_) (λe he=>by simp at he) λa hF=> ?_;rw[show((i:Int)+1)=((i+1:Nat):Int)from o_]at hF;refine em.vv hF (λo c ho=>Tc ho (hF.get (d:=86) rfl) (hF.get (d:=88) rfl) hi) (λe he=>by simp at he) λa hF=> ?_;refine em.vv hF (λo c ho=>aP cp ho (hF.get (d:=89) rfl) (G3.word hV3 hi)) (by rw[CH];exact Tl c3 hSg) λa hF=> ?_;refine em.uu hF λa hF=> ?_;have hx:=hV3.2 (i+1) hi;refine em.vv hF (λo c ho=>TR o_ o_ ho (hF.get (d:=90) rfl) (hF.get (d:=91) rfl)) (λe he=>by simp at he) λa hF=> ?_;refine em.vv hF (λo c ho=>Tc ho (hF.get (d:=83) rfl) (hF.get (d:=85) rfl) hi) (λe he=>by simp at he) λa hF=> ?_;rw[CH,a46]at hF;refine em.sp hF c3 hSg (λo c ho=>U1 rfl rfl k_ ho (hF.get (d:=93) rfl) (hF.get (d:=92) rfl) c3 (sz G3 hV3 c3 (i+1) hi)) λa hF=> ?_;exact em.plain rfl (TH hT (Ul hV3 m3 (i+1)) hno h85 hP (G3.poke c3 (i+1) (((V3.getD (i+1) 0).toNat^^^T6 Q:Nat):Int)) (hF.only ⟨rfl,rfl,rfl,trivial⟩))
end
theorem UJ{W:World}{seed:ByteArray}{which:Int}{b:Value}{both:Bool}{B:List Int}(y:2<=W.heap.size)(f:Tb W)(hs:seed.size<=140737488351232)(k: -9223372036854775808<=which/\which<9223372036854775808)(u:sW W b (B.map (Value.int .i64)))(l:∀(i:Nat) z,B[i]?=some z-> -9223372036854775808<=z/\z<9223372036854775808)(r:∀w',Bw W w'->Post (.bool true) w'):
 em tP Post (λ_=>False) (cd tP 7 #[.s seed, .i which,b, .bool both] []) W:=by
 refine UK y f hs λS D w a A cap x j d s o g p e n v c=> ?_
 iterate 2 refine em.uu c λa c=> ?_
 refine em.plain rfl (em.plain rfl (em.plain rfl ?_));exact Uk (seed:=seed) (which:=which) (both:=both) (cap:=cap) f u l (λS D w a Q q m t c=>UL f k q m g r t c) 6 0 [] S D w _ rfl d_ rfl (λ_ h=>by cases h) ⟨s,o,⟨j,p⟩,e,d,n,v⟩ (c.only ⟨rfl,rfl,rfl,rfl,rfl,rfl,rfl,rfl,trivial⟩)
end
end Go.Proofs.YtkmoglhgkcnalabGreatDoor
