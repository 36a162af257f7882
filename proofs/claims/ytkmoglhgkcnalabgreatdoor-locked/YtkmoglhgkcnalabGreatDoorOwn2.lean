/- A part of what the last text of the claim imports: texts laid together, and made small, by a program. -/
import Derived.Conc.Events
import Derived.Fence
import Derived.Conc.Fork
import Derived.CallsIn
import Derived.ProofKit
import Derived.Test.YtkmoglhgkcnalabGreatDoorOwn1
set_option maxHeartbeats 16000000
set_option maxRecDepth 100000
namespace Go.Proofs.YtkmoglhgkcnalabGreatDoor
open Go
variable{n b i N l m k j b3 b4 b7 b9 Wg wd:Nat}{w w' w0 wL wM wE:World}{fr:Frame}{v:Value}{cs:List Frame}{args cv:Array Value}{V RO D V0:Nat->Prop}{q main listen ql:Bool}{g:Goroutine}{a:Act}{K:List Item}{P PL PM:Program}{x:Operand}{ops:Array Oper}{KS:List Int}{t u:TypeId}{o:Oper}{f:FuncId}{es:Array Event}{Goal:Goroutine->World->Prop}{fn:Func}{rest:List Nat}{ds:List Deferred}{F:List (Nat×Value)}{e:Event}{listed:Array Bool}{c:Int}{s msg key sig:ByteArray}{ρ:Nat->Nat}{ev:Operand->Value}{Post:Value->World->Prop}
section
open Go
section
variable{α β:Type}{f:α->β}
theorem sd(h:bE w)(a:Addr)(b:String):eT (w.noCell a b):=by
 unfold World.noCell;split
 ·rename_i c e d;have:=h _ _ d;cases this
 ·trivial
 ·trivial
theorem yo{p:Program}(h:bE w){a:Addr}{b:Bool}{x:Halt}(e:w.farLoad p a b= .error x):eT x:=by
 unfold World.farLoad at e;split at e
 ·split at e<;>cases e;trivial
 ·cases e;exact sd h _ _
theorem vp{p:Program}(h:bE w){a:Addr}{b:Bool}{x:Halt}(e:w.farStore p a v b= .error x):eT x:=by
 unfold World.farStore at e;split at e
 ·split at e<;>cases e;trivial
 ·cases e;exact sd h _ _
theorem bE.set(h:bE w)(r:Nat){o:Obj}(c:cO o=true):bE {w with heap:=w.heap.setIfInBounds r o}:=by
 intro b x a;dsimp only at a;rw[Array.getElem?_setIfInBounds]at a;split at a
 ·split at a
  ·exact Option.some.inj a▸c
  ·cases a
 ·exact h b x a
theorem bE.modify(h:bE w)(r:Nat){g:Obj->Obj}(d:∀o,cO o=true->cO (g o)=true):bE {w with heap:=w.heap.modify r g}:=by
 intro b x a;dsimp only at a;rw[Array.getElem?_modify]at a;split at a
 ·cases c:w.heap[b]? with
  |none=>rw[c]at a;cases a
  |some o=>
   rw[c]at a;exact Option.some.inj a▸d o (h b o c)
 ·exact h b x a
theorem bE.setCell(h:bE w)(a:Addr)(v:Value):bE (w.setCell a v):=by unfold World.setCell;refine h.modify a.block λo b=> ?_;cases o<;>first|exact b|(dsimp only;split<;>rfl)|rfl
theorem bE.freeze(h:bE w)(a:Addr)(n:Nat):bE (w.freeze a n):=by
 unfold World.freeze;split
 ·exact h
 ·refine h.modify a.block λo b=> ?_;cases o<;>first|exact b|rfl
theorem kQ{p:Program}{g:World}(h:bE w){a:Addr}{b:Bool}{l:List Addr}(e:w.farStore p a v b= .ok (g,l)):bE g:=by
 unfold World.farStore at e;split at e
 ·rename_i d u q;split at e
  ·rename_i r f;cases e;cases i:w.seen p d u a b with
   |error x=>
    unfold World.viewStore at f;by_cases j:(!tight p p.depth u)=true
    ·rw[if_pos j]at f;cases f
    ·rw[if_neg j,i]at f;cases f
   |ok y=>
    obtain⟨c,o,m,k⟩:=m9 i;obtain⟨s,n,_⟩:=iM p (w':={w with heap:=w.heap.setIfInBounds d.block (.cells (c.map (aE λx=>x)) o m)}) (λx=>x) k (by simp[bH k]) f;rw[n];exact h.set d.block rfl
  ·cases e
 ·cases e
theorem dz{s:Sem α}{s':Sem β}(h:aF ρ PL PM f s s'):∀w,bE w->∀k w',s.run PL w= .halt k w'->eT k\/∃v,k= .panic v:=by
 induction h with
 |pure a=>intro w b k w' e;cases e
 | @load a l t h g=>
   intro w b k w' e;rw[Sem.run]at e;cases n:w.cell? a with
   |some v=>rw[n]at e;exact g v w b k w' e
   |none=>
    rw[n]at e;cases i:w.farLoad PL a (Mode.plain==Mode.atomic)with
    |ok y=>rw[i]at e;exact g y.1 w b k w' e
    |error x=>
     rw[i]at e;cases e;exact .inl (yo b i)
 | @store a v l t h g=>
   intro w b k w' e;cases j:pW v with
   |false=>
    obtain⟨A,B⟩:=gV (p:=PL) (w:=w) (m:= .plain) (a:=a) (k:=l) j;rw[B]at e;cases e;exact .inl trivial
   |true=>
    rw[gn j]at e;cases n:w.cell? a with
    |some u=>
     simp only[n]at e;split at e
     ·cases e;exact .inl trivial
     ·exact g _ (b.setCell a v) k w' e
    |none=>
     simp only[n]at e;cases i:w.farStore PL a v (Mode.plain==Mode.atomic)with
     |ok y=>rw[i]at e;exact g y.1 (kQ b i) k w' e
     |error x=>
      rw[i]at e;cases e;exact .inl (vp b i)
 |new z h g=>intro w b k w' e;exact g _ _ (b.push z) k w' e
 |shape h g=>intro w b k w' e;exact g _ w b k w' e
 |freeze h g=>intro w b k w' e;exact g _ (b.freeze _ _) k w' e
 |frozen h g=>intro w b k w' e;exact g _ w b k w' e
 | @getObj r l t h g=>
   intro w b k w' e;rw[Sem.run]at e;split at e
   ·cases e;exact .inl trivial
   ·rename_i o z _;exact g o (b _ _ ‹_›) w b k w' e
   ·cases e;exact .inl trivial
 | @setObj r o l t z h g=>
   intro w b k w' e;rw[Sem.run]at e;split at e
   ·cases e;exact .inl trivial
   ·exact g _ (b.set r z) k w' e
   ·cases e;exact .inl trivial
 | @choose q l t h g=>
   intro w b k w' e;rw[Sem.run]at e;split at e
   ·exact g _ w b k w' e
   ·exact g _ {w with drawn:=w.drawn+1} b k w' e
 |program h g=>intro w b k w' e;exact g w b k w' e
 |mark F h g=>intro w b k w' e;exact g w b k w' e
 |panic h=>intro w b k w' e;cases e;exact .inr ⟨_,rfl⟩
 |dead d=>intro w b k w' e;cases e;exact .inl d
 |deadMark d=>intro w b k w' e;cases e;exact .inl d
 | @sys c l E d=>
   intro w b k w' e;obtain⟨x,D,i,C⟩:=d (w.sys c).1 (w.sys c).2;rw[Sem.run,i]at e;cases e;exact .inl C.1
end
structure Env (PL PM:Program) (G:Nat):Prop where
 same:bN PL PM
 gl:PL.globals.size=G
 tab:eP<G
 gm:PM.globals.size=G
 load:∀w a b,World.farLoad PM w a b=World.farLoad PL w a b
 store:∀w a v b,World.farStore PM w a v b=World.farStore PL w a v b
 fn:∀(ρ:Nat->Nat) (g:FuncId),iK ρ PL PM g
section
variable{G T:Nat}{base:List Frame}
theorem Env.far(E:Env PL PM G){a:Nat->Nat}(h:aR G D ρ a):JM PL PM a:=⟨h.1.1,λb=>by rw[E.gl,E.gm];exact h.1.2 b⟩
theorem jr{k:List Item}{z:Nat}
 (b:fr.todo= .inRegion ops (i::rest)::k) (c:ops[i]?=some o) (d:Region.wanted o (yielded ops fr.tmps)=true) (a:mN z o.op=true):
 stepG.exec P main listen fr cs none w=stepG.apply P listen fr cs none (execOp fr.eval o) w:=by
 unfold stepG.exec;simp only[b,c,Option.map_some,Option.getD_some,d,↓reduceIte];unfold stepG.oper;simp only[Frame.oper?,b,c];split
 ·rename_i e;rw[e]at a;cases a
 ·rfl
theorem Cb(E:Env PL PM G)(y:cR G T D ρ wL wM)(R:bE wL)
 {fr':Frame} {cs':List Frame} (m:∀c,aR G D ρ c->fr'=bF c fr) (w:∀c,aR G D ρ c->cs'=cs.map (bF c)++base) (J:j3 fr) (t:kW fr.kind cs) (n:dT fr)
    {k:List Item}  (C:fr.todo= .inRegion ops (i::rest)::k) (F:ops[i]?=some o) (B:Region.wanted o (yielded ops fr.tmps)=true) (d:mN (dt fr.fn) o.op=true)
 (S:∀f args p,(execOp fr.eval o).run PL wL= .ok (.enter f args) p->jc PL PM f)
 (Q:∀l f tmps a b p,(execOp fr.eval o).run PL wL= .ok (.round l f tmps a b) p->jb 0 a=true/\jb 0 b=true/\dt f=0)
 {K mM L:Bool} {s:Goroutine} {wL':World} {A:Array Event} (h:stepG.exec PL K L fr cs none wL= .go s wL' A) (P:wL'.drawn<=T) (N:s.status= .running) (O:s.dying=none):
 ∃D' c I wM' r,stepG.exec PM mM true fr' cs' none wM= .go I wM' r/\ew G D' c base s I/\ia G T D ρ wL wM D' c wL' wM'/\∀e∈r,iL D' c e:=by
 have g:=m ρ y.self;have v:fr'.todo= .inRegion ops (i::rest)::k.map (cV ρ):=by rw[g];show fr.todo.map (cV ρ)=_;rw[C];rfl
 have u:Region.wanted o (yielded ops fr'.tmps)=true:=by rw[g];have:yielded ops (bF ρ fr).tmps=yielded ops fr.tmps:=funext λj=>eH ρ fr.fn ops fr.tmps j;rw[this];exact B
 have q:∀c,aR G D ρ c->aF c PL PM (fy c) (execOp fr.eval o) (execOp fr'.eval o):=λc H=>
  yK (z:=dt fr.fn) E.same (E.far H) (E.fn c) (λx M=>by rw[m c H];exact fc fr x M) o d
 rw[jr C F B d]at h;rw[jr v F u d];exact kB E.tab E.load E.store y m w J t n q (wN (E.fn ρ) fr.eval o d) (λx p e=>dz (q ρ y.self) wL R x p e) S Q h P N O
end
section
variable{α β:Type}{f:α->β}
theorem dn{s:Sem α}{s':Sem β}(h:aF ρ PL PM f s s'):∀w,bE w->∀a w',s.run PL w= .ok a w'->bE w':=by
 induction h with
 |pure a=>intro w b k w' e;cases e;exact b
 | @load a l t h g=>
   intro w b k w' e;rw[Sem.run]at e;cases n:w.cell? a with
   |some v=>rw[n]at e;exact g v w b k w' e
   |none=>
    rw[n]at e;cases i:w.farLoad PL a (Mode.plain==Mode.atomic)with
    |ok y=>rw[i]at e;exact g y.1 w b k w' e
    |error x=>rw[i]at e;cases e
 | @store a v l t h g=>
   intro w b k w' e;cases j:pW v with
   |false=>
    obtain⟨A,B⟩:=gV (p:=PL) (w:=w) (m:= .plain) (a:=a) (k:=l) j;rw[B]at e;cases e
   |true=>
    rw[gn j]at e;cases n:w.cell? a with
    |some u=>
     simp only[n]at e;split at e
     ·cases e
     ·exact g _ (b.setCell a v) k w' e
    |none=>
     simp only[n]at e;cases i:w.farStore PL a v (Mode.plain==Mode.atomic)with
     |ok y=>rw[i]at e;exact g y.1 (kQ b i) k w' e
     |error x=>rw[i]at e;cases e
 |new z h g=>intro w b k w' e;exact g _ _ (b.push z) k w' e
 |shape h g=>intro w b k w' e;exact g _ w b k w' e
 |freeze h g=>intro w b k w' e;exact g _ (b.freeze _ _) k w' e
 |frozen h g=>intro w b k w' e;exact g _ w b k w' e
 | @getObj r l t h g=>
   intro w b k w' e;rw[Sem.run]at e;split at e
   ·cases e
   ·rename_i o z _;exact g o (b _ _ ‹_›) w b k w' e
   ·cases e
 | @setObj r o l t z h g=>
   intro w b k w' e;rw[Sem.run]at e;split at e
   ·cases e
   ·exact g _ (b.set r z) k w' e
   ·cases e
 | @choose q l t h g=>
   intro w b k w' e;rw[Sem.run]at e;split at e
   ·exact g _ w b k w' e
   ·exact g _ {w with drawn:=w.drawn+1} b k w' e
 |program h g=>intro w b k w' e;exact g w b k w' e
 |mark E h g=>intro w b k w' e;exact g w b k w' e
 |panic v=>intro w b k w' e;cases e
 |dead d=>intro w b k w' e;cases e
 |deadMark d=>intro w b k w' e;cases e
 | @sys c l D d=>
   intro w b k w' e;obtain⟨x,C,i,F⟩:=d (w.sys c).1 (w.sys c).2;rw[Sem.run,i]at e;cases e
theorem Fw(h:bE w)(c:Sys):bE (w.sys c).2:=by
 have hask:∀{γ:Type} (a:Ask γ) (w:World),(w.ask a).2.heap=w.heap:=by
  intro γ a;induction a with
  |done a=>intro w;rfl
  |ask what range k ih=>
   intro w;unfold World.ask;dsimp only;split
   ·exact ih _ w
   ·exact ih _ {w with drawn:=w.drawn+1}
 intro b o ho;refine h b o ?_;rw[←ho];unfold World.sys;have:=hask (Kernel.perform c w.os) w;split
 ·rfl
 ·rename_i r os w1 _ hx;rw[hx]at this;exact congrArg (λhp:Array Obj=>hp[b]?) this.symm
theorem g6{s:Sem α}{s':Sem β}(h:aF ρ PL PM f s s'):∀w,bE w->∀a w',s.run PL w= .halt a w'->bE w':=by
 induction h with
 |pure a=>intro w b k w' e;cases e
 | @load a l t h g=>
   intro w b k w' e;rw[Sem.run]at e;cases n:w.cell? a with
   |some v=>rw[n]at e;exact g v w b k w' e
   |none=>
    rw[n]at e;cases i:w.farLoad PL a (Mode.plain==Mode.atomic)with
    |ok y=>rw[i]at e;exact g y.1 w b k w' e
    |error x=>rw[i]at e;cases e;exact b
 | @store a v l t h g=>
   intro w b k w' e;cases j:pW v with
   |false=>
    obtain⟨A,B⟩:=gV (p:=PL) (w:=w) (m:= .plain) (a:=a) (k:=l) j;rw[B]at e;cases e;exact b
   |true=>
    rw[gn j]at e;cases n:w.cell? a with
    |some u=>
     simp only[n]at e;split at e
     ·cases e;exact b
     ·exact g _ (b.setCell a v) k w' e
    |none=>
     simp only[n]at e;cases i:w.farStore PL a v (Mode.plain==Mode.atomic)with
     |ok y=>rw[i]at e;exact g y.1 (kQ b i) k w' e
     |error x=>rw[i]at e;cases e;exact b
 |new z h g=>intro w b k w' e;exact g _ _ (b.push z) k w' e
 |shape h g=>intro w b k w' e;exact g _ w b k w' e
 |freeze h g=>intro w b k w' e;exact g _ (b.freeze _ _) k w' e
 |frozen h g=>intro w b k w' e;exact g _ w b k w' e
 | @getObj r l t h g=>
   intro w b k w' e;rw[Sem.run]at e;split at e
   ·cases e;exact b
   ·rename_i o z _;exact g o (b _ _ ‹_›) w b k w' e
   ·cases e;exact b
 | @setObj r o l t z h g=>
   intro w b k w' e;rw[Sem.run]at e;split at e
   ·cases e;exact b
   ·exact g _ (b.set r z) k w' e
   ·cases e;exact b
 | @choose q l t h g=>
   intro w b k w' e;rw[Sem.run]at e;split at e
   ·exact g _ w b k w' e
   ·exact g _ {w with drawn:=w.drawn+1} b k w' e
 |program h g=>intro w b k w' e;exact g w b k w' e
 |mark F h g=>intro w b k w' e;exact g w b k w' e
 |panic v=>intro w b k w' e;cases e;exact b
 |dead d=>intro w b k w' e;cases e;exact b
 |deadMark d=>intro w b k w' e;cases e;exact b
 | @sys c l E d=>
   intro w b k w' e;obtain⟨x,D,i,C⟩:=d (w.sys c).1 (w.sys c).2;rw[Sem.run,i]at e;cases e;exact C.2 (Fw b c)
end
section
variable{G T:Nat}{base:List Frame}
theorem jq{k:List Item}
 (b:fr.todo= .inRegion ops (i::rest)::k) (a:((ops[i]?).map (Region.wanted · (yielded ops fr.tmps))).getD false=false):
 stepG.exec P main listen fr cs none w= .go {frame:=fr.finish undef,callers:=cs,status:= .running,dying:=none} w:=by unfold stepG.exec;simp only[b,a,Bool.false_eq_true,↓reduceIte]
theorem oY(s:cR G T D ρ wL wM){fr':Frame}{cs':List Frame}(d:∀a,aR G D ρ a->fr'=bF a fr)(h:∀a,aR G D ρ a->cs'=cs.map (bF a)++base)(l:j3 fr)(e:kW fr.kind cs)(b:dT fr)
    {k:List Item} (n:fr.todo= .inRegion ops (i::rest)::k) (m:((ops[i]?).map (Region.wanted · (yielded ops fr.tmps))).getD false=false) (q mM r lM:Bool):
 ∃p o,stepG.exec PL q r fr cs none wL= .go p wL/\stepG.exec PM mM lM fr' cs' none wM= .go o wM/\ew G D ρ base p o:=by
 have c:=d ρ s.self;have g:fr'.todo= .inRegion ops (i::rest)::k.map (cV ρ):=by rw[c];show fr.todo.map (cV ρ)=_;rw[n];rfl
 have f:((ops[i]?).map (Region.wanted · (yielded ops fr'.tmps))).getD false=false:=by rw[c];have:yielded ops (bF ρ fr).tmps=yielded ops fr.tmps:=funext λj=>eH ρ fr.fn ops fr.tmps j;rw[this];exact m
 refine⟨_,_,jq n m,jq g f,λa t=> ?_,h,ns l b undef,by rw[dm];exact e,rfl,rfl,rfl,rfl⟩;show fr'.finish undef=bF a (fr.finish undef);rw[d a t,←fK fr undef l b,fS]
end
section
variable{G T:Nat}{base:List Frame}
theorem lH{id:Nat}{k:List Item}{t:Nat}
 (a:fr.todo= .code (.region id ops true)::k) (b:(choose (.order fr.fn id)).run P w= .ok t w'):
 stepG.exec P main listen fr cs none w= .go {frame:={fr with todo:= .inRegion ops (Region.schedule (P.follows .mixedOrders) ops t)::k},callers:=cs,status:= .running,dying:=none} w':=by unfold stepG.exec;simp only[a,b,Bool.not_true,Bool.false_eq_true,↓reduceIte]
theorem uE(P:Program)(q:Question)(w:World):∃n w',(choose q).run P w= .ok n w':=by unfold choose;rw[Sem.run];split<;>exact⟨_,_,rfl⟩
theorem CS(E:Env PL PM G)(H:PL.follows .mixedOrders=PM.follows .mixedOrders)(x:cR G T D ρ wL wM){fr':Frame}{cs':List Frame}(c:∀a,aR G D ρ a->fr'=bF a fr)(s:∀a,aR G D ρ a->cs'=cs.map (bF a)++base)(ok:j3 fr)(o:kW fr.kind cs)
 {id:Nat}  {k:List Item} (j:fr.todo= .code (.region id ops true)::k) {C mM F lM:Bool} {z:Goroutine} {wL':World} {t:Array Event} (h:stepG.exec PL C F fr cs none wL= .go z wL' t) (I:wL'.drawn<=T):
 ∃D' a y wM',stepG.exec PM mM lM fr' cs' none wM= .go y wM'/\ew G D' a base z y/\ia G T D ρ wL wM D' a wL' wM':=by
 have b:=c ρ x.self;have p:fr'.todo= .code (.region id ops true)::k.map (cV ρ):=by rw[b];show fr.todo.map (cV ρ)=_;rw[j];rfl
 have r:fr'.fn=fr.fn:=by rw[b];rfl
 obtain⟨n,m,w⟩:=uE PL (.order fr.fn id) wL;rw[lH j w]at h;simp only[GStep.go.injEq]at h;obtain⟨rfl,rfl,_⟩:=h;obtain⟨D',f,N,wM',K,M,L,i,_⟩:=dN E.load E.store (λ_ n=>n) (choose (.order fr.fn id)) (choose (.order fr.fn id)) D ρ wL wM x (λ_ _=> .choose λn=> .pure n) #[] _ m w rfl I;cases L with
 | @ok _ v _ _ q=>
   have d:(choose (.order fr.fn id)).run PM wM= .ok v wM':=(by rw[←Sem.runT_fst PM _ wM #[],M]);have J:v=n:=q f i.rel.self;rw[J]at d;rw[←r]at d;refine⟨D',f,_,wM',lH p d, ?_,i⟩;rw[←H];have l:=ok.todo;rw[j]at l;simp only[kt,Bool.and_eq_true]at l;have d:=l.1;simp only[kJ,jb,Bool.not_true,Bool.false_and,Bool.or_false]at d;refine BF (λa g=>c a (aR.of_ran i g)) (λa g=>s a (aR.of_ran i g)) ok o (λa g=> ?_) ?_ λu O e=>by simp only[List.cons.injEq,Item.inRegion.injEq]at e;rw[←e.1.1];exact pS d
   ·have B:=c a (aR.of_ran i g);have A:k.map (cV ρ)=k.map (cV a):=by have:=congrArg Frame.todo (b.symm.trans B);simp only[bF,j,List.map_cons,List.cons.injEq]at this;exact this.2
    rw[A];rfl
   ·simp only[kt,Bool.and_eq_true,kJ,d,Bool.true_or,true_and];exact l.2
def EH(fr:Frame):Prop:=fr.roundOf=none/\(fr.todo=[]\/∃k,fr.todo= .code .ret::k)
theorem lG(h:EH fr):
 stepG.exec P main listen fr cs none w= .go {frame:={fr with mode:= .returning},callers:=cs,status:= .running,dying:=none} w:=by obtain⟨b,a|⟨k,a⟩⟩:=h<;>unfold stepG.exec<;>simp only[b,a]<;>rfl
theorem Gj(o:cR G T D ρ wL wM){fr':Frame}{cs':List Frame}(c:∀a,aR G D ρ a->fr'=bF a fr)(f:∀a,aR G D ρ a->cs'=cs.map (bF a)++base)(d:j3 fr)(e:kW fr.kind cs)(h:EH fr)(m mM n lM:Bool):
 ∃l j,stepG.exec PL m n fr cs none wL= .go l wL/\stepG.exec PM mM lM fr' cs' none wM= .go j wM/\ew G D ρ base l j:=by
 have b:=c ρ o.self;have q:EH fr':=by
  rw[b];obtain⟨i,g|⟨k,g⟩⟩:=h
  ·exact⟨by simp[bF,i], .inl (by simp[bF,g])⟩
  ·exact⟨by simp[bF,i], .inr ⟨k.map (cV ρ),by simp[bF,g,cV]⟩⟩
 refine⟨_,_,lG h,lG q,λa p=> ?_,f,⟨⟨⟨d.defers,rfl,d.kind,d.round⟩,d.todo⟩,ri s_⟩,e,rfl,rfl,rfl,rfl⟩;rw[c a p];rfl
end
theorem Bb{a:Type}{g g':a->Sem Value}:∀l:List a,(∀x∈l,aF ρ PL PM (aE ρ) (g x) (g' x))->aF ρ PL PM (List.map (aE ρ)) (l.mapM g) (l.mapM g')
 |[],h=>by simp only[List.mapM_nil];exact aO _ rfl
 |x::l,h=>by simp only[List.mapM_cons];exact(h x List.mem_cons_self).bind λv=>(Bb l λy b=>h y (List.mem_cons_of_mem _ b)).bind λc=>aO _ rfl
theorem Jt{a:Type}{g g':a->Sem Value}(xs:Array a)(h:∀x∈xs,aF ρ PL PM (aE ρ) (g x) (g' x)):aF ρ PL PM (Array.map (aE ρ)) (xs.mapM g) (xs.mapM g'):=by rw[Array.mapM_eq_mapM_toList,Array.mapM_eq_mapM_toList];have:=Bb (ρ:=ρ) (PL:=PL) (PM:=PM) xs.toList λx b=>h x (by simpa using b);exact this.bind λc=>aO _ s_
def JS(z:Nat)(r:ResultVar):Bool:=
 match r with
 | .tmp t=> !(qL z t)
 | .cell a _=> !(qL z a)
theorem Ai(fn:FuncId)(tmps:Array Value)(t:Nat)(h:qL (dt fn) t=false):(ka ρ fn tmps).getD t undef=aE ρ (tmps.getD t undef):=by
 simp only[Array.getD_eq_getD_getElem?];rw[fF ρ fn tmps t h];cases tmps[t]? with
 |none=>exact(fS ρ).symm
 |some v=>rfl
theorem uN(e:bN PL PM)(fn c:Func)(g:FuncId)(tmps:Array Value)(j:c.results=fn.results)(d:fn.results.all (JS (dt g))=true):
 aF ρ PL PM (aE ρ) (results fn tmps) (results c (ka ρ g tmps)):=by
 unfold results;rw[j];refine(Jt fn.results λx i=> ?_).bind λh=>aO _ ?_
 ·have:=Array.all_eq_true'.1 d x i;cases x with
  |tmp t=>
   simp only[JS,Bool.not_eq_true']at this;exact aO _ (Ai g tmps t this)
  |cell a t=>
   simp only[JS,Bool.not_eq_true']at this;dsimp only;rw[Ai g tmps a this];exact(lS e _).bind λb=>jV e t b
 ·by_cases f:h.size=1
  ·simp[f]
  ·simp[f,aE]
section
variable{G T:Nat}{base:List Frame}
def dJ(c:Frame):Frame:=
 match c.mode with
 | .panicking ({recovered:=true, ..}::older)=>
   match older.dropWhile (!·.goexit)with
   |[]=>{c with mode:= .returning}
   |rest=>{c with mode:= .panicking rest}
 |_=>c
def j2(kd:CallKind)(c:Frame)(v:Value):Frame:=if kd= .deferred then dJ c else c.finish v
theorem yP(d:Nat->Nat)(c:Frame):dJ (bF d c)=bF d (dJ c):=by
 obtain⟨i,f,e,b,g,h,a⟩:=c;simp only[dJ,bF];split
 ·split<;>rfl
 ·rfl
theorem AA{a:Type}{p:a->Bool}:∀{l:List a},(∀x∈l,p x=true)->l.dropWhile p=[]
 |[],_=>rfl
 |x::l,h=>by rw[List.dropWhile_cons_of_pos (h x List.mem_cons_self)];exact AA λy b=>h y (List.mem_cons_of_mem _ b)
theorem Bg{c:Frame}(h:j3 c):j3 (dJ c):=by
 obtain⟨s,i,g,d,j,k,b⟩:=c;obtain⟨⟨p,f,o,n⟩,m⟩:=h;unfold dJ;split
 ·rename_i a l;simp only at l;subst l;have q:a.dropWhile (!·.goexit)=[]:=by simp only[O1,Bool.and_eq_true,List.all_cons,List.all_eq_true]at f;exact AA λe r=>(f.2.2 e r).2
  rw[q];exact⟨⟨p,rfl,o,n⟩,m⟩
 ·exact⟨⟨p,f,o,n⟩,m⟩
theorem uH(a:Nat->Nat){b:CallKind}{c:Frame}(v:Value)(h:kW b (c::cs)):j2 b (bF a c) (aE a v)=bF a (j2 b c v):=by
 unfold j2;split
 ·exact yP a c
 ·exact fK c v h.1 (h.2.1.resolve_right λe=>‹¬b= .deferred› e.1)
theorem oN(c:Frame):(dJ c).kind=c.kind/\(dJ c).todo=c.todo/\(dJ c).tmps=c.tmps/\((dJ c).mode= .run->dJ c=c):=by
 unfold dJ;split
 ·split<;>exact⟨rfl,rfl,rfl,λe=>by cases e⟩
 ·exact⟨rfl,rfl,rfl,λ_=>rfl⟩
theorem yH{a:CallKind}{c:Frame}(v:Value)(h:kW a (c::cs)):j3 (j2 a c v)/\mQ (j2 a c v):=by
 unfold j2;split
 ·refine⟨Bg h.1,λb=> ?_⟩;have e:=(oN c).2.2.2 b;rw[e]at b⊢;exact wX (h.2.1.resolve_right λq=>q.2 b) b
 ·exact ns h.1 (h.2.1.resolve_right λe=>‹¬a= .deferred› e.1) v
theorem uI{a:CallKind}{c:Frame}(v:Value)(h:kW a (c::cs)):kW (j2 a c v).kind cs:=by
 unfold j2;split
 ·rw[(oN c).1];exact h.2.2
 ·rw[dm];exact h.2.2
theorem dM{c:Frame}(a:fr.kind= .normal\/fr.kind= .deferred):
 doReturn P main fr (c::cs) none v w= .go {frame:=j2 fr.kind c v,callers:=cs,status:= .running,dying:=none} w:=by rcases a with a|a<;>simp only[doReturn,j2,a,dJ]<;>rfl
theorem vK{c:Frame}(f:fr.defers=[])(b:fr.mode= .returning)(d:fr.kind= .normal\/fr.kind= .deferred)(e:P.funcs[fr.fn]?=some fn)
 (a:(results fn fr.tmps).runT P w #[]=(.ok v w',es)):unwind P main fr (c::cs) none w= .go {frame:=j2 fr.kind c v,callers:=cs,status:= .running,dying:=none} w' (seen P fr.fn es):=by unfold unwind;simp only[f,b,e,a,dM d,GStep.after,Array.append_empty]
theorem EX{c:Frame}(j:fr.defers=[])(e:fr.mode= .returning)(f:fr.kind= .normal\/fr.kind= .deferred)(i:P.funcs[fr.fn]?=some fn)
 (h:unwind P main fr (c::cs) none w= .go g w' es):∃v,(results fn fr.tmps).run P w= .ok v w'/\g={frame:=j2 fr.kind c v,callers:=cs,status:= .running,dying:=none}:=by
 have a:=Sem.runT_fst P (results fn fr.tmps) w #[];unfold unwind at h;simp only[j,e,i]at h;generalize (results fn fr.tmps).runT P w #[]=q at h a;obtain⟨r,k⟩:=q;simp only at a;subst a;simp only at h;cases b:(results fn fr.tmps).run P w with
 |ok v d=>
  rw[b]at h;simp only[dM f,GStep.after,GStep.go.injEq]at h;obtain⟨rfl,rfl,_⟩:=h;exact⟨v,rfl,rfl⟩
 |halt x d=>
  rw[b]at h;cases x<;>simp[GStep.after]at h
theorem xW(E:Env PL PM G)(k:cR G T D ρ wL wM){fr' c:Frame}{cs':List Frame}(i:∀a,aR G D ρ a->fr'=bF a fr)(d:∀a,aR G D ρ a->cs'=(c::cs).map (bF a)++base)(ok:j3 fr)(g:kW fr.kind (c::cs))
 (A:fr.defers=[]) (z:fr.mode= .returning) {f:Func} (J:PL.funcs[fr.fn]?=some fn) (s:PM.funcs[fr.fn]?=some f) (I:f.results=fn.results) (r:fn.results.all (JS (dt fr.fn))=true)
 {F mM:Bool} {C:Goroutine} {wL':World} {u:Array Event} (h:unwind PL F fr (c::cs) none wL= .go C wL' u) (L:wL'.drawn<=T):
 ∃D' a B wM' l,unwind PM mM fr' cs' none wM= .go B wM' l/\ew G D' a base C B/\ia G T D ρ wL wM D' a wL' wM'/\∀e∈l,iL D' a e:=by
 obtain⟨v,H,rfl⟩:=EX A z ok.kind J h;have b:=i ρ k.self;have t:∀a,aR G D ρ a->aF a PL PM (aE a) (results fn fr.tmps) (results f fr'.tmps):=λa M=>by rw[i a M];exact uN E.same fn f fr.fn fr.tmps I r
 obtain⟨D',n,Q,wM',w,P,O,x,N⟩:=dN E.load E.store aE _ _ D ρ wL wM k t #[] _ wL' H rfl L;cases O with
 | @ok _ y _ _ o=>
   have j:=d ρ k.self;simp only[List.map_cons,List.cons_append]at j;have p:unwind PM mM fr' cs' none wM= .go {frame:=j2 fr'.kind (bF ρ c) y,callers:=cs.map (bF ρ)++base,status:= .running,dying:=none} wM' (seen PM fr'.fn (#[]++w)):=by
    rw[j];refine vK (fn:=f) ?_ ?_ ?_ ?_ P
    ·rw[b];simp[bF,A]
    ·rw[b];exact z
    ·rw[b];exact ok.kind
    ·rw[b];exact s
   refine⟨D',n,_,wM',_,p,⟨λa m=> ?_,λa m=> ?_,yH v g,uI v g,rfl,rfl,rfl,rfl⟩,x,λe K=> ?_⟩
   ·have q:=(d ρ k.self).symm.trans (d a (aR.of_ran x m));simp only[List.map_cons,List.cons_append,List.cons.injEq]at q;show j2 fr'.kind (bF ρ c) y=bF a (j2 fr.kind c v);rw[q.1,o a m,b];exact uH a v g
   ·have q:=(d ρ k.self).symm.trans (d a (aR.of_ran x m));simp only[List.map_cons,List.cons_append,List.cons.injEq]at q;exact q.2
   ·have:=dp _ _ _ e K;exact N e (by simpa using this)
end
section
variable{G T:Nat}{base:List Frame}
def gC(fr:Frame):Sem Next:=do fr.roundOf.elim (stuck "beginRound: no round") Instr.beginRound;pure .skip
theorem jQ{k:List Item}(a:fr.todo= .beginRound::k):
 stepG.exec P main listen fr cs none w=stepG.apply P listen fr cs none (gC fr) w:=by unfold stepG.exec;simp only[a];rfl
theorem AQ(E:Env PL PM G)(w:cR G T D ρ wL wM)(O:bE wL)
 {fr':Frame} {cs':List Frame} (d:∀c,aR G D ρ c->fr'=bF c fr) (v:∀c,aR G D ρ c->cs'=cs.map (bF c)++base) (ok:j3 fr) (s:kW fr.kind cs)
 {k:List Item} (u:fr.todo= .beginRound::k) {J mM K:Bool} {r:Goroutine} {wL':World} {y:Array Event} (h:stepG.exec PL J K fr cs none wL= .go r wL' y) (N:wL'.drawn<=T) (L:r.status= .running) (M:r.dying=none):
 ∃D' c C wM' q,stepG.exec PM mM true fr' cs' none wM= .go C wM' q/\ew G D' c base r C/\ia G T D ρ wL wM D' c wL' wM'/\∀e∈q,iL D' c e:=by
 have o:=d ρ w.self;have t:fr'.todo= .beginRound::k.map (cV ρ):=by rw[o];show fr.todo.map (cV ρ)=_;rw[u];rfl
 have g:dT fr:=rv λI j A k e=>by rw[u]at e;cases e
 have p:∀c,aR G D ρ c->aF c PL PM (fy c) (gC fr) (gC fr'):=λc P=>by
  rw[d c P];unfold gC;show aF c PL PM (fy c) (do fr.roundOf.elim _ Instr.beginRound;pure .skip) (do(fr.roundOf.map c).elim _ Instr.beginRound;pure .skip);cases fr.roundOf with
  |none=>exact .dead trivial
  |some l=>exact yI (oM E.same l)
 have Q:cK PL (gC fr):=rp _;have m:∀n i,(gC fr).run PL wL= .ok n i->n= .skip:=λn i e=>by
  unfold gC at e;rw[Sem.run_bind]at e;cases B:(fr.roundOf.elim (stuck "beginRound: no round") Instr.beginRound:Sem Unit).run PL wL with
  |ok a H=>rw[B]at e;cases e;rfl
  |halt x H=>rw[B]at e;cases e
 rw[jQ u]at h;rw[jQ t];exact kB E.tab E.load E.store w d v ok s g p Q (λx i e=>dz (p ρ w.self) wL O x i e) (λf F i e=>by have:=m _ _ e;cases this) (λl f z a b i e=>by have:=m _ _ e;cases this) h N L M
theorem H8{a:List Deferred}(f:bE w)(h:(Instr.takeDeferred b).run P w= .ok a w'):a=[]:=by
 unfold Instr.takeDeferred at h;simp only[Bind.bind,getObj,Sem.bind,Sem.run]at h;split at h
 ·cases h
 ·rename_i o g _;have e:=f _ _ ‹_›;cases o with
  |deferred d=>
   cases d with
   |none=>cases h
   |some d=>
    have c:d=[]:=(by simpa[cO]using e);subst c;simp only[setObj,Sem.bind,Sem.run]at h;split at h
    ·cases h
    ·cases h;rfl
    ·cases h
  |_=>cases h
 ·cases h
theorem yY{a:List Deferred}(d:fr.defers=⟨.collected b,args⟩::ds)
 (c:(Instr.takeDeferred b).runT P w #[]=(.ok a w',es)):unwind P main fr cs none w= .go {frame:={fr with defers:=a++ds},callers:=cs,status:= .running,dying:=none} w' (seen P fr.fn es):=by unfold unwind;simp only[d,c,GStep.after,Array.append_empty]
theorem tx(f:fr.defers=⟨.collected b,args⟩::ds)
 (h:unwind P main fr cs none w= .go g w' es):∃a,(Instr.takeDeferred b).run P w= .ok a w'/\g={frame:={fr with defers:=a++ds},callers:=cs,status:= .running,dying:=none}:=by
 have c:=Sem.runT_fst P (Instr.takeDeferred b) w #[];unfold unwind at h;simp only[f]at h;generalize (Instr.takeDeferred b).runT P w #[]=q at h c;obtain⟨r,i⟩:=q;simp only at c;subst c;simp only at h;cases d:(Instr.takeDeferred b).run P w with
 |ok v e=>
  rw[d]at h;simp only[GStep.after,GStep.go.injEq]at h;obtain⟨rfl,rfl,_⟩:=h;exact⟨v,rfl,rfl⟩
 |halt x e=>
  rw[d]at h;simp[GStep.after]at h
theorem Cl(E:Env PL PM G)(hW:cR G T D ρ wL wM)(hP:bE wL){fr':Frame}{cs':List Frame}(hfr:∀ρ',aR G D ρ ρ'->fr'=bF ρ' fr)(hcs:∀ρ',aR G D ρ ρ'->cs'=cs.map (bF ρ')++base)(ok:j3 fr)(oks:kW fr.kind cs)
    (hm:fr.mode≠ .run) (hd:fr.defers=⟨.collected b,args⟩::ds) {mL mM:Bool} {gL:Goroutine} {wL':World} {esL:Array Event} (h:unwind PL mL fr cs none wL= .go gL wL' esL) (hT:wL'.drawn<=T):
 ∃D' ρ' gM wM' esM,unwind PM mM fr' cs' none wM= .go gM wM' esM/\ew G D' ρ' base gL gM/\ia G T D ρ wL wM D' ρ' wL' wM'/\∀e∈esM,iL D' ρ' e:=by
 obtain⟨calls,hv,rfl⟩:=tx hd h;have hnil:=H8 hP hv;have hfr0:=hfr ρ hW.self;have hdM:∀ρ',aR G D ρ ρ'->fr'.defers=⟨.collected (ρ' b),args.map (aE ρ')⟩::ds.map (kb ρ'):=λρ' hA=>by rw[hfr ρ' hA];show fr.defers.map (kb ρ')=_;rw[hd];rfl
 have hb:∀ρ',aR G D ρ ρ'->ρ' b=ρ b:=λρ' hA=>by have:=(hdM ρ' hA).symm.trans (hdM ρ hW.self);simp only[List.cons.injEq,Deferred.mk.injEq,Target.collected.injEq]at this;exact this.1.1
 obtain⟨D',ρ1,r',wM',es',e1,e2,e3,e4⟩:=dN E.load E.store (λρ l=>l.map (kb ρ)) (Instr.takeDeferred b) (Instr.takeDeferred (ρ b)) D ρ wL wM hW (λρ' hA=>by rw[←hb ρ' hA];exact mI b) #[] _ wL' hv rfl hT;cases e2 with
 | @ok _ v' _ _ hv'=>
   have hv0:v'=[]:=(by rw[hv' ρ1 e3.rel.self,hnil];rfl);refine⟨D',ρ1,_,wM',_,yY (hdM ρ hW.self) e1,⟨λρ' h'=> ?_,λρ' h'=>hcs ρ' (aR.of_ran e3 h'), ?_,oks,rfl,rfl,rfl,rfl⟩,e3,λe he=> ?_⟩
   ·have q:=(hdM ρ hW.self).symm.trans (hdM ρ' (aR.of_ran e3 h'));simp only[List.cons.injEq]at q;show{fr' with defers:=v'++ds.map (kb ρ)}=bF ρ' {fr with defers:=calls++ds};rw[q.2,hv0,hnil,hfr ρ' (aR.of_ran e3 h')];rfl
   ·refine⟨⟨⟨?_,ok.mode,ok.kind,ok.round⟩,ok.todo⟩,ri hm⟩;have:=ok.defers;rw[hd]at this;simp only[dx,List.all_cons,Bool.and_eq_true]at this;show dx (calls++ds)=true;rw[hnil];exact this.2
   ·have:=dp _ _ _ e he;exact e4 e (by simpa using this)
end
section
variable{G T:Nat}{base:List Frame}
theorem CQ{a:Option Code}(d:bE w)(h:(Instr.endLoop l).run P w= .ok a w'):a.all (jb 0)=true:=by
 unfold Instr.endLoop Instr.getLoop at h;simp only[Bind.bind,getObj,Sem.bind,Sem.run]at h;split at h
 ·cases h
 ·rename_i o f _;have b:=d _ _ ‹_›;cases o with
  |loop r=>
   simp only[Pure.pure,Sem.bind]at h;split at h
   ·obtain⟨x,e,c,_⟩:=lI (PL:=P) (α:=PUnit) (.error "range function recovered a loop body panic and did not resume panicking") w;rw[Sem.run_bind',c]at h;cases h
   ·simp only[setObj,Sem.bind,Sem.run]at h;simp only[cO,Bool.and_eq_true]at b;split at h
    ·cases h
    ·cases h;exact b.1.2
    ·cases h
  |_=>cases h
 ·cases h
theorem jh{k:List Item}{a:Option Code}(b:fr.todo= .endRangeFunc l::k)
 (c:(Instr.endLoop l).runT P w #[]=(.ok a w',es)):stepG.exec P main listen fr cs none w= .go {frame:={fr with todo:=(a.map Item.code).toList++k},callers:=cs,status:= .running,dying:=none} w' (seen P fr.fn es):=by unfold stepG.exec;simp only[b,c,GStep.after,Array.append_empty]
theorem pp{k:List Item}(a:fr.todo= .endRangeFunc l::k)
 (b:(Instr.endLoop l).runT P w #[]=(.halt (.panic v) w',es)):stepG.exec P main listen fr cs none w= .go (iw fr cs v) w' (seen P fr.fn es):=by unfold stepG.exec;simp only[a,b,GStep.after,Array.append_empty];rfl
theorem sQ{k:List Item}(e:fr.todo= .endRangeFunc l::k)
 (h:stepG.exec P main listen fr cs none w= .go g w' es):(∃a,(Instr.endLoop l).run P w= .ok a w'/\g={frame:={fr with todo:=(a.map Item.code).toList++k},callers:=cs,status:= .running,dying:=none})\/∃v,(Instr.endLoop l).run P w= .halt (.panic v) w'/\g=iw fr cs v:=by
 have b:=Sem.runT_fst P (Instr.endLoop l) w #[];unfold stepG.exec at h;simp only[e]at h;generalize (Instr.endLoop l).runT P w #[]=q at h b;obtain⟨r,f⟩:=q;simp only at b;subst b;simp only at h;cases c:(Instr.endLoop l).run P w with
 |ok v d=>
  rw[c]at h;simp only[GStep.after,GStep.go.injEq]at h;obtain⟨rfl,rfl,_⟩:=h;exact .inl ⟨v,rfl,rfl⟩
 |halt x d=>
  rw[c]at h;cases x with
  |panic v=>
   simp only[GStep.after,GStep.go.injEq]at h;obtain⟨rfl,rfl,_⟩:=h;exact .inr ⟨v,rfl,rfl⟩
  |_=>simp[GStep.after]at h
theorem vx(E:Env PL PM G)(o:cR G T D ρ wL wM)(W:bE wL){fr':Frame}{cs':List Frame}(m:∀a,aR G D ρ a->fr'=bF a fr)(s:∀a,aR G D ρ a->cs'=cs.map (bF a)++base)(ok:j3 fr)(p:kW fr.kind cs)
  {k:List Item} (A:fr.todo= .endRangeFunc l::k) {P mM Q lM:Bool} {N:Goroutine} {wL':World} {C:Array Event} (h:stepG.exec PL P Q fr cs none wL= .go N wL' C) (L:wL'.drawn<=T):
 ∃D' a M wM' t,stepG.exec PM mM lM fr' cs' none wM= .go M wM' t/\ew G D' a base N M/\ia G T D ρ wL wM D' a wL' wM'/\∀e∈t,iL D' a e:=by
 have b:∀a,aR G D ρ a->fr'.todo= .endRangeFunc (a l)::k.map (cV a):=λa n=>by rw[m a n];show fr.todo.map (cV a)=_;rw[A];rfl
 have K:∀a,aR G D ρ a->a l=ρ l:=λa n=>by have:=(b a n).symm.trans (b ρ o.self);simp only[List.cons.injEq,Item.endRangeFunc.injEq]at this;exact this.1
 rcases sQ A h with⟨r,w,rfl⟩|⟨v,w,rfl⟩
 rotate_left
 ·obtain⟨D',d,O,wM',F,J,I,g,H⟩:=dN E.load E.store (λ_ j=>j) (Instr.endLoop l) (Instr.endLoop (ρ l)) D ρ wL wM o (λa n=>by rw[←K a n];exact mB E.same l) #[] _ wL' w rfl L;cases I with
  |panic U=>
   refine⟨D',d,_,wM',_,pp (b ρ o.self) J,⟨λa f=> ?_,λa f=>s a (aR.of_ran g f),⟨ok.raise (by simp[Cc,U]),jI _ _⟩,by rw[iw,jC];exact p,rfl,rfl,rfl,rfl⟩,g,λe B=> ?_⟩
   ·show fr'.raise _=bF a (fr.raise _);rw[m a (aR.of_ran g f),ly]
   ·have:=dp _ _ _ e B;exact H e (by simpa using this)
 have V:=CQ W w;obtain⟨D',d,O,wM',F,J,I,g,H⟩:=dN E.load E.store (λ_ j=>j) (Instr.endLoop l) (Instr.endLoop (ρ l)) D ρ wL wM o (λa n=>by rw[←K a n];exact mB E.same l) #[] _ wL' w rfl L;cases I with
 | @ok _ u _ _ z=>
   have y:u=r:=z d g.rel.self;subst y;have i:=ok.todo;rw[A]at i;simp only[kt,Bool.and_eq_true]at i;have S:dt fr.fn=0:=by have:=i.1;simpa[kJ]using this
   refine⟨D',d,_,wM',_,jh (b ρ o.self) J,BF (λa f=>m a (aR.of_ran g f)) (λa f=>s a (aR.of_ran g f)) ok p (λa f=> ?_) ?_ ?_,g,λe B=> ?_⟩
   ·have q:=(b ρ o.self).symm.trans (b a (aR.of_ran g f));simp only[List.cons.injEq]at q;rw[q.2];cases u<;>simp[cV]
   ·rw[S]at i⊢;cases u with
    |none=>exact ya i.2
    |some c=>simp only[Option.map_some,Option.toList_some,List.cons_append,List.nil_append,kt,Bool.and_eq_true];exact⟨V,i.2⟩
   ·intro x R e;cases u with
    |none=>exact xD i.2 x R e
    |some c=>cases e
   ·have:=dp _ _ _ e B;exact H e (by simpa using this)
end
inductive gk (fr:Frame):Option Code->Prop
 |done (h:fr.todo=[]):gk fr none
 |ret {k:List Item} (h:fr.todo= .code .ret::k):gk fr (some .ret)
 |exit {id:Nat} {k:List Item} (h:fr.todo= .code (.exit id)::k) (he:exitTo id k=none):gk fr (some (.exit id))
theorem gk.ok{j:Option Code}(h:gk fr j):j.all (jb 0)=true:=by cases h<;>rfl
theorem gk.ren{j:Option Code}(h:gk fr j)(a:Nat->Nat):gk (bF a fr) j:=by
 cases h with
 |done h=>exact .done (by simp[bF,h])
 |ret h=>exact .ret (k:=_) (by simp only[bF,h,List.map_cons,cV];rfl)
 | @exit id k h b=>exact .exit (k:=k.map (cV a)) (by simp[bF,h,cV]) (by rw[pn,b];rfl)
section
variable{G T:Nat}{base:List Frame}
theorem sx{c:Frame}{j:Option Code}(e:gk fr j)(b:fr.roundOf=some l)(d:fr.kind= .normal\/fr.kind= .deferred)
 (a:(Instr.endRound l j).runT P w #[]=(.ok v w',es)):stepG.exec P main listen fr (c::cs) none w= .go {frame:=j2 fr.kind c v,callers:=cs,status:= .running,dying:=none} w' (seen P fr.fn es):=by
 unfold stepG.exec;cases e with
 |done h=>simp only[h,b,a,dM d,GStep.after,Array.append_empty]
 |ret h=>simp only[h,b,a,dM d,GStep.after,Array.append_empty]
 |exit h f=>simp only[h,f,Option.elim_none,b,a,dM d,GStep.after,Array.append_empty]
theorem po{c:Frame}{j:Option Code}(e:gk fr j)(d:fr.roundOf=some l)(a:fr.kind= .normal)
 (b:(Instr.endRound l j).runT P w #[]=(.ok v w',es)):stepG.exec P main listen fr (c::cs) none w= .go {frame:=c.finish v,callers:=cs,status:= .running,dying:=none} w' (seen P fr.fn es):=by have:=sx (main:=main) (listen:=listen) (c:=c) (cs:=cs) e d (.inl a) b;simpa only[j2,a,reduceCtorEq,↓reduceIte]using this
theorem vt{c:Frame}{j:Option Code}(m:gk fr j)(i:fr.roundOf=some l)(k:fr.kind= .normal\/fr.kind= .deferred)
 (h:stepG.exec P main listen fr (c::cs) none w= .go g w' es):∃v,(Instr.endRound l j).run P w= .ok v w'/\g={frame:=j2 fr.kind c v,callers:=cs,status:= .running,dying:=none}:=by
 have a:=Sem.runT_fst P (Instr.endRound l j) w #[];unfold stepG.exec at h;cases m with
 |done e=>
  simp only[e,i]at h;generalize (Instr.endRound l none).runT P w #[]=q at h a;obtain⟨r,f⟩:=q;simp only at a;subst a;simp only at h;cases b:(Instr.endRound l none).run P w with
  |ok v d=>
   rw[b]at h;simp only[dM k,GStep.after,GStep.go.injEq]at h;obtain⟨rfl,rfl,_⟩:=h;exact⟨v,rfl,rfl⟩
  |halt x d=>
   rw[b]at h;simp[GStep.after]at h
 |ret e=>
  simp only[e,i]at h;generalize (Instr.endRound l (some .ret)).runT P w #[]=q at h a;obtain⟨r,f⟩:=q;simp only at a;subst a;simp only at h;cases b:(Instr.endRound l (some .ret)).run P w with
  |ok v d=>
   rw[b]at h;simp only[dM k,GStep.after,GStep.go.injEq]at h;obtain⟨rfl,rfl,_⟩:=h;exact⟨v,rfl,rfl⟩
  |halt x d=>
   rw[b]at h;simp[GStep.after]at h
 | @exit id _ e n=>
   simp only[e,n,Option.elim_none,i]at h;generalize (Instr.endRound l (some (.exit id))).runT P w #[]=q at h a;obtain⟨r,f⟩:=q;simp only at a;subst a;simp only at h;cases b:(Instr.endRound l (some (.exit id))).run P w with
   |ok v d=>
    rw[b]at h;simp only[dM k,GStep.after,GStep.go.injEq]at h;obtain⟨rfl,rfl,_⟩:=h;exact⟨v,rfl,rfl⟩
   |halt x d=>
    rw[b]at h;simp[GStep.after]at h
theorem Aa(E:Env PL PM G)(i:cR G T D ρ wL wM){fr' c:Frame}{cs':List Frame}(k:∀a,aR G D ρ a->fr'=bF a fr)(d:∀a,aR G D ρ a->cs'=(c::cs).map (bF a)++base)(ok:j3 fr)(f:kW fr.kind (c::cs))
  {j:Option Code} (w:gk fr j) (B:fr.roundOf=some l) {H mM I lM:Bool} {F:Goroutine} {wL':World} {x:Array Event} (h:stepG.exec PL H I fr (c::cs) none wL= .go F wL' x) (L:wL'.drawn<=T):
 ∃D' a C wM' o,stepG.exec PM mM lM fr' cs' none wM= .go C wM' o/\ew G D' a base F C/\ia G T D ρ wL wM D' a wL' wM'/\∀e∈o,iL D' a e:=by
 obtain⟨v,J,rfl⟩:=vt w B ok.kind h;have b:=k ρ i.self;have g:∀a,aR G D ρ a->fr'.roundOf=some (a l):=λa n=>by rw[k a n];show fr.roundOf.map a=_;rw[B];rfl
 have u:∀a,aR G D ρ a->a l=ρ l:=λa n=>Option.some.inj ((g a n).symm.trans (g ρ i.self));obtain⟨D',r,P,wM',y,O,N,z,M⟩:=dN E.load E.store aE (Instr.endRound l j) (Instr.endRound (ρ l) j) D ρ wL wM i (λa n=>by rw[←u a n];exact sJ l j w.ok) #[] _ wL' J rfl L;cases N with
 | @ok _ A _ _ s=>
   have m:=d ρ i.self;simp only[List.map_cons,List.cons_append]at m;have t:stepG.exec PM mM lM fr' cs' none wM= .go {frame:=j2 fr'.kind (bF ρ c) A,callers:=cs.map (bF ρ)++base,status:= .running,dying:=none} wM' (seen PM fr'.fn (#[]++y)):=by
    rw[m];refine sx ?_ (g ρ i.self) ?_ O
    ·rw[b];exact w.ren ρ
    ·rw[b];exact ok.kind
   refine⟨D',r,_,wM',_,t,⟨λa p=> ?_,λa p=> ?_,yH v f,uI v f,rfl,rfl,rfl,rfl⟩,z,λe K=> ?_⟩
   ·have q:=(d ρ i.self).symm.trans (d a (aR.of_ran z p));simp only[List.map_cons,List.cons_append,List.cons.injEq]at q;show j2 fr'.kind (bF ρ c) A=bF a (j2 fr.kind c v);rw[q.1,s a p,b];exact uH a v f
   ·have q:=(d ρ i.self).symm.trans (d a (aR.of_ran z p));simp only[List.map_cons,List.cons_append,List.cons.injEq]at q;exact q.2
   ·have:=dp _ _ _ e K;exact M e (by simpa using this)
end
def ji(wL wM:World):Prop:=∃c e f,(∀v∈c,bO v=true)/\wL.heap[eP]?=some (.cells c e f)/\wM.heap[eP]?=some (.cells c e f)
def uW(e:Event):Prop:=∃a:Addr,a.block=eP/\e=⟨.cell a,false,false⟩
def EK(PL:Program):Prop:=∃d,PL.underlying pq=some d/\(∀fs,d≠ .struct fs)/\∀n e,d≠ .array n e
section
variable{G T:Nat}{base:List Frame}
theorem ji.ran{D':Nat->Prop}{a:Nat->Nat}{wL' wM':World}(h:ji wL wM)(n:eP<G)(d:cR G T D ρ wL wM)(g:ia G T D ρ wL wM D' a wL' wM'):ji wL' wM':=by
 obtain⟨c,e,f,m,j,i⟩:=h;refine⟨c,e,f,m, ?_, ?_⟩
 ·rw[g.keepL eP (bH j) λk=>by have:=d.out _ k;omega];exact j
 ·rw[g.keep eP (bH i) λb l e=>by have:=d.out _ l;have:=d.glob b;omega];exact i
theorem GK(a:Addr)(n:Nat):(a.add n).block=a.block:=by unfold Addr.add;split<;>rfl
theorem yE{a:Type}{k:IntKind}{x y:Int}{c:BoundsCode}{v:a}(h:(boundsPanic k x y c:Sem a).run PL w= .ok v w'):False:=by
 unfold boundsPanic at h;dsimp only at h;split at h
 all_goals
  rw[Sem.run_bind]at h;revert h;generalize Sem.run PL _ w=q;intro h;cases q with
  |halt z d=>cases h
  |ok b d=>
   obtain⟨g,i,f,_⟩:=lI (PL:=PL) (α:=a) (.bounds (IntKind.i64.wrap x) y b c) d;exact absurd (f.symm.trans h) (by intro e;cases e)
theorem yh(g:bN PL PM){a:Addr}{c:Value}(h:(Instr.indexAt t (.pointer (some a)) c).run PL w= .ok v w'):
 w'=w/\(∀j,aE j c=c)/\(∃b:Addr,v= .pointer (some b)/\b.block=a.block)/\∀l es,(Instr.indexAt t (.pointer (some a)) c).runT PM l es=(.ok v l,es):=by
 cases c with
 |int k i=>
  unfold Instr.indexAt at h⊢;simp only[asIntOf,underlying,program,bind,pure,Sem.bind,Sem.run,Sem.runT,←g.under]at h⊢;cases f:PL.underlying t with
  |none=>simp[f,stuck,Sem.bind]at h
  |some d=>
   simp only[f,Sem.bind]at h⊢;cases d with
   |array n e=>
    simp only[Instr.sureAddr,pure,Sem.bind,Sem.run,Sem.runT,f,←g.under]at h⊢;by_cases o:0<=i/\i<(n:Int)
    ·simp only[o,and_self,↓reduceIte,sizeOf,typeInfo,program,bind,pure,Sem.bind,Sem.run,Sem.runT,←g.info]at h⊢;cases m:PL.info? e with
     |none=>simp[m,stuck,Sem.bind]at h
     |some z=>
      simp only[m,Sem.bind,Sem.run,Sem.runT,Result.ok.injEq]at h⊢;obtain⟨rfl,rfl⟩:=h;exact⟨rfl,λj=>by simp[aE],⟨_,rfl,GK _ _⟩,λ_ _=>by first|rfl|trivial⟩
    ·simp only[o,↓reduceIte]at h;split at h
     ·simp[unsupported]at h
     ·exfalso;exact yE h
   |_=>simp[stuck,Sem.bind]at h
 |pointer p=>cases p<;>simp[Instr.indexAt,asIntOf,stuck,unsupported,bind,Sem.bind]at h
 |_=>simp[Instr.indexAt,asIntOf,stuck,bind,Sem.bind]at h
theorem da{k:List Item}
 (b:fr.todo= .inRegion ops (i::rest)::k) (d:ops[i]?=some o) (f:Region.wanted o (yielded ops fr.tmps)=true) (a:∀c,o.op≠ .defer c):
 stepG.exec P main listen fr cs none w=stepG.apply P listen fr cs none (execOp fr.eval o) w:=by
 unfold stepG.exec;simp only[b,d,Option.map_some,Option.getD_some,f,↓reduceIte];unfold stepG.oper;simp only[Frame.oper?,b,d];split
 ·rename_i e;exact absurd e (a _)
 ·rfl
theorem C3(b:Nat->Nat)(tmps:Array Value)(hv:iP b v=v):(ka b j7 tmps).setIfInBounds du v=ka b j7 (tmps.setIfInBounds du v):=by
 apply Array.ext_getElem?;intro i;by_cases d:qL (dt j7) i=true
 ·rw[mg b j7 _ i d];have e:du=i:=Eq.symm (by simpa[gj,mt]using d:i=du);subst e;rw[Array.getElem?_setIfInBounds,Array.getElem?_setIfInBounds,wa];simp only[↓reduceIte];split
  ·simp[mF,gj,hv]
  ·rfl
 ·have a:qL (dt j7) i=false:=by simpa using d
  have c:du≠i:=λe=>by subst e;simp[gj,mt]at a
  rw[fF b j7 _ i a,sN c,sN c,fF b j7 _ i a]
theorem wQ(c:Nat->Nat)(fr:Frame)(v:Value){k:List Item}(h:fr.todo= .inRegion ops (i::rest)::k)(l:ops[i]?=some o)(j:fr.fn=j7)(m:o.dst=some du)(hv:iP c v=v):
 (bF c fr).finish v=bF c (fr.finish v):=by obtain⟨n,a,e,d,f,g,b⟩:=fr;simp only at h j;subst h j;simp only[bF,Frame.finish,List.map_cons,cV,l,Option.bind_some,m,C3 c a hv]
theorem Ec(b:j3 fr)(c:dt fr.fn=1):mQ fr:=Eb λa k e=>pS (b.noPair c a 1 [] k e)
theorem Be(b:bN PL PM)(t:TypeId)(a:Addr)(x:Value):aF ρ PL PM (λv=>v) (Instr.indexAt t (.pointer (some a)) x) (Instr.indexAt t (.pointer (some a)) (aE ρ x)):=by
 unfold Instr.indexAt;refine(pA x).bind λc=>(aX b t).bind λd=> ?_;cases d with
 |array n e=>
  simp only[id,Instr.sureAddr,pure_bind];refine(aX b t).bind λd=> ?_;refine cE ((eb b e).bind λz=>aO _ rfl) (cE (.dead trivial) (xo b _ _ _ _))
 |_=>exact .dead trivial
theorem zM(E:Env PL PM G)(V:cR G T D ρ wL wM)(hP:bE wL)
 {fr':Frame} {cs':List Frame} (m:∀a,aR G D ρ a->fr'=bF a fr) (I:∀a,aR G D ρ a->cs'=cs.map (bF a)++base) (ok:j3 fr) (A:kW fr.kind cs)
    {k:List Item}  (O:fr.todo= .inRegion ops (i::rest)::k) (K:ops[i]?=some o) (hw:Region.wanted o (yielded ops fr.tmps)=true)
 (F:fr.fn=j7)  {l:Operand} (u:o.op= .indexAddr t (.global eP) l) (hx:lV 1 l=true) (H:o.dst=some du)
 {mL mM lL:Bool} {L:Goroutine} {wL':World} {Y:Array Event} (h:stepG.exec PL mL lL fr cs none wL= .go L wL' Y) (hT:wL'.drawn<=T) (hq:L.status= .running) (hd:L.dying=none):
 ∃D' a gM wM' J,stepG.exec PM mM true fr' cs' none wM= .go gM wM' J/\ew G D' a base L gM/\ia G T D ρ wL wM D' a wL' wM'/\∀e∈J,iL D' a e:=by
 have g:=m ρ V.self;have q:fr'.todo= .inRegion ops (i::rest)::k.map (cV ρ):=by rw[g];show fr.todo.map (cV ρ)=_;rw[O];rfl
 have B:Region.wanted o (yielded ops fr'.tmps)=true:=by rw[g];have:yielded ops (bF ρ fr).tmps=yielded ops fr.tmps:=funext λj=>eH ρ fr.fn ops fr.tmps j;rw[this];exact hw
 have y:∀c,o.op≠ .defer c:=λc e=>by rw[u]at e;cases e
 rw[da O K hw y]at h;have z:execOp fr.eval o=(do pure (.value (←Instr.indexAt t (fr.eval (.global eP)) (fr.eval l))):Sem Next):=by unfold execOp;rw[u]
 have p:execOp fr'.eval o=(do pure (.value (←Instr.indexAt t (fr'.eval (.global eP)) (fr'.eval l))):Sem Next):=by unfold execOp;rw[u]
 rw[z]at h;have C:rc fr:=ok.noPair (by rw[F,gj]);rcases qE ok.noCall (fJ _) h hq (λx N e=>dz (ce (jW (ρ:=id) E.same t _ _)) wL hP x N e) hd with⟨n,f,_,rfl⟩|⟨v,f,rfl⟩
 rotate_left
 ·rw[←z]at f;have U:∀a,aR G D ρ a->aF a PL PM (λn=>n) (execOp fr.eval o) (execOp fr'.eval o):=λa W=>by rw[z,p,m a W,fc fr l (by rw[F,gj];exact hx)];exact(Be E.same t ⟨eP,0,none⟩ (fr.eval l)).bind λv=>aO _ rfl
  obtain⟨D',M,r',wM',a0,e1,e2,Z,e4⟩:=dN E.load E.store (λ_ n=>n) _ _ D ρ wL wM V U #[] _ wL' f rfl hT;cases e2 with
  |panic hp=>
   refine⟨D',M,_,wM',_,(da q K B y).trans (zO e1),⟨λa X=> ?_,λa X=>I a (aR.of_ran Z X),⟨ok.raise (by simp[Cc,hp]),jI _ _⟩,by rw[iw,jC];exact A,rfl,rfl,rfl,rfl⟩,Z,λe R=> ?_⟩
   ·show fr'.raise _=bF a (fr.raise _);rw[m a (aR.of_ran Z X),ly]
   ·have:=dp _ _ _ e R;split at this
    ·simp at this
    ·exact e4 e (by simpa using this)
 rw[Sem.run_bind]at f;cases P:(Instr.indexAt t (fr.eval (.global eP)) (fr.eval l)).run PL wL with
 |halt x N=>rw[P]at f;cases f
 |ok v N=>
  rw[P]at f;cases f;obtain⟨rfl,h1,⟨b,rfl,h2⟩,h3⟩:=yh E.same P;have Q:fr'.eval l=fr.eval l:=by rw[g,fc fr l (by rw[F,gj];exact hx)];exact h1 ρ
  have hr:(execOp fr'.eval o).runT PM wM #[]=(.ok (.value (.pointer (some b))) wM,#[]):=by rw[p,Q];show Sem.runT PM (Sem.bind _ _) wM #[]=_;rw[Sem.runT_bind'];have:=h3 wM #[];simp only[Frame.eval]at this⊢;rw[this];rfl
  have S:ek fr':=by intro d w r s k2 e;rw[q]at e;cases e
  refine⟨D,ρ,{frame:=fr'.finish (.pointer (some b)),callers:=cs',status:= .running,dying:=none},wM,_,(da q K B y).trans (dD S hr rfl),⟨λa W=> ?_,I, ?_,by show kW (fr.finish _).kind cs;rw[dm];exact A,rfl,rfl,rfl,rfl⟩,ia.refl V,λe R=>by have:=dp _ _ _ e R;split at this<;>simp at this⟩
  ·show fr'.finish _=bF a (fr.finish _);rw[m a W];exact wQ a fr _ O K F H (by simp[iP,jL,h2])
  ·exact⟨(ws fr _ ok C).1,(ws fr _ ok C).2 (Ec ok (by rw[F,gj]))⟩
theorem Cu(E:Env PL PM G)(L:EK PL)(hW:cR G T D ρ wL wM)(hP:bE wL)(hR:ji wL wM)
 {fr':Frame} {cs':List Frame} (O:∀m,aR G D ρ m->fr'=bF m fr) (a4:∀m,aR G D ρ m->cs'=cs.map (bF m)++base) (ok:j3 fr) (Z:kW fr.kind cs)
    {k:List Item}  (ht:fr.todo= .inRegion ops (i::rest)::k) (ho:ops[i]?=some o) (hw:Region.wanted o (yielded ops fr.tmps)=true)
 (hf:fr.fn=j7) (F:o.op= .load pq (.tmp du)) (b:jL (fr.eval (.tmp du))=true) (A:dT fr)
 {mL mM lL:Bool} {X:Goroutine} {wL':World} {a6:Array Event} (h:stepG.exec PL mL lL fr cs none wL= .go X wL' a6) (hq:X.status= .running) (hd:X.dying=none):
 ∃gM U,wL'=wL/\stepG.exec PM mM true fr' cs' none wM= .go gM wM U/\ew G D ρ base X gM/\∀e∈U,uW e:=by
 have z:=O ρ hW.self;have M:fr'.todo= .inRegion ops (i::rest)::k.map (cV ρ):=by rw[z];show fr.todo.map (cV ρ)=_;rw[ht];rfl
 have a0:Region.wanted o (yielded ops fr'.tmps)=true:=by rw[z];have:yielded ops (bF ρ fr).tmps=yielded ops fr.tmps:=funext λj=>eH ρ fr.fn ops fr.tmps j;rw[this];exact hw
 have N:∀c,o.op≠ .defer c:=λc e=>by rw[F]at e;cases e
 rw[da ht ho hw N]at h;have a3:execOp fr.eval o=(do pure (.value (←Instr.loadAt pq (fr.eval (.tmp du)))):Sem Next):=by unfold execOp;rw[F]
 have Q:execOp fr'.eval o=(do pure (.value (←Instr.loadAt pq (fr'.eval (.tmp du)))):Sem Next):=by unfold execOp;rw[F]
 have R:fr'.eval (.tmp du)=fr.eval (.tmp du):=by
  rw[z];simp only[Frame.eval,bF,Array.getD_eq_getD_getElem?];rw[mg ρ fr.fn fr.tmps du (by simp[hf,gj,mt])];simp only[Frame.eval,Array.getD_eq_getD_getElem?]at b;cases K:fr.tmps[du]? with
  |none=>rfl
  |some v=>
   rw[K]at b;simp only[Option.getD_some]at b;simp[mF,hf,gj,iP,b]
 rw[a3]at h;have a2:∀v B,(Instr.loadAt pq (fr.eval (.tmp du))).run PL wL≠ .halt (.panic v) B:=λv B e=>by
  obtain⟨d,V,I,H⟩:=L;generalize fr.eval (.tmp du)=p at b e;cases p<;>simp only[jL,Bool.false_eq_true]at b;rename_i a;cases a with
  |none=>cases b
  |some a=>
   have hl:(Instr.loadAt pq (.pointer (some a))).run PL wL=(load a:Sem Value).run PL wL:=by unfold Instr.loadAt loadVar isAgg underlying Instr.sureAddr;simp only[program,bind,pure,Sem.bind,Sem.run,V];cases d<;>first|rfl|exact absurd rfl (I _)|exact absurd rfl (H _ _)
   rw[hl]at e;simp only[load,Sem.run]at e;cases S:wL.cell? a with
   |some u=>rw[S]at e;cases e
   |none=>
    rw[S]at e;cases K:wL.farLoad PL a (Mode.plain==Mode.atomic)with
    |ok y=>rw[K]at e;cases e
    |error x=>rw[K]at e;simp only[Result.halt.injEq]at e;exact pm K _ e.1
 rcases qE ok.noCall (fJ _) h hq (λx B e=>dz (ce (gO (ρ:=id) E.same pq _)) wL hP x B e) hd with⟨n,g,_,rfl⟩|⟨v,g,rfl⟩
 rotate_left
 ·rw[Sem.run_bind]at g;cases C:(Instr.loadAt pq (fr.eval (.tmp du))).run PL wL with
  |halt x B=>rw[C]at g;cases g;exact absurd C (a2 _ _)
  |ok v B=>rw[C]at g;cases g
 rw[Sem.run_bind]at g;cases C:(Instr.loadAt pq (fr.eval (.tmp du))).run PL wL with
 |halt x B=>rw[C]at g;cases g
 |ok v B=>
  rw[C]at g;cases g;generalize fr.eval (.tmp du)=p at b C R;cases p<;>simp only[jL,Bool.false_eq_true]at b
  ·rename_i a;cases a with
   |none=>cases b
   |some a=>
    have W:a.block=eP:=(by simpa using b);obtain⟨d,V,I,H⟩:=L;obtain⟨c,e,f,q1,Y,q3⟩:=hR;have J:wM.cell? a=wL.cell? a:=(by unfold World.cell?;rw[W,Y,q3]);have t:∀(P:Program),P.underlying pq=some d->∀w es,(Instr.loadAt pq (.pointer (some a))).runT P w es=(load a:Sem Value).runT P w es:=by intro P hP w es;unfold Instr.loadAt loadVar isAgg underlying Instr.sureAddr;simp only[program,bind,pure,Sem.bind,Sem.runT,hP];cases d<;>first|rfl|exact absurd rfl (I _)|exact absurd rfl (H _ _)
    have l:=congrArg Prod.fst (t PL V wL #[]);rw[Sem.runT_fst,Sem.runT_fst,C]at l;have q:wL.cell? a=some v/\wL'=wL:=by
     simp only[load,Sem.run]at l;cases S:wL.cell? a with
     |some x=>rw[S]at l;simp only[Result.ok.injEq]at l;exact⟨by rw[l.1],l.2⟩
     |none=>
      rw[S]at l;unfold World.farLoad at l;rw[W,Y]at l;simp at l
    obtain⟨q,rfl⟩:=q;have a1:bO v=true:=by
     unfold World.cell? at q;rw[W,Y]at q;simp only at q;split at q
     ·cases q
     ·exact q1 v (Array.mem_of_getElem? q)
    have hr:(execOp fr'.eval o).runT PM wM #[]=(.ok (.value v) wM,#[⟨.cell a,false,false⟩]):=by rw[Q,R];show Sem.runT PM (Sem.bind _ _) wM #[]=_;rw[Sem.runT_bind',t PM (by rw[←E.same.under];exact V)];simp only[load,Sem.runT,J,q];rfl
    have a5:ek fr':=by intro d w r s k2 e;rw[M]at e;cases e
    refine⟨_,_,rfl,by rw[da M ho a0 N];exact dD a5 hr rfl,⟨λm hA=> ?_,a4,ns ok A v,by show kW (fr.finish v).kind cs;rw[dm];exact Z,rfl,rfl,rfl,rfl⟩,λe he=> ?_⟩
    ·show fr'.finish v=bF m (fr.finish v);rw[O m hA,←fK fr v ok A,dG m v a1]
    ·have:=dp _ _ _ e he;split at this
     ·simp at this
     ·simp at this;exact⟨a,W,this⟩
theorem xG(v:cR G T D ρ wL wM){fr':Frame}{cs':List Frame}(d:∀a,aR G D ρ a->fr'=bF a fr)(n:∀a,aR G D ρ a->cs'=cs.map (bF a)++base)(c:j3 fr)(g:kW fr.kind cs)
    {k:List Item}  (m:fr.todo= .inRegion ops (i::rest)::k) (u:ops[i]?=some o) (f:fr.fn=j7) (e:o.dst=some du)
 (p:((ops[i]?).map (Region.wanted · (yielded ops fr.tmps))).getD false=false) (s mM t lM:Bool):
 ∃r q,stepG.exec PL s t fr cs none wL= .go r wL/\stepG.exec PM mM lM fr' cs' none wM= .go q wM/\ew G D ρ base r q:=by
 have b:=d ρ v.self;have l:fr'.todo= .inRegion ops (i::rest)::k.map (cV ρ):=by rw[b];show fr.todo.map (cV ρ)=_;rw[m];rfl
 have h:((ops[i]?).map (Region.wanted · (yielded ops fr'.tmps))).getD false=false:=by rw[b];have:yielded ops (bF ρ fr).tmps=yielded ops fr.tmps:=funext λj=>eH ρ fr.fn ops fr.tmps j;rw[this];exact p
 refine⟨_,_,jq m p,jq l h,λa w=> ?_,n,⟨(ws fr _ c (c.noPair (by rw[f,gj]))).1,(ws fr _ c (c.noPair (by rw[f,gj]))).2 (Ec c (by rw[f,gj]))⟩,by show kW (fr.finish _).kind cs;rw[dm];exact g,rfl,rfl,rfl,rfl⟩;show fr'.finish undef=bF a (fr.finish undef);rw[d a w];exact wQ a fr undef m u f e (fS a)
end
section
variable{α β:Type}{f:α->β}
theorem uw{p:Program}{g:World}{a:Addr}{b:Bool}{j:List Addr}(e:w.farStore p a v b= .ok (g,j)):g.drawn=w.drawn:=by
 unfold World.farStore at e;split at e
 ·rename_i f u o;split at e
  ·rename_i r d;cases e;cases h:w.seen p f u a b with
   |error x=>
    unfold World.viewStore at d;by_cases i:(!tight p p.depth u)=true
    ·rw[if_pos i]at d;cases d
    ·rw[if_neg i,h]at d;cases d
   |ok y=>
    obtain⟨c,n,l,k⟩:=m9 h;obtain⟨q,m,_⟩:=iM p (w':={w with heap:=w.heap.setIfInBounds f.block (.cells (c.map (aE λx=>x)) n l)}) (λx=>x) k (by grind) d;rw[m]
  ·cases e
 ·cases e
def wdO{γ:Type}:Result γ->World
 | .ok _ w| .halt _ w=>w
theorem GD{e:Type}(a:Ask e):∀w:World,w.drawn<=(w.ask a).2.drawn:=by
 induction a with
 |done a=>intro w;exact Nat.le_refl _
 |ask c b k d=>
  intro w;unfold World.ask;dsimp only;split
  ·exact d _ w
  ·exact Nat.le_trans (Nat.le_succ _) (d _ {w with drawn:=w.drawn+1})
theorem F7(w:World)(c:Sys):w.drawn<=(w.sys c).2.drawn:=by
 have:=GD (Kernel.perform c w.os) w;unfold World.sys;split
 ·exact Nat.le_refl _
 ·rename_i a;rw[a]at this;exact this
theorem vX(P:Program)(s:Sem α):∀w:World,w.drawn<=(wdO (s.run P w)).drawn:=by
 induction s with
 |pure a=>intro w;exact Nat.le_refl _
 |load m a k ih=>
  intro w;rw[Sem.run];split
  ·exact ih _ w
  ·split
   ·exact ih _ w
   ·exact Nat.le_refl _
 |store m a v k ih=>
  intro w;cases hone:pW v with
  |false=>
   obtain⟨why,hy⟩:=gV (p:=P) (w:=w) (m:=m) (a:=a) (k:=k) hone;rw[hy];exact Nat.le_refl _
  |true=>
   rw[gn hone];split
   ·split
    ·exact Nat.le_refl _
    ·exact ih (w.setCell a v)
   ·split
    ·rename_i hx;rw[←uw hx];exact ih _
    ·exact Nat.le_refl _
 |freeze a n k ih=>
  intro w;exact Nat.le_trans (Nat.le_of_eq (by unfold World.freeze;split<;>rfl)) (ih (w.freeze a n))
 |getObj r k ih=>
  intro w;rw[Sem.run];split<;>first|exact Nat.le_refl _|exact ih _ w
 |setObj r o k ih=>
  intro w;rw[Sem.run];split<;>first|exact Nat.le_refl _|exact ih {w with heap:=w.heap.setIfInBounds r o}
 |choose q k ih=>
  intro w;rw[Sem.run];split
  ·exact ih _ w
  ·exact Nat.le_trans (Nat.le_succ _) (ih _ {w with drawn:=w.drawn+1})
 |sys c k ih=>intro w;exact Nat.le_trans (F7 w c) (ih _ _)
 |halt h=>intro w;exact Nat.le_refl _
 |new o k ih=>intro w;exact ih w.heap.size {w with heap:=w.heap.push o}
 |shape r k ih=>intro w;exact ih _ w
 |frozen a k ih=>intro w;exact ih _ w
 |program k ih=>intro w;exact ih _ w
 |mark m k ih=>intro w;exact ih w
end
section
variable{G T:Nat}{base:List Frame}
def og(f:Operand)(l:Nat):Call:={callee:= .value f,args:=#[.const (.func (.yield l) #[] #[])],argTypes:=#[]}
def cJ(fr:Frame)(f:Operand)(l:Nat):Sem Next:=do let d←resolve fr.eval (og f l) 0;invoke d.target d.args
theorem kC(b:bN PL PM)(c:∀g,iK ρ PL PM g){fr':Frame}{f:Operand}(d:fr'.eval f=aE ρ (fr.eval f))(l:Nat):aF ρ PL PM (fy ρ) (cJ fr f l) (cJ fr' f (ρ l)):=by
 unfold cJ resolve og;dsimp only;rw[d];have h:(#[Operand.const (.func (.yield (ρ l)) #[] #[])].map fr'.eval)=(#[Operand.const (.func (.yield l) #[] #[])].map fr.eval).map (aE ρ):=by simp[Frame.eval,aE,jA]
 rw[h];unfold Deferred.ofValue;cases fr.eval f with
 |func i first a=>
  simp only[aE,pure_bind];rw[←Array.map_append];exact sI b c i a _
 |nilFunc=>
  simp only[aE,pure_bind];exact jU (e:= .nilDeref) b rfl
 |_=>simp only[aE];exact .dead trivial
theorem kN(b:∀g,iK ρ PL PM g)(fr:Frame)(f:Operand)(l:Nat):cK PL (cJ fr f l):=by
 unfold cJ resolve og;dsimp only;cases fr.eval f with
 |func c first a=>exact oH b c a _
 |nilFunc=>exact cK.rt .nilDeref
 |_=>exact cK.halt _
def bW(fr:Frame)(k:List Item)(l:Nat)(mark:List Deferred):Frame:={fr with todo:= .inRangeFunc l::k,defers:=mark++fr.defers}
theorem fL{d:World}{f:Operand}{e:Array Tmp}{a b:Code}{k:List Item}{c:List Deferred}
 (g:fr.todo= .code (.rangeFunc f e a b)::k) (h:(Instr.enterLoop fr.fn fr.tmps e a b fr.roundOf).runT P w #[]=(.ok (l,c) d,es)):
 stepG.exec P main listen fr cs none w=GStep.after (seen P fr.fn es) (stepG.apply P listen (bW fr k l c) cs none (cJ (bW fr k l c) f l) d):=by unfold stepG.exec;simp only[g,h];rfl
theorem vr{f:Operand}{e:Array Tmp}{a b:Code}{k:List Item}
 (m:fr.todo= .code (.rangeFunc f e a b)::k) (h:stepG.exec P main listen fr cs none w= .go g w' es):
 ∃l c d es1,(Instr.enterLoop fr.fn fr.tmps e a b fr.roundOf).run P w= .ok (l,c) d/\stepG.apply P listen (bW fr k l c) cs none (cJ (bW fr k l c) f l) d= .go g w' es1:=by
 have j:=Sem.runT_fst P (Instr.enterLoop fr.fn fr.tmps e a b fr.roundOf) w #[];cases i:(Instr.enterLoop fr.fn fr.tmps e a b fr.roundOf).runT P w #[]with
 |mk r n=>
  rw[i]at j;cases r with
  |ok x d=>
   obtain⟨l,c⟩:=x;rw[fL m i]at h;obtain⟨es1,o⟩:=lU h;exact⟨l,c,d,es1,j.symm,o⟩
  |halt x d=>
   unfold stepG.exec at h
   grind[GStep.after]
theorem GU(g:bE wL){e:Nat}{tmps:Array Value}{a b:Code}{d:World}(h:(Instr.yield l args).run PL wL= .ok (.round e f tmps a b) d):jb 0 a=true/\jb 0 b=true/\dt f=0:=by
 unfold Instr.yield Instr.getLoop getObj at h;simp only[bind,Sem.bind,Sem.run]at h;split at h
 ·cases h
 ·rename_i o i j;have c:=g _ _ ‹_›;cases o with
  |loop r=>
   simp only[pure,Sem.bind]at h;split at h
   ·simp[stuck,Sem.bind]at h
   ·simp only[Sem.run,Result.ok.injEq,Next.round.injEq]at h;obtain⟨⟨_,rfl,_,rfl,rfl⟩,_⟩:=h;simp only[cO,Bool.and_eq_true]at c;exact⟨c.1.1.1,c.1.1.2,by simpa using c.2⟩
  |_=>simp[stuck,Sem.bind]at h
 ·cases h
def dU(P:Program)(s:Sem Next):Prop:=∀w l f tmps a b w',s.run P w≠ .ok (.round l f tmps a b) w'
theorem dU.after{d:Type}{s:Sem d}{k:d->Sem Next}(h:∀a,dU PL (k a)):dU PL (s>>=k):=λw l f c a b j e=>by
 rw[Sem.run_bind]at e;cases i:s.run PL w with
 |ok x g=>rw[i]at e;exact h x g l f c a b j e
 |halt x g=>rw[i]at e;cases e
theorem q8(x:Halt):dU PL (.halt x):=λw l f c a b d e=>by cases e
theorem iO(s:Sem Value):dU PL (do pure (.value (←s))):=dU.after λ_ w l f c a b d e=>by cases e
theorem pb(x:RuntimeError):dU PL (runtimePanic x):=λw l f c a b g h=>by obtain⟨y,e,d,_⟩:=lI x w;rw[d]at h;cases h
theorem iA(g:FuncId)(r:iK ρ PL PM g)(args:Array Value):dU PL (callFunc g args):=by
 unfold callFunc;intro w l f c a b o h;rw[Sem.run_bind]at h
 change (match PL.funcs[g]? with|none=>_|some i=>_:Sem Next).run PL w=_ at h
 cases k:PL.funcs[g]? with
 |none=>rw[k]at h;cases h
 |some i=>
  rw[k]at h;obtain⟨q,t⟩:=r i k;have j:(i.name== "runtime.NumGoroutine")=false:=by simpa using q
  simp only[j,Bool.false_eq_true,↓reduceIte]at h;rcases t with⟨d,_⟩|⟨d,n,m,u⟩|⟨d,n,_,e,m,_⟩
  ·have p:i.body.isNone=false:=(by simp_all);simp only[p,Bool.false_eq_true,↓reduceIte]at h;cases h
  ·rw[d,n,m,u]at h;cases h
  ·rw[d,n,m]at h;exact dU.after (PL:=PL) (s:=mark (.extern g)) (λ_=>iO (e args)) w l f c a b o h
theorem jH(a:∀g,iK ρ PL PM g)(r:Value)(name:String)(args:Array Value):dU PL (callMethod r name args):=by
 unfold callMethod;cases r with
 |iface t v=>exact dU.after λp=>dU.after λy=>iA y.1 (a y.1) _
 |nilIface=>exact pb _
 |_=>exact q8 _
theorem ye(o:bE wL)(i:∀g,iK ρ PL PM g)(fn:Fn)(cap args:Array Value){n:Nat}{tmps:Array Value}{a b:Code}{k:World}(h:(invoke (.fn fn cap) args).run PL wL= .ok (.round n f tmps a b) k):
 jb 0 a=true/\jb 0 b=true/\dt f=0:=by
 cases fn with
 |func g=>exact absurd h (iA g (i g) _ _ _ _ _ _ _ _)
 |method e=>
  unfold invoke at h;dsimp only at h;cases c:args[0]? with
  |none=>rw[c]at h;cases h
  |some r=>rw[c]at h;exact absurd h (jH i _ _ _ _ _ _ _ _ _ _)
 |methodOf t e=>
  unfold invoke at h;dsimp only at h;cases c:args[0]? with
  |none=>rw[c]at h;cases h
  |some r=>rw[c]at h;exact absurd h (dU.after (λd=>jH i _ _ _) _ _ _ _ _ _ _)
 |via t j g m=>
  unfold invoke at h;dsimp only at h;cases c:args[0]? with
  |none=>rw[c]at h;cases h
  |some r=>rw[c]at h;exact absurd h (dU.after (λd=>iA g (i g) _) _ _ _ _ _ _ _)
 |yield l=>exact GU o h
theorem rQ(k:bE wL)(j:∀g,iK ρ PL PM g)(v:Value)(args:Array Value){i:Nat}{tmps:Array Value}{a b:Code}{e:World}(h:(do let d←Deferred.ofValue v args;invoke d.target d.args:Sem Next).run PL wL= .ok (.round i f tmps a b) e):
 jb 0 a=true/\jb 0 b=true/\dt f=0:=by
 unfold Deferred.ofValue at h;cases v with
 |func l first c=>exact ye k j l c _ h
 |nilFunc=>exact absurd h (pb .nilDeref _ _ _ _ _ _ _)
 |_=>exact absurd h (q8 _ _ _ _ _ _ _ _)
theorem zE(i:bE wL)(e:∀g,iK ρ PL PM g){d:Nat}{tmps:Array Value}{a b:Code}{c:World}(h:(cJ fr x l).run PL wL= .ok (.round d f tmps a b) c):
 jb 0 a=true/\jb 0 b=true/\dt f=0:=rQ i e _ _ h
theorem Ca(B:bE wL)(v:∀g,iK ρ PL PM g)(ev:Operand->Value){z:Nat}(o:Oper)(k:mN z o.op=true){u:Nat}{tmps:Array Value}{a b:Code}{s:World}(h:(execOp ev o).run PL wL= .ok (.round u f tmps a b) s):
 jb 0 a=true/\jb 0 b=true/\dt f=0:=by
 unfold execOp at h;cases i:o.op with
 |move x=>rw[i]at h;cases h
 |assign x=>rw[i]at h;cases h
 |pick x y c=>rw[i]at h;exact absurd h (dU.after (λ_ w l f tmps a b n e=>by cases e) _ _ _ _ _ _ _)
 |store t x y=>rw[i]at h;exact absurd h (dU.after (λ_ w l f tmps a b n e=>by cases e) _ _ _ _ _ _ _)
 |nilCheck x=>
  rw[i]at h;exfalso;dsimp only at h;revert h;split<;>(try split)<;>intro h<;>first
   |exact pb _ _ _ _ _ _ _ _ h
   |(cases h;done)
   |(refine dU.after (λ_=>dU.after λ_=> ?_) _ _ _ _ _ _ _ h
     intro w l f tmps a b n e;revert e;split
     ·intro e;cases e
     ·intro e;cases e)
 |call c=>
  rw[i]at h k
  change (do let d←resolve ev c o.type;invoke d.target d.args:Sem Next).run PL wL=_ at h
  unfold resolve at h;simp only[mN,pa,Bool.and_eq_true]at k;have m:=k.2;cases j:c.callee with
  |builtin q=>
   rw[j]at m h;have A:KZ q=true:=m;exfalso;cases q<;>first|exact iO _ _ _ _ _ _ _ _ h|(simp[KZ]at A;done)
  |invoke r p=>rw[j]at m;cases m
  |value g=>rw[j]at h;exact rQ B v _ _ h
 |_=>first
  |(rw[i]at h;exact absurd h (iO _ _ _ _ _ _ _ _))
  |(rw[i]at k;cases k)
def dA(P:Program)(s:Sem Next):Prop:=∀w f args w',s.run P w= .ok (.enter f args) w'->∃fn,P.funcs[f]?=some fn/\fn.body.isSome=true
theorem dA.after{c:Type}{s:Sem c}{k:c->Sem Next}(h:∀a,dA PL (k a)):dA PL (s>>=k):=λw f b i e=>by
 rw[Sem.run_bind]at e;cases g:s.run PL w with
 |ok x d=>rw[g]at e;exact h x d f b i e
 |halt x d=>rw[g]at e;cases e
theorem j1(x:Halt):dA PL (.halt x):=λw f a b e=>by cases e
theorem j0{n:Next}(h:∀f args,n≠ .enter f args):dA PL (pure n):=λw f args a e=>by simp_all
theorem mu(s:Sem Value):dA PL (do pure (.value (←s))):=dA.after λ_=>j0 λ_ _ e=>by cases e
theorem Ax(s:Sem Unit):dA PL (do s;pure .skip):=dA.after λ_=>j0 λ_ _ e=>by cases e
theorem rr(x:RuntimeError):dA PL (runtimePanic x):=λw f a d h=>by obtain⟨y,c,b,_⟩:=lI x w;rw[b]at h;cases h
theorem j8(g:FuncId)(n:iK ρ PL PM g)(args:Array Value):dA PL (callFunc g args):=by
 unfold callFunc;intro w f q k h;rw[Sem.run_bind]at h
 change (match PL.funcs[g]? with|none=>_|some b=>_:Sem Next).run PL w=_ at h
 cases c:PL.funcs[g]? with
 |none=>rw[c]at h;cases h
 |some b=>
  rw[c]at h;obtain⟨m,o⟩:=n b c;have d:(b.name== "runtime.NumGoroutine")=false:=by simpa using m
  simp only[d,Bool.false_eq_true,↓reduceIte]at h;rcases o with⟨a,_⟩|⟨a,j,i,p⟩|⟨a,j,_,e,i,_⟩
  ·have l:b.body.isNone=false:=(by rw[Option.isNone_eq_false_iff];exact a);simp only[l,Bool.false_eq_true,↓reduceIte]at h;cases h;exact⟨b,c,a⟩
  ·rw[a,j,i,p]at h;cases h
  ·rw[a,j,i]at h;exact dA.after (PL:=PL) (s:=mark (.extern g)) (λ_=>mu (e args)) w f q k h
theorem kz(a:∀g,iK ρ PL PM g)(r:Value)(name:String)(args:Array Value):dA PL (callMethod r name args):=by
 unfold callMethod;cases r with
 |iface t v=>exact dA.after λp=>dA.after λy=>j8 y.1 (a y.1) _
 |nilIface=>exact rr _
 |_=>exact j1 _
theorem yt(l:Nat)(args:Array Value):dA PL (Instr.yield l args):=by refine dA.after λr=> ?_;intro w f b a e;revert e;split<;>simp
theorem vw(b:∀g,iK ρ PL PM g)(fn:Fn)(cap args:Array Value):dA PL (invoke (.fn fn cap) args):=by
 cases fn with
 |func g=>exact j8 g (b g) _
 |method a=>
  unfold invoke;cases args[0]? with
  |none=>exact j1 _
  |some r=>exact kz b _ _ _
 |methodOf t a=>
  unfold invoke;dsimp only;cases args[0]? with
  |none=>exact j1 _
  |some r=>exact dA.after λd=>kz b _ _ _
 |via t c g e=>
  unfold invoke;dsimp only;cases args[0]? with
  |none=>exact j1 _
  |some r=>exact dA.after λd=>j8 g (b g) _
 |yield l=>exact yt l args
theorem nF(b:∀g,iK ρ PL PM g)(v:Value)(args:Array Value):dA PL (do let d←Deferred.ofValue v args;invoke d.target d.args):=by
 cases v with
 |func c first a=>exact vw b c a _
 |nilFunc=>exact rr .nilDeref
 |_=>exact j1 _
theorem yu(a:∀g,iK ρ PL PM g)(fr:Frame)(x:Operand)(l:Nat):dA PL (cJ fr x l):=nF a _ _
theorem Ay(n:∀g,iK ρ PL PM g)(ev:Operand->Value){z:Nat}(o:Oper)(b:mN z o.op=true):dA PL (execOp ev o):=by
 unfold execOp;cases a:o.op with
 |move x=>exact j0 λ_ _ e=>by cases e
 |assign x=>exact j0 λ_ _ e=>by cases e
 |pick x y c=>exact dA.after λ_=>j0 λ_ _ e=>by cases e
 |store t x y=>exact Ax _
 |nilCheck x=>
  dsimp only;intro w f q m h;revert h;split<;>(try split)<;>intro h<;>first
   |exact rr _ _ _ _ _ h
   |(cases h;done)
   |(refine dA.after (λ_=>dA.after λ_=> ?_) _ _ _ _ h
     intro w f q m e;revert e;split
     ·intro e;cases e
     ·intro e;cases e)
 |call c=>
  rw[a]at b
  change dA PL (do let d←resolve ev c o.type;invoke d.target d.args:Sem Next)
  unfold resolve;simp only[mN,pa,Bool.and_eq_true]at b;have j:=b.2;cases i:c.callee with
  |builtin l=>
   rw[i]at j;have p:KZ l=true:=j;cases l<;>first|exact mu _|(simp[KZ]at p;done)
  |invoke r k=>rw[i]at j;cases j
  |value g=>exact nF n _ _
 |_=>first
  |exact mu _
  |(rw[a]at b;cases b)
theorem sC{fn:FuncId}{tmps:Array Value}{i:Array Tmp}{a b:Code}{e:Option Nat}{d:List Deferred}{h:World}(c:(Instr.enterLoop fn tmps i a b e).run PL wL= .ok (l,d) h):dx d=true:=by
 unfold Instr.enterLoop newObj at c;cases e with
 |none=>
  simp[bind,Sem.bind,pure,Sem.run,Result.ok.injEq,Prod.mk.injEq]at c;rw[←c.1.2];rfl
 |some j=>
  simp[bind,pure]at c;rw[Sem.run_bind']at c;cases f:(Instr.getLoop j).run PL wL with
  |halt y g=>rw[f]at c;cases c
  |ok y g=>
   rw[f]at c;simp only[Sem.run,Sem.bind,Result.andThen,Result.ok.injEq,Prod.mk.injEq]at c;rw[←c.1.2];rfl
def j4(P:Program)(fr:Frame)(w:World)(f:FuncId)(args:Array Value)(w':World):Prop:=
 fr.mode= .run/\((∃ops n rest k o,fr.todo= .inRegion ops (n::rest)::k/\ops[n]?=some o/\Region.wanted o (yielded ops fr.tmps)=true/\mN (dt fr.fn) o.op=true/\(o.dst).any (qL (dt fr.fn))=false/\(execOp fr.eval o).run P w= .ok (.enter f args) w')\/
  ∃x ps a b k l mark w1,fr.todo= .code (.rangeFunc x ps a b)::k/\(Instr.enterLoop fr.fn fr.tmps ps a b fr.roundOf).run P w= .ok (l,mark) w1/\(cJ (bW fr k l mark) x l).run P w1= .ok (.enter f args) w')
theorem mw(j:∀g,iK ρ PL PM g)(h:j4 PL fr w f args w'):∃fn,PL.funcs[f]?=some fn/\fn.body.isSome=true:=by
 rcases h.2 with⟨m,n,d,k,o,_,_,_,c,_,e⟩|⟨x,q,a,b,k,l,i,p,_,_,e⟩
 ·exact Ay j _ _ c _ _ _ _ e
 ·exact yu j _ _ _ _ _ _ _ e
theorem zG(E:Env PL PM G)(hW:cR G T D ρ wL wM)(hP:bE wL)
 {fr':Frame} {cs':List Frame} (H:∀c,aR G D ρ c->fr'=bF c fr) (a0:∀c,aR G D ρ c->cs'=cs.map (bF c)++base) (ok:j3 fr) (W:kW fr.kind cs)
  {B:Array Tmp} {a b:Code} {k:List Item} (S:fr.todo= .code (.rangeFunc x B a b)::k)
 {mL mM lL:Bool} {V:Goroutine} {wL':World} {a2:Array Event} (h:stepG.exec PL mL lL fr cs none wL= .go V wL' a2) (hT:wL'.drawn<=T) (hq:V.status= .running) (hd:V.dying=none) (Z:fr.mode= .run) (hE:∀f args w',j4 PL fr wL f args w'->jc PL PM f):
 ∃D' c U wM' s,stepG.exec PM mM true fr' cs' none wM= .go U wM' s/\ew G D' c base V U/\ia G T D ρ wL wM D' c wL' wM'/\∀e∈s,iL D' c e:=by
 obtain⟨l,d,A,a6,i,w⟩:=vr S h;have hi:=ok.todo;rw[S]at hi;simp only[kt,Bool.and_eq_true,kJ,jb]at hi;obtain⟨⟨⟨⟨hz,Y⟩,ha⟩,hb⟩,hk⟩:=hi;have p:dt fr.fn=0:=by simpa using hz
 rw[p]at ha hb Y;have O:∀c,aR G D ρ c->aF c PL PM (λy=>(c y.1,y.2.map (kb c))) (Instr.enterLoop fr.fn fr.tmps B a b fr.roundOf) (Instr.enterLoop fr'.fn fr'.tmps B a b fr'.roundOf):=λc hA=>by rw[H c hA];show aF c PL PM _ _ (Instr.enterLoop fr.fn (ka c fr.fn fr.tmps) B a b (fr.roundOf.map c));rw[mf c p];exact mA fr.fn fr.tmps B a b fr.roundOf ha hb p
 have K:bE A:=dn (O ρ hW.self) wL hP _ _ i;have r:dx d=true:=sC i;have u:j3 (bW fr k l d):=by
  refine⟨⟨?_,ok.mode,ok.kind,ok.round⟩, ?_⟩
  ·show dx (d++fr.defers)=true;simp only[dx,List.all_append,Bool.and_eq_true];exact⟨r,ok.defers⟩
  ·show kt (dt fr.fn) (Item.inRangeFunc l::k)=true;simp only[kt,Bool.and_eq_true,kJ];exact⟨hz,hk⟩
 have I:dT (bW fr k l d):=rv λ_ _ _ _ e=>by cases e
 have L:aF ρ PL PM (fy ρ) (cJ (bW fr k l d) x l) (cJ (bF ρ (bW fr k l d)) x (ρ l)):=kC E.same (E.fn ρ) (fc (bW fr k l d) x (by show lV (dt fr.fn) x=true;rw[p];exact Y)) l;have a1:A.drawn<=T:=by
  have:=vX PL (cJ (bW fr k l d) x l) A;rcases qE u.noCall (kN (E.fn ρ) _ x l) w hq (λx z e=>dz L A K x z e) hd with⟨n,o,_,_⟩|⟨v,o,_⟩
  ·rw[o]at this;exact Nat.le_trans this hT
  ·rw[o]at this;exact Nat.le_trans this hT
 obtain⟨Q,g,r',a5,a3,e1,e2,P,e4⟩:=dN E.load E.store (λc y=>(c y.1,y.2.map (kb c))) _ _ D ρ wL wM hW O #[] _ A i rfl a1;cases e2 with
 | @ok _ y' _ _ X=>
   obtain⟨R,j⟩:=y';have J:=λc (m:aR G Q g c)=>aR.of_ran P m;have F:∀c,aR G Q g c->R=c l/\j=d.map (kb c):=λc m=>by have:=X c m;simpa using this
   have C:∀c,aR G Q g c->fr'.todo= .code (.rangeFunc x B a b)::k.map (cV c):=λc m=>by rw[H c (J c m)];show fr.todo.map (cV c)=_;rw[S];rfl
   have t:∀c,aR G Q g c->bW fr' (k.map (cV g)) R j=bF c (bW fr k l d):=λc m=>by have q:=(C g P.rel.self).symm.trans (C c m);simp only[List.cons.injEq,true_and]at q;rw[q,(F c m).1,(F c m).2,H c (J c m)];simp only[bW,bF,List.map_cons,cV,List.map_append]
   have N:∀c,aR G Q g c->aF c PL PM (fy c) (cJ (bW fr k l d) x l) (cJ (bW fr' (k.map (cV g)) R j) x R):=λc m=>by rw[t c m,(F c m).1];exact kC E.same (E.fn c) (fc (bW fr k l d) x (by show lV (dt fr.fn) x=true;rw[p];exact Y)) l
   obtain⟨D',c,U,wM',s,f1,f2,f3,f4⟩:=kB E.tab E.load E.store P.rel t (λc m=>a0 c (J c m)) u W I N (kN (E.fn g) _ x l) (λx z e=>dz L A K x z e)
    (λf args w2 e=>hE f args w2 ⟨Z, .inr ⟨x,B,a,b,k,l,d,A,S,i,e⟩⟩) (λl2 f a4 a b w2 e=>zE K (E.fn g) e) w hT hq hd
   refine⟨D',c,U,wM',seen PM fr'.fn (#[]++a3)++s, ?_,f2,P.trans f3,λe M=> ?_⟩
   ·rw[fL (C g P.rel.self) e1,f1];rfl
   ·rcases Array.mem_append.1 M with M|M
    ·exact(e4 e (by simpa using dp _ _ _ e M)).mono f3.ext
    ·exact f4 e M
end
theorem iz{z:Nat}(h:dH z ops=true):(z=3\/z=0)/\∃o p:Oper,ops=#[o,p]/\o.guard=none/\p.guard=none/\p.dst=none/\∃d,o.dst=some d/\
 ((∃t s,o.op= .makeInterface t (.const (.s s))/\p.op= .panic (.tmp d))\/(z=3/\∃a b c,o.op= .makeFunc (.func fM) a b/\a.all (lV 3)=true/\b.all (lV 3)=true/\p.op= .defer c/\c.args.isEmpty=true/\c.callee= .value (.tmp d))):=by
 obtain⟨l⟩:=ops;unfold dH at h;split at h
 ·rename_i o p e;simp only at e;subst e;simp only[Bool.and_eq_true,Option.isNone_iff_eq_none]at h;obtain⟨⟨⟨⟨C,B⟩,A⟩,y⟩,f⟩:=h;refine⟨by simpa using C,o,p,rfl,B,A,y, ?_⟩;split at f
  ·rename_i d t s u k i j;have:d=u:=(by simpa using f);subst this;exact⟨d,k, .inl ⟨t,s,i,j⟩⟩
  ·rename_i d g a b c k i j;simp only[Bool.and_eq_true,beq_iff_eq]at f;obtain⟨⟨⟨⟨⟨q,r⟩,x⟩,w⟩,v⟩,n⟩:=f;subst q;split at n
   ·rename_i u m;have:d=u:=(by simpa using n);subst this;rw[r]at i;exact⟨d,k, .inr ⟨rfl,a,b,c,i,x,w,j,v,m⟩⟩
   ·cases n
  ·cases f
 ·cases h
theorem DV{z:Nat}(h:dH z ops=true):dH 3 ops=true:=by
 rcases(iz h).1 with rfl|rfl
 ·exact h
 ·unfold dH at h⊢;split at h
  ·simp only[Bool.and_eq_true]at h⊢;refine⟨⟨⟨⟨rfl,h.1.1.1.2⟩,h.1.1.2⟩,h.1.2⟩, ?_⟩;have a:=h.2;split at a
   ·exact a
   ·simp at a
   ·cases a
  ·cases h
theorem IX{z t:Nat}(h:z=3\/z=0):qL z t=false:=by rcases h with rfl|rfl<;>rfl
section
variable{G T:Nat}{base:List Frame}
theorem Ao(Z:cR G T D ρ wL wM)(hP:bN PL PM){fr':Frame}{cs':List Frame}(m:∀f,aR G D ρ f->fr'=bF f fr)(Y:∀f,aR G D ρ f->cs'=cs.map (bF f)++base)(I:j3 fr)(S:kW fr.kind cs)
  {k:List Item} (H:fr.todo= .inRegion ops [0,1]::k) (hp:dH (dt fr.fn) ops=true) {mL mM J:Bool} {gL:Goroutine} {wL':World} {a0:Array Event} (h:stepG.exec PL mL J fr cs none wL= .go gL wL' a0):
 ∃gM,wL'=wL/\stepG.exec PM mM true fr' cs' none wM= .go gM wM/\ew G D ρ base gL gM:=by
 obtain⟨Q,o,p,rfl,g1,g2,g3,d,hd,l⟩:=iz hp;have M:=m ρ Z.self;have V:fr'.todo= .inRegion #[o,p] [0,1]::k.map (cV ρ):=by rw[M];show fr.todo.map (cV ρ)=_;rw[H];rfl
 have W:(#[o,p]:Array Oper)[0]?=some o:=rfl;have U:∀tm,Region.wanted o (yielded #[o,p] tm)=true:=λtm=>by simp[Region.wanted,g1]
 have A:∀c,o.op≠ .defer c:=λc e=>by rcases l with⟨_,_,h,_⟩|⟨_,_,_,_,h,_⟩<;>rw[h]at e<;>cases e
 have X:=I.todo;rw[H]at X;simp only[kt,Bool.and_eq_true]at X;obtain⟨v,hv,j,L⟩:∃v:Value,(execOp fr.eval o).runT PL wL #[]=(.ok (.value v) wL,#[])/\(∀f,aR G D ρ f->(execOp fr'.eval o).runT PM wM #[]=(.ok (.value (aE f v)) wM,#[]))/\
  ((p.op= .panic (.tmp d)/\∃t s,v= .iface t (.string s))\/∃c,p.op= .defer c/\c.args.isEmpty=true/\c.callee= .value (.tmp d)/\∃a b,v= .func (.func fM) a b):=by
  rcases l with⟨t,s,C,B⟩|⟨Q,a,b,c,C,ha,hb,B,e3,e4⟩
  ·have E:∀(P:Program) (w:World) (ev:Operand->Value) (g:TypeDesc),ev (.const (.string s))= .string s->P.underlying t=some g->(∀n,g≠ .interface n)->(execOp ev o).runT P w #[]=(.ok (.value (.iface t (.string s))) w,#[]):=λP w ev g he F R=>by cases g<;>first|exact absurd rfl (R _)|simp[-Sem.runT_eq,execOp,C,he,Instr.makeInterface,underlying,program,F,bind,Sem.bind,Sem.runT,pure]
   rw[da H W (U _) A]at h;unfold stepG.apply at h;have N:execOp fr.eval o=(do pure (.value (←Instr.makeInterface t (.string s))):Sem Next):=(by unfold execOp;rw[C];rfl);cases F:PL.underlying t with
   |none=>
    have y:(execOp fr.eval o).run PL wL= .halt (.stuck "no such type") wL:=(by rw[N];simp[Instr.makeInterface,underlying,program,F,bind,Sem.bind,stuck,Sem.run]);have i:((execOp fr.eval o).runT PL wL #[]).1= .halt (.stuck "no such type") wL:=(by rw[Sem.runT_fst];exact y);generalize (execOp fr.eval o).runT PL wL #[]=q at h i;obtain⟨q1,q2⟩:=q;simp only at i;subst i;cases J<;>simp[y,GStep.after]at h
   |some g=>
    by_cases R:∃n,g= .interface n
    ·obtain⟨n,rfl⟩:=R;have y:(execOp fr.eval o).run PL wL= .halt (.stuck "MakeInterface: a concrete type expected") wL:=(by rw[N];simp[Instr.makeInterface,underlying,program,F,bind,Sem.bind,stuck,Sem.run,pure]);have i:((execOp fr.eval o).runT PL wL #[]).1= .halt (.stuck "MakeInterface: a concrete type expected") wL:=(by rw[Sem.runT_fst];exact y);generalize (execOp fr.eval o).runT PL wL #[]=q at h i;obtain⟨q1,q2⟩:=q;simp only at i;subst i;cases J<;>simp[y,GStep.after]at h
    ·have K:∀n,g≠ .interface n:=λn e=>R ⟨n,e⟩;exact⟨.iface t (.string s),E PL wL _ g rfl F K,λf _=>by rw[E PM wM fr'.eval g rfl (by rw[←hP.under];exact F) K];simp[aE], .inl ⟨B,_,_,rfl⟩⟩
  ·refine⟨.func (.func fM) (a.map fr.eval) (b.map fr.eval), ?_,λf O=> ?_, .inr ⟨c,B,e3,e4,_,_,rfl⟩⟩
   ·simp[-Sem.runT_eq,execOp,C,Instr.makeFunc,bind,Sem.bind,Sem.runT,pure]
   ·have h1:a.map fr'.eval=(a.map fr.eval).map (aE f):=evs (z:=3) (λx E=>by rw[m f O];exact fc fr x (by rw[Q];exact E)) ha;have h2:b.map fr'.eval=(b.map fr.eval).map (aE f):=evs (z:=3) (λx E=>by rw[m f O];exact fc fr x (by rw[Q];exact E)) hb;simp only[execOp,C,h1,h2];simp[-Sem.runT_eq,Instr.makeFunc,bind,Sem.bind,Sem.runT,pure,aE,jA]
 have hL:stepG.exec PL mL J fr cs none wL= .go {frame:=fr.finish v,callers:=cs,status:= .running,dying:=none} wL:=by
  rw[da H W (U _) A];unfold stepG.apply;have y:(execOp fr.eval o).run PL wL= .ok (.value v) wL:=by rw[←Sem.runT_fst PL _ wL #[],hv]
  cases J<;>simp only[hv,y,↓reduceIte,Bool.false_eq_true]<;>simp[GStep.after,seen]
 rw[hL]at h;simp only[GStep.go.injEq]at h;obtain⟨rfl,rfl,_⟩:=h;have hM:stepG.exec PM mM true fr' cs' none wM= .go {frame:=fr'.finish (aE ρ v),callers:=cs',status:= .running,dying:=none} wM:=by rw[da V W (U _) A];unfold stepG.apply;simp only[j ρ Z.self,↓reduceIte];simp[GStep.after,seen]
 have r:∀u,fr.finish u={fr with tmps:=fr.tmps.setIfInBounds d u,todo:= .inRegion #[o,p] [1]::k}:=λu=>by unfold Frame.finish;rw[H];simp[hd]
 refine⟨_,rfl,hM,⟨λf O=> ?_,Y, ?_,by show kW (fr.finish v).kind cs;rw[dm];exact S,rfl,rfl,rfl,rfl⟩⟩
 ·have C:aE ρ v=aE f v:=by have:=(j ρ Z.self).symm.trans (j f O);simpa using this
  show fr'.finish (aE ρ v)=bF f (fr.finish v);rw[C,m f O,r];unfold Frame.finish;simp only[bF,H,List.map_cons,cV];have:qL (dt fr.fn) d=false:=IX Q;simp[hd,zB f fr.fn fr.tmps d v this]
 ·show j3 (fr.finish v)/\mQ (fr.finish v);rw[r];refine⟨⟨⟨I.defers,I.mode,I.kind,I.round⟩, ?_⟩,λ_ a1 k' e hq=> ?_⟩
  ·simp only[kt,Bool.and_eq_true];exact⟨by simp[kJ,hp],X.2⟩
  ·simp only[List.cons.injEq,Item.inRegion.injEq]at e;obtain⟨⟨rfl,_⟩,_⟩:=e;refine⟨p,d,rfl,g2,g3, ?_⟩;have hs:(fr.tmps.setIfInBounds d v)[d]?=none\/(fr.tmps.setIfInBounds d v)[d]?=some v:=by
    rw[Array.getElem?_setIfInBounds];simp only[↓reduceIte];split
    ·exact .inr rfl
    ·exact .inl rfl
   rcases L with⟨B,t,s,rfl⟩|⟨c,B,e3,e4,a,b,rfl⟩
   ·exact .inl ⟨B,hs.imp id λh=>⟨t,s,h⟩⟩
   ·exact .inr ⟨c,B,e3,e4,hs.imp id λh=>⟨_,_,h⟩⟩
theorem nh{k:List Item}{z:Nat}(j:z=3->fr.roundOf=none)(m:dH z ops=true)(f:fr.todo= .inRegion ops [1]::k)(c:ops[1]?=some o)(l:Region.wanted o (yielded ops fr.tmps)=true):
 stepG.exec P main listen fr cs none w=stepG.apply P listen fr cs none (execOp fr.eval o) w:=by
 obtain⟨p,n,i,rfl,_,_,_,d,_,a⟩:=iz m;have b:i=o:=by simpa using c
 subst b;unfold stepG.exec;simp only[f,c,Option.map_some,Option.getD_some,l,↓reduceIte];unfold stepG.oper;simp only[Frame.oper?,f,c];split
 ·rename_i h g;rcases a with⟨_,_,_,e⟩|⟨e,_⟩
  ·rw[e]at g;cases g
  ·rw[j e]at h;cases h
 ·rfl
theorem Fo{P:Program}{main listen:Bool}{fr:Frame}{cs:List Frame}{w:World}{ops:Array Oper}{k:List Item}(h:∃(o:Oper) (d:Tmp),ops[1]?=some o/\o.guard=none/\o.dst=none/\
 ((o.op= .panic (.tmp d)/\(fr.tmps[d]?=none\/∃t s,fr.tmps[d]?=some (.iface t (.string s))))\/(∃c,o.op= .defer c/\c.args.isEmpty=true/\c.callee= .value (.tmp d)/\(fr.tmps[d]?=none\/∃a b,fr.tmps[d]?=some (.func (.func fM) a b))))) (r:dt fr.fn=3->fr.roundOf=none) (z:dH (dt fr.fn) ops=true) (y:fr.todo= .inRegion ops [1]::k):
 (∃x w' es,stepG.exec P main listen fr cs none w= .ended x w' es)\/∃g,stepG.exec P main listen fr cs none w= .go g w/\g.status= .running/\g.dying=none:=by
 obtain⟨o,d,A,B,p,m⟩:=h;have u:Region.wanted o (yielded ops fr.tmps)=true:=by simp[Region.wanted,B]
 have l:stepG.exec P main listen fr cs none w=stepG.apply P listen fr cs none (execOp fr.eval o) w:=nh r z y A u;rw[l];unfold stepG.apply;have j:fr.tmps[d]?=none->fr.eval (.tmp d)=undef:=λe=>by simp[Frame.eval,e]
 have i:∀v,fr.tmps[d]?=some v->fr.eval (.tmp d)=v:=λv e=>by simp[Frame.eval,e]
 rcases m with⟨n,e|⟨t,s,e⟩⟩|⟨c,n,C,q,e|⟨a,b,e⟩⟩
 ·have f:execOp fr.eval o= .halt (.stuck "Panic: interface value expected"):=by unfold execOp;rw[n];simp only[j e];rfl
  rw[f];left;cases listen<;>simp[-Sem.runT_eq,Sem.runT,Sem.run,GStep.after]
 ·have f:execOp fr.eval o= .halt (.panic (.iface t (.string s))):=by unfold execOp;rw[n];simp only[i _ e];rfl
  rw[f];right;refine⟨iw fr cs (.iface t (.string s)), ?_,rfl,rfl⟩;cases listen<;>simp[-Sem.runT_eq,Sem.runT,Sem.run,GStep.after,iw,seen]
 ·have f:execOp fr.eval o= .halt (.stuck "call: function value expected"):=by unfold execOp resolve;rw[n];simp only[q,j e];rfl
  rw[f];left;cases listen<;>simp[-Sem.runT_eq,Sem.runT,Sem.run,GStep.after]
 ·have f:execOp fr.eval o= .pure (.defer ⟨.fn (.func fM) b,a++c.args.map fr.eval⟩):=by unfold execOp resolve;rw[n];simp only[q,i _ e,Deferred.ofValue];rfl
  rw[f];right;refine⟨_,by cases listen<;>simp[-Sem.runT_eq,Sem.runT,Sem.run,GStep.after,seen]<;>rfl,rfl,rfl⟩
theorem p7{f:Frame}{xs:List Frame}{k:List Item}{z:Nat}(j:f.todo= .inRegion ops (n::rest)::k)(l:ops[n]?=some o)(i:Region.wanted o (yielded ops f.tmps)=true)(a:E2 z o=true)(e:f.roundOf=none):
 stepG.exec P main listen f xs none w=match tryRecover f xs with
  |some (v,ys)=> .go {frame:=f.finish v,callers:=ys,status:= .running,dying:=none} w
  |none=> .go {frame:=f.finish .nilIface,callers:=xs,status:= .running,dying:=none} w:=by
 obtain⟨c,b,g⟩:∃c,o.op= .call c/\c.callee= .builtin .recover:=by
  unfold E2 at a;split at a
  ·rename_i c e;simp only[Bool.and_eq_true]at a;have h:=a.2;split at h
   ·rename_i m;exact⟨c,e,m⟩
   ·cases h
  ·cases a
 have d:execOp f.eval o= .pure .recover:=by unfold execOp resolve;rw[b];simp only[g];rfl
 rw[da j l i (λc e=>by rw[b]at e;cases e),d];unfold stepG.apply;cases listen<;>simp only[Sem.runT,Sem.run,e,↓reduceIte,Bool.false_eq_true]<;>cases tryRecover f xs<;>simp[GStep.after,seen]
theorem kA{a:FuncId}{m:Bool}{f:Frame}{xs:List Frame}{g:Func}{b a_:Array Value}{es:List Deferred}(k:f.defers=⟨.fn (.func a) b,a_⟩::es)(j:P.funcs[a]?=some g)(i:g.body.isSome=true)(h:g.name≠ "runtime.NumGoroutine"):
 unwind P m f xs none w= .go {frame:=Frame.enter P a (a_++b) .deferred,callers:={f with defers:=es}::xs,status:= .running,dying:=none} w:=by
 have e:(invoke (.fn (.func a) b) a_).runT P w #[]=(.ok (.enter a (a_++b)) w,#[]):=by
  have c:(g.name== "runtime.NumGoroutine")=false:=by simpa using h
  have d:g.body.isNone=false:=by rw[Option.isNone_eq_false_iff];exact i
  show(callFunc a (a_++b)).runT P w #[]=_;unfold callFunc
  change (match P.funcs[a]? with|none=>_|some l=>_:Sem Next).runT P w #[]=_
  rw[j];simp only[c,d,Bool.false_eq_true,↓reduceIte];rfl
 unfold unwind;simp only[k];unfold callDeferred;simp only[e];simp[GStep.after,seen]
theorem xJ(Q:cR G T D ρ wL wM){fr':Frame}{cs':List Frame}(n:∀g,aR G D ρ g->fr'=bF g fr)(O:∀g,aR G D ρ g->cs'=cs.map (bF g)++base)(w:j3 fr)(S:mQ fr)(hm:fr.mode= .run)(H:kW fr.kind cs)
  {k:List Item} (z:fr.todo= .inRegion ops [1]::k) (M:dH (dt fr.fn) ops=true) {mL mM I:Bool} {R:Goroutine} {wL':World} {Z:Array Event} (h:stepG.exec PL mL I fr cs none wL= .go R wL' Z):
 ∃gM,wL'=wL/\stepG.exec PM mM true fr' cs' none wM= .go gM wM/\ew G D ρ base R gM:=by
 obtain⟨o,d,V,hg,N,A⟩:=S hm ops k z (DV M);have hz:=(iz M).1;have W:=w.todo;rw[z]at W;simp only[kt,Bool.and_eq_true]at W;have L:dt fr.fn=3->fr.roundOf=none:=λe=>w.round (by rw[e];decide);have m:=n ρ Q.self;have J:fr'.todo= .inRegion ops [1]::k.map (cV ρ):=by rw[m];show fr.todo.map (cV ρ)=_;rw[z];rfl
 have K:dt fr.fn=3->fr'.roundOf=none:=λe=>by rw[m];show fr.roundOf.map ρ=none;rw[L e];rfl
 have u:∀g,aR G D ρ g->fr'.eval (.tmp d)=aE g (fr.eval (.tmp d)):=λg C=>by rw[n g C];exact fc fr _ (by simp only[lV,IX hz];rfl)
 have hw:∀tm,Region.wanted o (yielded ops tm)=true:=λtm=>by simp[Region.wanted,hg]
 rw[nh L M z V (hw _)]at h;rw[nh K M J V (hw _)];have l:fr.tmps[d]?=none->fr.eval (.tmp d)=undef:=λe=>by simp[Frame.eval,e]
 have j:∀v,fr.tmps[d]?=some v->fr.eval (.tmp d)=v:=λv e=>by simp[Frame.eval,e]
 unfold stepG.apply at h⊢;rcases A with⟨P,e|⟨t,s,e⟩⟩|⟨c,P,e2,e3,e|⟨a,b,e⟩⟩
 ·have i:execOp fr.eval o= .halt (.stuck "Panic: interface value expected"):=by unfold execOp;rw[P];simp only[l e];rfl
  rw[i]at h;cases I<;>simp[Sem.run,GStep.after]at h
 ·have F:=j _ e;have E:fr'.eval (.tmp d)= .iface t (.string s):=by rw[u ρ Q.self,F];simp[aE]
  have i:∀r:Operand->Value,r (.tmp d)= .iface t (.string s)->execOp r o= .halt (.panic (.iface t (.string s))):=λr X=>by unfold execOp;rw[P];simp only[X];rfl
  rw[i _ F]at h;rw[i _ E];have Y:R=iw fr cs (.iface t (.string s))/\wL'=wL:=by cases I<;>simp[-Sem.runT_eq,Sem.runT,Sem.run,GStep.after]at h<;>exact⟨h.1.symm,h.2.1.symm⟩
  obtain⟨rfl,rfl⟩:=Y;refine⟨iw fr' cs' (.iface t (.string s)),rfl, ?_,⟨λg C=> ?_,O,⟨w.raise rfl,jI _ _⟩,by rw[iw,jC];exact H,rfl,rfl,rfl,rfl⟩⟩
  ·simp[-Sem.runT_eq,Sem.runT,GStep.after,iw,seen]
  ·show fr'.raise _=bF g (fr.raise _);rw[n g C,ly]
 ·have i:execOp fr.eval o= .halt (.stuck "call: function value expected"):=by unfold execOp resolve;rw[P];simp only[e3,l e];rfl
  rw[i]at h;cases I<;>simp[Sem.run,GStep.after]at h
 ·have F:=j _ e;have B:∀r:Operand->Value,c.args.map r=#[]:=λr=>by have:c.args=#[]:=(by simpa using e2);rw[this];simp
  have i:∀(r:Operand->Value) (x y:Array Value),r (.tmp d)= .func (.func fM) x y->execOp r o= .pure (.defer ⟨.fn (.func fM) y,x⟩):=λr x y X=>by unfold execOp resolve;rw[P];simp only[e3,X,B,Deferred.ofValue,Array.append_empty];rfl
  have E:fr'.eval (.tmp d)= .func (.func fM) (a.map (aE ρ)) (b.map (aE ρ)):=by rw[u ρ Q.self,F];simp[aE,jA]
  rw[i _ _ _ F]at h;rw[i _ _ _ E];have Y:R={frame:={fr with defers:=⟨.fn (.func fM) b,a⟩::fr.defers}.finish undef,callers:=cs,status:= .running,dying:=none}/\wL'=wL:=by cases I<;>simp[-Sem.runT_eq,Sem.runT,Sem.run,GStep.after]at h<;>exact⟨h.1.symm,h.2.1.symm⟩
  obtain⟨rfl,rfl⟩:=Y;have p:∀(f:Frame) (ds:List Deferred) (U:List Item),f.todo= .inRegion ops [1]::U->({f with defers:=ds}:Frame).finish undef={f with defers:=ds,todo:= .inRegion ops []::U}:=λf ds U e=>by unfold Frame.finish;simp only[e,V,Option.bind_some,N]
  refine⟨{frame:={fr' with defers:=⟨.fn (.func fM) (b.map (aE ρ)),a.map (aE ρ)⟩::fr'.defers}.finish undef,callers:=cs',status:= .running,dying:=none},rfl, ?_,⟨λg C=> ?_,O, ?_,by show kW (Frame.finish _ _).kind cs;rw[dm];exact H,rfl,rfl,rfl,rfl⟩⟩
  ·simp[-Sem.runT_eq,Sem.runT,GStep.after,seen]
  ·have q:=(u ρ Q.self).symm.trans (u g C);rw[F]at q;simp only[aE,jA,Value.func.injEq,true_and]at q;have qt:k.map (cV ρ)=k.map (cV g):=by have:=congrArg Frame.todo (m.symm.trans (n g C));simp only[bF,z,List.map_cons,List.cons.injEq]at this;exact this.2
   show({fr' with defers:=_}:Frame).finish undef=bF g (({fr with defers:=_}:Frame).finish undef);rw[p fr _ k z,p fr' _ _ J,q.1,q.2,qt,n g C];simp only[bF,List.map_cons,cV,kb,NR,jA]
  ·show j3 (({fr with defers:=_}:Frame).finish undef)/\mQ (({fr with defers:=_}:Frame).finish undef);rw[p fr _ k z];refine⟨⟨⟨?_,w.mode,w.kind,w.round⟩, ?_⟩,gH λ_ _ e=>by cases e⟩
   ·show dx (_::fr.defers)=true;simp only[dx,List.all_cons,Bool.and_eq_true];exact⟨s_,w.defers⟩
   ·simp only[kt,Bool.and_eq_true];exact⟨by simp[kJ,M],W.2⟩
def Bj(base:List Frame):Prop:=∀c r,base=c::r->∀ch,c.mode≠ .panicking ch
theorem vj(R:cR G T D ρ wL wM)(hb:Bj base){fr':Frame}{cs':List Frame}(w:∀a,aR G D ρ a->fr'=bF a fr)(p:∀a,aR G D ρ a->cs'=cs.map (bF a)++base)(A:j3 fr)(i:kW fr.kind cs)(g:dT fr)
    {k:List Item}  (hz:dt fr.fn=3) (X:fr.todo= .inRegion ops (n::rest)::k) (Y:ops[n]?=some o) (V:Region.wanted o (yielded ops fr.tmps)=true) (W:E2 3 o=true)
 {mL mM lL:Bool} {S:Goroutine} {wL':World} {U:Array Event} (h:stepG.exec PL mL lL fr cs none wL= .go S wL' U):
 ∃K,wL'=wL/\stepG.exec PM mM true fr' cs' none wM= .go K wM/\ew G D ρ base S K:=by
 have l:=w ρ R.self;have t:=p ρ R.self;have Q:fr'.todo= .inRegion ops (n::rest)::k.map (cV ρ):=by rw[l];show fr.todo.map (cV ρ)=_;rw[X];rfl
 have P:Region.wanted o (yielded ops fr'.tmps)=true:=by rw[l];have:yielded ops (bF ρ fr).tmps=yielded ops fr.tmps:=funext λj=>eH ρ fr.fn ops fr.tmps j;rw[this];exact V
 have E:fr.roundOf=none:=A.round (by rw[hz];decide);have C:fr'.roundOf=none:=by rw[l];show fr.roundOf.map ρ=none;rw[E];rfl
 rw[p7 X Y V W E]at h;rw[p7 Q Y P W C];have d:fr'.kind=fr.kind:=by rw[l];rfl
 have H:∀a,aE a Value.nilIface= .nilIface:=λa=>by simp[aE]
 have u:tryRecover fr cs=none->tryRecover fr' cs'=none->∃K,wL'=wL/\(match tryRecover fr' cs' with
  |some (v,L)=>GStep.go {frame:=fr'.finish v,callers:=L,status:= .running,dying:=none} wM
  |none=> .go {frame:=fr'.finish .nilIface,callers:=cs',status:= .running,dying:=none} wM)= .go K wM/\ew G D ρ base S K:=λN M=>by rw[N]at h;simp only[GStep.go.injEq]at h;obtain⟨rfl,rfl,_⟩:=h;rw[M];refine⟨_,rfl,rfl,⟨λa J=> ?_,p,ns A g _,by show kW (fr.finish _).kind cs;rw[dm];exact i,rfl,rfl,rfl,rfl⟩⟩;show fr'.finish _=bF a (fr.finish _);rw[w a J,←fK fr _ A g,H]
 rcases A.kind with c|c
 ·exact u (by simp[tryRecover,c]) (by simp[tryRecover,d,c])
 ·cases cs with
  |nil=>
   refine u (by simp[tryRecover,c]) ?_;rw[t];unfold tryRecover;rw[d,c];simp only[List.map_nil,List.nil_append];cases z:base with
   |nil=>rfl
   |cons x r=>
    simp only;split
    ·rename_i e;exact absurd e (hb x r z _)
    ·rfl
  |cons x r=>
   have I:cs'=bF ρ x::(r.map (bF ρ)++base):=t;have B:(bF ρ x).mode=x.mode:=rfl;by_cases s:∃v b,x.mode= .panicking ({v,recovered:=false,goexit:=false}::b)
   ·obtain⟨v,b,O⟩:=s;have N:tryRecover fr (x::r)=some (v,{x with mode:= .panicking ({v,recovered:=true}::b)}::r):=(by simp only[tryRecover,c,O]);have M:tryRecover fr' cs'=some (v,{bF ρ x with mode:= .panicking ({v,recovered:=true}::b)}::(r.map (bF ρ)++base)):=(by rw[I];simp only[tryRecover,d,c,B,O]);rw[N]at h;simp only[GStep.go.injEq]at h;obtain⟨rfl,rfl,_⟩:=h;rw[M];have m:=i.1.mode;rw[O]at m;simp only[O1,List.all_cons,Bool.and_eq_true]at m;have F:bO v=true:=m.2.1.1;refine⟨_,rfl,rfl,⟨λa J=> ?_,λa J=> ?_,ns A g _, ?_,rfl,rfl,rfl,rfl⟩⟩
    ·show fr'.finish _=bF a (fr.finish _);rw[w a J,←fK fr _ A g,dG a v F]
    ·have q:=(p ρ R.self).symm.trans (p a J);simp only[List.map_cons,List.cons_append,List.cons.injEq]at q;show _::(r.map (bF ρ)++base)=bF a _::(r.map (bF a)++base);rw[q.2];refine congrArg (· ::(r.map (bF a)++base)) ?_;have e:({bF ρ x with mode:= .panicking ({v,recovered:=true}::b)}:Frame)={bF a x with mode:= .panicking ({v,recovered:=true}::b)}:=(by rw[q.1]);exact e
    ·show kW (fr.finish _).kind (({x with mode:=_}:Frame)::r);rw[dm];refine⟨⟨⟨i.1.defers, ?_,i.1.kind,i.1.round⟩,i.1.todo⟩, .inr ⟨c,s_⟩,i.2.2⟩;simp only[O1,List.all_cons,Bool.and_eq_true];exact⟨rfl,⟨F,rfl⟩,m.2.2⟩
   ·have Z:∀(f:Frame) (y:Frame) (L:List Frame),f.kind= .deferred->y.mode=x.mode->tryRecover f (y::L)=none:=λf y L e1 e2=>by
     unfold tryRecover;rw[e1];simp only[e2];split
     ·rename_i v b e;exact absurd ⟨v,b,e⟩ s
     ·rfl
    exact u (Z _ _ _ c rfl) (by rw[I];exact Z _ _ _ (d.trans c) B)
theorem Ar(p:cR G T D ρ wL wM){fr' c:Frame}{cs':List Frame}(y:∀d,aR G D ρ d->fr'=bF d fr)(j:∀d,aR G D ρ d->cs'=(c::cs).map (bF d)++base)(s:j3 fr)(n:kW fr.kind (c::cs))
 (F:fr.defers=[]) {l:List PanicEntry} (v:fr.mode= .panicking l) (C mM:Bool):
 ∃I H,unwind PL C fr (c::cs) none wL= .go I wL/\unwind PM mM fr' cs' none wM= .go H wM/\ew G D ρ base I H:=by
 have g:=y ρ p.self;have o:=j ρ p.self;simp only[List.map_cons,List.cons_append]at o;have E:∀(P:Program) (m:Bool) (f x:Frame) (r:List Frame) (w:World),f.defers=[]->f.mode= .panicking l->ek f->unwind P m f (x::r) none w= .go {frame:=x.raise l,callers:=r,status:= .running,dying:=none} w:=λP m f x r w M L K=>by
  unfold unwind;have J:f.catches P=false:=by
   unfold Frame.catches;split
   ·rename_i e;exact absurd e (K _ _ _ _ _)
   ·rfl
  simp only[M,L,J,Bool.false_eq_true,↓reduceIte]
 have z:Cc l=true:=by have:=s.mode;rw[v]at this;exact this
 have A:ek fr':=λa b c e k h=>by
  rw[g]at h;have:=s.noCall;cases u:fr.todo with
  |nil=>simp[bF,u]at h
  |cons i t=>
   simp only[bF,u,List.map_cons,List.cons.injEq]at h;cases i<;>simp[cV]at h;exact this _ _ _ _ _ u
 refine⟨_,_,E PL C fr c cs wL F v s.noCall,by rw[o];exact E PM mM fr' _ _ wM (by rw[g];simp[bF,F]) (by rw[g];exact v) A,⟨λd B=> ?_,λd B=> ?_,⟨n.1.raise z,jI _ _⟩,by show kW (c.raise l).kind cs;rw[jC];exact n.2.2,rfl,rfl,rfl,rfl⟩⟩
 ·have q:=(j ρ p.self).symm.trans (j d B);simp only[List.map_cons,List.cons_append,List.cons.injEq]at q;show(bF ρ c).raise l=bF d (c.raise l);rw[q.1,ly]
 ·have q:=(j ρ p.self).symm.trans (j d B);simp only[List.map_cons,List.cons_append,List.cons.injEq]at q;exact q.2
theorem uD(E:Env PL PM G)(J:jc PL PM fM)(o:cR G T D ρ wL wM){fr':Frame}{cs':List Frame}(g:∀a,aR G D ρ a->fr'=bF a fr)(t:∀a,aR G D ρ a->cs'=cs.map (bF a)++base)(k:j3 fr)(q:kW fr.kind cs)(H:fr.mode≠ .run)
 {cap:Array Value}  (s:fr.defers=⟨.fn (.func fM) cap,args⟩::ds) (C mM:Bool):
 ∃z y,unwind PL C fr cs none wL= .go z wL/\unwind PM mM fr' cs' none wM= .go y wM/\ew G D ρ base z y:=by
 obtain⟨A,m,n,p,B,w,c,j,u⟩:=J;obtain⟨F,i⟩:=E.fn ρ fM A n;have r:m.name≠ "runtime.NumGoroutine" :=by
  rcases i with⟨_,L,f,_,K⟩|⟨f,_⟩|⟨f,_⟩
  ·rw[p]at f;cases f;exact K
  ·rw[j]at f;cases f
  ·rw[j]at f;cases f
 have x:=g ρ o.self;have h:∀a,aR G D ρ a->fr'.defers=⟨.fn (.func fM) (cap.map (aE a)),args.map (aE a)⟩::ds.map (kb a):=λa d=>by rw[g a d];show fr.defers.map (kb a)=_;rw[s];rfl
 have b:∀a,aR G D ρ a->cap.map (aE ρ)=cap.map (aE a)/\args.map (aE ρ)=args.map (aE a)/\ds.map (kb ρ)=ds.map (kb a):=λa d=>by have:=(h ρ o.self).symm.trans (h a d);simpa[and_assoc]using this
 have I:∀v∈args++cap,jL v=false:=λv l=>by
  refine o.noTab E.tab λa d=> ?_;rcases Array.mem_append.1 l with l|l
  ·exact(mp (b a d).2.1 l).symm
  ·exact(mp (b a d).1 l).symm
 refine⟨_,_,kA s n (by rw[j];rfl) F,kA (h ρ o.self) p (by rw[←w,j];rfl) r,⟨λa d=> ?_,λa d=> ?_, ?_, ?_,rfl,rfl,rfl,rfl⟩⟩
 ·show Frame.enter PM fM _ .deferred=bF a (Frame.enter PL fM _ .deferred);rw[(b a d).1,(b a d).2.1,←Array.map_append];exact ou ⟨A,m,n,p,B,w⟩ _ I (E5 u) .deferred
 ·show{fr' with defers:=_}::cs'=_;rw[(b a d).2.2,g a d,t a d];rfl
 ·refine⟨⟨⟨rfl,rfl, .inr rfl,λ_=>rfl⟩, ?_⟩,gH λ_ _ e=>by cases e⟩;simp only[Frame.enter,n,Option.bind_some,j,Option.getD_some,kt,List.all_nil,Bool.and_true];exact E6 u
 ·refine⟨⟨⟨?_,k.mode,k.kind,k.round⟩,k.todo⟩, .inr ⟨rfl,H⟩,q⟩;have:=k.defers;rw[s]at this;simp only[dx,List.all_cons,Bool.and_eq_true]at this;exact this.2
end
structure kh (PL PM:Program) (G:Nat):Prop extends Env PL PM G where
 ty:EK PL
 mix:PL.follows .mixedOrders=PM.follows .mixedOrders
 ex:j7<PL.funcs.size
 lw:yp<PL.funcs.size
 res:∀(f:FuncId) (fn:Func),PL.funcs[f]?=some fn->∃fn':Func,PM.funcs[f]?=some fn'/\fn'.results=fn.results/\fn.results.all (JS (dt f))=true
 none:∀f:Nat,PL.funcs[f]?=none->PM.funcs[f]?=none
 inits:PL.inits=#[]
 d1:jc PL PM fM
 z3:Lr<PL.funcs.size/\Ls<PL.funcs.size/\fM<PL.funcs.size
def gQ(g:Goroutine):Prop:=g.status= .running/\g.dying=none
section
variable{G T:Nat}{base:List Frame}
theorem ia.quiet{D':Nat->Prop}{a:Nat->Nat}{wL' wM':World}(h:ia G T D ρ wL wM D' a wL' wM')(f:bE wL):bE wL':=by
 intro r o b;by_cases e:D' r
 ·obtain⟨g,k,j,_⟩:=h.rel.obj r e
  grind
 ·have c:r<wL.heap.size:=Classical.byContradiction λi=>e (h.newL r o_ (bH b));rw[h.keepL r c λd=>e (h.ext r d).1]at b;exact f r o b
theorem vc(E:kh PL PM G)(k:cR G T D ρ wL wM){fr' c:Frame}{cs':List Frame}(i:∀a,aR G D ρ a->fr'=bF a fr)(g:∀a,aR G D ρ a->cs'=(c::cs).map (bF a)++base)(u:j3 fr)(h:kW fr.kind (c::cs))
 (B:fr.defers=[]) (A:fr.mode= .returning) (p:PL.funcs[fr.fn]?=none) (y mM:Bool):
 ∃F C,unwind PL y fr (c::cs) none wL= .go F wL/\unwind PM mM fr' cs' none wM= .go C wM/\ew G D ρ base F C:=by
 have o:dt fr.fn=0:=by
  have b:=Array.getElem?_eq_none_iff.1 p;unfold dt;have t:¬fr.fn=j7:=λe=>absurd E.ex (Nat.not_lt.2 (by rw[e]at b;exact b));have s:¬fr.fn=yp:=λe=>absurd E.lw (Nat.not_lt.2 (by rw[e]at b;exact b));have r:¬(fr.fn=Lr\/fr.fn=Ls\/fr.fn=fM):=λe=>by
   rcases e with e|e|e<;>rw[e]at b
   ·exact absurd E.z3.1 (Nat.not_lt.2 b)
   ·exact absurd E.z3.2.1 (Nat.not_lt.2 b)
   ·exact absurd E.z3.2.2 (Nat.not_lt.2 b)
  rw[if_neg t,if_neg s,if_neg r]
 have d:=i ρ k.self;have j:=g ρ k.self;simp only[List.map_cons,List.cons_append]at j;have z:∀(P:Program) (m:Bool) (f:Frame) (x:Frame) (n:List Frame) (w:World),f.defers=[]->f.mode= .returning->f.kind= .normal\/f.kind= .deferred->P.funcs[f.fn]?=none->
  unwind P m f (x::n) none w= .go {frame:=j2 f.kind x (f.tmps.getD 0 undef),callers:=n,status:= .running,dying:=none} w:=λP m f x n w t s r H=>by unfold unwind;simp only[t,s,H,dM r]
 refine⟨_,_,z PL y fr c cs wL B A u.kind p,by rw[j];exact z PM mM fr' _ _ wM (by rw[d];simp[bF,B]) (by rw[d];exact A) (by rw[d];exact u.kind) (by rw[d];exact E.none _ p),⟨λa l=> ?_,λa l=> ?_,yH _ h,uI _ h,rfl,rfl,rfl,rfl⟩⟩
 ·have q:=(g ρ k.self).symm.trans (g a l);simp only[List.map_cons,List.cons_append,List.cons.injEq]at q;show j2 fr'.kind (bF ρ c) _=bF a (j2 fr.kind c _);rw[q.1,←uH a _ h,i a l];show j2 fr.kind _ _=_
  congr 1
  simp only[bF,mf a o,Array.getD_eq_getD_getElem?,Array.getElem?_map];cases fr.tmps[0]? with
  |none=>exact(fS a).symm
  |some v=>rfl
 ·have q:=(g ρ k.self).symm.trans (g a l);simp only[List.map_cons,List.cons_append,List.cons.injEq]at q;exact q.2
theorem i7{m:Bool}(b:P.inits=#[])(a:fr.kind= .normal\/fr.kind= .deferred)(h:doReturn P m fr [] none v w= .go g w' es):g.status≠ .running:=by
 unfold doReturn at h;rcases a with a|a
 all_goals
  simp only[a,b]at h;cases m<;>simp at h;obtain⟨rfl,_⟩:=h;intro e;cases e
theorem FW{j:Option Code}(f:P.inits=#[])(i:gk fr j)(d:fr.roundOf=some l)(e:fr.kind= .normal\/fr.kind= .deferred)
 (h:stepG.exec P main listen fr [] none w= .go g w' es):g.status≠ .running:=by
 unfold stepG.exec at h;cases i with
 |done b=>
  simp only[b,d]at h;obtain⟨c,a⟩:=lU h;split at a
  ·exact i7 f e a
  ·cases a
 |ret b=>
  simp only[b,d]at h;obtain⟨c,a⟩:=lU h;split at a
  ·exact i7 f e a
  ·cases a
 | @exit id _ b k=>
   simp only[b,k,Option.elim_none,d]at h;obtain⟨c,a⟩:=lU h;split at a
   ·exact i7 f e a
   ·cases a
theorem BD(c:P.inits=#[])(b:fr.kind= .normal\/fr.kind= .deferred)(e:fr.defers=[])(d:fr.mode= .returning)
 (h:unwind P main fr [] none w= .go g w' es):g.status≠ .running:=by
 unfold unwind at h;simp only[e,d]at h;split at h
 ·exact i7 c b h
 ·obtain⟨f,a⟩:=lU h;split at a
  ·exact i7 c b a
  ·cases a
  ·cases a
theorem kK(s:Sem Value)(w:World)(f:FuncId)(args:Array Value)(w':World):(do pure (.value (←s)):Sem Next).run PL w≠ .ok (.enter f args) w':=by
 intro e;rw[Sem.run_bind]at e;cases a:s.run PL w with
 |ok x b=>rw[a]at e;cases e
 |halt x b=>rw[a]at e;cases e
theorem Lt(a:Nat->Nat)(b:fr.fn=j7)(hs:jL (fr.eval (.tmp du))=false):(bF a fr).eval (.tmp du)=aE a (fr.eval (.tmp du)):=by
 simp only[Frame.eval,bF,Array.getD_eq_getD_getElem?]at hs⊢;rw[mg a fr.fn fr.tmps du (by simp[b,gj,mt])];cases c:fr.tmps[du]? with
 |none=>exact(fS a).symm
 |some v=>
  rw[c]at hs;simp only[Option.getD_some]at hs;simp[mF,b,gj,iP,hs]
theorem I6{z:Nat}(h:yS z o=true)(d:¬E2 z o=true)(b:¬mN z o.op=true)(c:(o.dst).any (qL z)=false):z=1/\o.op= .load pq (.tmp du):=by
 unfold yS at h;simp only[Bool.or_eq_true,Bool.and_eq_true]at h;rcases h with(h|h)|⟨a,h⟩
 ·exact absurd h.1 b
 ·exact absurd h d
 ·have a:z=1:=by simpa using a
  refine⟨a, ?_⟩;split at h
  ·rename_i e;simp only[Bool.and_eq_true,beq_iff_eq]at h;rw[a,h.2]at c;simp[mt]at c
  ·rename_i e;simp only[Bool.and_eq_true,beq_iff_eq]at h;rw[e,h.1.1,h.1.2]
  ·cases h
theorem FB(h:yS 1 o=true)(b:o.dst=some du):∃t a,o.op= .indexAddr t (.global eP) a/\lV 1 a=true:=by
 unfold yS at h;simp only[Bool.or_eq_true,Bool.and_eq_true,b]at h;rcases h with(h|h)|⟨c,h⟩
 ·simp[mt]at h
 ·unfold E2 at h;split at h<;>simp at h
 ·split at h
  ·rename_i e;simp only[Bool.and_eq_true,beq_iff_eq]at h;exact⟨_,_,by rw[e,h.1.1],h.1.2⟩
  ·simp at h
  ·cases h
theorem O0{z:Nat}(h:yS z o=true)(e:¬E2 z o=true)(a:¬(o.dst).any (qL z)=false):z=1/\o.dst=some du:=by
 unfold yS at h;simp only[Bool.or_eq_true,Bool.and_eq_true]at h;rcases h with(h|h)|⟨b,h⟩
 ·exact absurd (by simpa using h.2) a
 ·exact absurd h e
 ·have b:z=1:=by simpa using b
  subst b;refine⟨rfl, ?_⟩;cases c:o.dst with
  |none=>rw[c]at a;exact absurd rfl a
  |some d=>rw[c]at a;simp only[Option.any_some,mt,Bool.not_eq_false,beq_iff_eq]at a;rw[a]
theorem oX(E:kh PL PM G)(hb:Bj base)(Q:cR G T D ρ wL wM)(hP:bE wL)(hR:ji wL wM){gL gM Y:Goroutine}(hg:ew G D ρ base gL gM){mL mM lL:Bool}{wL':World}{ar:Array Event}
 (h:stepG PL mL gL wL lL= .go Y wL' ar) (hT:wL'.drawn<=T) (Z:gQ Y) (hE:∀f args w',j4 PL gL.frame wL f args w'->jc PL PM f):
 ∃D' m B wM' I,stepG PM mM gM wM= .go B wM' I/\ew G D' m base Y B/\ia G T D ρ wL wM D' m wL' wM'/\∀e∈I,iL D' m e\/uW e:=by
 obtain⟨v,z,⟨P,al⟩,y,h1,h2,h3,h4⟩:=hg;obtain⟨A,cs,st,dy,of⟩:=gL;obtain⟨R,V,aw,ay,a0⟩:=gM;simp only at v z P y h1 h2 h3 h4;subst h1 h2 h3 h4;have a6:=v ρ Q.self;have a5:R.mode=A.mode:=by rw[a6];rfl
 have H:(∃D' m B wM' I,stepG PM mM {frame:=R,callers:=V,status:= .running,dying:=none,offers:=a0} wM= .go B wM' I/\ew G D' m base Y B/\ia G T D ρ wL wM D' m wL' wM'/\∀e∈I,iL D' m e)->
  ∃D' m B wM' I,stepG PM mM {frame:=R,callers:=V,status:= .running,dying:=none,offers:=a0} wM= .go B wM' I/\ew G D' m base Y B/\ia G T D ρ wL wM D' m wL' wM'/\∀e∈I,iL D' m e\/uW e:=
  λ⟨D',m,B,wM',I,K,J,O,q4⟩=>⟨D',m,B,wM',I,K,J,O,λe he=> .inl (q4 e he)⟩
 have p:∀B,wL'=wL->stepG PM mM {frame:=R,callers:=V,status:= .running,dying:=none,offers:=a0} wM= .go B wM->ew G D ρ base Y B->
  ∃D' m B wM' I,stepG PM mM {frame:=R,callers:=V,status:= .running,dying:=none,offers:=a0} wM= .go B wM' I/\ew G D' m base Y B/\ia G T D ρ wL wM D' m wL' wM'/\∀e∈I,iL D' m e\/uW e:=
  λB e K J=>by subst e;exact⟨D,ρ,B,wM,_,K,J,ia.refl Q,λe he=>by simp at he⟩
 by_cases hm:A.mode= .run
 ·have hL:stepG PL mL {frame:=A,callers:=cs,status:= .running,dying:=none,offers:=of} wL lL=stepG.exec PL mL lL A cs none wL:=by unfold stepG;simp only[hm]
  have hM:stepG PM mM {frame:=R,callers:=V,status:= .running,dying:=none,offers:=a0} wM=stepG.exec PM mM true R V none wM:=by unfold stepG;simp only[a5,hm]
  rw[hL]at h;rw[hM]at H p⊢;by_cases S:∃t,bZ A=some t
  ·obtain⟨t,S⟩:=S;obtain⟨X,u,K,J,O⟩:=zJ (PL:=PL) (PM:=PM) Q v z P y S mL mM lL true;rw[K]at h;cases h;exact p u rfl J O
  have U:∀j,gk A j->(A.roundOf=none->j=none\/j=some .ret)->∃D' m B wM' I,stepG.exec PM mM true R V none wM= .go B wM' I/\ew G D' m base Y B/\ia G T D ρ wL wM D' m wL' wM'/\∀e∈I,iL D' m e\/uW e:=by
   intro j hj hn;cases a1:A.roundOf with
   |none=>
    have ap:EH A:=by
     refine⟨a1, ?_⟩;cases hj with
     |done C=>exact .inl C
     |ret C=>exact .inr ⟨_,C⟩
     |exit C he=>rcases hn a1 with e|e<;>cases e
    obtain⟨X,u,K,J,O⟩:=Gj (PL:=PL) (PM:=PM) Q v z P y ap mL mM lL true;rw[K]at h;cases h;exact p u rfl J O
   |some l=>
    cases cs with
    |nil=>exact absurd Z.1 (FW E.inits hj a1 P.kind h)
    |cons c cs=>exact H (Aa E.toEnv Q v z P y hj a1 h hT)
  have hi:=P.todo;cases C:A.todo with
  |nil=>exact U none (.done C) λ_=> .inl rfl
  |cons i k=>
   rw[C]at hi;simp only[kt,Bool.and_eq_true]at hi;cases i with
   |code c=>
    cases c with
    |ret=>exact U _ (.ret C) λ_=> .inr rfl
    |exit id=>
     cases he:exitTo id k with
     |some t=>exact absurd ⟨t,by simp only[bZ,C,he]⟩ S
     |none=>
      refine U _ (.exit C he) λa1=> ?_;unfold stepG.exec at h;simp only[C,he,Option.elim_none,a1]at h;simp at h
    |goto l=>simp[kJ,jb]at hi
    |refuse av=>unfold stepG.exec at h;simp only[C]at h;cases h
    |rangeFunc x ps a b=>exact H (zG E.toEnv Q hP v z P y C h hT Z.1 Z.2 hm hE)
    |region id L aj=>
     cases aj with
     |false=>exact absurd ⟨_,by simp only[bZ,C]<;>rfl⟩ S
     |true=>
      obtain⟨D',m,u,wM',K,J,O⟩:=CS (mM:=mM) (lM:=true) E.toEnv E.mix Q v z P y C h hT;exact⟨D',m,u,wM',_,K,J,O,λe he=>by simp at he⟩
    |cond x a b=>
     cases hx:A.eval x with
     |bool q=>exact absurd ⟨_,by simp only[bZ,C,hx];rfl⟩ S
     |_=>unfold stepG.exec at h;simp only[C,hx]at h;cases h
    |_=>exact absurd ⟨_,by simp only[bZ,C]<;>rfl⟩ S
   |inRangeFunc l=>unfold stepG.exec at h;simp only[C]at h;cases h
   |beginRound=>exact H (AQ E.toEnv Q hP v z P y C h hT Z.1 Z.2)
   |endRangeFunc l=>exact H (vx E.toEnv Q hP v z P y C h hT)
   |call d w r s=>simp[kJ]at hi
   |extern r a=>simp[kJ]at hi
   |inRegion L ad=>
    cases ad with
    |nil=>exact absurd ⟨_,by simp only[bZ,C]<;>rfl⟩ S
    |cons n W=>
     by_cases ab:L.all (yS (dt A.fn))=true
     rotate_left
     ·have af:dH (dt A.fn) L=true/\((n::W==[0,1])=true\/(n::W==[1])=true\/(n::W==[])=true):=by
       have:=hi.1;simp only[kJ,Bool.or_eq_true,Bool.and_eq_true]at this;rcases this with h|⟨h,(h2|h2)|h2⟩
       ·exact absurd h ab
       ·exact⟨h, .inl h2⟩
       ·exact⟨h, .inr (.inl h2)⟩
       ·exact⟨h, .inr (.inr h2)⟩
      have ag:=af.1;rcases af.2 with e|e|e
      ·rw[eq_of_beq e]at C;obtain⟨u,K,J,O⟩:=Ao (mM:=mM) Q E.same v z P y C ag h;exact p u K J O
      ·rw[eq_of_beq e]at C;obtain⟨u,K,J,O⟩:=xJ (PM:=PM) (mM:=mM) Q v z P al hm y C ag h;exact p u K J O
      ·cases e
     have a4:rc A:=λau j ak k' e=>by rw[C]at e;simp only[List.cons.injEq,Item.inRegion.injEq]at e;rw[←e.1.1];exact ab
     cases ho:L[n]? with
     |none=>
      have hw:((L[n]?).map (Region.wanted · (yielded L A.tmps))).getD false=false:=(by rw[ho];rfl);have N:dT A:=And.intro (λo d h1=>by simp only[Frame.oper?,C,ho]at h1;cases h1) a4
      obtain⟨X,u,K,J,O⟩:=oY (PL:=PL) (PM:=PM) Q v z P y N C hw mL mM lL true;rw[K]at h;cases h;exact p u rfl J O
     |some o=>
      have a8:yS (dt A.fn) o=true:=Array.all_eq_true'.1 ab o (Array.mem_of_getElem? ho);have aa:A.oper?=some o:=(by simp only[Frame.oper?,C,ho]);by_cases hu:E2 (dt A.fn) o=true
      ·have hz:dt A.fn=3:=by
        unfold E2 at hu;split at hu
        ·simp only[Bool.and_eq_true]at hu;simpa using hu.1
        ·cases hu
       have F:dT A:=⟨λo' d _ _=>by rw[hz];rfl,a4⟩;cases hw:Region.wanted o (yielded L A.tmps)with
       |false=>
        obtain⟨X,u,K,J,O⟩:=oY (PL:=PL) (PM:=PM) Q v z P y F C (by rw[ho];simpa using hw) mL mM lL true;rw[K]at h;cases h;exact p u rfl J O
       |true=>
        rw[hz]at hu;obtain⟨u,K,J,O⟩:=vj (PM:=PM) (mM:=mM) Q hb v z P y F hz C ho hw hu h;exact p u K J O
      by_cases N:(o.dst).any (qL (dt A.fn))=false
      ·have F:dT A:=And.intro (λo' d e1 e2=>by rw[aa]at e1;cases e1;rw[e2]at N;simpa using N) a4
       cases hw:Region.wanted o (yielded L A.tmps)with
       |false=>
        obtain⟨X,u,K,J,O⟩:=oY (PL:=PL) (PM:=PM) Q v z P y F C (by rw[ho];simpa using hw) mL mM lL true;rw[K]at h;cases h;exact p u rfl J O
       |true=>
        by_cases a2:mN (dt A.fn) o.op=true
        ·have aq:∀f args w1,(execOp A.eval o).run PL wL= .ok (.enter f args) w1->jc PL PM f:=λf args w1 e=>hE f args w1 ⟨hm, .inl ⟨L,n,W,k,o,C,ho,hw,a2,N,e⟩⟩;exact H (Cb E.toEnv Q hP v z P y F C ho hw a2 aq (λl f ae a b w1 e=>Ca hP (E.fn ρ) A.eval o a2 e) h hT Z.1 Z.2)
        ·obtain⟨hf,ac⟩:=I6 a8 hu a2 N;have a9:A.fn=j7:=Et.1 hf;cases hs:jL (A.eval (.tmp du))with
         |true=>
          obtain⟨u,I,K,J,O,q4⟩:=Cu (mM:=mM) E.toEnv E.ty Q hP hR v z P y C ho hw a9 ac hs F h Z.1 Z.2;subst K;exact⟨D,ρ,u,wM,I,J,O,ia.refl Q,λe he=> .inr (q4 e he)⟩
         |false=>
          have ah:∀c,o.op≠ .defer c:=λc e=>by rw[ac]at e;cases e
          have an:R.todo= .inRegion L (n::W)::k.map (cV ρ):=(by rw[a6];show A.todo.map (cV ρ)=_;rw[C];rfl);have am:Region.wanted o (yielded L R.tmps)=true:=by rw[a6];have:yielded L (bF ρ A).tmps=yielded L A.tmps:=funext λj=>eH ρ A.fn L A.tmps j;rw[this];exact hw
          have a7:∀ev:Operand->Value,execOp ev o=(do pure (.value (←Instr.loadAt pq (ev (.tmp du)))):Sem Next):=λev=>by unfold execOp;rw[ac]
          have ai:∀m,aR G D ρ m->aF m PL PM (fy m) (execOp A.eval o) (execOp R.eval o):=λm hA=>by rw[a7,a7,v m hA,Lt m a9 hs];exact ce (gO E.same pq _)
          rw[da C ho hw ah]at h;rw[da an ho am ah]at H⊢;refine H (kB E.tab E.load E.store Q v z P y F ai (by rw[a7];exact fJ _) (λx w1 e=>dz (ai ρ Q.self) wL hP x w1 e) (λf args w1 e=> ?_) (λl f ae a b w1 e=> ?_) h hT Z.1 Z.2)
          ·rw[a7]at e;exact absurd e (kK _ _ _ _ _)
          ·rw[a7]at e;exact absurd e (iO _ _ _ _ _ _ _ _)
      ·have hz:A.fn=j7/\o.dst=some du:=(O0 a8 hu N).imp Et.1 id;obtain⟨t,ix,a2,hx⟩:=FB (by rw[hz.1,gj]at a8;exact a8) hz.2;cases hw:Region.wanted o (yielded L A.tmps)with
       |false=>
        obtain⟨X,u,K,J,O⟩:=xG (PL:=PL) (PM:=PM) Q v z P y C ho hz.1 hz.2 (by rw[ho];simpa using hw) mL mM lL true;rw[K]at h;cases h;exact p u rfl J O
       |true=>
        exact H (zM (mM:=mM) E.toEnv Q hP v z P y C ho hw hz.1 a2 hx hz.2 h hT Z.1 Z.2)
   |_=>exact absurd ⟨_,by simp only[bZ,C]<;>rfl⟩ S
 ·have hL:stepG PL mL {frame:=A,callers:=cs,status:= .running,dying:=none,offers:=of} wL lL=unwind PL mL A cs none wL:=by
   unfold stepG;cases M:A.mode with
   |run=>exact absurd M hm
   |_=>simp only[M]
  have hM:stepG PM mM {frame:=R,callers:=V,status:= .running,dying:=none,offers:=a0} wM=unwind PM mM R V none wM:=by
   unfold stepG;cases M:A.mode with
   |run=>exact absurd M hm
   |_=>simp only[a5,M]
  rw[hL]at h;rw[hM]at H p⊢;cases hd:A.defers with
  |nil=>
   cases cs with
   |nil=>
    cases M:A.mode with
    |run=>exact absurd M hm
    |returning=>exact absurd Z.1 (BD E.inits P.kind hd M h)
    |panicking ch=>
     exfalso;have a3:=P.mode;rw[M]at a3;unfold unwind at h;simp only[hd,M]at h;split at h
     ·cases h
     ·have ao:ch.head?.any (·.goexit)=false:=by
       cases ch with
       |nil=>rfl
       |cons e r=>
        simp only[O1,List.all_cons,Bool.and_eq_true]at a3;simpa using a3.2.1.2
      simp only[ao,Bool.false_eq_true,↓reduceIte]at h;split at h
      ·simp only[GStep.go.injEq]at h;obtain⟨rfl,_,_⟩:=h;exact absurd Z.2 s_
      ·cases h
      ·cases h
   |cons c cs=>
    cases M:A.mode with
    |run=>exact absurd M hm
    |panicking ch=>
     obtain⟨X,u,K,J,O⟩:=Ar (PL:=PL) (PM:=PM) Q v z P y hd M mL mM;rw[K]at h;cases h;exact p u rfl J O
    |returning=>
     cases hf:PL.funcs[A.fn]? with
     |none=>
      obtain⟨X,u,K,J,O⟩:=vc E Q v z P y hd M hf mL mM;rw[K]at h;cases h;exact p u rfl J O
     |some fn=>
      obtain⟨ax,a9,hr,a3⟩:=E.res _ _ hf;exact H (xW E.toEnv Q v z P y hd M hf a9 hr a3 h hT)
  |cons d ds=>
   have:=P.defers;rw[hd]at this;simp only[dx,List.all_cons,Bool.and_eq_true]at this;obtain⟨tg,args⟩:=d;cases tg with
   |collected b=>exact H (Cl E.toEnv Q hP v z P y hm hd h hT)
   |fn f az=>
    cases f with
    |func g=>
     have hg:g=fM:=(by simpa using this.1);subst hg;obtain⟨X,u,K,J,O⟩:=uD E.toEnv E.d1 Q v z P y hm hd mL mM;rw[K]at h;cases h;exact p u rfl J O
    |_=>simp at this
   |_=>simp at this
end
def dY:GStep->Prop
 | .go g w _=>g.dying≠none\/(bE w/\gQ g)
 | .ended ..=>True
 |_=>False
theorem dY.after{x:GStep}(h:dY x):dY (GStep.after es x):=by cases x<;>exact h
theorem CO(m:String):dY (endFatal P fr cs none m w):=by
 unfold endFatal;dsimp only;split
 ·exact .inl s_
 ·trivial
 ·trivial
theorem jT{s:Sem Next}(A:cK P s)(z:∀n w',s.run P w= .ok n w'->bE w')(y:∀x w',s.run P w= .halt x w'->(eT x\/∃v,x= .panic v)/\bE w'):dY (stepG.apply P listen fr cs none s w):=by
 have j:(if listen=true then s.runT P w #[]else(s.run P w,#[])).1=s.run P w:=by
  split
  ·exact Sem.runT_fst P s w #[]
  ·rfl
 unfold stepG.apply;generalize (if listen=true then s.runT P w #[]else(s.run P w,#[]))=q at j;obtain⟨r,B⟩:=q;simp only at j;subst j;cases i:s.run P w with
 |ok n e=>
  have t:=A w n e i;have d:=z n e i;refine dY.after ?_;cases n with
  |value v=>exact .inr ⟨d,rfl,rfl⟩
  |skip=>exact .inr ⟨d,rfl,rfl⟩
  |enter f p=>exact .inr ⟨d,rfl,rfl⟩
  |round l f o a b=>exact .inr ⟨d,rfl,rfl⟩
  |_=>simp[zT]at t
 |halt x e=>
  obtain⟨g,d⟩:=y x e i;refine dY.after ?_;cases x with
  |panic v=>exact .inr ⟨d,rfl,rfl⟩
  |goexit=>rcases g with h|⟨_,h⟩<;>cases h
  |blocked=>rcases g with h|⟨_,h⟩<;>cases h
  |waiting=>rcases g with h|⟨_,h⟩<;>cases h
  |unsupported u=>
   cases u with
   |initOrder k=>rcases g with h|⟨_,h⟩<;>cases h
   |_=>trivial
  |stuck m=>trivial
  |exit c=>trivial
  |throw m=>exact .inl s_
  |fatal m=>exact CO m
theorem iX(d:P.inits=#[])(a:fr.kind= .normal\/fr.kind= .deferred)(v:Value)(b:bE w):dY (doReturn P true fr cs none v w):=by
 cases cs with
 |cons c cs=>
  rw[dM a];exact .inr ⟨b,rfl,rfl⟩
 |nil=>rcases a with a|a<;>simp[doReturn,a,d,dY]
section
variable{G:Nat}
theorem JC(G:Nat):aR G (λ_=>False) id id:=⟨⟨λ_ _ h=>h,λ_=>Iff.rfl⟩,λ_ h=>h.elim⟩
theorem zq{k:List Item}(d:j3 fr)(a:mQ fr)(f:fr.mode= .run)(b:fr.todo= .inRegion ops [1]::k)(c:dH (dt fr.fn) ops=true)(h:bE w):dY (stepG.exec P true true fr cs none w):=by
 rcases Fo (P:=P) (main:=true) (listen:=true) (cs:=cs) (w:=w) (a f ops k b (DV c)) (λe=>d.round (by rw[e];decide)) c b with⟨x,w',es,e⟩|⟨g,e,h1,h2⟩
 ·rw[e];trivial
 ·rw[e];exact .inr ⟨h,h1,h2⟩
theorem xY{k:List Item}{z:Nat}(a:fr.roundOf=none)(d:fr.todo= .inRegion ops (n::rest)::k)(e:ops[n]?=some o)(b:Region.wanted o (yielded ops fr.tmps)=true)(c:E2 z o=true)(f:bE w):dY (stepG.exec P true true fr cs none w):=by rw[p7 d e b c a];split<;>exact .inr ⟨f,rfl,rfl⟩
theorem Fa(E:kh PL PM G){o:Option (Array CommCase×CommShape)}(ok:j3 fr)(mid:mQ fr)(hP:bE w):
 dY (stepG PL true {frame:=fr,callers:=cs,status:= .running,dying:=none,offers:=o} w):=by
 by_cases hm:fr.mode= .run
 ·have hL:stepG PL true {frame:=fr,callers:=cs,status:= .running,dying:=none,offers:=o} w=stepG.exec PL true true fr cs none w:=by unfold stepG;simp only[hm]
  rw[hL];have hrun:∀t:List Item,dY (.go {frame:={fr with todo:=t},callers:=cs,status:= .running,dying:=none} w):=λt=> .inr ⟨hP,rfl,rfl⟩;by_cases hpl:∃t,bZ fr=some t
  ·obtain⟨t,hpl⟩:=hpl;rw[jF hpl];exact hrun t
  have hend:∀l (j:Option Code) v w1,j.all (jb 0)=true->((Instr.endRound l j).runT PL w #[]).1= .ok v w1->bE w1:=λl j v w1 hj e=>by rw[Sem.runT_fst]at e;exact dn (sJ (ρ:=id) (PM:=PM) l j hj) w hP v w1 e
  have hleave:∀j,gk fr j->dY (stepG.exec PL true true fr cs none w):=by
   intro j hj;cases hro:fr.roundOf with
   |none=>
    unfold stepG.exec;cases hj with
    |done ht=>simp only[ht,hro];exact .inr ⟨hP,rfl,rfl⟩
    |ret ht=>simp only[ht,hro];exact .inr ⟨hP,rfl,rfl⟩
    |exit ht he=>simp only[ht,he,Option.elim_none,hro];trivial
   |some l=>
    unfold stepG.exec;cases hj with
    |done ht=>
     simp only[ht,hro];refine dY.after ?_;split
     ·rename_i v w1 hr;exact iX E.inits ok.kind _ (hend l _ v w1 rfl hr)
     ·trivial
    |ret ht=>
     simp only[ht,hro];refine dY.after ?_;split
     ·rename_i v w1 hr;exact iX E.inits ok.kind _ (hend l _ v w1 rfl hr)
     ·trivial
    |exit ht he=>
     simp only[ht,he,Option.elim_none,hro];refine dY.after ?_;split
     ·rename_i v w1 hr;exact iX E.inits ok.kind _ (hend l _ v w1 rfl hr)
     ·trivial
  have hi:=ok.todo;cases ht:fr.todo with
  |nil=>exact hleave none (.done ht)
  |cons i k=>
   rw[ht]at hi;simp only[kt,Bool.and_eq_true]at hi;cases i with
   |code c=>
    cases c with
    |ret=>exact hleave _ (.ret ht)
    |exit id=>
     cases he:exitTo id k with
     |some t=>exact absurd ⟨t,by simp only[bZ,ht,he]⟩ hpl
     |none=>exact hleave _ (.exit ht he)
    |goto l=>simp[kJ,jb]at hi
    |refuse why=>unfold stepG.exec;simp only[ht];trivial
    |rangeFunc x ps a b=>
     have hi1:=hi.1;simp only[kJ,jb,Bool.and_eq_true]at hi1;obtain⟨⟨⟨hz,hx⟩,ha⟩,hbb⟩:=hi1;have hfn:dt fr.fn=0:=(by simpa using hz);rw[hfn]at ha hbb hx;have hf:=Sem.runT_fst PL (Instr.enterLoop fr.fn fr.tmps ps a b fr.roundOf) w #[];cases hr:(Instr.enterLoop fr.fn fr.tmps ps a b fr.roundOf).runT PL w #[]with
     |mk r es0=>
      rw[hr]at hf;cases r with
      |ok y w1=>
       obtain⟨l,mark⟩:=y;rw[fL ht hr];refine dY.after ?_;have hP1:bE w1:=dn (mA (ρ:=id) (PM:=PM) fr.fn fr.tmps ps a b fr.roundOf ha hbb hfn) w hP _ _ hf.symm;have hs1:aF id PL PM (fy id) (cJ (bW fr k l mark) x l) (cJ (bF id (bW fr k l mark)) x (id l)):=
        kC E.same (E.fn id) (fc (bW fr k l mark) x (by show lV (dt fr.fn) x=true;rw[hfn];exact hx)) l
       exact jT (kN (E.fn id) _ x l) (λy w' e=>dn hs1 w1 hP1 y w' e) (λy w' e=>⟨dz hs1 w1 hP1 y w' e,g6 hs1 w1 hP1 y w' e⟩)
      |halt y w1=>
       unfold stepG.exec;simp only[ht,hr];trivial
    |region id ops draw=>
     cases draw with
     |false=>exact absurd ⟨_,by simp only[bZ,ht]<;>rfl⟩ hpl
     |true=>
      obtain⟨n,w1,hn⟩:=uE PL (.order fr.fn id) w;rw[lH ht hn];exact .inr ⟨dn (ρ:=λx=>x) (PM:=PM) (f:=λx:Nat=>x) (s:=choose (.order fr.fn id)) (s':=choose (.order fr.fn id)) (.choose λn=> .pure n) w hP n w1 hn,rfl,rfl⟩
    |cond x a b=>
     cases hx:fr.eval x with
     |bool q=>exact absurd ⟨_,by simp only[bZ,ht,hx]<;>rfl⟩ hpl
     |_=>unfold stepG.exec;simp only[ht,hx];trivial
    |_=>exact absurd ⟨_,by simp only[bZ,ht]<;>rfl⟩ hpl
   |inRangeFunc l=>unfold stepG.exec;simp only[ht];trivial
   |beginRound=>
    rw[jQ ht];have hal:aF id PL PM (fy id) (gC fr) (gC (bF id fr)):=by
     unfold gC;show aF id PL PM (fy id) (do fr.roundOf.elim _ Instr.beginRound;pure .skip) (do(fr.roundOf.map id).elim _ Instr.beginRound;pure .skip);cases fr.roundOf with
     |none=>exact .dead trivial
     |some l=>exact yI (oM E.same l)
    exact jT (rp _) (λy w' e=>dn hal w hP y w' e) λy w' e=>⟨dz hal w hP y w' e,g6 hal w hP y w' e⟩
   |endRangeFunc l=>
    unfold stepG.exec;simp only[ht];refine dY.after ?_;split
    ·rename_i j w1 hr;rw[Sem.runT_fst]at hr;exact .inr ⟨dn (mB (ρ:=id) E.same l) w hP j w1 hr,rfl,rfl⟩
    ·rename_i v w1 hr;rw[Sem.runT_fst]at hr;exact .inr ⟨g6 (mB (ρ:=id) E.same l) w hP _ w1 hr,rfl,rfl⟩
    ·trivial
   |call d w r s=>simp[kJ]at hi
   |extern r a=>simp[kJ]at hi
   |inRegion ops todo=>
    cases todo with
    |nil=>exact absurd ⟨_,by simp only[bZ,ht]<;>rfl⟩ hpl
    |cons n rest=>
     cases hw:((ops[n]?).map (Region.wanted · (yielded ops fr.tmps))).getD false with
     |false=>
      rw[jq ht hw];exact .inr ⟨hP,rfl,rfl⟩
     |true=>
      cases ho:ops[n]? with
      |none=>rw[ho]at hw;cases hw
      |some oo=>
       rw[ho]at hw;have hw':Region.wanted oo (yielded ops fr.tmps)=true:=hw;by_cases hop:mN (dt fr.fn) oo.op=true
       ·rw[jr ht ho hw' hop];have hal:=yK (ρ:=id) (z:=dt fr.fn) (ev:=fr.eval) (ev':=λx=>aE id (fr.eval x)) E.same (E.toEnv.far (JC G)) (E.fn id) (λx _=>rfl) oo hop;exact jT (wN (E.fn id) fr.eval oo hop) (λy w' e=>dn hal w hP y w' e) λy w' e=>⟨dz hal w hP y w' e,g6 hal w hP y w' e⟩
       by_cases hnp:ops.all (yS (dt fr.fn))=true
       rotate_left
       ·have hi1:=hi.1;simp only[kJ,Bool.or_eq_true,Bool.and_eq_true]at hi1;rcases hi1 with h|⟨hp,(h2|h2)|h2⟩
        ·exact absurd h hnp
        ·exfalso;obtain⟨hz,o1,p1,rfl,_,_,_,d,_,hcase⟩:=iz hp;have e0:=eq_of_beq h2;simp only[List.cons.injEq]at e0;rw[e0.1]at ho;have ho:o1=oo:=(by simpa using ho);subst ho;refine hop ?_;rcases hcase with⟨t,s,e1,_⟩|⟨hz,a,b,c,e1,ha,hb,_⟩
         ·rw[e1];rfl
         ·rw[e1,hz];simp[mN,oh,ha,hb]
        ·rw[eq_of_beq h2]at ht;exact zq ok mid hm ht hp hP
        ·cases h2
       have hoo:yS (dt fr.fn) oo=true:=Array.all_eq_true'.1 hnp oo (Array.mem_of_getElem? ho);by_cases hu:E2 (dt fr.fn) oo=true
       ·have hz:dt fr.fn=3:=by
         unfold E2 at hu;split at hu
         ·simp only[Bool.and_eq_true]at hu;simpa using hu.1
         ·cases hu
        exact xY (ok.round (by rw[hz];decide)) ht ho hw' hu hP
       ·have hsp:(∃t x ix,oo.op= .indexAddr t x ix)\/∃t x,oo.op= .load t x:=by
         unfold yS at hoo;simp only[Bool.or_eq_true,Bool.and_eq_true]at hoo;rcases hoo with(h|h)|⟨_,h⟩
         ·exact absurd h.1 hop
         ·exact absurd h hu
         ·split at h
          ·rename_i e;exact .inl ⟨_,_,_,e⟩
          ·rename_i e;exact .inr ⟨_,_,e⟩
          ·cases h
        have hnd:∀c,oo.op≠ .defer c:=λc e=>by rcases hsp with⟨_,_,_,h⟩|⟨_,_,h⟩<;>rw[h]at e<;>cases e
        rw[da ht ho hw' hnd];rcases hsp with⟨t,x,ix,h⟩|⟨t,x,h⟩
        ·have hex:execOp fr.eval oo=(do pure (.value (←Instr.indexAt t (fr.eval x) (fr.eval ix))):Sem Next):=(by unfold execOp;rw[h]);rw[hex];exact jT (fJ _) (λy w' e=>dn (ce (jW (ρ:=id) E.same t _ _)) w hP y w' e) λy w' e=>⟨dz (ce (jW (ρ:=id) E.same t _ _)) w hP y w' e,g6 (ce (jW (ρ:=id) E.same t _ _)) w hP y w' e⟩
        ·have hex:execOp fr.eval oo=(do pure (.value (←Instr.loadAt t (fr.eval x))):Sem Next):=(by unfold execOp;rw[h]);rw[hex];exact jT (fJ _) (λy w' e=>dn (ce (gO (ρ:=id) E.same t _)) w hP y w' e) λy w' e=>⟨dz (ce (gO (ρ:=id) E.same t _)) w hP y w' e,g6 (ce (gO (ρ:=id) E.same t _)) w hP y w' e⟩
   |_=>exact absurd ⟨_,by simp only[bZ,ht]<;>rfl⟩ hpl
 ·have hL:stepG PL true {frame:=fr,callers:=cs,status:= .running,dying:=none,offers:=o} w=unwind PL true fr cs none w:=by
   unfold stepG;cases hmm:fr.mode with
   |run=>exact absurd hmm hm
   |_=>simp only[hmm]
  rw[hL];cases hd:fr.defers with
  |nil=>
   unfold unwind;cases hmm:fr.mode with
   |run=>exact absurd hmm hm
   |returning=>
    simp only[hd];split
    ·exact iX E.inits ok.kind _ hP
    ·rename_i fn hf;obtain⟨fn',_,hr,hok⟩:=E.res _ _ hf;refine dY.after ?_;split
     ·rename_i v w1 hv;rw[Sem.runT_fst]at hv;exact iX E.inits ok.kind _ (dn (uN (ρ:=id) E.same fn fn' fr.fn fr.tmps hr hok) w hP v w1 hv)
     ·trivial
     ·trivial
   |panicking ch=>
    have hok:=ok.mode;rw[hmm]at hok;simp only[hd];split
    ·trivial
    ·cases cs with
     |cons c cs=>exact .inr ⟨hP,rfl,rfl⟩
     |nil=>
      have hgo:ch.head?.any (·.goexit)=false:=by
       cases ch with
       |nil=>rfl
       |cons e r=>
        simp only[O1,List.all_cons,Bool.and_eq_true]at hok;simpa using hok.2.1.2
      simp only[hgo,Bool.false_eq_true,↓reduceIte];split
      ·exact .inl s_
      ·trivial
      ·trivial
  |cons d ds=>
   have:=ok.defers;rw[hd]at this;simp only[dx,List.all_cons,Bool.and_eq_true]at this;obtain⟨tg,args⟩:=d;cases tg with
   |collected b=>
    unfold unwind;simp only[hd];refine dY.after ?_;split
    ·rename_i calls w1 hr;rw[Sem.runT_fst]at hr;exact .inr ⟨dn (mI (ρ:=id) (PM:=PM) b) w hP calls w1 hr,rfl,rfl⟩
    ·trivial
   |fn f cap=>
    cases f with
    |func g=>
     have hg:g=fM:=(by simpa using this.1);subst hg;obtain⟨fn,fn',q1,q2,q3,q4,c,q5,q6⟩:=E.d1;rw[kA hd q1 (by rw[q5];rfl) (E.fn id fM fn q1).1];exact .inr ⟨hP,rfl,rfl⟩
    |_=>simp at this
   |_=>simp at this
end
end
section
open Go.Conc
section
variable{G:Nat}
theorem wB(fr:Frame)(cs:List Frame)(w:World):lone fr cs w=solo {frame:=fr,callers:=cs,status:= .running,dying:=none} w:=rfl
theorem iW{g':Goroutine}(h:solo g w=solo g' w'):g=g'/\w=w':=by simp only[solo,Machine.mk.injEq]at h;obtain⟨b,a,_⟩:=h;exact⟨by simpa using a,b⟩
theorem tG{m:Machine}(c:g.status= .running)(b:dY (stepG P true g w))(h:step P (solo g w)= .next m):
 ∃g' w' es,stepG P true g w= .go g' w' es/\m=solo g' w':=by
 rw[step,stepT_solo c]at h;cases a:stepG P true g w with
 |go g' w' es=>
  rw[runT_solo_go a]at h;simp only[Stepped.next.injEq]at h;exact⟨g',w',es,rfl,h.symm⟩
 |ended o w' es=>
  simp[runT,solo,Array.swapAt!,Array.swapAt,a]at h
 |_=>rw[a]at b;exact b.elim
def EP(I:Machine->Prop):Prop:=∀m,I m->∀g∈m.gs,g.dying=none
theorem Hd(g:Goroutine)(w:World):g∈(solo g w).gs:=by simp[solo]
theorem CW{I:Machine->Prop}(c:EP I){m a:Machine}(h:StepsIn I P m a)(b:lone fr cs w'=a)(e:m=solo g w):g.dying=none:=by
 cases h with
 |refl=>
  rw[←b,wB]at e;rw[←(iW e).1]
 |head d _ _=>exact c _ d g (by rw[e];exact Hd g w)
end
def lx(w:World)(τ:Tape)(d:Nat):World:={w with tape:=τ,drawn:=d}
inductive gE (P:Program) (Stop:Goroutine->World->Prop):Goroutine->World->Prop
 |stop {g:Goroutine} {w:World} (h:Stop g w):gE P Stop g w
 |go {g:Goroutine} {w:World} (n:Tape->Nat->Goroutine×World) (h:∀τ d,∃es,stepG P true g (lx w τ d)= .go (n τ d).1 (n τ d).2 es) (hw:∀τ d,gQ (n τ d).1) (ht:∀τ d,gE P Stop (n τ d).1 (n τ d).2):gE P Stop g w
section
variable{G T:Nat}{base:List Frame}
theorem cR.re(h:cR G T D ρ wL wM){wL' wM':World}(c:wL'.heap=wL.heap)(a:wM'.heap=wM.heap){d:Nat}(e:∀i,wL'.drawn+i<d->wM'.tape (wM'.drawn+i)=wL'.tape (wL'.drawn+i)):cR G d D ρ wL' wM':=
 ⟨h.inj,λb f=>by rw[c,a];exact h.obj b f,e,h.glob,by rw[c,a];exact h.far,h.out⟩
theorem ew.well{b a:Goroutine}(h:ew G D ρ base b a):gQ a:=
 ⟨h.run.2.1,h.run.2.2.2⟩
theorem kh.enters(e:∀f (fn:Func) c,PL.funcs[f]?=some fn->fn.body=some c->pE f c=true)(f:FuncId)(fn:Func)(a:PL.funcs[f]?=some fn)(d:fn.body.isSome=true):jc PL PL f:=by obtain⟨c,b⟩:=Option.isSome_iff_exists.1 d;exact⟨fn,fn,a,a,rfl,rfl,c,b,e f fn c a b⟩
theorem G2(E:kh PL PM G){I:Machine->Prop}(s:EP I)(q:gQ g)(i:j3 g.frame/\mQ g.frame)(r:bE w)
 {j:Machine} (hs:step PL (solo g w)= .next j) (a:StepsIn I PL j (lone fr cs w')):∃e b es,stepG PL true g w= .go e b es/\j=solo e b/\gQ e/\bE b:=by
 obtain⟨f,c,t,u,p⟩:=g;obtain⟨n,m⟩:=q;simp only at n m i;subst n m;have d:=Fa (w:=w) (cs:=c) (o:=p) E i.1 i.2 r;obtain⟨e,b,es,l,rfl⟩:=tG rfl d hs;rw[l]at d;rcases d with h|⟨k,d⟩
 ·exact absurd (CW s a rfl rfl) h
 ·exact⟨e,b,es,l,rfl,d,k⟩
end
section
variable{Stop:Goroutine->World->Prop}
structure mC where
 g:Goroutine
 w:World
 τ:Tape
 d:Nat
 dead:Bool
def mC.step(P:Program)(X:mC):GStep:=stepG P true X.g (lx X.w X.τ X.d)
def mC.good(P:Program)(X:mC):Prop:=X.dead=false/\∃g' w' es,X.step P= .go g' w' es/\gQ g'
def mC.bad(P:Program)(Stop:Goroutine->World->Prop)(X:mC):Prop:=¬Stop X.g X.w/\∀g' w' es,X.step P= .go g' w' es->gQ g'->¬gE P Stop g' w'
theorem uz(h:¬gE PL Stop g w):∃X:mC,X.g=g/\X.w=w/\X.dead=false/\X.bad PL Stop:=by
 have q:¬Stop g w:=λm=>h (.stop m);refine Classical.byContradiction λo=> ?_;have b:∀a d,∃x:Goroutine×World,(∃f,stepG PL true g (lx w a d)= .go x.1 x.2 f)/\gQ x.1/\gE PL Stop x.1 x.2:=by intro a d;refine Classical.byContradiction λj=>o ⟨⟨g,w,a,d,false⟩,rfl,rfl,rfl,q,λr i f e k l=>j ⟨(r,i),⟨f,e⟩,k,l⟩⟩
 have p:∃n:Tape->Nat->Goroutine×World,∀a d,(∃f,stepG PL true g (lx w a d)= .go (n a d).1 (n a d).2 f)/\gQ (n a d).1/\gE PL Stop (n a d).1 (n a d).2:=
  ⟨λa d=>Classical.choose (b a d),λa d=>Classical.choose_spec (b a d)⟩
 obtain⟨n,c⟩:=p;exact h (.go n (λa d=>(c a d).1) (λa d=>(c a d).2.1) λa d=>(c a d).2.2)
theorem As(PL:Program)(a:Goroutine->World->Prop):∃b:mC->mC,(∀X,X.bad PL a->X.good PL->(∃es,X.step PL= .go (b X).g (b X).w es)/\gQ (b X).g/\(b X).dead=false/\(b X).bad PL a)/\∀X,¬X.good PL->b X=⟨X.g,X.w,X.τ,X.d+1,true⟩:=by
 have h:∀X:mC,∃Y:mC,(X.bad PL a->X.good PL->(∃es,X.step PL= .go Y.g Y.w es)/\gQ Y.g/\Y.dead=false/\Y.bad PL a)/\(¬X.good PL->Y=⟨X.g,X.w,X.τ,X.d+1,true⟩):=by
  intro X;by_cases f:X.good PL
  ·by_cases i:X.bad PL a
   ·obtain⟨l,k,g,es,d,c⟩:=f;obtain⟨Y,j,o,n,m⟩:=uz (i.2 k g es d c);exact⟨Y,λ_ _=>⟨⟨es,by rw[j,o];exact d⟩,by rw[j];exact c,n,m⟩,λe=>absurd ⟨l,k,g,es,d,c⟩ e⟩
   ·exact⟨X,λh=>absurd h i,λe=>absurd f e⟩
  ·exact⟨_,λ_ h=>absurd h f,λ_=>rfl⟩
 exact⟨λX=>Classical.choose (h X),λX=>(Classical.choose_spec (h X)).1,λX=>(Classical.choose_spec (h X)).2⟩
section
variable(nx:mC->mC)(X0:mC)
def cm:Nat->mC
 |0=>X0
 |n+1=>nx (cm n)
def lp(k:Nat->Nat):Nat->Nat
 |0=>0
 |n+1=>lp k n+k n
theorem vP(k:Nat->Nat)(h:n<=m):lp k n<=lp k m:=by
 induction h with
 |refl=>exact Nat.le_refl _
 |step _ a=>exact Nat.le_trans a (Nat.le_add_right _ _)
theorem Oo(k:Nat->Nat)(t:Nat->Nat->Question->Nat):∃T:Tape,∀n i,i<k n->T (lp k n+i)=t n i:=by
 have h:∀j,∃f:Question->Nat,∀n i,i<k n->lp k n+i=j->f=t n i:=by
  intro j;by_cases d:∃n i,i<k n/\lp k n+i=j
  ·obtain⟨n,i,g,e⟩:=d;refine⟨t n i,λm l r q=> ?_⟩;have o:m=n:=by
    rcases Nat.lt_trichotomy m n with a|c|b
    ·have:=vP k (show m+1<=n from a);have:lp k (m+1)=lp k m+k m:=rfl;omega
    ·exact c
    ·have:=vP k (show n+1<=m from b);have:lp k (n+1)=lp k n+k n:=rfl;omega
   subst o;have:i=l:=o_;rw[this]
  ·exact⟨λ_=>0,λn i g e=>absurd ⟨n,i,g,e⟩ d⟩
 exact⟨λj=>Classical.choose (h j),λn i p=>Classical.choose_spec (h _) n i p rfl⟩
theorem CP(PL:Program)(a:mC->mC)(b:mC):∃k:Nat->Nat,∀n,((cm a b n).good PL->k n=(cm a b (n+1)).w.drawn-(cm a b n).d)/\(¬(cm a b n).good PL->k n=1):=by
 have h:∀n,∃c:Nat,((cm a b n).good PL->c=(cm a b (n+1)).w.drawn-(cm a b n).d)/\(¬(cm a b n).good PL->c=1):=by
  intro n;by_cases d:(cm a b n).good PL
  ·exact⟨_,λ_=>rfl,λe=>absurd d e⟩
  ·exact⟨1,λh=>absurd h d,λ_=>rfl⟩
 exact⟨λn=>Classical.choose (h n),λn=>Classical.choose_spec (h n)⟩
variable{nx X0}
theorem Ab(b:∀X:mC,¬X.good PL->nx X=⟨X.g,X.w,X.τ,X.d+1,true⟩){k:Nat->Nat}(d:∀n,¬(cm nx X0 n).good PL->k n=1){T:Tape}(p:∀n i,i<k n->T (lp k n+i)=(cm nx X0 n).τ ((cm nx X0 n).d+i))
  (m:¬(cm nx X0 n).good PL) (j:Nat):T (lp k n+j)=(cm nx X0 n).τ ((cm nx X0 n).d+j):=by
 have h:∀j,¬(cm nx X0 (n+j)).good PL/\(cm nx X0 (n+j)).τ=(cm nx X0 n).τ/\(cm nx X0 (n+j)).d=(cm nx X0 n).d+j/\lp k (n+j)=lp k n+j:=by
  intro j;induction j with
  |zero=>exact⟨m,rfl,rfl,rfl⟩
  |succ j l=>
   obtain⟨a,c,g,f⟩:=l;have e:cm nx X0 (n+(j+1))=⟨(cm nx X0 (n+j)).g,(cm nx X0 (n+j)).w,(cm nx X0 (n+j)).τ,(cm nx X0 (n+j)).d+1,true⟩:=b _ a;refine⟨λo=> ?_,by rw[e];exact c,by rw[e];show(cm nx X0 (n+j)).d+1=_;omega, ?_⟩
   ·have:=o.1;rw[e]at this;cases this
   ·have:=d (n+j) a;show lp k (n+j)+k (n+j)=_;omega
 obtain⟨a,c,g,f⟩:=h j;have:=p (n+j) 0 (by rw[d _ a];exact Nat.one_pos);rw[Nat.add_zero,Nat.add_zero,f,c,g]at this;exact this
end
end
section
variable{G:Nat}{Stop:Goroutine->World->Prop}
structure k8 (G:Nat) (D0:Nat->Prop) (g:Goroutine) (w:World) (g':Goroutine) (w':World):Prop where
 rel:∃D ρ,cR G 0 D ρ w w'/\ew G D ρ [] g g'/\∀b,D0 b->D b/\ρ b=b
 tab:ji w w'
 calm:bE w
theorem k8.step(E:kh PL PL G)(C:∀f (fn:Func) c,PL.funcs[f]?=some fn->fn.body=some c->pE f c=true){D0:Nat->Prop}{p g':Goroutine}{l:World}(h:k8 G D0 g w g' w')
  (hs:stepG PL true g w= .go p l es) (y:gQ p) (z:∀i,w.drawn+i<l.drawn->w'.tape (w'.drawn+i)=w.tape (w.drawn+i)):
 ∃d a k,stepG PL true g' w'= .go d a k/\gQ d/\k8 G D0 p l d a/\w.drawn<=l.drawn/\a.drawn+w.drawn=l.drawn+w'.drawn/\a.tape=w'.tape:=by
 obtain⟨⟨D,q,H,F,o⟩,u,t⟩:=h;have s:cR G l.drawn D q w w':=H.re rfl rfl z;obtain⟨I,n,d,a,k,x,r,j,_⟩:=oX (mM:=true) E (λ_ _ e=>by cases e) s t u F hs (Nat.le_refl _) y λf v J B=>by obtain⟨fn,A,m⟩:=mw (E.fn q) B;exact kh.enters C f fn A m
 exact⟨d,a,k,x,r.well,⟨⟨I,n,j.rel.re rfl rfl λi K=>o_,r,λb m=>⟨(j.ext b (o b m).1).1,(j.ext b (o b m).1).2.trans (o b m).2⟩⟩,u.ran E.tab s j,j.quiet t⟩,j.drawn,j.drew,j.tape⟩
theorem k8.re{D0:Nat->Prop}{g':Goroutine}(h:k8 G D0 g w g' w'){v v':World}(a:v.heap=w.heap)(d:v'.heap=w'.heap):k8 G D0 g v g' v':=by obtain⟨⟨D,j,r,q,p⟩,⟨c,e,f,n,m,l⟩,k⟩:=h;exact⟨⟨D,j,r.re a d λi t=>o_,q,p⟩,⟨c,e,f,n,by rw[a];exact m,by rw[d];exact l⟩,λb o s=>k b o (by rw[←a];exact s)⟩
theorem pH(E:kh PL PL G)(hB:∀f (fn:Func) c,PL.funcs[f]?=some fn->fn.body=some c->pE f c=true){D0:Nat->Prop}{I:Machine->Prop}(hI:EP I){q:Goroutine}(hp:k8 G D0 q w0 q w0)(a2:gQ q)
 (x:∀τ,∃fr w',StepsIn I PL (solo q (lx w0 τ 0)) (lone fr [] w')/\Stop {frame:=fr,callers:=[],status:= .running,dying:=none} w')
 (hS:∀g w g' w',k8 G D0 g w g' w'->Stop g w->Stop g' w'):gE PL Stop q w0:=by
 refine Classical.byContradiction λhn=> ?_;obtain⟨a,H,F,a0,Z⟩:=uz hn;obtain⟨b,z,A⟩:=As PL Stop;obtain⟨k,hk⟩:=CP PL b a;obtain⟨T,hT⟩:=Oo k λn i=>(cm b a n).τ ((cm b a n).d+i);obtain⟨fr,wE,J,t⟩:=x T;have Y:∀m X,StepsIn I PL m X->X=lone fr [] wE->∀n o d,m=solo o d->d.tape=T->d.drawn=lp k n->(cm b a n).bad PL Stop->(cm b a n).dead=false->gQ o->
  k8 G D0 (cm b a n).g (cm b a n).w o d->k8 G D0 o d (cm b a n).g (cm b a n).w->False:=by
  intro m X h;induction h with
  |refl m=>
   intro e n o d e2 _ _ hb _ _ _ j;rw[e2,wB]at e;obtain⟨e3,e4⟩:=iW e;rw[e3,e4]at j;exact hb.1 (hS _ _ _ _ j t)
  | @head m m1 m2 h0 hs y ih=>
    intro e n o d e2 Q hd hb a6 a1 a4 j;subst e e2;obtain⟨⟨D2,S,U,N,_⟩,V,O⟩:=j;obtain⟨g1,P,es,u,a7,s,ae⟩:=G2 E hI a1 N.ok O hs y;have j:k8 G D0 o d (cm b a n).g (cm b a n).w:=⟨⟨D2,S,U,N,‹_›⟩,V,O⟩;by_cases R:(cm b a n).good PL
    ·obtain⟨⟨ah,p⟩,a3,M,a9⟩:=z _ hb R;have a8:k n=(cm b a (n+1)).w.drawn-(cm b a n).d:=(hk n).1 R;have K:k8 G D0 (cm b a n).g (lx (cm b a n).w (cm b a n).τ (cm b a n).d) o d:=a4.re rfl rfl;obtain⟨af,aa,ag,q1,q2,q3,q4,q5,q6⟩:=K.step E hB p a3 λi hi=>by have ad:(cm b a n).d+i<(b (cm b a n)).w.drawn:=hi;have hc:cm b a (n+1)=b (cm b a n):=rfl;rw[Q,hd];exact hT n i (by rw[a8,hc];omega)
     rw[u]at q1;cases q1;have ac:(cm b a n).d<=(cm b a (n+1)).w.drawn:=q4;have ab:P.drawn+(cm b a n).d=(cm b a (n+1)).w.drawn+d.drawn:=q5;have v:P.drawn=lp k (n+1):=by show P.drawn=lp k n+k n;omega
     have l:k8 G D0 o d (cm b a n).g (lx (cm b a n).w (cm b a n).τ (cm b a n).d):=j.re rfl rfl;obtain⟨B,r,C,W,r2,r3,r4,r5,r6⟩:=l.step E hB u s λi hi=>by show(cm b a n).τ ((cm b a n).d+i)=d.tape (d.drawn+i);rw[Q,hd];refine(hT n i ?_).symm;have:lp k (n+1)=lp k n+k n:=rfl;omega
     have D:(cm b a n).step PL= .go B r C:=W;rw[p]at D;cases D;exact ih rfl (n+1) g1 P a7 (q6.trans Q) v a9 M s q3 r3
    ·have l:k8 G D0 o d (cm b a n).g (lx (cm b a n).w (cm b a n).τ (cm b a n).d):=j.re rfl rfl;obtain⟨B,r,C,W,r2,_⟩:=l.step E hB u s λi hi=>by show(cm b a n).τ ((cm b a n).d+i)=d.tape (d.drawn+i);rw[Q,hd];exact(Ab A (λn=>(hk n).2) hT R i).symm
     exact R ⟨a6,B,r,C,W,r2⟩
 have a5:k8 G D0 a.g a.w q (lx w0 T 0):=by rw[H,F];exact hp.re rfl rfl
 have L:k8 G D0 q (lx w0 T 0) a.g a.w:=by rw[H,F];exact hp.re rfl rfl
 exact Y _ _ J rfl 0 q (lx w0 T 0) rfl rfl rfl Z a0 a2 a5 L
end
end
section
open Go
def fw(P:Program)(fs:Array Func):Program:={P with funcs:=fs,inits:=#[]}
section
variable(P:Program)(fs:Array Func)
theorem m7:(fw P fs).types=P.types:=by unfold fw;rfl
theorem zo:(fw P fs).cutTypes=P.cutTypes:=by unfold fw;rfl
theorem rV:∀(f:Nat) (t:TypeId),Made.infoAt (fw P fs).toTables f t=Made.infoAt P.toTables f t
 |0,_=>rfl
 |f+1,t=>by have a:Made.infoAt (fw P fs).toTables f=Made.infoAt P.toTables f:=funext (rV f);simp only[Made.infoAt,m7,a]
theorem fm(t:TypeId):(fw P fs).info? t=P.info? t:=by simp only[Tables.info?,m7,rV]
theorem cX(t:TypeId):(fw P fs).underlying t=P.underlying t:=by simp only[Program.underlying,fm]
theorem m6(t:TypeId):(fw P fs).underlyingId t=P.underlyingId t:=by simp only[Program.underlyingId,fm]
theorem eL(t:TypeId):(fw P fs).cellsOf t=P.cellsOf t:=by simp only[Program.cellsOf,fm]
theorem fE(t:TypeId):(fw P fs).bytesOf t=P.bytesOf t:=by simp only[Program.bytesOf,fm]
theorem dF:(fw P fs).depth=P.depth:=by simp only[Program.depth,m7]
theorem qR:∀(n:Nat) (t u:TypeId),(fw P fs).alikeButTags n t u=P.alikeButTags n t u
 |0,_,_=>rfl
 |n+1,t,u=>by simp only[Program.alikeButTags,fm,qR n]
theorem m8(t:TypeId):(fw P fs).stoodInHeld t=P.stoodInHeld t:=by simp only[Program.stoodInHeld,Program.stoodInAs,cX,m6,fm,zo,dF,qR]
theorem zn(t:TypeId):(fw P fs).packed t=P.packed t:=by simp only[Program.packed,Program.packedAs,Program.ownRow,cX,m6,fm,zo,dF,qR]
theorem km:∀(d:Nat) (t:TypeId) (o:Nat),byteOfCell (fw P fs) d t o=byteOfCell P d t o
 |0,_,_=>rfl
 |d+1,t,o=>by simp only[byteOfCell,cX,eL,fE,km d]
theorem pL:∀(d:Nat) (t:TypeId) (o:Nat),cellHolding (fw P fs) d t o=cellHolding P d t o
 |0,_,_=>rfl
 |d+1,t,o=>by simp only[cellHolding,cX,eL,fE,pL d]
theorem tM:∀(d:Nat) (t:TypeId) (o:Nat),plainCell (fw P fs) d t o=plainCell P d t o
 |0,_,_=>rfl
 |d+1,t,o=>by simp only[plainCell,cX,eL,tM d]
theorem rT:∀(d:Nat) (t:TypeId) (o:Nat),cellOfByte (fw P fs) d t o=cellOfByte P d t o
 |0,_,_=>rfl
 |d+1,t,o=>by simp only[cellOfByte,cX,eL,fE,rT d]
theorem tL:∀(d:Nat) (t:TypeId),tight (fw P fs) d t=tight P d t
 |0,_=>rfl
 |d+1,t=>by simp only[tight,cX,fE,tL d]
theorem vT:∀(d:Nat) (t:TypeId),(fw P fs).holdsStoodIn d t=P.holdsStoodIn d t
 |0,_=>rfl
 |d+1,t=>by simp only[Program.holdsStoodIn,cX,m8,vT d]
theorem ls:∀(d:Nat) (t:TypeId),(fw P fs).holdsPacked d t=P.holdsPacked d t
 |0,_=>rfl
 |d+1,t=>by simp only[Program.holdsPacked,cX,zn,ls d]
theorem tN:∀(d:Nat) (t:TypeId),(fw P fs).eqGuardType d t=P.eqGuardType d t
 |0,_=>rfl
 |d+1,t=>by simp only[Program.eqGuardType,cX,tN d]
theorem rU:∀(d:Nat) (t u:TypeId),sameLayout (fw P fs) d t u=sameLayout P d t u
 |0,_,_=>rfl
 |d+1,t,u=>by simp only[sameLayout,cX,m6,m8,rU d]
theorem zm(a:TypeId->Bool):∀(d:Nat) (e:TypeId) (c o n:Nat),rowAt (fw P fs) a d e c o n=rowAt P a d e c o n
 |0,_,_,_,_=>rfl
 |d+1,e,c,o,n=>by simp only[rowAt,cX,eL,m8,zm a d]
theorem vS:∀(d:Nat) (e:TypeId) (n o:Nat) (u:TypeId) (m:Nat),liesAt (fw P fs) d e n o u m=liesAt P d e n o u m
 |0,_,_,_,_,_=>rfl
 |d+1,e,n,o,u,m=>by simp only[liesAt,cX,zm,rU,dF,vS d]
theorem xI(d:Nat)(e:TypeId)(n o:Nat)(b:Int):cellAtBytes (fw P fs) d e n o b=cellAtBytes P d e n o b:=by simp only[cellAtBytes,eL,fE,km,rT]
theorem Fj(a:∀t i z,P.info? t=some i->i.zero=some z->bO z=true):bN (fw P fs) P:=
 ⟨fm P fs,cX P fs,λt i z h=>a t i z (by rw[←fm P fs];exact h),by unfold fw;rfl,eL P fs,fE P fs,λt o=>by rw[dF,km],λe n o u m=>by rw[dF,vS],λe n o b=>by rw[dF,xI],λe=>by rw[dF,vT],λt=>by rw[dF,tN],m8 P fs,by rw[m7],λt=>by rw[dF,ls]⟩
theorem ng(c:Array Value)(e:TypeId):∀(f x a:Nat),seenCells (fw P fs) c e f x a=seenCells P c e f x a
 |0,_,_=>rfl
 |f+1,x,a=>by simp only[seenCells,eL,fE,dF,pL,ng c e f]
theorem vR(w:World)(a:Addr)(u:TypeId)(k:Addr)(b:Bool):w.seen (fw P fs) a u k b=w.seen P a u k b:=by simp only[World.seen,tM,km,eL,fE,ng,dF]
theorem Fl(w:World)(a:Addr)(b:Bool):w.farLoad P a b=w.farLoad (fw P fs) a b:=by simp only[World.farLoad,World.viewLoad,vR]
theorem BQ(w:World)(a:Addr)(v:Value)(b:Bool):w.farStore P a v b=w.farStore (fw P fs) a v b:=by simp only[World.farStore,World.viewStore,vR,tL,dF]
end
def oJ(f:Func):Func:={f with name:= "none",origin:= "none",body:=none}
theorem E7:(Extern.allGenericRows.lookup "none").isNone=true∧(Extern.allTypedRows.lookup "none").isNone=true∧(Extern.allRows.lookup "none").isNone=true∧(Extern.allNextRows.lookup "none").isNone=true:=by refine⟨?_, ?_, ?_, ?_⟩<;>kernel_rfl
theorem Gp(f:Func):Extern.find (oJ f)=none:=by obtain⟨c,b,a,_⟩:=E7;rw[Option.isNone_iff_eq_none]at c b a;simp only[Extern.find,oJ,c,b,a];rfl
theorem Gm(f:Func):Extern.findNext (oJ f)=none:=by obtain⟨_,_,_,a⟩:=E7;rw[Option.isNone_iff_eq_none]at a;simp only[Extern.findNext,oJ,a];rfl
theorem Gn(f:Func):((oJ f).name.endsWith ".init" && !(oJ f).name.startsWith "(" && !(oJ f).name.startsWith "gosem.")=false:=by show("none".endsWith ".init" && ! "none".startsWith "(" && ! "none".startsWith "gosem.")=false;kernel_rfl
def Du(info:TypeId->Option TypeInfo):Prop:=∀t i z,info t=some i->i.zero=some z->bO z=true
theorem wj:∀{l:List Value},(∀v∈l,bO v=true)->mj l=true
 |[],_=>rfl
 |x::r,h=>by simp only[mj,Bool.and_eq_true];exact⟨h x List.mem_cons_self,wj λv hv=>h v (List.mem_cons_of_mem _ hv)⟩
theorem wi{cs:Array Value}(h:∀x∈cs,bO x=true):bO (.agg cs)=true:=by obtain⟨l⟩:=cs;simp only[bO];exact wj λv a=>h v (by simpa using a)
theorem rZ(h:bO v=true):∀x∈v.cells,bO x=true:=by
 intro x a;cases v with
 |agg b=>
  simp only[Value.cells]at a;obtain⟨l⟩:=b;simp only[bO]at h;exact iy h x (by simpa using a)
 |_=>simp only[Value.cells,Array.mem_singleton]at a;rw[a];exact h
theorem wO{d c:Type}(p:c->Prop)(f:d->c->Option (ForInStep c))(g:∀a s r,p s->f a s=some r->p r.value):∀(l:List d) (s r:c),p s->forIn l s f=some r->p r
 |[],s,r,hs,e=>by simp only[List.forIn_nil]at e;cases e;exact hs
 |a::l,s,r,hs,e=>by
  simp only[List.forIn_cons]at e;cases h:f a s with
  |none=>rw[h]at e;cases e
  |some q=>
   rw[h]at e;have:=g a s q hs h;cases q with
   |done b=>cases e;exact this
   |yield b=>exact wO p f g l b r this e
theorem EQ{c:TypeId->Option TypeInfo}(j:Du c){i:TypeInfo}(k:c t=some i){z:Option (Array Value)}(g:∀d,z=some d->∀x∈d,bO x=true){d:Array Value}
 (h:(if n>m then none else(do let a←z;let b←i.zero;pure (a++b.cells):Option (Array Value)))=some d):∀x∈d,bO x=true:=by
 split at h
 ·cases h
 ·cases z with
  |none=>cases h
  |some a=>
   cases f:i.zero with
   |none=>rw[f]at h;cases h
   |some b=>
    rw[f]at h;cases h;intro x e;rcases Array.mem_append.1 e with e|e
    ·exact g a rfl x e
    ·exact rZ (j t i b k f) x e
theorem yT{info:TypeId->Option TypeInfo}(hi:Du info){fs:Array Field}{i:TypeInfo}{z:Value}(h:Made.reckonStruct info fs=some i)(hz:i.zero=some z):bO z=true:=by
 unfold Made.reckonStruct at h;rw[Option.bind_eq_bind,Option.bind_eq_some_iff]at h;obtain⟨r,hr,h⟩:=h;rw[←Array.forIn_toList]at hr;have key:=wO (λs:Array Field×Nat×Nat×Nat×Nat×Bool×Bool×Option (Array Value)×String=>∀zs,s.2.2.2.2.2.2.2.1=some zs->∀x∈zs,bO x=true) _ (λf s r hs e=> ?_) fs.toList _ r (λzs hzs x hx=> ?_) hr
 ·simp only[Option.pure_def]at h;split at h<;>cases h<;>(simp only[Option.map_eq_some_iff]at hz;obtain⟨zs,h1,rfl⟩:=hz;exact wi (key zs h1))
 ·cases he:info f.type with
  |none=>rw[he]at e;cases e
  |some j=>
   rw[he]at e;simp only[Option.bind_eq_bind,Option.bind_some]at e;intro zs hzs;refine EQ hi he hs (n:=s.2.1+j.size) (m:=Made.mostCells) ?_;rw[←hzs];revert e
   (repeat' split)<;>intro e<;>first
     |(cases e;done)
     |(simp only[Option.bind_eq_some_iff,Option.pure_def,Option.some.injEq,exists_eq_left']at e;obtain rfl:=e;rfl)
     |(simp only[Option.bind_eq_some_iff]at e;obtain⟨_,_,e⟩:=e;revert e;(repeat' split)<;>intro e<;>cases e<;>rfl)
 ·cases hzs;simp at hx
theorem ER{g:TypeId->Option TypeInfo}(o:Du g){d:TypeDesc}{i:TypeInfo}{z:Value}(h:Made.reckon g d=some i)(c:i.zero=some z):bO z=true:=by
 unfold Made.reckon at h;have b:∀{x:Option String} {f:String->TypeInfo} {v:Value},(∀s,(f s).zero=some v)->bO v=true->(x.bind λs=>some (f s))=some i->bO z=true:=by
  intro x f v A t e;cases x with
  |none=>cases e
  |some s=>
   cases e;rw[A s]at c;cases c;exact t
 cases d with
 |struct H=>exact yT o h c
 |pointer e=>
  simp only[Option.bind_eq_bind,Option.pure_def]at h;rw[Option.bind_eq_some_iff]at h;obtain⟨j,m,h⟩:=h;split at h
  ·cases h
  ·split at h
   ·cases h
   ·exact b (v:= .pointer none) (λ_=>rfl) rfl h
  ·exact b (v:= .pointer none) (λ_=>rfl) rfl h
 |slice e=>
  simp only[Option.bind_eq_bind,Option.pure_def]at h;rw[Option.bind_eq_some_iff]at h;obtain⟨j,m,h⟩:=h;exact b (v:= .slice none 0 0) (λ_=>rfl) rfl h
 |map k e=>
  simp only[Option.bind_eq_bind,Option.pure_def]at h;rw[Option.bind_eq_some_iff]at h;obtain⟨j,m,h⟩:=h;rw[Option.bind_eq_some_iff]at h;obtain⟨F,w,h⟩:=h;rw[Option.bind_eq_some_iff]at h;obtain⟨E,u,h⟩:=h;exact b (v:= .map none) (λ_=>rfl) rfl h
 |chan B e=>
  simp only[Option.bind_eq_bind,Option.pure_def]at h;rw[Option.bind_eq_some_iff]at h;obtain⟨j,m,h⟩:=h;exact b (v:= .chan none) (λ_=>rfl) rfl h
 |func D C v=>
  simp only[Option.bind_eq_bind,Option.pure_def]at h;exact b (v:= .nilFunc) (λ_=>rfl) rfl h
 |array n e=>
  simp only[Option.bind_eq_bind,Option.pure_def]at h;rw[Option.bind_eq_some_iff]at h;obtain⟨j,m,h⟩:=h;rw[Option.bind_eq_some_iff]at h;obtain⟨s,G,h⟩:=h;cases h;simp only at c;split at c
  ·cases c
  ·split at c
   ·cases c;rfl
   ·rw[Option.map_eq_some_iff]at c;obtain⟨y,q,rfl⟩:=c;refine wi λx r=> ?_;obtain⟨a,p,l⟩:=Array.mem_flatten.1 r;rw[Array.mem_replicate]at p;rw[p.2]at l;exact rZ (o e j y m q) x l
 |_=>cases h
theorem rN(P:Program)(b:∀i∈P.types,∀z,i.zero=some z->bO z=true):∀f,Du (Made.infoAt P.toTables f)
 |0=>λ_ _ _ h=>by cases h
 |f+1=>λt i z h a=>by
  unfold Made.infoAt at h;split at h
  ·exact b i (Array.mem_of_getElem? h) z a
  ·rw[Option.bind_eq_some_iff]at h;obtain⟨d,_,h⟩:=h;exact ER (rN P b f) h a
theorem ES(P:Program)(b:∀i∈P.types,∀z,i.zero=some z->bO z=true)(t:TypeId)(i:TypeInfo)(z:Value)(h:P.info? t=some i)(a:i.zero=some z):bO z=true:=by
 unfold Tables.info? at h;split at h
 ·exact b i (Array.mem_of_getElem? h) z a
 ·exact rN P b _ t i z h a
end
end Go.Proofs.YtkmoglhgkcnalabGreatDoor
