/- A part of what the last text of the claim imports: texts laid together, and made small, by a program. -/
import Derived.Conc.Events
import Derived.Fence
import Derived.Conc.Fork
import Derived.CallsIn
import Derived.Conc.Beside
import Derived.Conc.CrowdInv
import Derived.Test.YtkmoglhgkcnalaaGreatDoorOwn1
set_option maxHeartbeats 16000000
set_option maxRecDepth 100000
open Array renaming getElem?_eq_getElem->i7,all_eq_true'->Qm,mem_of_getElem?->Qv
open Bool renaming and_eq_true->i5,false_eq_true->Q7,or_eq_true->Rr,not_eq_true'->Rt
open Go.GStep renaming after->AS
open Go.Instr renaming loadAt->AT,endLoop->QO,getLoop->Re,sureAddr->Rl
open Go.Item renaming code->Se
open Go.Region renaming wanted->mw
open Go.Sem renaming bind->Qo,run_bind->QC,runT->QL
open Go.World renaming setCell->Q6,cell?->Qe
open List renaming map_cons->IN,mem_cons->PZ,mem_cons_self->Qj,mem_cons_of_mem->QP,map_append->QW
open Nat renaming le_refl->d5,le_trans->By,not_lt->RS,add_zero->S7
open Option renaming map_some->eZ,getD_some->Q2,map_eq_some_iff->Qh
namespace Go.Proofs.YtkmoglhgkcnalaaGreatDoor
open Go
variable{n b i N l m k j b3 b4 b7 b9 Wg wd:Nat}{w w' w0 wL wM wE:World}{fr:Frame}{v:Value}{cs:List Frame}{args cv:Array Value}{V RO D V0:Nat->Prop}{q main listen ql:Bool}{g:Goroutine}{a:Act}{K:List Item}{P PL PM:Program}{x:Operand}{ops:Array Oper}{KS:List Int}{t u:TypeId}{o:Oper}{f:FuncId}{es:Array Event}{Goal:Goroutine->World->Prop}{fn:Func}{rest:List Nat}{ds:List Deferred}{F:List (Nat×Value)}{e:Event}{listed:Array Bool}{c:Int}{s msg key sig:ByteArray}{ρ:Nat->Nat}{ev:Operand->Value}{Post:Value->World->Prop}
section
open Go
section
variable{α β:Type}{f:α->β}
theorem dk{s:Sem α}{s':Sem β}(h:aG ρ PL PM f s s'):∀w,aT w->∀a w',s.run PL w= .ok a w'->aT w':=by
 induction h with
 |pure a=>intro w b k w' e;cases e;exact b
 | @load a l t h g=>
   intro w b k w' e;rw[Sem.run]at e;cases n:w.cell? a with
   |some v=>rw[n]at e;exact g v w b k w' e
   |none=>
    rw[n]at e;cases i:w.farLoad PL a (Mode.plain==Mode.atomic)with
    |ok y=>rw[i]at e;exact g y.1 w b k w' e
    |error x=>rw[i]at e;cases e
 | @store a v l t h g=>
   intro w b k w' e;cases j:pT v with
   |false=>
    obtain⟨A,B⟩:=gQ (p:=PL) (w:=w) (m:= .plain) (a:=a) (k:=l) j;rw[B]at e;cases e
   |true=>
    rw[gf j]at e;cases n:w.cell? a with
    |some u=>
     simp only[n]at e;split at e
     ·cases e
     ·exact g _ (b.setCell a v) k w' e
    |none=>
     simp only[n]at e;cases i:w.farStore PL a v (Mode.plain==Mode.atomic)with
     |ok y=>rw[i]at e;exact g y.1 (iP b i) k w' e
     |error x=>rw[i]at e;cases e
 |new z h g=>intro w b k w' e;exact g _ _ (b.push z) k w' e
 |shape h g=>intro w b k w' e;exact g _ w b k w' e
 |freeze h g=>intro w b k w' e;exact g _ (b.freeze _ _) k w' e
 |frozen h g=>intro w b k w' e;exact g _ w b k w' e
 | @getObj r l t h g=>
   intro w b k w' e;rw[Sem.run]at e;split at e
   ·cases e
   ·rename_i o z _;exact g o (b _ _ ‹_›) w b k w' e
   ·cases e
 | @setObj r o l t z h g=>
   intro w b k w' e;rw[Sem.run]at e;split at e
   ·cases e
   ·exact g _ (b.set r z) k w' e
   ·cases e
 | @choose q l t h g=>
   intro w b k w' e;rw[Sem.run]at e;split at e
   ·exact g _ w b k w' e
   ·exact g _ {w with drawn:=w.drawn+1} b k w' e
 |program h g=>intro w b k w' e;exact g w b k w' e
 |mark E h g=>intro w b k w' e;exact g w b k w' e
 |panic v=>intro w b k w' e;cases e
 |dead d=>intro w b k w' e;cases e
 |deadMark d=>intro w b k w' e;cases e
 | @sys c l D d=>
   intro w b k w' e;obtain⟨x,C,i,F⟩:=d (w.sys c).1 (w.sys c).2;rw[Sem.run,i]at e;cases e
theorem Em(h:aT w)(c:Sys):aT (w.sys c).2:=by
 have hask:∀{γ:Type} (a:Ask γ) (w:World),(w.ask a).2.heap=w.heap:=by
  intro γ a;induction a with
  |done a=>intro w;rfl
  |ask what range k ih=>
   intro w;unfold World.ask;dsimp only;split
   ·exact ih _ w
   ·exact ih _ {w with drawn:=w.drawn+1}
 intro b o ho;refine h b o ?_;rw[←ho];unfold World.sys;have:=hask (Kernel.perform c w.os) w;split
 ·rfl
 ·rename_i r os w1 _ hx;rw[hx]at this;exact congrArg (λhp:Array Obj=>hp[b]?) this.symm
theorem g6{s:Sem α}{s':Sem β}(h:aG ρ PL PM f s s'):∀w,aT w->∀a w',s.run PL w= .halt a w'->aT w':=by
 induction h with
 |pure a=>intro w b k w' e;cases e
 | @load a l t h g=>
   intro w b k w' e;rw[Sem.run]at e;cases n:w.cell? a with
   |some v=>rw[n]at e;exact g v w b k w' e
   |none=>
    rw[n]at e;cases i:w.farLoad PL a (Mode.plain==Mode.atomic)with
    |ok y=>rw[i]at e;exact g y.1 w b k w' e
    |error x=>rw[i]at e;cases e;exact b
 | @store a v l t h g=>
   intro w b k w' e;cases j:pT v with
   |false=>
    obtain⟨A,B⟩:=gQ (p:=PL) (w:=w) (m:= .plain) (a:=a) (k:=l) j;rw[B]at e;cases e;exact b
   |true=>
    rw[gf j]at e;cases n:w.cell? a with
    |some u=>
     simp only[n]at e;split at e
     ·cases e;exact b
     ·exact g _ (b.setCell a v) k w' e
    |none=>
     simp only[n]at e;cases i:w.farStore PL a v (Mode.plain==Mode.atomic)with
     |ok y=>rw[i]at e;exact g y.1 (iP b i) k w' e
     |error x=>rw[i]at e;cases e;exact b
 |new z h g=>intro w b k w' e;exact g _ _ (b.push z) k w' e
 |shape h g=>intro w b k w' e;exact g _ w b k w' e
 |freeze h g=>intro w b k w' e;exact g _ (b.freeze _ _) k w' e
 |frozen h g=>intro w b k w' e;exact g _ w b k w' e
 | @getObj r l t h g=>
   intro w b k w' e;rw[Sem.run]at e;split at e
   ·cases e;exact b
   ·rename_i o z _;exact g o (b _ _ ‹_›) w b k w' e
   ·cases e;exact b
 | @setObj r o l t z h g=>
   intro w b k w' e;rw[Sem.run]at e;split at e
   ·cases e;exact b
   ·exact g _ (b.set r z) k w' e
   ·cases e;exact b
 | @choose q l t h g=>
   intro w b k w' e;rw[Sem.run]at e;split at e
   ·exact g _ w b k w' e
   ·exact g _ {w with drawn:=w.drawn+1} b k w' e
 |program h g=>intro w b k w' e;exact g w b k w' e
 |mark F h g=>intro w b k w' e;exact g w b k w' e
 |panic v=>intro w b k w' e;cases e;exact b
 |dead d=>intro w b k w' e;cases e;exact b
 |deadMark d=>intro w b k w' e;cases e;exact b
 | @sys c l E d=>
   intro w b k w' e;obtain⟨x,D,i,C⟩:=d (w.sys c).1 (w.sys c).2;rw[Sem.run,i]at e;cases e;exact C.2 (Em b c)
end
section
variable{G T:Nat}{base:List Frame}
theorem jx{k:List Item}
 (b:fr.todo= .inRegion ops (i::rest)::k) (a:((ops[i]?).map (mw · (yielded ops fr.tmps))).getD false=false):
 stepG.exec P main listen fr cs none w= .go {frame:=fr.finish undef,callers:=cs,status:= .running,dying:=none} w:=by unfold stepG.exec;simp only[b,a,Q7,↓reduceIte]
theorem tv(t:cT G T D ρ wL wM){fr':Frame}{cs':List Frame}(e:∀a,aR G D ρ a->fr'=bU a fr)(l:∀a,aR G D ρ a->cs'=cs.map (bU a)++base)(m:ie fr)(f:∀c∈cs,ie c/\cF c)(d:cF fr)
    {k:List Item} (o:fr.todo= .inRegion ops (i::rest)::k) (n:((ops[i]?).map (mw · (yielded ops fr.tmps))).getD false=false) (r mM s lM:Bool):
 ∃q p,stepG.exec PL r s fr cs none wL= .go q wL/\stepG.exec PM mM lM fr' cs' none wM= .go p wM/\eN G D ρ base q p:=by
 have b:=e ρ t.self;have h:fr'.todo= .inRegion ops (i::rest)::k.map (dr ρ):=by rw[b];show fr.todo.map (dr ρ)=_;rw[o];rfl
 have g:((ops[i]?).map (mw · (yielded ops fr'.tmps))).getD false=false:=by rw[b];have:yielded ops (bU ρ fr).tmps=yielded ops fr.tmps:=funext λj=>fG ρ fr.fn ops fr.tmps j;rw[this];exact n
 refine⟨_,_,jx o n,jx h g,λa u=> ?_,l,ew fr undef m,f,rfl,rfl,rfl,rfl⟩;show fr'.finish undef=bU a (fr.finish undef);rw[e a u,←fM fr undef m d,fq]
end
section
variable{G T:Nat}{base:List Frame}
theorem lA{id:Nat}{k:List Item}{t:Nat}
 (a:fr.todo= .code (.region id ops true)::k) (b:(choose (.order fr.fn id)).run P w= .ok t w'):
 stepG.exec P main listen fr cs none w= .go {frame:={fr with todo:= .inRegion ops (Region.schedule (P.follows .mixedOrders) ops t)::k},callers:=cs,status:= .running,dying:=none} w':=by unfold stepG.exec;simp only[a,b,Bool.not_true,Q7,↓reduceIte]
theorem uk(P:Program)(q:Question)(w:World):∃n w',(choose q).run P w= .ok n w':=by unfold choose;rw[Sem.run];split<;>exact⟨_,_,rfl⟩
theorem BQ(E:Env PL PM G)(F:PL.follows .mixedOrders=PM.follows .mixedOrders)(w:cT G T D ρ wL wM){fr':Frame}{cs':List Frame}(d:∀a,aR G D ρ a->fr'=bU a fr)(r:∀a,aR G D ρ a->cs'=cs.map (bU a)++base)(ok:ie fr)(m:∀c∈cs,ie c/\cF c)
 {id:Nat}  {k:List Item} (i:fr.todo= .code (.region id ops true)::k) {B mM C lM:Bool} {y:Goroutine} {wL':World} {t:Array Event} (h:stepG.exec PL B C fr cs none wL= .go y wL' t) (H:wL'.drawn<=T):
 ∃D' a x wM',stepG.exec PM mM lM fr' cs' none wM= .go x wM'/\eN G D' a base y x/\jf G T D ρ wL wM D' a wL' wM':=by
 have b:=d ρ w.self;have o:fr'.todo= .code (.region id ops true)::k.map (dr ρ):=by rw[b];show fr.todo.map (dr ρ)=_;rw[i];rfl
 have q:fr'.fn=fr.fn:=by rw[b];rfl
 obtain⟨n,l,v⟩:=uk PL (.order fr.fn id) wL;rw[lA i v]at h;simp only[GStep.go.injEq]at h;obtain⟨rfl,rfl,_⟩:=h;obtain⟨D',e,M,wM',J,L,K,g,_⟩:=fp E.load E.store (λ_ n=>n) (choose (.order fr.fn id)) (choose (.order fr.fn id)) D ρ wL wM w (λ_ _=> .choose λn=> .pure n) #[] _ l v rfl H;cases K with
 | @ok _ u _ _ p=>
   have s:(choose (.order fr.fn id)).run PM wM= .ok u wM':=(by rw[←Sem.runT_fst PM _ wM #[],L]);have I:u=n:=p e g.rel.self;rw[I]at s;rw[←q]at s;refine⟨D',e,_,wM',lA o s, ?_,g⟩;rw[←F];have j:=ok.todo;rw[i]at j;simp only[List.all_cons,i5]at j;refine Ax (λa f=>d a (aR.of_ran g f)) (λa f=>r a (aR.of_ran g f)) ok m (λa f=> ?_) ?_
   ·have A:=d a (aR.of_ran g f);have z:k.map (dr ρ)=k.map (dr a):=by have:=congrArg Frame.todo (b.symm.trans A);simp only[bU,i,IN,List.cons.injEq]at this;exact this.2
    rw[z];rfl
   ·simp only[List.all_cons,i5];exact⟨j.1,j.2⟩
def Dt(fr:Frame):Prop:=fr.roundOf=none/\(fr.todo=[]\/∃k,fr.todo= .code .ret::k)
theorem jS(h:Dt fr):
 stepG.exec P main listen fr cs none w= .go {frame:={fr with mode:= .returning},callers:=cs,status:= .running,dying:=none} w:=by obtain⟨b,a|⟨k,a⟩⟩:=h<;>unfold stepG.exec<;>simp only[b,a]<;>rfl
theorem F4(p:cT G T D ρ wL wM){fr':Frame}{cs':List Frame}(d:∀a,aR G D ρ a->fr'=bU a fr)(g:∀a,aR G D ρ a->cs'=cs.map (bU a)++base)(e:ie fr)(f:∀c∈cs,ie c/\cF c)(h:Dt fr)(n mM o lM:Bool):
 ∃m l,stepG.exec PL n o fr cs none wL= .go m wL/\stepG.exec PM mM lM fr' cs' none wM= .go l wM/\eN G D ρ base m l:=by
 have b:=d ρ p.self;have r:Dt fr':=by
  rw[b];obtain⟨j,i|⟨k,i⟩⟩:=h
  ·exact⟨by simp[bU,j], .inl (by simp[bU,i])⟩
  ·exact⟨by simp[bU,j], .inr ⟨k.map (dr ρ),by simp[bU,i,dr]⟩⟩
 refine⟨_,_,jS h,jS r,λa q=> ?_,g,⟨e.todo,e.defers, .inr rfl,e.kind,e.round⟩,f,rfl,rfl,rfl,rfl⟩;rw[d a q];rfl
end
theorem A8{a:Type}{g g':a->Sem Value}:∀l:List a,(∀x∈l,aG ρ PL PM (PI ρ) (g x) (g' x))->aG ρ PL PM (List.map (PI ρ)) (l.mapM g) (l.mapM g')
 |[],h=>by simp only[List.mapM_nil];exact aD _ rfl
 |x::l,h=>by simp only[List.mapM_cons];exact(h x Qj).bind λv=>(A8 l λy b=>h y (QP _ b)).bind λc=>aD _ rfl
theorem Ij{a:Type}{g g':a->Sem Value}(xs:Array a)(h:∀x∈xs,aG ρ PL PM (PI ρ) (g x) (g' x)):aG ρ PL PM (Array.map (PI ρ)) (xs.mapM g) (xs.mapM g'):=by rw[Array.mapM_eq_mapM_toList,Array.mapM_eq_mapM_toList];have:=A8 (ρ:=ρ) (PL:=PL) (PM:=PM) xs.toList λx b=>h x (by simpa using b);exact this.bind λc=>aD _ s_
def IM(z:Nat)(r:ResultVar):Bool:=
 match r with
 | .tmp t=> !(pr z t)
 | .cell a _=> !(pr z a)
theorem zu(fn:FuncId)(tmps:Array Value)(t:Nat)(h:pr (dX fn) t=false):(ig ρ fn tmps).getD t undef=PI ρ (tmps.getD t undef):=by
 simp only[Array.getD_eq_getD_getElem?];rw[ek ρ fn tmps t h];cases tmps[t]? with
 |none=>exact(fq ρ).symm
 |some v=>rfl
theorem uo(e:bH PL PM)(fn c:Func)(g:FuncId)(tmps:Array Value)(j:c.results=fn.results)(d:fn.results.all (IM (dX g))=true):
 aG ρ PL PM (PI ρ) (results fn tmps) (results c (ig ρ g tmps)):=by
 unfold results;rw[j];refine(Ij fn.results λx i=> ?_).bind λh=>aD _ ?_
 ·have:=Qm.1 d x i;cases x with
  |tmp t=>
   simp only[IM,Rt]at this;exact aD _ (zu g tmps t this)
  |cell a t=>
   simp only[IM,Rt]at this;dsimp only;rw[zu g tmps a this];exact(lH e _).bind λb=>jY e t b
 ·by_cases f:h.size=1
  ·simp[f]
  ·simp[f,PI]
section
variable{G T:Nat}{base:List Frame}
theorem DU{c:Frame}(f:fr.defers=[])(b:fr.mode= .returning)(d:fr.kind= .normal)(e:P.funcs[fr.fn]?=some fn)
 (a:(results fn fr.tmps).runT P w #[]=(.ok v w',es)):unwind P main fr (c::cs) none w= .go {frame:=c.finish v,callers:=cs,status:= .running,dying:=none} w' (seen P fr.fn es):=by unfold unwind;simp only[f,b,e,a,doReturn,d,AS,Array.append_empty]
theorem DV{c:Frame}(j:fr.defers=[])(e:fr.mode= .returning)(f:fr.kind= .normal)(i:P.funcs[fr.fn]?=some fn)
 (h:unwind P main fr (c::cs) none w= .go g w' es):∃v,(results fn fr.tmps).run P w= .ok v w'/\g={frame:=c.finish v,callers:=cs,status:= .running,dying:=none}:=by
 have a:=Sem.runT_fst P (results fn fr.tmps) w #[];unfold unwind at h;simp only[j,e,i]at h;generalize (results fn fr.tmps).runT P w #[]=q at h a;obtain⟨r,k⟩:=q;simp only at a;subst a;simp only at h;cases b:(results fn fr.tmps).run P w with
 |ok v d=>
  rw[b]at h;simp only[doReturn,f,AS,GStep.go.injEq]at h;obtain⟨rfl,rfl,_⟩:=h;exact⟨v,rfl,rfl⟩
 |halt x d=>
  rw[b]at h;cases x<;>simp[AS]at h
theorem xi(E:Env PL PM G)(k:cT G T D ρ wL wM){fr' c:Frame}{cs':List Frame}(i:∀a,aR G D ρ a->fr'=bU a fr)(d:∀a,aR G D ρ a->cs'=(c::cs).map (bU a)++base)(ok:ie fr)(g:∀x∈c::cs,ie x/\cF x)
 (B:fr.defers=[]) (A:fr.mode= .returning) {f:Func} (L:PL.funcs[fr.fn]?=some fn) (s:PM.funcs[fr.fn]?=some f) (K:f.results=fn.results) (r:fn.results.all (IM (dX fr.fn))=true)
 {H mM:Bool} {F:Goroutine} {wL':World} {u:Array Event} (h:unwind PL H fr (c::cs) none wL= .go F wL' u) (N:wL'.drawn<=T):
 ∃D' a C wM' l,unwind PM mM fr' cs' none wM= .go C wM' l/\eN G D' a base F C/\jf G T D ρ wL wM D' a wL' wM'/\∀e∈l,j6 D' a e:=by
 obtain⟨v,J,rfl⟩:=DV B A ok.kind L h;have b:=i ρ k.self;have t:∀a,aR G D ρ a->aG a PL PM (PI a) (results fn fr.tmps) (results f fr'.tmps):=λa O=>by rw[i a O];exact uo E.same fn f fr.fn fr.tmps K r
 obtain⟨D',n,S,wM',w,R,Q,y,P⟩:=fp E.load E.store PI _ _ D ρ wL wM k t #[] _ wL' J rfl N;cases Q with
 | @ok _ z _ _ o=>
   have j:=d ρ k.self;simp only[IN,List.cons_append]at j;have p:unwind PM mM fr' cs' none wM= .go {frame:=(bU ρ c).finish z,callers:=cs.map (bU ρ)++base,status:= .running,dying:=none} wM' (seen PM fr'.fn (#[]++w)):=by
    rw[j];refine DU (fn:=f) ?_ ?_ ?_ ?_ R
    ·rw[b];simp[bU,B]
    ·rw[b];exact A
    ·rw[b];exact ok.kind
    ·rw[b];exact s
   refine⟨D',n,_,wM',_,p,⟨λa m=> ?_,λa m=> ?_,ew c v (g c Qj).1,λx I=>g x (QP _ I),rfl,rfl,rfl,rfl⟩,y,λe M=> ?_⟩
   ·have q:=(d ρ k.self).symm.trans (d a (aR.of_ran y m));simp only[IN,List.cons_append,List.cons.injEq]at q;show(bU ρ c).finish z=bU a (c.finish v);rw[q.1,o a m];exact fM c v (g c Qj).1 (g c Qj).2
   ·have q:=(d ρ k.self).symm.trans (d a (aR.of_ran y m));simp only[IN,List.cons_append,List.cons.injEq]at q;exact q.2
   ·have:=dZ _ _ _ e M;exact P e (by simpa using this)
end
section
variable{G T:Nat}{base:List Frame}
def gy(fr:Frame):Sem Next:=do fr.roundOf.elim (stuck "beginRound: no round") Instr.beginRound;pure .skip
theorem jT{k:List Item}(a:fr.todo= .beginRound::k):
 stepG.exec P main listen fr cs none w=stepG.apply P listen fr cs none (gy fr) w:=by unfold stepG.exec;simp only[a];rfl
theorem zR(E:Env PL PM G)(A:cT G T D ρ wL wM)(P:aT wL)
 {fr':Frame} {cs':List Frame} (i:∀g,aR G D ρ g->fr'=bU g fr) (z:∀g,aR G D ρ g->cs'=cs.map (bU g)++base) (ok:ie fr) (u:∀c∈cs,ie c/\cF c)
 {k:List Item} (w:fr.todo= .beginRound::k) {K mM L:Bool} {s:Goroutine} {wL':World} {B:Array Event} (h:stepG.exec PL K L fr cs none wL= .go s wL' B) (O:wL'.drawn<=T) (M:s.status= .running/\∀c,s.frame.mode≠ .panicking c) (N:s.dying=none):
 ∃D' g H wM' t,stepG.exec PM mM true fr' cs' none wM= .go H wM' t/\eN G D' g base s H/\jf G T D ρ wL wM D' g wL' wM'/\∀e∈t,j6 D' g e:=by
 have q:=i ρ A.self;have v:fr'.todo= .beginRound::k.map (dr ρ):=by rw[q];show fr.todo.map (dr ρ)=_;rw[w];rfl
 have j:cF fr:=λo d y=>by unfold Frame.oper? at y;rw[w]at y;cases y
 have r:∀g,aR G D ρ g->aG g PL PM (fC g) (gy fr) (gy fr'):=λg Q=>by
  rw[i g Q];unfold gy;show aG g PL PM (fC g) (do fr.roundOf.elim _ Instr.beginRound;pure .skip) (do(fr.roundOf.map g).elim _ Instr.beginRound;pure .skip);cases fr.roundOf with
  |none=>exact .dead trivial
  |some l=>exact xH (oE E.same l)
 have R:cN PL (gy fr):=qL _;have p:∀n m,(gy fr).run PL wL= .ok n m->n= .skip:=λn m e=>by
  unfold gy at e;rw[QC]at e;cases F:(fr.roundOf.elim (stuck "beginRound: no round") Instr.beginRound:Sem Unit).run PL wL with
  |ok a J=>rw[F]at e;cases e;rfl
  |halt x J=>rw[F]at e;cases e
 rw[jT w]at h;rw[jT v];exact kD E.tab E.load E.store A i z ok u j r R (λk m=>fe (r ρ A.self) wL P k m) (λf I m e=>by have:=p _ _ e;cases this) (λl f C a b m e=>by have:=p _ _ e;cases this) h O M N
theorem yd{a:List Deferred}(f:aT w)(h:(Instr.takeDeferred b).run P w= .ok a w'):a=[]:=by
 unfold Instr.takeDeferred at h;simp only[Bind.bind,getObj,Qo,Sem.run]at h;split at h
 ·cases h
 ·rename_i o g _;have e:=f _ _ ‹_›;cases o with
  |deferred d=>
   cases d with
   |none=>cases h
   |some d=>
    have c:d=[]:=(by simpa[cJ]using e);subst c;simp only[setObj,Qo,Sem.run]at h;split at h
    ·cases h
    ·cases h;rfl
    ·cases h
  |_=>cases h
 ·cases h
theorem xY{a:List Deferred}(d:fr.defers=⟨.collected b,args⟩::ds)
 (c:(Instr.takeDeferred b).runT P w #[]=(.ok a w',es)):unwind P main fr cs none w= .go {frame:={fr with defers:=a++ds},callers:=cs,status:= .running,dying:=none} w' (seen P fr.fn es):=by unfold unwind;simp only[d,c,AS,Array.append_empty]
theorem ta(f:fr.defers=⟨.collected b,args⟩::ds)
 (h:unwind P main fr cs none w= .go g w' es):∃a,(Instr.takeDeferred b).run P w= .ok a w'/\g={frame:={fr with defers:=a++ds},callers:=cs,status:= .running,dying:=none}:=by
 have c:=Sem.runT_fst P (Instr.takeDeferred b) w #[];unfold unwind at h;simp only[f]at h;generalize (Instr.takeDeferred b).runT P w #[]=q at h c;obtain⟨r,i⟩:=q;simp only at c;subst c;simp only at h;cases d:(Instr.takeDeferred b).run P w with
 |ok v e=>
  rw[d]at h;simp only[AS,GStep.go.injEq]at h;obtain⟨rfl,rfl,_⟩:=h;exact⟨v,rfl,rfl⟩
 |halt x e=>
  rw[d]at h;simp[AS]at h
theorem Bi(E:Env PL PM G)(hW:cT G T D ρ wL wM)(hP:aT wL){fr':Frame}{cs':List Frame}(hfr:∀ρ',aR G D ρ ρ'->fr'=bU ρ' fr)(hcs:∀ρ',aR G D ρ ρ'->cs'=cs.map (bU ρ')++base)(ok:ie fr)(oks:∀x∈cs,ie x/\cF x)
    (hd:fr.defers=⟨.collected b,args⟩::ds) {mL mM:Bool} {gL:Goroutine} {wL':World} {esL:Array Event} (h:unwind PL mL fr cs none wL= .go gL wL' esL) (hT:wL'.drawn<=T):
 ∃D' ρ' gM wM' esM,unwind PM mM fr' cs' none wM= .go gM wM' esM/\eN G D' ρ' base gL gM/\jf G T D ρ wL wM D' ρ' wL' wM'/\∀e∈esM,j6 D' ρ' e:=by
 obtain⟨calls,hv,rfl⟩:=ta hd h;have hnil:=yd hP hv;have hfr0:=hfr ρ hW.self;have hdM:∀ρ',aR G D ρ ρ'->fr'.defers=⟨.collected (ρ' b),args.map (PI ρ')⟩::ds.map (mJ ρ'):=λρ' hA=>by rw[hfr ρ' hA];show fr.defers.map (mJ ρ')=_;rw[hd];rfl
 have hb:∀ρ',aR G D ρ ρ'->ρ' b=ρ b:=λρ' hA=>by have:=(hdM ρ' hA).symm.trans (hdM ρ hW.self);simp only[List.cons.injEq,Deferred.mk.injEq,Target.collected.injEq]at this;exact this.1.1
 obtain⟨D',ρ1,r',wM',es',e1,e2,e3,e4⟩:=fp E.load E.store (λρ l=>l.map (mJ ρ)) (Instr.takeDeferred b) (Instr.takeDeferred (ρ b)) D ρ wL wM hW (λρ' hA=>by rw[←hb ρ' hA];exact jd b) #[] _ wL' hv rfl hT;cases e2 with
 | @ok _ v' _ _ hv'=>
   have hv0:v'=[]:=(by rw[hv' ρ1 e3.rel.self,hnil];rfl);refine⟨D',ρ1,_,wM',_,xY (hdM ρ hW.self) e1,⟨λρ' h'=> ?_,λρ' h'=>hcs ρ' (aR.of_ran e3 h'), ?_,oks,rfl,rfl,rfl,rfl⟩,e3,λe he=> ?_⟩
   ·have q:=(hdM ρ hW.self).symm.trans (hdM ρ' (aR.of_ran e3 h'));simp only[List.cons.injEq]at q;show{fr' with defers:=v'++ds.map (mJ ρ)}=bU ρ' {fr with defers:=calls++ds};rw[q.2,hv0,hnil,hfr ρ' (aR.of_ran e3 h')];rfl
   ·refine⟨ok.todo, ?_,ok.mode,ok.kind,ok.round⟩;have:=ok.defers;rw[hd]at this;simp only[cY,List.all_cons,i5]at this;show cY (calls++ds)=true;rw[hnil];exact this.2
   ·have:=dZ _ _ _ e he;exact e4 e (by simpa using this)
end
section
variable{G T:Nat}{base:List Frame}
theorem BP{a:Option Code}(d:aT w)(h:(QO l).run P w= .ok a w'):a.all (ji 0)=true:=by
 unfold QO Re at h;simp only[Bind.bind,getObj,Qo,Sem.run]at h;split at h
 ·cases h
 ·rename_i o f _;have b:=d _ _ ‹_›;cases o with
  |loop r=>
   simp only[Pure.pure,Qo]at h;split at h
   ·obtain⟨x,e,c,_⟩:=jz (PL:=P) (α:=PUnit) (.error "range function recovered a loop body panic and did not resume panicking") w;rw[Sem.run_bind',c]at h;cases h
   ·simp only[setObj,Qo,Sem.run]at h;simp only[cJ,i5]at b;split at h
    ·cases h
    ·cases h;exact b.1.2
    ·cases h
  |_=>cases h
 ·cases h
theorem jl{k:List Item}{a:Option Code}(b:fr.todo= .endRangeFunc l::k)
 (c:(QO l).runT P w #[]=(.ok a w',es)):stepG.exec P main listen fr cs none w= .go {frame:={fr with todo:=(a.map Se).toList++k},callers:=cs,status:= .running,dying:=none} w' (seen P fr.fn es):=by unfold stepG.exec;simp only[b,c,AS,Array.append_empty]
theorem sE{k:List Item}(i:fr.todo= .endRangeFunc l::k)(m:fr.mode= .run\/fr.mode= .returning)
 (h:stepG.exec P main listen fr cs none w= .go g w' es) (j:∀c,g.frame.mode≠ .panicking c):∃a,(QO l).run P w= .ok a w'/\g={frame:={fr with todo:=(a.map Se).toList++k},callers:=cs,status:= .running,dying:=none}:=by
 have b:=Sem.runT_fst P (QO l) w #[];unfold stepG.exec at h;simp only[i]at h;generalize (QO l).runT P w #[]=q at h b;obtain⟨r,n⟩:=q;simp only at b;subst b;simp only at h;cases d:(QO l).run P w with
 |ok v f=>
  rw[d]at h;simp only[AS,GStep.go.injEq]at h;obtain⟨rfl,rfl,_⟩:=h;exact⟨v,rfl,rfl⟩
 |halt x f=>
  rw[d]at h;cases x with
  |panic v=>
   simp only[AS,GStep.go.injEq]at h;obtain⟨rfl,_,_⟩:=h;obtain⟨c,e⟩:=jK fr [{v,recovered:=false}] m;exact absurd e (j c)
  |_=>simp[AS]at h
theorem uZ(E:Env PL PM G)(r:cT G T D ρ wL wM)(O:aT wL){fr':Frame}{cs':List Frame}(i:∀a,aR G D ρ a->fr'=bU a fr)(y:∀a,aR G D ρ a->cs'=cs.map (bU a)++base)(ok:ie fr)(t:∀x∈cs,ie x/\cF x)
  {k:List Item} (w:fr.todo= .endRangeFunc l::k) {F mM H lM:Bool} {z:Goroutine} {wL':World} {A:Array Event} (h:stepG.exec PL F H fr cs none wL= .go z wL' A) (N:wL'.drawn<=T) (J:∀c,z.frame.mode≠ .panicking c):
 ∃D' a C wM' o,stepG.exec PM mM lM fr' cs' none wM= .go C wM' o/\eN G D' a base z C/\jf G T D ρ wL wM D' a wL' wM'/\∀e∈o,j6 D' a e:=by
 obtain⟨g,B,rfl⟩:=sE w ok.mode h J;have L:=BP O B;have b:∀a,aR G D ρ a->fr'.todo= .endRangeFunc (a l)::k.map (dr a):=λa m=>by rw[i a m];show fr.todo.map (dr a)=_;rw[w];rfl
 have K:∀a,aR G D ρ a->a l=ρ l:=λa m=>by have:=(b a m).symm.trans (b ρ r.self);simp only[List.cons.injEq,Item.endRangeFunc.injEq]at this;exact this.1
 obtain⟨D',f,U,wM',P,S,R,p,Q⟩:=fp E.load E.store (λ_ j=>j) (QO l) (QO (ρ l)) D ρ wL wM r (λa m=>by rw[←K a m];exact po E.same l) #[] _ wL' B rfl N;cases R with
 | @ok _ s _ _ v=>
   have u:s=g:=v f p.rel.self;subst u;have d:=ok.todo;rw[w]at d;simp only[List.all_cons,i5]at d;have I:dX fr.fn=0:=by have:=d.1;simpa[mb]using this
   refine⟨D',f,_,wM',_,jl (b ρ r.self) S,Ax (λa n=>i a (aR.of_ran p n)) (λa n=>y a (aR.of_ran p n)) ok t (λa n=> ?_) ?_,p,λe M=> ?_⟩
   ·have q:=(b ρ r.self).symm.trans (b a (aR.of_ran p n));simp only[List.cons.injEq]at q;rw[q.2];cases s<;>simp[dr]
   ·rw[I]at d⊢;cases s with
    |none=>simpa using d.2
    |some c=>simp only[eZ,Option.toList_some,List.cons_append,List.nil_append,List.all_cons,i5];exact⟨L,d.2⟩
   ·have:=dZ _ _ _ e M;exact Q e (by simpa using this)
end
inductive gC (fr:Frame):Option Code->Prop
 |done (h:fr.todo=[]):gC fr none
 |ret {k:List Item} (h:fr.todo= .code .ret::k):gC fr (some .ret)
 |exit {id:Nat} {k:List Item} (h:fr.todo= .code (.exit id)::k) (he:exitTo id k=none):gC fr (some (.exit id))
theorem gC.ok{j:Option Code}(h:gC fr j):j.all (ji 0)=true:=by cases h<;>rfl
theorem gC.ren{j:Option Code}(h:gC fr j)(a:Nat->Nat):gC (bU a fr) j:=by
 cases h with
 |done h=>exact .done (by simp[bU,h])
 |ret h=>exact .ret (k:=_) (by simp only[bU,h,IN,dr];rfl)
 | @exit id k h b=>exact .exit (k:=k.map (dr a)) (by simp[bU,h,dr]) (by rw[pe,b];rfl)
section
variable{G T:Nat}{base:List Frame}
theorem ml{c:Frame}{j:Option Code}(e:gC fr j)(b:fr.roundOf=some l)(d:fr.kind= .normal)
 (a:(Instr.endRound l j).runT P w #[]=(.ok v w',es)):stepG.exec P main listen fr (c::cs) none w= .go {frame:=c.finish v,callers:=cs,status:= .running,dying:=none} w' (seen P fr.fn es):=by
 unfold stepG.exec;cases e with
 |done h=>simp only[h,b,a,doReturn,d,AS,Array.append_empty]
 |ret h=>simp only[h,b,a,doReturn,d,AS,Array.append_empty]
 |exit h f=>simp only[h,f,Option.elim_none,b,a,doReturn,d,AS,Array.append_empty]
theorem uX{c:Frame}{j:Option Code}(m:gC fr j)(i:fr.roundOf=some l)(k:fr.kind= .normal)
 (h:stepG.exec P main listen fr (c::cs) none w= .go g w' es):∃v,(Instr.endRound l j).run P w= .ok v w'/\g={frame:=c.finish v,callers:=cs,status:= .running,dying:=none}:=by
 have a:=Sem.runT_fst P (Instr.endRound l j) w #[];unfold stepG.exec at h;cases m with
 |done e=>
  simp only[e,i]at h;generalize (Instr.endRound l none).runT P w #[]=q at h a;obtain⟨r,f⟩:=q;simp only at a;subst a;simp only at h;cases b:(Instr.endRound l none).run P w with
  |ok v d=>
   rw[b]at h;simp only[doReturn,k,AS,GStep.go.injEq]at h;obtain⟨rfl,rfl,_⟩:=h;exact⟨v,rfl,rfl⟩
  |halt x d=>
   rw[b]at h;simp[AS]at h
 |ret e=>
  simp only[e,i]at h;generalize (Instr.endRound l (some .ret)).runT P w #[]=q at h a;obtain⟨r,f⟩:=q;simp only at a;subst a;simp only at h;cases b:(Instr.endRound l (some .ret)).run P w with
  |ok v d=>
   rw[b]at h;simp only[doReturn,k,AS,GStep.go.injEq]at h;obtain⟨rfl,rfl,_⟩:=h;exact⟨v,rfl,rfl⟩
  |halt x d=>
   rw[b]at h;simp[AS]at h
 | @exit id _ e n=>
   simp only[e,n,Option.elim_none,i]at h;generalize (Instr.endRound l (some (.exit id))).runT P w #[]=q at h a;obtain⟨r,f⟩:=q;simp only at a;subst a;simp only at h;cases b:(Instr.endRound l (some (.exit id))).run P w with
   |ok v d=>
    rw[b]at h;simp only[doReturn,k,AS,GStep.go.injEq]at h;obtain⟨rfl,rfl,_⟩:=h;exact⟨v,rfl,rfl⟩
   |halt x d=>
    rw[b]at h;simp[AS]at h
theorem zj(E:Env PL PM G)(i:cT G T D ρ wL wM){fr' c:Frame}{cs':List Frame}(k:∀a,aR G D ρ a->fr'=bU a fr)(b:∀a,aR G D ρ a->cs'=(c::cs).map (bU a)++base)(ok:ie fr)(d:∀x∈c::cs,ie x/\cF x)
  {j:Option Code} (w:gC fr j) (C:fr.roundOf=some l) {I mM J lM:Bool} {H:Goroutine} {wL':World} {y:Array Event} (h:stepG.exec PL I J fr (c::cs) none wL= .go H wL' y) (N:wL'.drawn<=T):
 ∃D' a F wM' o,stepG.exec PM mM lM fr' cs' none wM= .go F wM' o/\eN G D' a base H F/\jf G T D ρ wL wM D' a wL' wM'/\∀e∈o,j6 D' a e:=by
 obtain⟨v,L,rfl⟩:=uX w C ok.kind h;have f:=k ρ i.self;have g:∀a,aR G D ρ a->fr'.roundOf=some (a l):=λa n=>by rw[k a n];show fr.roundOf.map a=_;rw[C];rfl
 have u:∀a,aR G D ρ a->a l=ρ l:=λa n=>Option.some.inj ((g a n).symm.trans (g ρ i.self));obtain⟨D',r,R,wM',z,Q,P,A,O⟩:=fp E.load E.store PI (Instr.endRound l j) (Instr.endRound (ρ l) j) D ρ wL wM i (λa n=>by rw[←u a n];exact sy l j w.ok) #[] _ wL' L rfl N;cases P with
 | @ok _ B _ _ s=>
   have m:=b ρ i.self;simp only[IN,List.cons_append]at m;have t:stepG.exec PM mM lM fr' cs' none wM= .go {frame:=(bU ρ c).finish B,callers:=cs.map (bU ρ)++base,status:= .running,dying:=none} wM' (seen PM fr'.fn (#[]++z)):=by
    rw[m];refine ml ?_ (g ρ i.self) ?_ Q
    ·rw[f];exact w.ren ρ
    ·rw[f];exact ok.kind
   refine⟨D',r,_,wM',_,t,⟨λa p=> ?_,λa p=> ?_,ew c v (d c Qj).1,λx K=>d x (QP _ K),rfl,rfl,rfl,rfl⟩,A,λe M=> ?_⟩
   ·have q:=(b ρ i.self).symm.trans (b a (aR.of_ran A p));simp only[IN,List.cons_append,List.cons.injEq]at q;show(bU ρ c).finish B=bU a (c.finish v);rw[q.1,s a p];exact fM c v (d c Qj).1 (d c Qj).2
   ·have q:=(b ρ i.self).symm.trans (b a (aR.of_ran A p));simp only[IN,List.cons_append,List.cons.injEq]at q;exact q.2
   ·have:=dZ _ _ _ e M;exact O e (by simpa using this)
end
def kj(wL wM:World):Prop:=∃c e f,(∀v∈c,bD v=true)/\wL.heap[fh]?=some (.cells c e f)/\wM.heap[fh]?=some (.cells c e f)
def uE(e:Event):Prop:=∃a:Addr,a.block=fh/\e=⟨.cell a,false,false⟩
def Dz(PL:Program):Prop:=∃d,PL.underlying sF=some d/\(∀fs,d≠ .struct fs)/\∀n e,d≠ .array n e
section
variable{G T:Nat}{base:List Frame}
theorem kj.ran{D':Nat->Prop}{a:Nat->Nat}{wL' wM':World}(h:kj wL wM)(n:fh<G)(d:cT G T D ρ wL wM)(g:jf G T D ρ wL wM D' a wL' wM'):kj wL' wM':=by
 obtain⟨c,e,f,m,j,i⟩:=h;refine⟨c,e,f,m, ?_, ?_⟩
 ·rw[g.keepL fh (de j) λk=>by have:=d.out _ k;omega];exact j
 ·rw[g.keep fh (de i) λb l e=>by have:=d.out _ l;have:=d.glob b;omega];exact i
theorem FA(a:Addr)(n:Nat):(a.add n).block=a.block:=by unfold Addr.add;split<;>rfl
theorem xF{a:Type}{k:IntKind}{x y:Int}{c:BoundsCode}{v:a}(h:(boundsPanic k x y c:Sem a).run PL w= .ok v w'):False:=by
 unfold boundsPanic at h;dsimp only at h;split at h
 all_goals
  rw[QC]at h;revert h;generalize Sem.run PL _ w=q;intro h;cases q with
  |halt z d=>cases h
  |ok b d=>
   obtain⟨g,i,f,_⟩:=jz (PL:=PL) (α:=a) (.bounds (IntKind.i64.wrap x) y b c) d;exact absurd (f.symm.trans h) (by intro e;cases e)
theorem xu(g:bH PL PM){a:Addr}{c:Value}(h:(Instr.indexAt t (.pointer (some a)) c).run PL w= .ok v w'):
 w'=w/\(∀j,PI j c=c)/\(∃b:Addr,v= .pointer (some b)/\b.block=a.block)/\∀l es,(Instr.indexAt t (.pointer (some a)) c).runT PM l es=(.ok v l,es):=by
 cases c with
 |int k i=>
  unfold Instr.indexAt at h⊢;simp only[asIntOf,underlying,program,bind,pure,Qo,Sem.run,QL,←g.under]at h⊢;cases f:PL.underlying t with
  |none=>simp[f,stuck,Qo]at h
  |some d=>
   simp only[f,Qo]at h⊢;cases d with
   |array n e=>
    simp only[Rl,pure,Qo,Sem.run,QL,f,←g.under]at h⊢;by_cases o:0<=i/\i<(n:Int)
    ·simp only[o,and_self,↓reduceIte,sizeOf,typeInfo,program,bind,pure,Qo,Sem.run,QL,←g.info]at h⊢;cases m:PL.info? e with
     |none=>simp[m,stuck,Qo]at h
     |some z=>
      simp only[m,Qo,Sem.run,QL,Result.ok.injEq]at h⊢;obtain⟨rfl,rfl⟩:=h;exact⟨rfl,λj=>by simp[PI],⟨_,rfl,FA _ _⟩,λ_ _=>by first|rfl|trivial⟩
    ·simp only[o,↓reduceIte]at h;split at h
     ·simp[unsupported]at h
     ·exfalso;exact xF h
   |_=>simp[stuck,Qo]at h
 |pointer p=>cases p<;>simp[Instr.indexAt,asIntOf,stuck,unsupported,bind,Qo]at h
 |_=>simp[Instr.indexAt,asIntOf,stuck,bind,Qo]at h
theorem dJ{k:List Item}
 (b:fr.todo= .inRegion ops (i::rest)::k) (d:ops[i]?=some o) (f:mw o (yielded ops fr.tmps)=true) (a:∀c,o.op≠ .defer c):
 stepG.exec P main listen fr cs none w=stepG.apply P listen fr cs none (execOp fr.eval o) w:=by
 unfold stepG.exec;simp only[b,d,eZ,Q2,f,↓reduceIte];unfold stepG.oper;simp only[Frame.oper?,b,d];split
 ·rename_i e;exact absurd e (a _)
 ·rfl
theorem AK(b:Nat->Nat)(tmps:Array Value)(hv:iO b v=v):(ig b jU tmps).setIfInBounds dL v=ig b jU (tmps.setIfInBounds dL v):=by
 apply Array.ext_getElem?;intro i;by_cases d:pr (dX jU) i=true
 ·rw[ku b jU _ i d];have e:dL=i:=Eq.symm (by simpa[kS,mm]using d:i=dL);subst e;rw[Array.getElem?_setIfInBounds,Array.getElem?_setIfInBounds,vH];simp only[↓reduceIte];split
  ·simp[mH,kS,hv]
  ·rfl
 ·have a:pr (dX jU) i=false:=by simpa using d
  have c:dL≠i:=λe=>by subst e;simp[kS,mm]at a
  rw[ek b jU _ i a,sN c,sN c,ek b jU _ i a]
theorem wi(c:Nat->Nat)(fr:Frame)(v:Value){k:List Item}(h:fr.todo= .inRegion ops (i::rest)::k)(l:ops[i]?=some o)(j:fr.fn=jU)(m:o.dst=some dL)(hv:iO c v=v):
 (bU c fr).finish v=bU c (fr.finish v):=by obtain⟨n,a,e,d,f,g,b⟩:=fr;simp only at h j;subst h j;simp only[bU,Frame.finish,IN,dr,l,Option.bind_some,m,AK c a hv]
theorem yK(E:Env PL PM G)(hW:cT G T D ρ wL wM)(hP:aT wL)
 {fr':Frame} {cs':List Frame} (u:∀a,aR G D ρ a->fr'=bU a fr) (M:∀a,aR G D ρ a->cs'=cs.map (bU a)++base) (ok:ie fr) (C:∀c∈cs,ie c/\cF c)
    {k:List Item}  (H:fr.todo= .inRegion ops (i::rest)::k) (J:ops[i]?=some o) (P:mw o (yielded ops fr.tmps)=true)
 (Q:fr.fn=jU)  {l:Operand} (m:o.op= .indexAddr t (.global fh) l) (V:mO 1 l=true) (z:o.dst=some dL)
 {S mM U:Bool} {A:Goroutine} {wL':World} {O:Array Event} (h:stepG.exec PL S U fr cs none wL= .go A wL' O) (X:A.status= .running/\∀c,A.frame.mode≠ .panicking c) (Z:A.dying=none):
 ∃R,wL'=wL/\stepG.exec PM mM true fr' cs' none wM= .go R wM/\eN G D ρ base A R:=by
 have g:=u ρ hW.self;have p:fr'.todo= .inRegion ops (i::rest)::k.map (dr ρ):=by rw[g];show fr.todo.map (dr ρ)=_;rw[H];rfl
 have F:mw o (yielded ops fr'.tmps)=true:=by rw[g];have:yielded ops (bU ρ fr).tmps=yielded ops fr.tmps:=funext λj=>fG ρ fr.fn ops fr.tmps j;rw[this];exact P
 have q:∀c,o.op≠ .defer c:=λc e=>by rw[m]at e;cases e
 rw[dJ H J P q]at h;have K:execOp fr.eval o=(do pure (.value (←Instr.indexAt t (fr.eval (.global fh)) (fr.eval l))):Sem Next):=by unfold execOp;rw[m]
 have y:execOp fr'.eval o=(do pure (.value (←Instr.indexAt t (fr'.eval (.global fh)) (fr'.eval l))):Sem Next):=by unfold execOp;rw[m]
 rw[K]at h;obtain⟨n,f,_,rfl⟩:=qe ok.noCall ok.mode (fL _) h X (λk B=>fe (cg (k6 (ρ:=id) E.same t _ _)) wL hP k B) Z;rw[QC]at f;cases I:(Instr.indexAt t (fr.eval (.global fh)) (fr.eval l)).run PL wL with
 |halt x B=>rw[I]at f;cases f
 |ok v B=>
  rw[I]at f;cases f;obtain⟨rfl,h1,⟨b,rfl,h2⟩,h3⟩:=xu E.same I;have L:fr'.eval l=fr.eval l:=by rw[g,gZ fr l (by rw[Q,kS];exact V)];exact h1 ρ
  have W:(execOp fr'.eval o).runT PM wM #[]=(.ok (.value (.pointer (some b))) wM,#[]):=by rw[y,L];show QL PM (Qo _ _) wM #[]=_;rw[Sem.runT_bind'];have:=h3 wM #[];simp only[Frame.eval]at this⊢;rw[this];rfl
  have N:eJ fr':=by intro d w r s k2 e;rw[p]at e;cases e
  have Y:fr'.kind= .normal:=by rw[g];exact ok.kind
  refine⟨{frame:=fr'.finish (.pointer (some b)),callers:=cs',status:= .running,dying:=none},rfl, ?_,⟨λa hA=> ?_,M, ?_,C,rfl,rfl,rfl,rfl⟩⟩
  ·rw[dJ p J F q,dF N W rfl];simp only[gB,Y]
   congr 1
  ·show fr'.finish _=bU a (fr.finish _);rw[u a hA];exact wi a fr _ H J Q z (by simp[iO,lx,h2])
  ·exact ew fr _ ok
theorem Br(E:Env PL PM G)(S:Dz PL)(hW:cT G T D ρ wL wM)(hP:aT wL)(hR:kj wL wM)
 {fr':Frame} {cs':List Frame} (F:∀l,aR G D ρ l->fr'=bU l fr) (Y:∀l,aR G D ρ l->cs'=cs.map (bU l)++base) (ok:ie fr) (Q:∀c∈cs,ie c/\cF c)
    {k:List Item}  (ht:fr.todo= .inRegion ops (i::rest)::k) (ho:ops[i]?=some o) (hw:mw o (yielded ops fr.tmps)=true)
 (hf:fr.fn=jU) (y:o.op= .load sF (.tmp dL)) (b:lx (fr.eval (.tmp dL))=true) (A:cF fr)
 {mL mM lL:Bool} {J:Goroutine} {wL':World} {a0:Array Event} (h:stepG.exec PL mL lL fr cs none wL= .go J wL' a0) (hq:J.status= .running/\∀c,J.frame.mode≠ .panicking c) (hd:J.dying=none):
 ∃gM K,wL'=wL/\stepG.exec PM mM true fr' cs' none wM= .go gM wM K/\eN G D ρ base J gM/\∀e∈K,uE e:=by
 have t:=F ρ hW.self;have B:fr'.todo= .inRegion ops (i::rest)::k.map (dr ρ):=by rw[t];show fr.todo.map (dr ρ)=_;rw[ht];rfl
 have R:mw o (yielded ops fr'.tmps)=true:=by rw[t];have:yielded ops (bU ρ fr).tmps=yielded ops fr.tmps:=funext λj=>fG ρ fr.fn ops fr.tmps j;rw[this];exact hw
 have C:∀c,o.op≠ .defer c:=λc e=>by rw[y]at e;cases e
 rw[dJ ht ho hw C]at h;have X:execOp fr.eval o=(do pure (.value (←AT sF (fr.eval (.tmp dL)))):Sem Next):=by unfold execOp;rw[y]
 have H:execOp fr'.eval o=(do pure (.value (←AT sF (fr'.eval (.tmp dL)))):Sem Next):=by unfold execOp;rw[y]
 have I:fr'.eval (.tmp dL)=fr.eval (.tmp dL):=by
  rw[t];simp only[Frame.eval,bU,Array.getD_eq_getD_getElem?];rw[ku ρ fr.fn fr.tmps dL (by simp[hf,kS,mm])];simp only[Frame.eval,Array.getD_eq_getD_getElem?]at b;cases hx:fr.tmps[dL]? with
  |none=>rfl
  |some v=>
   rw[hx]at b;simp only[Q2]at b;simp[mH,hf,kS,iO,b]
 rw[X]at h;obtain⟨n,q,_,rfl⟩:=qe ok.noCall ok.mode (fL _) h hq (λk N=>fe (cg (gI (ρ:=id) E.same sF _)) wL hP k N) hd;rw[QC]at q;cases L:(AT sF (fr.eval (.tmp dL))).run PL wL with
 |halt x N=>rw[L]at q;cases q
 |ok v N=>
  rw[L]at q;cases q;generalize fr.eval (.tmp dL)=p at b L I;cases p<;>simp only[lx,Q7]at b
  ·rename_i a;cases a with
   |none=>cases b
   |some a=>
    have M:a.block=fh:=(by simpa using b);obtain⟨d,hu,W,V⟩:=S;obtain⟨c,e,f,q1,O,q3⟩:=hR;have z:wM.cell? a=wL.cell? a:=(by unfold Qe;rw[M,O,q3]);have u:∀(P:Program),P.underlying sF=some d->∀w es,(AT sF (.pointer (some a))).runT P w es=(load a:Sem Value).runT P w es:=by intro P hP w es;unfold AT loadVar isAgg underlying Rl;simp only[program,bind,pure,Qo,QL,hP];cases d<;>first|rfl|exact absurd rfl (W _)|exact absurd rfl (V _ _)
    have g:=congrArg Prod.fst (u PL hu wL #[]);rw[Sem.runT_fst,Sem.runT_fst,L]at g;have m:wL.cell? a=some v/\wL'=wL:=by
     simp only[load,Sem.run]at g;cases hc:wL.cell? a with
     |some x=>rw[hc]at g;simp only[Result.ok.injEq]at g;exact⟨by rw[g.1],g.2⟩
     |none=>
      rw[hc]at g;unfold World.farLoad at g;rw[M,O]at g;simp at g
    obtain⟨m,rfl⟩:=m;have U:bD v=true:=by
     unfold Qe at m;rw[M,O]at m;simp only at m;split at m
     ·cases m
     ·exact q1 v (Qv m)
    have hr:(execOp fr'.eval o).runT PM wM #[]=(.ok (.value v) wM,#[⟨.cell a,false,false⟩]):=by rw[H,I];show QL PM (Qo _ _) wM #[]=_;rw[Sem.runT_bind',u PM (by rw[←E.same.under];exact hu)];simp only[load,QL,z,m];rfl
    have Z:eJ fr':=by intro d w r s k2 e;rw[B]at e;cases e
    have hk:fr'.kind= .normal:=(by rw[t];exact ok.kind);refine⟨_,_,rfl,by rw[dJ B ho R C];exact dF Z hr rfl,⟨λl hA=> ?_,Y,ew fr v ok,Q,rfl,rfl,rfl,rfl⟩,λe he=> ?_⟩
    ·show fr'.finish v=bU l (fr.finish v);rw[F l hA,←fM fr v ok A,bI l v U]
    ·have:=dZ _ _ _ e he;rw[hk]at this;simp at this;exact⟨a,M,this⟩
theorem wX(w:cT G T D ρ wL wM){fr':Frame}{cs':List Frame}(d:∀a,aR G D ρ a->fr'=bU a fr)(m:∀a,aR G D ρ a->cs'=cs.map (bU a)++base)(r:ie fr)(f:∀c∈cs,ie c/\cF c)
    {k:List Item}  (l:fr.todo= .inRegion ops (i::rest)::k) (u:ops[i]?=some o) (v:fr.fn=jU) (e:o.dst=some dL)
 (n:((ops[i]?).map (mw · (yielded ops fr.tmps))).getD false=false) (s mM t lM:Bool):
 ∃q p,stepG.exec PL s t fr cs none wL= .go q wL/\stepG.exec PM mM lM fr' cs' none wM= .go p wM/\eN G D ρ base q p:=by
 have b:=d ρ w.self;have h:fr'.todo= .inRegion ops (i::rest)::k.map (dr ρ):=by rw[b];show fr.todo.map (dr ρ)=_;rw[l];rfl
 have g:((ops[i]?).map (mw · (yielded ops fr'.tmps))).getD false=false:=by rw[b];have:yielded ops (bU ρ fr).tmps=yielded ops fr.tmps:=funext λj=>fG ρ fr.fn ops fr.tmps j;rw[this];exact n
 refine⟨_,_,jx l n,jx h g,λa x=> ?_,m,ew fr undef r,f,rfl,rfl,rfl,rfl⟩;show fr'.finish undef=bU a (fr.finish undef);rw[d a x];exact wi a fr undef l u v e (fq a)
end
section
variable{α β:Type}{f:α->β}
theorem ua{p:Program}{g:World}{a:Addr}{b:Bool}{j:List Addr}(e:w.farStore p a v b= .ok (g,j)):g.drawn=w.drawn:=by
 unfold World.farStore at e;split at e
 ·rename_i f u o;split at e
  ·rename_i r d;cases e;cases h:w.seen p f u a b with
   |error x=>
    unfold World.viewStore at d;by_cases i:(!tight p p.depth u)=true
    ·rw[if_pos i]at d;cases d
    ·rw[if_neg i,h]at d;cases d
   |ok y=>
    obtain⟨c,n,l,k⟩:=lS h;obtain⟨q,m,_⟩:=iL p (w':={w with heap:=w.heap.setIfInBounds f.block (.cells (c.map (PI λx=>x)) n l)}) (λx=>x) k (by grind) d;rw[m]
  ·cases e
 ·cases e
theorem sq{s:Sem α}{s':Sem β}(h:aG ρ PL PM f s s'):∀w,aT w->∀a w',s.run PL w= .ok a w'->w.drawn<=w'.drawn:=by
 induction h with
 |pure a=>intro w b k w' e;cases e;exact d5 _
 | @load a j n h g=>
   intro w b k w' e;rw[Sem.run]at e;cases z:w.cell? a<;>grind
 | @store a v j n h g=>
   intro w b k w' e;cases i:pT v with
   |false=>
    obtain⟨A,B⟩:=gQ (p:=PL) (w:=w) (m:= .plain) (a:=a) (k:=j) i;rw[B]at e;cases e
   |true=>
    rw[gf i]at e;cases z:w.cell? a with
    |some u=>
     simp only[z]at e;split at e
     ·cases e
     ·exact g _ (b.setCell a v) k w' e
    |none=>
     simp only[z]at e;cases l:w.farStore PL a v (Mode.plain==Mode.atomic)with
     |ok y=>rw[l]at e;rw[←ua l];exact g y.1 (iP b l) k w' e
     |error x=>rw[l]at e;cases e
 |new t h g=>intro w b k w' e;exact g _ _ (b.push t) k w' e
 |shape h g=>intro w b k w' e;exact g _ w b k w' e
 |freeze h g=>intro w b k w' e;exact By (Nat.le_of_eq (by unfold World.freeze;split<;>rfl)) (g _ (b.freeze _ _) k w' e)
 |frozen h g=>intro w b k w' e;exact g _ w b k w' e
 | @getObj r j n h g=>
   intro w b k w' e;rw[Sem.run]at e;split at e
   ·cases e
   ·rename_i o t _;exact g o (b _ _ ‹_›) w b k w' e
   ·cases e
 | @setObj r o j n t h g=>
   intro w b k w' e;rw[Sem.run]at e;split at e
   ·cases e
   ·exact g _ (b.set r t) k w' e
   ·cases e
 | @choose q j n h g=>
   intro w b k w' e;rw[Sem.run]at e;split at e
   ·exact g _ w b k w' e
   ·exact By (Nat.le_succ _) (g _ {w with drawn:=w.drawn+1} b k w' e)
 |program h g=>intro w b k w' e;exact g w b k w' e
 |mark E h g=>intro w b k w' e;exact g w b k w' e
 |panic v=>intro w b k w' e;cases e
 |dead d=>intro w b k w' e;cases e
 |deadMark d=>intro w b k w' e;cases e
 | @sys c j D d=>
   intro w b k w' e;obtain⟨x,C,l,F⟩:=d (w.sys c).1 (w.sys c).2;rw[Sem.run,l]at e;cases e
end
section
variable{G T:Nat}{base:List Frame}
def nW(f:Operand)(l:Nat):Call:={callee:= .value f,args:=#[.const (.func (.yield l) #[] #[])],argTypes:=#[]}
def cM(fr:Frame)(f:Operand)(l:Nat):Sem Next:=do let d←resolve fr.eval (nW f l) 0;invoke d.target d.args
theorem j5(b:bH PL PM)(c:∀g,iK ρ PL PM g){fr':Frame}{f:Operand}(d:fr'.eval f=PI ρ (fr.eval f))(l:Nat):aG ρ PL PM (fC ρ) (cM fr f l) (cM fr' f (ρ l)):=by
 unfold cM resolve nW;dsimp only;rw[d];have h:(#[Operand.const (.func (.yield (ρ l)) #[] #[])].map fr'.eval)=(#[Operand.const (.func (.yield l) #[] #[])].map fr.eval).map (PI ρ):=by simp[Frame.eval,PI,kv]
 rw[h];unfold Deferred.ofValue;cases fr.eval f with
 |func i first a=>
  simp only[PI,pure_bind];rw[←Array.map_append];exact sx b c i a _
 |nilFunc=>
  simp only[PI,pure_bind];exact io (e:= .nilDeref) b rfl
 |_=>simp only[PI];exact .dead trivial
theorem kO(b:∀g,iK ρ PL PM g)(fr:Frame)(f:Operand)(l:Nat):cN PL (cM fr f l):=by
 unfold cM resolve nW;dsimp only;cases fr.eval f with
 |func c first a=>exact ox b c a _
 |nilFunc=>exact cN.rt .nilDeref
 |_=>exact cN.halt _
def bY(fr:Frame)(k:List Item)(l:Nat)(mark:List Deferred):Frame:={fr with todo:= .inRangeFunc l::k,defers:=mark++fr.defers}
theorem fN{d:World}{f:Operand}{e:Array Tmp}{a b:Code}{k:List Item}{c:List Deferred}
 (g:fr.todo= .code (.rangeFunc f e a b)::k) (h:(Instr.enterLoop fr.fn fr.tmps e a b fr.roundOf).runT P w #[]=(.ok (l,c) d,es)):
 stepG.exec P main listen fr cs none w=AS (seen P fr.fn es) (stepG.apply P listen (bY fr k l c) cs none (cM (bY fr k l c) f l) d):=by unfold stepG.exec;simp only[g,h];rfl
theorem uW{f:Operand}{e:Array Tmp}{a b:Code}{k:List Item}
 (m:fr.todo= .code (.rangeFunc f e a b)::k) (h:stepG.exec P main listen fr cs none w= .go g w' es):
 ∃l c d es1,(Instr.enterLoop fr.fn fr.tmps e a b fr.roundOf).run P w= .ok (l,c) d/\stepG.apply P listen (bY fr k l c) cs none (cM (bY fr k l c) f l) d= .go g w' es1:=by
 have j:=Sem.runT_fst P (Instr.enterLoop fr.fn fr.tmps e a b fr.roundOf) w #[];cases i:(Instr.enterLoop fr.fn fr.tmps e a b fr.roundOf).runT P w #[]with
 |mk r n=>
  rw[i]at j;cases r with
  |ok x d=>
   obtain⟨l,c⟩:=x;rw[fN m i]at h;obtain⟨es1,o⟩:=lI h;exact⟨l,c,d,es1,j.symm,o⟩
  |halt x d=>
   unfold stepG.exec at h
   grind[AS]
theorem FK(g:aT wL){e:Nat}{tmps:Array Value}{a b:Code}{d:World}(h:(Instr.yield l args).run PL wL= .ok (.round e f tmps a b) d):ji 0 a=true/\ji 0 b=true/\dX f=0:=by
 unfold Instr.yield Re getObj at h;simp only[bind,Qo,Sem.run]at h;split at h
 ·cases h
 ·rename_i o i j;have c:=g _ _ ‹_›;cases o with
  |loop r=>
   simp only[pure,Qo]at h;split at h
   ·simp[stuck,Qo]at h
   ·simp only[Sem.run,Result.ok.injEq,Next.round.injEq]at h;obtain⟨⟨_,rfl,_,rfl,rfl⟩,_⟩:=h;simp only[cJ,i5]at c;exact⟨c.1.1.1,c.1.1.2,by simpa using c.2⟩
  |_=>simp[stuck,Qo]at h
 ·cases h
def ed(P:Program)(s:Sem Next):Prop:=∀w l f tmps a b w',s.run P w≠ .ok (.round l f tmps a b) w'
theorem ed.after{d:Type}{s:Sem d}{k:d->Sem Next}(h:∀a,ed PL (k a)):ed PL (s>>=k):=λw l f c a b j e=>by
 rw[QC]at e;cases i:s.run PL w with
 |ok x g=>rw[i]at e;exact h x g l f c a b j e
 |halt x g=>rw[i]at e;cases e
theorem pX(x:Halt):ed PL (.halt x):=λw l f c a b d e=>by cases e
theorem iN(s:Sem Value):ed PL (do pure (.value (←s))):=ed.after λ_ w l f c a b d e=>by cases e
theorem oY(x:RuntimeError):ed PL (runtimePanic x):=λw l f c a b g h=>by obtain⟨y,e,d,_⟩:=jz x w;rw[d]at h;cases h
theorem iC(g:FuncId)(r:iK ρ PL PM g)(args:Array Value):ed PL (callFunc g args):=by
 unfold callFunc;intro w l f c a b o h;rw[QC]at h
 change (match PL.funcs[g]? with|none=>_|some i=>_:Sem Next).run PL w=_ at h
 cases k:PL.funcs[g]? with
 |none=>rw[k]at h;cases h
 |some i=>
  rw[k]at h;obtain⟨q,t⟩:=r i k;have j:(i.name== "runtime.NumGoroutine")=false:=by simpa using q
  simp only[j,Q7,↓reduceIte]at h;rcases t with⟨d,_⟩|⟨d,n,m,u⟩|⟨d,n,_,e,m,_⟩
  ·have p:i.body.isNone=false:=(by simp_all);simp only[p,Q7,↓reduceIte]at h;cases h
  ·rw[d,n,m,u]at h;cases h
  ·rw[d,n,m]at h;exact ed.after (PL:=PL) (s:=mark (.extern g)) (λ_=>iN (e args)) w l f c a b o h
theorem jP(a:∀g,iK ρ PL PM g)(r:Value)(name:String)(args:Array Value):ed PL (callMethod r name args):=by
 unfold callMethod;cases r with
 |iface t v=>exact ed.after λp=>ed.after λy=>iC y.1 (a y.1) _
 |nilIface=>exact oY _
 |_=>exact pX _
theorem xr(o:aT wL)(i:∀g,iK ρ PL PM g)(fn:Fn)(cap args:Array Value){n:Nat}{tmps:Array Value}{a b:Code}{k:World}(h:(invoke (.fn fn cap) args).run PL wL= .ok (.round n f tmps a b) k):
 ji 0 a=true/\ji 0 b=true/\dX f=0:=by
 cases fn with
 |func g=>exact absurd h (iC g (i g) _ _ _ _ _ _ _ _)
 |method e=>
  unfold invoke at h;dsimp only at h;cases c:args[0]? with
  |none=>rw[c]at h;cases h
  |some r=>rw[c]at h;exact absurd h (jP i _ _ _ _ _ _ _ _ _ _)
 |methodOf t e=>
  unfold invoke at h;dsimp only at h;cases c:args[0]? with
  |none=>rw[c]at h;cases h
  |some r=>rw[c]at h;exact absurd h (ed.after (λd=>jP i _ _ _) _ _ _ _ _ _ _)
 |via t j g m=>
  unfold invoke at h;dsimp only at h;cases c:args[0]? with
  |none=>rw[c]at h;cases h
  |some r=>rw[c]at h;exact absurd h (ed.after (λd=>iC g (i g) _) _ _ _ _ _ _ _)
 |yield l=>exact FK o h
theorem rn(k:aT wL)(j:∀g,iK ρ PL PM g)(v:Value)(args:Array Value){i:Nat}{tmps:Array Value}{a b:Code}{e:World}(h:(do let d←Deferred.ofValue v args;invoke d.target d.args:Sem Next).run PL wL= .ok (.round i f tmps a b) e):
 ji 0 a=true/\ji 0 b=true/\dX f=0:=by
 unfold Deferred.ofValue at h;cases v with
 |func l first c=>exact xr k j l c _ h
 |nilFunc=>exact absurd h (oY .nilDeref _ _ _ _ _ _ _)
 |_=>exact absurd h (pX _ _ _ _ _ _ _ _)
theorem yF(i:aT wL)(e:∀g,iK ρ PL PM g){d:Nat}{tmps:Array Value}{a b:Code}{c:World}(h:(cM fr x l).run PL wL= .ok (.round d f tmps a b) c):
 ji 0 a=true/\ji 0 b=true/\dX f=0:=rn i e _ _ h
theorem AY(B:aT wL)(v:∀g,iK ρ PL PM g)(ev:Operand->Value){z:Nat}(o:Oper)(k:kL z o.op=true){u:Nat}{tmps:Array Value}{a b:Code}{s:World}(h:(execOp ev o).run PL wL= .ok (.round u f tmps a b) s):
 ji 0 a=true/\ji 0 b=true/\dX f=0:=by
 unfold execOp at h;cases i:o.op with
 |move x=>rw[i]at h;cases h
 |assign x=>rw[i]at h;cases h
 |pick x y c=>rw[i]at h;exact absurd h (ed.after (λ_ w l f tmps a b n e=>by cases e) _ _ _ _ _ _ _)
 |store t x y=>rw[i]at h;exact absurd h (ed.after (λ_ w l f tmps a b n e=>by cases e) _ _ _ _ _ _ _)
 |nilCheck x=>
  rw[i]at h;exfalso;dsimp only at h;revert h;split<;>(try split)<;>intro h<;>first
   |exact oY _ _ _ _ _ _ _ _ h
   |(cases h;done)
   |(refine ed.after (λ_=>ed.after λ_=> ?_) _ _ _ _ _ _ _ h
     intro w l f tmps a b n e;revert e;split
     ·intro e;cases e
     ·intro e;cases e)
 |call c=>
  rw[i]at h k
  change (do let d←resolve ev c o.type;invoke d.target d.args:Sem Next).run PL wL=_ at h
  unfold resolve at h;simp only[kL,oX,i5]at k;have m:=k.2;cases j:c.callee with
  |builtin q=>
   rw[j]at m h;have A:JE q=true:=m;exfalso;cases q<;>first|exact iN _ _ _ _ _ _ _ _ h|(simp[JE]at A;done)
  |invoke r p=>rw[j]at m;cases m
  |value g=>rw[j]at h;exact rn B v _ _ h
 |_=>first
  |(rw[i]at h;exact absurd h (iN _ _ _ _ _ _ _ _))
  |(rw[i]at k;cases k)
def dI(P:Program)(s:Sem Next):Prop:=∀w f args w',s.run P w= .ok (.enter f args) w'->∃fn,P.funcs[f]?=some fn/\fn.body.isSome=true
theorem dI.after{c:Type}{s:Sem c}{k:c->Sem Next}(h:∀a,dI PL (k a)):dI PL (s>>=k):=λw f b i e=>by
 rw[QC]at e;cases g:s.run PL w with
 |ok x d=>rw[g]at e;exact h x d f b i e
 |halt x d=>rw[g]at e;cases e
theorem j3(x:Halt):dI PL (.halt x):=λw f a b e=>by cases e
theorem j2{n:Next}(h:∀f args,n≠ .enter f args):dI PL (pure n):=λw f args a e=>by simp_all
theorem mn(s:Sem Value):dI PL (do pure (.value (←s))):=dI.after λ_=>j2 λ_ _ e=>by cases e
theorem zD(s:Sem Unit):dI PL (do s;pure .skip):=dI.after λ_=>j2 λ_ _ e=>by cases e
theorem qO(x:RuntimeError):dI PL (runtimePanic x):=λw f a d h=>by obtain⟨y,c,b,_⟩:=jz x w;rw[b]at h;cases h
theorem jb(g:FuncId)(n:iK ρ PL PM g)(args:Array Value):dI PL (callFunc g args):=by
 unfold callFunc;intro w f q k h;rw[QC]at h
 change (match PL.funcs[g]? with|none=>_|some b=>_:Sem Next).run PL w=_ at h
 cases c:PL.funcs[g]? with
 |none=>rw[c]at h;cases h
 |some b=>
  rw[c]at h;obtain⟨m,o⟩:=n b c;have d:(b.name== "runtime.NumGoroutine")=false:=by simpa using m
  simp only[d,Q7,↓reduceIte]at h;rcases o with⟨a,_⟩|⟨a,j,i,p⟩|⟨a,j,_,e,i,_⟩
  ·have l:b.body.isNone=false:=(by rw[Option.isNone_eq_false_iff];exact a);simp only[l,Q7,↓reduceIte]at h;cases h;exact⟨b,c,a⟩
  ·rw[a,j,i,p]at h;cases h
  ·rw[a,j,i]at h;exact dI.after (PL:=PL) (s:=mark (.extern g)) (λ_=>mn (e args)) w f q k h
theorem kC(a:∀g,iK ρ PL PM g)(r:Value)(name:String)(args:Array Value):dI PL (callMethod r name args):=by
 unfold callMethod;cases r with
 |iface t v=>exact dI.after λp=>dI.after λy=>jb y.1 (a y.1) _
 |nilIface=>exact qO _
 |_=>exact j3 _
theorem xy(l:Nat)(args:Array Value):dI PL (Instr.yield l args):=by refine dI.after λr=> ?_;intro w f b a e;revert e;split<;>simp
theorem uY(b:∀g,iK ρ PL PM g)(fn:Fn)(cap args:Array Value):dI PL (invoke (.fn fn cap) args):=by
 cases fn with
 |func g=>exact jb g (b g) _
 |method a=>
  unfold invoke;cases args[0]? with
  |none=>exact j3 _
  |some r=>exact kC b _ _ _
 |methodOf t a=>
  unfold invoke;dsimp only;cases args[0]? with
  |none=>exact j3 _
  |some r=>exact dI.after λd=>kC b _ _ _
 |via t c g e=>
  unfold invoke;dsimp only;cases args[0]? with
  |none=>exact j3 _
  |some r=>exact dI.after λd=>jb g (b g) _
 |yield l=>exact xy l args
theorem nw(b:∀g,iK ρ PL PM g)(v:Value)(args:Array Value):dI PL (do let d←Deferred.ofValue v args;invoke d.target d.args):=by
 cases v with
 |func c first a=>exact uY b c a _
 |nilFunc=>exact qO .nilDeref
 |_=>exact j3 _
theorem xz(a:∀g,iK ρ PL PM g)(fr:Frame)(x:Operand)(l:Nat):dI PL (cM fr x l):=nw a _ _
theorem zE(n:∀g,iK ρ PL PM g)(ev:Operand->Value){z:Nat}(o:Oper)(b:kL z o.op=true):dI PL (execOp ev o):=by
 unfold execOp;cases a:o.op with
 |move x=>exact j2 λ_ _ e=>by cases e
 |assign x=>exact j2 λ_ _ e=>by cases e
 |pick x y c=>exact dI.after λ_=>j2 λ_ _ e=>by cases e
 |store t x y=>exact zD _
 |nilCheck x=>
  dsimp only;intro w f q m h;revert h;split<;>(try split)<;>intro h<;>first
   |exact qO _ _ _ _ _ h
   |(cases h;done)
   |(refine dI.after (λ_=>dI.after λ_=> ?_) _ _ _ _ h
     intro w f q m e;revert e;split
     ·intro e;cases e
     ·intro e;cases e)
 |call c=>
  rw[a]at b
  change dI PL (do let d←resolve ev c o.type;invoke d.target d.args:Sem Next)
  unfold resolve;simp only[kL,oX,i5]at b;have j:=b.2;cases i:c.callee with
  |builtin l=>
   rw[i]at j;have p:JE l=true:=j;cases l<;>first|exact mn _|(simp[JE]at p;done)
  |invoke r k=>rw[i]at j;cases j
  |value g=>exact nw n _ _
 |_=>first
  |exact mn _
  |(rw[a]at b;cases b)
theorem ny{fn:FuncId}{tmps:Array Value}{i:Array Tmp}{a b:Code}{e:Option Nat}{d:List Deferred}{h:World}(c:(Instr.enterLoop fn tmps i a b e).run PL wL= .ok (l,d) h):cY d=true:=by
 unfold Instr.enterLoop newObj at c;cases e with
 |none=>
  simp[bind,Qo,pure,Sem.run,Result.ok.injEq,Prod.mk.injEq]at c;rw[←c.1.2];rfl
 |some j=>
  simp[bind,pure]at c;rw[Sem.run_bind']at c;cases f:(Re j).run PL wL with
  |halt y g=>rw[f]at c;cases c
  |ok y g=>
   rw[f]at c;simp only[Sem.run,Qo,Result.andThen,Result.ok.injEq,Prod.mk.injEq]at c;rw[←c.1.2];rfl
def j7(P:Program)(fr:Frame)(w:World)(f:FuncId)(args:Array Value)(w':World):Prop:=
 fr.mode= .run/\((∃ops n rest k o,fr.todo= .inRegion ops (n::rest)::k/\ops[n]?=some o/\mw o (yielded ops fr.tmps)=true/\kL (dX fr.fn) o.op=true/\(o.dst).any (pr (dX fr.fn))=false/\(execOp fr.eval o).run P w= .ok (.enter f args) w')\/
  ∃x ps a b k l mark w1,fr.todo= .code (.rangeFunc x ps a b)::k/\(Instr.enterLoop fr.fn fr.tmps ps a b fr.roundOf).run P w= .ok (l,mark) w1/\(cM (bY fr k l mark) x l).run P w1= .ok (.enter f args) w')
theorem mo(j:∀g,iK ρ PL PM g)(h:j7 PL fr w f args w'):∃fn,PL.funcs[f]?=some fn/\fn.body.isSome=true:=by
 rcases h.2 with⟨m,n,d,k,o,_,_,_,c,_,e⟩|⟨x,q,a,b,k,l,i,p,_,_,e⟩
 ·exact zE j _ _ c _ _ _ _ e
 ·exact xz j _ _ _ _ _ _ _ e
theorem yH(E:Env PL PM G)(hW:cT G T D ρ wL wM)(hP:aT wL)
 {fr':Frame} {cs':List Frame} (K:∀g,aR G D ρ g->fr'=bU g fr) (a1:∀g,aR G D ρ g->cs'=cs.map (bU g)++base) (ok:ie fr) (Y:∀c∈cs,ie c/\cF c)
  {F:Array Tmp} {a b:Code} {k:List Item} (W:fr.todo= .code (.rangeFunc x F a b)::k)
 {mL mM lL:Bool} {R:Goroutine} {wL':World} {a3:Array Event} (h:stepG.exec PL mL lL fr cs none wL= .go R wL' a3) (hT:wL'.drawn<=T) (hq:R.status= .running/\∀c,R.frame.mode≠ .panicking c) (hd:R.dying=none) (a0:fr.mode= .run) (hE:∀f args w',j7 PL fr wL f args w'->kH PL PM f):
 ∃D' g X wM' w,stepG.exec PM mM true fr' cs' none wM= .go X wM' w/\eN G D' g base R X/\jf G T D ρ wL wM D' g wL' wM'/\∀e∈w,j6 D' g e:=by
 obtain⟨l,i,C,a7,m,A⟩:=uW W h;have hi:=ok.todo;rw[W]at hi;simp only[List.all_cons,i5,mb,ji]at hi;obtain⟨⟨⟨⟨hz,hx⟩,ha⟩,hb⟩,hk⟩:=hi;have t:dX fr.fn=0:=by simpa using hz
 rw[t]at ha hb hx;have Q:∀g,aR G D ρ g->aG g PL PM (λy=>(g y.1,y.2.map (mJ g))) (Instr.enterLoop fr.fn fr.tmps F a b fr.roundOf) (Instr.enterLoop fr'.fn fr'.tmps F a b fr'.roundOf):=λg hA=>by rw[K g hA];show aG g PL PM _ _ (Instr.enterLoop fr.fn (ig g fr.fn fr.tmps) F a b (fr.roundOf.map g));rw[m6 g t];exact PQ fr.fn fr.tmps F a b fr.roundOf ha hb t
 have v:aT C:=dk (Q ρ hW.self) wL hP _ _ m;have u:cY i=true:=ny m;have s:ie (bY fr k l i):=by
  refine⟨?_, ?_,ok.mode,ok.kind,ok.round⟩
  ·show(Item.inRangeFunc l::k).all (mb (dX fr.fn))=true;simp only[List.all_cons,i5,mb];exact⟨hz,hk⟩
  ·show cY (i++fr.defers)=true;simp only[cY,List.all_append,i5];exact⟨u,ok.defers⟩
 have L:cF (bY fr k l i):=λo d ho=>by cases ho
 have I:aG ρ PL PM (fC ρ) (cM (bY fr k l i) x l) (cM (bU ρ (bY fr k l i)) x (ρ l)):=j5 E.same (E.fn ρ) (gZ (bY fr k l i) x (by show mO (dX fr.fn) x=true;rw[t];exact hx)) l;obtain⟨n,N,_,rfl⟩:=qe s.noCall s.mode (kO (E.fn ρ) _ x l) A hq (λk B=>fe I C v k B) hd;have a2:C.drawn<=T:=By (sq I C v _ _ N) hT;obtain⟨U,j,r',a6,a4,e1,e2,S,e4⟩:=fp E.load E.store (λg y=>(g y.1,y.2.map (mJ g))) _ _ D ρ wL wM hW Q #[] _ C m rfl a2;cases e2 with
 | @ok _ y' _ _ Z=>
   obtain⟨V,p⟩:=y';have M:=λg (r:aR G U j g)=>aR.of_ran S r;have J:∀g,aR G U j g->V=g l/\p=i.map (mJ g):=λg r=>by have:=Z g r;simpa using this
   have H:∀g,aR G U j g->fr'.todo= .code (.rangeFunc x F a b)::k.map (dr g):=λg r=>by rw[K g (M g r)];show fr.todo.map (dr g)=_;rw[W];rfl
   have z:∀g,aR G U j g->bY fr' (k.map (dr j)) V p=bU g (bY fr k l i):=λg r=>by have q:=(H j S.rel.self).symm.trans (H g r);simp only[List.cons.injEq,true_and]at q;rw[q,(J g r).1,(J g r).2,K g (M g r)];simp only[bY,bU,IN,dr,QW]
   have P:∀g,aR G U j g->aG g PL PM (fC g) (cM (bY fr k l i) x l) (cM (bY fr' (k.map (dr j)) V p) x V):=λg r=>by rw[z g r,(J g r).1];exact j5 E.same (E.fn g) (gZ (bY fr k l i) x (by show mO (dX fr.fn) x=true;rw[t];exact hx)) l
   obtain⟨D',g,X,wM',w,f1,f2,f3,f4⟩:=kD E.tab E.load E.store S.rel z (λg r=>a1 g (M g r)) s Y L P (kO (E.fn j) _ x l) (λk B=>fe I C v k B)
    (λf args w2 e=>hE f args w2 ⟨a0, .inr ⟨x,F,a,b,k,l,i,C,W,m,e⟩⟩) (λl2 f a5 a b w2 e=>yF v (E.fn j) e) A hT hq hd
   refine⟨D',g,X,wM',seen PM fr'.fn (#[]++a4)++w, ?_,f2,S.trans f3,λe O=> ?_⟩
   ·rw[fN (H j S.rel.self) e1,f1];rfl
   ·rcases Array.mem_append.1 O with O|O
    ·exact(e4 e (by simpa using dZ _ _ _ e O)).mono f3.ext
    ·exact f4 e O
end
structure ko (PL PM:Program) (G:Nat):Prop extends Env PL PM G where
 ty:Dz PL
 mix:PL.follows .mixedOrders=PM.follows .mixedOrders
 ex:jU<PL.funcs.size
 lw:BN<PL.funcs.size
 res:∀(f:FuncId) (fn:Func),PL.funcs[f]?=some fn->∃fn':Func,PM.funcs[f]?=some fn'/\fn'.results=fn.results/\fn.results.all (IM (dX f))=true
 none:∀f:Nat,PL.funcs[f]?=none->PM.funcs[f]?=none
 inits:PL.inits=#[]
def gk(g:Goroutine):Prop:=g.status= .running/\(∀c,g.frame.mode≠ .panicking c)/\g.dying=none
section
variable{G T:Nat}{base:List Frame}
theorem jf.quiet{D':Nat->Prop}{a:Nat->Nat}{wL' wM':World}(h:jf G T D ρ wL wM D' a wL' wM')(f:aT wL):aT wL':=by
 intro r o b;by_cases e:D' r
 ·obtain⟨g,k,j,_⟩:=h.rel.obj r e
  grind
 ·have c:r<wL.heap.size:=Classical.byContradiction λi=>e (h.newL r o_ (de b));rw[h.keepL r c λd=>e (h.ext r d).1]at b;exact f r o b
theorem uJ(E:ko PL PM G)(k:cT G T D ρ wL wM){fr' c:Frame}{cs':List Frame}(i:∀a,aR G D ρ a->fr'=bU a fr)(d:∀a,aR G D ρ a->cs'=(c::cs).map (bU a)++base)(t:ie fr)(g:∀x∈c::cs,ie x/\cF x)
 (A:fr.defers=[]) (z:fr.mode= .returning) (p:PL.funcs[fr.fn]?=none) (u mM:Bool):
 ∃C B,unwind PL u fr (c::cs) none wL= .go C wL/\unwind PM mM fr' cs' none wM= .go B wM/\eN G D ρ base C B:=by
 have o:dX fr.fn=0:=by have h:=Array.getElem?_eq_none_iff.1 p;unfold dX;have s:¬fr.fn=jU:=λe=>absurd E.ex (RS.2 (by rw[e]at h;exact h));have r:¬fr.fn=BN:=λe=>absurd E.lw (RS.2 (by rw[e]at h;exact h));rw[if_neg s,if_neg r]
 have b:=i ρ k.self;have j:=d ρ k.self;simp only[IN,List.cons_append]at j;have y:∀(P:Program) (m:Bool) (f:Frame) (x:Frame) (n:List Frame) (w:World),f.defers=[]->f.mode= .returning->f.kind= .normal->P.funcs[f.fn]?=none->
  unwind P m f (x::n) none w= .go {frame:=x.finish (f.tmps.getD 0 undef),callers:=n,status:= .running,dying:=none} w:=λP m f x n w s r I H=>by unfold unwind;simp only[s,r,H,doReturn,I]
 refine⟨_,_,y PL u fr c cs wL A z t.kind p,by rw[j];exact y PM mM fr' _ _ wM (by rw[b];simp[bU,A]) (by rw[b];exact z) (by rw[b];exact t.kind) (by rw[b];exact E.none _ p),⟨λa l=> ?_,λa l=> ?_,ew c _ (g c Qj).1,λx F=>g x (QP _ F),rfl,rfl,rfl,rfl⟩⟩
 ·have q:=(d ρ k.self).symm.trans (d a l);simp only[IN,List.cons_append,List.cons.injEq]at q;show(bU ρ c).finish _=bU a (c.finish _);rw[q.1,←fM c _ (g c Qj).1 (g c Qj).2,i a l]
  congr 1
  simp only[bU,m6 a o,Array.getD_eq_getD_getElem?,Array.getElem?_map];cases fr.tmps[0]? with
  |none=>exact(fq a).symm
  |some v=>rfl
 ·have q:=(d ρ k.self).symm.trans (d a l);simp only[IN,List.cons_append,List.cons.injEq]at q;exact q.2
theorem i9{m:Bool}(b:P.inits=#[])(a:fr.kind= .normal)(h:doReturn P m fr [] none v w= .go g w' es):g.status≠ .running:=by
 unfold doReturn at h
 grind
theorem EK{j:Option Code}(f:P.inits=#[])(i:gC fr j)(d:fr.roundOf=some l)(e:fr.kind= .normal)
 (h:stepG.exec P main listen fr [] none w= .go g w' es):g.status≠ .running:=by
 unfold stepG.exec at h;cases i with
 |done b=>
  simp only[b,d]at h;obtain⟨c,a⟩:=lI h;split at a
  ·exact i9 f e a
  ·cases a
 |ret b=>
  simp only[b,d]at h;obtain⟨c,a⟩:=lI h;split at a
  ·exact i9 f e a
  ·cases a
 | @exit id _ b k=>
   simp only[b,k,Option.elim_none,d]at h;obtain⟨c,a⟩:=lI h;split at a
   ·exact i9 f e a
   ·cases a
theorem Av(c:P.inits=#[])(b:fr.kind= .normal)(e:fr.defers=[])(d:fr.mode= .returning)
 (h:unwind P main fr [] none w= .go g w' es):g.status≠ .running:=by
 unfold unwind at h;simp only[e,d]at h;split at h
 ·exact i9 c b h
 ·obtain⟨f,a⟩:=lI h;split at a
  ·exact i9 c b a
  ·cases a
  ·cases a
theorem uO(s:Sem Value)(w:World)(f:FuncId)(args:Array Value)(w':World):(do pure (.value (←s)):Sem Next).run PL w≠ .ok (.enter f args) w':=by
 intro e;rw[QC]at e;cases a:s.run PL w with
 |ok x b=>rw[a]at e;cases e
 |halt x b=>rw[a]at e;cases e
theorem JV(a:Nat->Nat)(b:fr.fn=jU)(hs:lx (fr.eval (.tmp dL))=false):(bU a fr).eval (.tmp dL)=PI a (fr.eval (.tmp dL)):=by
 simp only[Frame.eval,bU,Array.getD_eq_getD_getElem?]at hs⊢;rw[ku a fr.fn fr.tmps dL (by simp[b,kS,mm])];cases c:fr.tmps[dL]? with
 |none=>exact(fq a).symm
 |some v=>
  rw[c]at hs;simp only[Q2]at hs;simp[mH,b,kS,iO,hs]
theorem GA{z:Nat}(h:GB z o=true)(b:¬kL z o.op=true)(c:(o.dst).any (pr z)=false):z=1/\o.op= .load sF (.tmp dL):=by
 unfold GB at h;simp only[Rr,i5]at h;rcases h with h|⟨a,h⟩
 ·exact absurd h.1 b
 ·have a:z=1:=by simpa using a
  refine⟨a, ?_⟩;split at h
  ·rename_i e;simp only[i5,beq_iff_eq]at h;rw[a,h.2]at c;simp[mm]at c
  ·rename_i e;simp only[i5,beq_iff_eq]at h;rw[e,h.1.1,h.1.2]
  ·cases h
theorem Eu(h:GB 1 o=true)(b:o.dst=some dL):∃t a,o.op= .indexAddr t (.global fh) a/\mO 1 a=true:=by
 unfold GB at h;simp only[Rr,i5,b]at h;rcases h with h|⟨c,h⟩
 ·simp[mm]at h
 ·split at h
  ·rename_i e;simp only[i5,beq_iff_eq]at h;exact⟨_,_,by rw[e,h.1.1],h.1.2⟩
  ·simp at h
  ·cases h
theorem LA{z:Nat}(h:GB z o=true)(a:¬(o.dst).any (pr z)=false):z=1/\o.dst=some dL:=by
 unfold GB at h;simp only[Rr,i5]at h;rcases h with h|⟨b,h⟩
 ·exact absurd (by simpa using h.2) a
 ·have b:z=1:=by simpa using b
  subst b;refine⟨rfl, ?_⟩;cases c:o.dst with
  |none=>rw[c]at a;exact absurd rfl a
  |some d=>rw[c]at a;simp only[Option.any_some,mm,Bool.not_eq_false,beq_iff_eq]at a;rw[a]
theorem oP(E:ko PL PM G)(P:cT G T D ρ wL wM)(hP:aT wL)(hR:kj wL wM){gL gM V:Goroutine}(hg:eN G D ρ base gL gM){mL mM lL:Bool}{wL':World}{aj:Array Event}
 (h:stepG PL mL gL wL lL= .go V wL' aj) (hT:wL'.drawn<=T) (O:gk V) (hE:∀f args w',j7 PL gL.frame wL f args w'->kH PL PM f):
 ∃D' g m wM' z,stepG PM mM gM wM= .go m wM' z/\eN G D' g base V m/\jf G T D ρ wL wM D' g wL' wM'/\∀e∈z,j6 D' g e\/uE e:=by
 obtain⟨p,y,L,v,h1,h2,h3,h4⟩:=hg;obtain⟨F,cs,st,dy,of⟩:=gL;obtain⟨I,U,al,an,W⟩:=gM;simp only at p y L v h1 h2 h3 h4;subst h1 h2 h3 h4;have a1:=p ρ P.self;have a0:I.mode=F.mode:=by rw[a1];rfl
 have A:(∃D' g m wM' z,stepG PM mM {frame:=I,callers:=U,status:= .running,dying:=none,offers:=W} wM= .go m wM' z/\eN G D' g base V m/\jf G T D ρ wL wM D' g wL' wM'/\∀e∈z,j6 D' g e)->
  ∃D' g m wM' z,stepG PM mM {frame:=I,callers:=U,status:= .running,dying:=none,offers:=W} wM= .go m wM' z/\eN G D' g base V m/\jf G T D ρ wL wM D' g wL' wM'/\∀e∈z,j6 D' g e\/uE e:=
  λ⟨D',g,m,wM',z,N,M,Q,q4⟩=>⟨D',g,m,wM',z,N,M,Q,λe he=> .inl (q4 e he)⟩
 have u:∀m,wL'=wL->stepG PM mM {frame:=I,callers:=U,status:= .running,dying:=none,offers:=W} wM= .go m wM->eN G D ρ base V m->
  ∃D' g m wM' z,stepG PM mM {frame:=I,callers:=U,status:= .running,dying:=none,offers:=W} wM= .go m wM' z/\eN G D' g base V m/\jf G T D ρ wL wM D' g wL' wM'/\∀e∈z,j6 D' g e\/uE e:=
  λm e N M=>by subst e;exact⟨D,ρ,m,wM,_,N,M,jf.refl P,λe he=>by simp at he⟩
 rcases L.mode with hm|hm
 ·have hL:stepG PL mL {frame:=F,callers:=cs,status:= .running,dying:=none,offers:=of} wL lL=stepG.exec PL mL lL F cs none wL:=by unfold stepG;simp only[hm]
  have hM:stepG PM mM {frame:=I,callers:=U,status:= .running,dying:=none,offers:=W} wM=stepG.exec PM mM true I U none wM:=by unfold stepG;simp only[a0,hm]
  rw[hL]at h;rw[hM]at A u⊢;by_cases R:∃t,ca F=some t
  ·obtain⟨t,R⟩:=R;obtain⟨a3,B,N,M,Q⟩:=yJ (PL:=PL) (PM:=PM) P p y L v R mL mM lL true;rw[N]at h;cases h;exact u B rfl M Q
  have S:∀j,gC F j->(F.roundOf=none->j=none\/j=some .ret)->∃D' g m wM' z,stepG.exec PM mM true I U none wM= .go m wM' z/\eN G D' g base V m/\jf G T D ρ wL wM D' g wL' wM'/\∀e∈z,j6 D' g e\/uE e:=by
   intro j hj hn;cases X:F.roundOf with
   |none=>
    have ah:Dt F:=by
     refine⟨X, ?_⟩;cases hj with
     |done C=>exact .inl C
     |ret C=>exact .inr ⟨_,C⟩
     |exit C he=>rcases hn X with e|e<;>cases e
    obtain⟨a3,B,N,M,Q⟩:=F4 (PL:=PL) (PM:=PM) P p y L v ah mL mM lL true;rw[N]at h;cases h;exact u B rfl M Q
   |some l=>
    cases cs with
    |nil=>exact absurd O.1 (EK E.inits hj X L.kind h)
    |cons c cs=>exact A (zj E.toEnv P p y L v hj X h hT)
  have hi:=L.todo;cases C:F.todo with
  |nil=>exact S none (.done C) λ_=> .inl rfl
  |cons i k=>
   rw[C]at hi;simp only[List.all_cons,i5]at hi;cases i with
   |code c=>
    cases c with
    |ret=>exact S _ (.ret C) λ_=> .inr rfl
    |exit id=>
     cases he:exitTo id k with
     |some t=>exact absurd ⟨t,by simp only[ca,C,he]⟩ R
     |none=>
      refine S _ (.exit C he) λX=> ?_;unfold stepG.exec at h;simp only[C,he,Option.elim_none,X]at h;simp at h
    |goto l=>simp[mb,ji]at hi
    |refuse ak=>unfold stepG.exec at h;simp only[C]at h;cases h
    |rangeFunc x ps a b=>exact A (yH E.toEnv P hP p y L v C h hT ⟨O.1,O.2.1⟩ O.2.2 hm hE)
    |region id J ad=>
     cases ad with
     |false=>exact absurd ⟨_,by simp only[ca,C]<;>rfl⟩ R
     |true=>
      obtain⟨D',g,B,wM',N,M,Q⟩:=BQ (mM:=mM) (lM:=true) E.toEnv E.mix P p y L v C h hT;exact⟨D',g,B,wM',_,N,M,Q,λe he=>by simp at he⟩
    |cond x a b=>
     cases hx:F.eval x with
     |bool q=>exact absurd ⟨_,by simp only[ca,C,hx];rfl⟩ R
     |_=>unfold stepG.exec at h;simp only[C,hx]at h;cases h
    |_=>exact absurd ⟨_,by simp only[ca,C]<;>rfl⟩ R
   |inRangeFunc l=>unfold stepG.exec at h;simp only[C]at h;cases h
   |beginRound=>exact A (zR E.toEnv P hP p y L v C h hT ⟨O.1,O.2.1⟩ O.2.2)
   |endRangeFunc l=>exact A (uZ E.toEnv P hP p y L v C h hT O.2.1)
   |call d w r s=>simp[mb]at hi
   |extern r a=>simp[mb]at hi
   |inRegion J a9=>
    cases a9 with
    |nil=>exact absurd ⟨_,by simp only[ca,C]<;>rfl⟩ R
    |cons n a6=>
     cases Z:J[n]? with
     |none=>
      have hw:((J[n]?).map (mw · (yielded J F.tmps))).getD false=false:=(by rw[Z];rfl);have H:cF F:=λo d h1=>by simp only[Frame.oper?,C,Z]at h1;cases h1
      obtain⟨a3,B,N,M,Q⟩:=tv (PL:=PL) (PM:=PM) P p y L v H C hw mL mM lL true;rw[N]at h;cases h;exact u B rfl M Q
     |some o=>
      have a4:GB (dX F.fn) o=true:=by have:=hi.1;simp only[mb]at this;exact Qm.1 this o (Qv Z)
      have a7:F.oper?=some o:=(by simp only[Frame.oper?,C,Z]);by_cases H:(o.dst).any (pr (dX F.fn))=false
      ·have K:cF F:=λo' d e1 e2=>by rw[a7]at e1;cases e1;rw[e2]at H;simpa using H
       cases hw:mw o (yielded J F.tmps)with
       |false=>
        obtain⟨a3,B,N,M,Q⟩:=tv (PL:=PL) (PM:=PM) P p y L v K C (by rw[Z];simpa using hw) mL mM lL true;rw[N]at h;cases h;exact u B rfl M Q
       |true=>
        by_cases Y:kL (dX F.fn) o.op=true
        ·have ai:∀f args w1,(execOp F.eval o).run PL wL= .ok (.enter f args) w1->kH PL PM f:=λf args w1 e=>hE f args w1 ⟨hm, .inl ⟨J,n,a6,k,o,C,Z,hw,Y,H,e⟩⟩;exact A (AZ E.toEnv P hP p y L v K C Z hw Y ai (λl f aa a b w1 e=>AY hP (E.fn ρ) F.eval o Y e) h hT ⟨O.1,O.2.1⟩ O.2.2)
        ·obtain⟨hf,a8⟩:=GA a4 Y H;have a5:F.fn=jU:=Df.1 hf;cases hs:lx (F.eval (.tmp dL))with
         |true=>
          obtain⟨B,z,N,M,Q,q4⟩:=Br (mM:=mM) E.toEnv E.ty P hP hR p y L v C Z hw a5 a8 hs K h ⟨O.1,O.2.1⟩ O.2.2;subst N;exact⟨D,ρ,B,wM,z,M,Q,jf.refl P,λe he=> .inr (q4 e he)⟩
         |false=>
          have ab:∀c,o.op≠ .defer c:=λc e=>by rw[a8]at e;cases e
          have af:I.todo= .inRegion J (n::a6)::k.map (dr ρ):=(by rw[a1];show F.todo.map (dr ρ)=_;rw[C];rfl);have ae:mw o (yielded J I.tmps)=true:=by rw[a1];have:yielded J (bU ρ F).tmps=yielded J F.tmps:=funext λj=>fG ρ F.fn J F.tmps j;rw[this];exact hw
          have a2:∀ev:Operand->Value,execOp ev o=(do pure (.value (←AT sF (ev (.tmp dL)))):Sem Next):=λev=>by unfold execOp;rw[a8]
          have ac:∀g,aR G D ρ g->aG g PL PM (fC g) (execOp F.eval o) (execOp I.eval o):=λg hA=>by rw[a2,a2,p g hA,JV g a5 hs];exact cg (gI E.same sF _)
          rw[dJ C Z hw ab]at h;rw[dJ af Z ae ab]at A⊢;refine A (kD E.tab E.load E.store P p y L v K ac (by rw[a2];exact fL _) (λk w1=>fe (ac ρ P.self) wL hP k w1) (λf args w1 e=> ?_) (λl f aa a b w1 e=> ?_) h hT ⟨O.1,O.2.1⟩ O.2.2)
          ·rw[a2]at e;exact absurd e (uO _ _ _ _ _)
          ·rw[a2]at e;exact absurd e (iN _ _ _ _ _ _ _ _)
      ·have hz:F.fn=jU/\o.dst=some dL:=(LA a4 H).imp Df.1 id;obtain⟨t,ix,Y,hx⟩:=Eu (by rw[hz.1,kS]at a4;exact a4) hz.2;cases hw:mw o (yielded J F.tmps)with
       |false=>
        obtain⟨a3,B,N,M,Q⟩:=wX (PL:=PL) (PM:=PM) P p y L v C Z hz.1 hz.2 (by rw[Z];simpa using hw) mL mM lL true;rw[N]at h;cases h;exact u B rfl M Q
       |true=>
        obtain⟨B,N,M,Q⟩:=yK (mM:=mM) E.toEnv P hP p y L v C Z hw hz.1 Y hx hz.2 h ⟨O.1,O.2.1⟩ O.2.2;exact u B N M Q
   |_=>exact absurd ⟨_,by simp only[ca,C]<;>rfl⟩ R
 ·have hL:stepG PL mL {frame:=F,callers:=cs,status:= .running,dying:=none,offers:=of} wL lL=unwind PL mL F cs none wL:=by unfold stepG;simp only[hm]
  have hM:stepG PM mM {frame:=I,callers:=U,status:= .running,dying:=none,offers:=W} wM=unwind PM mM I U none wM:=by unfold stepG;simp only[a0,hm]
  rw[hL]at h;rw[hM]at A u⊢;cases hd:F.defers with
  |nil=>
   cases cs with
   |nil=>exact absurd O.1 (Av E.inits L.kind hd hm h)
   |cons c cs=>
    cases hf:PL.funcs[F.fn]? with
    |none=>
     obtain⟨a3,B,N,M,Q⟩:=uJ E P p y L v hd hm hf mL mM;rw[N]at h;cases h;exact u B rfl M Q
    |some fn=>
     obtain⟨am,a5,hr,ag⟩:=E.res _ _ hf;exact A (xi E.toEnv P p y L v hd hm hf a5 hr ag h hT)
  |cons d ds=>
   have:=L.defers;rw[hd]at this;simp only[cY,List.all_cons,i5]at this;obtain⟨tg,args⟩:=d;cases tg with
   |collected b=>exact A (Bi E.toEnv P hP p y L v hd h hT)
   |_=>simp at this
end
def Cs(c:Frame):Prop:=(c.mode= .run\/c.mode= .returning)/\cY c.defers=true
def uD(g:Goroutine):Prop:=g.status= .running/\g.dying=none/\(∃v,g.frame.mode= .panicking [{v,recovered:=false}])/\cY g.frame.defers=true/\∀c∈g.callers,Cs c
def ef:GStep->Prop
 | .go g w _=>g.dying≠none\/(aT w/\(gk g\/uD g))
 | .ended ..=>True
 |_=>False
theorem ef.after{x:GStep}(h:ef x):ef (AS es x):=by cases x<;>exact h
theorem ie.bare{c:Frame}(h:ie c):Cs c:=⟨h.mode,h.defers⟩
theorem kB(fr:Frame)(v:Value):(fr.finish v).mode=fr.mode:=by unfold Frame.finish;split<;>rfl
theorem cV{m:FrameMode}(h:m= .run\/m= .returning):∀c,m≠ .panicking c:=λc e=>by rcases h with h|h<;>rw[h]at e<;>cases e
theorem jL(h:Cs fr)(a:List PanicEntry):(fr.raise a).mode= .panicking a/\(fr.raise a).defers=fr.defers:=by unfold Frame.raise;rcases h.1 with b|b<;>rw[b]<;>exact⟨rfl,rfl⟩
theorem BK(m:String):ef (endFatal P fr cs none m w):=by
 unfold endFatal;dsimp only;split
 ·exact .inl s_
 ·trivial
 ·trivial
theorem jW{s:Sem Next}(e:Cs fr)(o:∀c∈cs,Cs c)(B:cN P s)(A:∀n w',s.run P w= .ok n w'->aT w')(z:∀x w',s.run P w= .halt x w'->fE x/\aT w'):ef (stepG.apply P listen fr cs none s w):=by
 have j:(if listen=true then s.runT P w #[]else(s.run P w,#[])).1=s.run P w:=by
  split
  ·exact Sem.runT_fst P s w #[]
  ·rfl
 unfold stepG.apply;generalize (if listen=true then s.runT P w #[]else(s.run P w,#[]))=q at j;obtain⟨r,C⟩:=q;simp only at j;subst j;cases i:s.run P w with
 |ok n g=>
  have y:=B w n g i;have d:=A n g i;refine ef.after ?_;cases n with
  |value v=>exact .inr ⟨d, .inl ⟨rfl,cV (by rw[kB];exact e.1),rfl⟩⟩
  |skip=>exact .inr ⟨d, .inl ⟨rfl,cV (by rw[kB];exact e.1),rfl⟩⟩
  |enter f t=>exact .inr ⟨d, .inl ⟨rfl,cV (.inl rfl),rfl⟩⟩
  |round l f p a b=>exact .inr ⟨d, .inl ⟨rfl,cV (.inl rfl),rfl⟩⟩
  |_=>simp[xR]at y
 |halt x g=>
  obtain⟨h,d⟩:=z x g i;refine ef.after ?_;cases x with
  |panic v=>exact .inr ⟨d, .inr ⟨rfl,rfl,⟨v,(jL e _).1⟩,by show cY (fr.raise _).defers=true;rw[(jL e _).2];exact e.2,o⟩⟩
  |goexit=>exact h.elim
  |blocked=>exact h.elim
  |waiting=>exact h.elim
  |unsupported u=>
   cases u with
   |initOrder k=>exact h.elim
   |_=>trivial
  |stuck m=>trivial
  |exit c=>trivial
  |throw m=>exact .inl s_
  |fatal m=>exact BK m
theorem iZ(e:P.inits=#[])(b:fr.kind= .normal)(v:Value)(d:aT w)(a:∀c∈cs,Cs c):ef (doReturn P true fr cs none v w):=by
 cases cs with
 |cons c cs=>
  simp only[doReturn,b];exact .inr ⟨d, .inl ⟨rfl,cV (by rw[kB];exact(a c Qj).1),rfl⟩⟩
 |nil=>simp[doReturn,b,e,ef]
section
variable{G:Nat}
theorem Iu(G:Nat):aR G (λ_=>False) id id:=⟨⟨λ_ _ h=>h,λ_=>Iff.rfl⟩,λ_ h=>h.elim⟩
theorem E7(E:ko PL PM G){o:Option (Array CommCase×CommShape)}(ok:ie fr)(oks:∀c∈cs,ie c/\cF c)(hP:aT w):
 ef (stepG PL true {frame:=fr,callers:=cs,status:= .running,dying:=none,offers:=o} w):=by
 have hb:=ok.bare;have hcs:∀c∈cs,Cs c:=λc hc=>(oks c hc).1.bare;rcases ok.mode with hm|hm
 ·have hL:stepG PL true {frame:=fr,callers:=cs,status:= .running,dying:=none,offers:=o} w=stepG.exec PL true true fr cs none w:=by unfold stepG;simp only[hm]
  rw[hL];have hrun:∀t:List Item,ef (.go {frame:={fr with todo:=t},callers:=cs,status:= .running,dying:=none} w):=λt=> .inr ⟨hP, .inl ⟨rfl,cV (.inl hm),rfl⟩⟩;by_cases hpl:∃t,ca fr=some t
  ·obtain⟨t,hpl⟩:=hpl;rw[j0 hpl];exact hrun t
  have hend:∀l (j:Option Code) v w1,j.all (ji 0)=true->((Instr.endRound l j).runT PL w #[]).1= .ok v w1->aT w1:=λl j v w1 hj e=>by rw[Sem.runT_fst]at e;exact dk (sy (ρ:=id) (PM:=PM) l j hj) w hP v w1 e
  have hleave:∀j,gC fr j->ef (stepG.exec PL true true fr cs none w):=by
   intro j hj;cases hro:fr.roundOf with
   |none=>
    unfold stepG.exec;cases hj with
    |done ht=>simp only[ht,hro];exact .inr ⟨hP, .inl ⟨rfl,cV (.inr rfl),rfl⟩⟩
    |ret ht=>simp only[ht,hro];exact .inr ⟨hP, .inl ⟨rfl,cV (.inr rfl),rfl⟩⟩
    |exit ht he=>simp only[ht,he,Option.elim_none,hro];trivial
   |some l=>
    unfold stepG.exec;cases hj with
    |done ht=>
     simp only[ht,hro];refine ef.after ?_;split
     ·rename_i v w1 hr;exact iZ E.inits ok.kind _ (hend l _ v w1 rfl hr) hcs
     ·trivial
    |ret ht=>
     simp only[ht,hro];refine ef.after ?_;split
     ·rename_i v w1 hr;exact iZ E.inits ok.kind _ (hend l _ v w1 rfl hr) hcs
     ·trivial
    |exit ht he=>
     simp only[ht,he,Option.elim_none,hro];refine ef.after ?_;split
     ·rename_i v w1 hr;exact iZ E.inits ok.kind _ (hend l _ v w1 rfl hr) hcs
     ·trivial
  have hi:=ok.todo;cases ht:fr.todo with
  |nil=>exact hleave none (.done ht)
  |cons i k=>
   rw[ht]at hi;simp only[List.all_cons,i5]at hi;cases i with
   |code c=>
    cases c with
    |ret=>exact hleave _ (.ret ht)
    |exit id=>
     cases he:exitTo id k with
     |some t=>exact absurd ⟨t,by simp only[ca,ht,he]⟩ hpl
     |none=>exact hleave _ (.exit ht he)
    |goto l=>simp[mb,ji]at hi
    |refuse why=>unfold stepG.exec;simp only[ht];trivial
    |rangeFunc x ps a b=>
     have hi1:=hi.1;simp only[mb,ji,i5]at hi1;obtain⟨⟨⟨hz,hx⟩,ha⟩,hbb⟩:=hi1;have hfn:dX fr.fn=0:=(by simpa using hz);rw[hfn]at ha hbb hx;have hf:=Sem.runT_fst PL (Instr.enterLoop fr.fn fr.tmps ps a b fr.roundOf) w #[];cases hr:(Instr.enterLoop fr.fn fr.tmps ps a b fr.roundOf).runT PL w #[]with
     |mk r es0=>
      rw[hr]at hf;cases r with
      |ok y w1=>
       obtain⟨l,mark⟩:=y;rw[fN ht hr];refine ef.after ?_;have hP1:aT w1:=dk (PQ (ρ:=id) (PM:=PM) fr.fn fr.tmps ps a b fr.roundOf ha hbb hfn) w hP _ _ hf.symm;have hs1:aG id PL PM (fC id) (cM (bY fr k l mark) x l) (cM (bU id (bY fr k l mark)) x (id l)):=
        j5 E.same (E.fn id) (gZ (bY fr k l mark) x (by show mO (dX fr.fn) x=true;rw[hfn];exact hx)) l
       refine jW ⟨.inl hm, ?_⟩ hcs (kO (E.fn id) _ x l) (λy w' e=>dk hs1 w1 hP1 y w' e) (λy w' e=>⟨gz hs1 w1 hP1 y w' e,g6 hs1 w1 hP1 y w' e⟩);show cY (mark++fr.defers)=true;simp only[cY,List.all_append,i5];exact⟨ny hf.symm,ok.defers⟩
      |halt y w1=>
       unfold stepG.exec;simp only[ht,hr];trivial
    |region id ops draw=>
     cases draw with
     |false=>exact absurd ⟨_,by simp only[ca,ht]<;>rfl⟩ hpl
     |true=>
      obtain⟨n,w1,hn⟩:=uk PL (.order fr.fn id) w;rw[lA ht hn];exact .inr ⟨dk (ρ:=λx=>x) (PM:=PM) (f:=λx:Nat=>x) (s:=choose (.order fr.fn id)) (s':=choose (.order fr.fn id)) (.choose λn=> .pure n) w hP n w1 hn, .inl ⟨rfl,cV (.inl hm),rfl⟩⟩
    |cond x a b=>
     cases hx:fr.eval x with
     |bool q=>exact absurd ⟨_,by simp only[ca,ht,hx]<;>rfl⟩ hpl
     |_=>unfold stepG.exec;simp only[ht,hx];trivial
    |_=>exact absurd ⟨_,by simp only[ca,ht]<;>rfl⟩ hpl
   |inRangeFunc l=>unfold stepG.exec;simp only[ht];trivial
   |beginRound=>
    rw[jT ht];have hal:aG id PL PM (fC id) (gy fr) (gy (bU id fr)):=by
     unfold gy;show aG id PL PM (fC id) (do fr.roundOf.elim _ Instr.beginRound;pure .skip) (do(fr.roundOf.map id).elim _ Instr.beginRound;pure .skip);cases fr.roundOf with
     |none=>exact .dead trivial
     |some l=>exact xH (oE E.same l)
    exact jW hb hcs (qL _) (λy w' e=>dk hal w hP y w' e) λy w' e=>⟨gz hal w hP y w' e,g6 hal w hP y w' e⟩
   |endRangeFunc l=>
    unfold stepG.exec;simp only[ht];refine ef.after ?_;split
    ·rename_i j w1 hr;rw[Sem.runT_fst]at hr;exact .inr ⟨dk (po (ρ:=id) E.same l) w hP j w1 hr, .inl ⟨rfl,cV (.inl hm),rfl⟩⟩
    ·rename_i v w1 hr;rw[Sem.runT_fst]at hr;exact .inr ⟨g6 (po (ρ:=id) E.same l) w hP _ w1 hr, .inr ⟨rfl,rfl,⟨_,(jL hb _).1⟩,by show cY (fr.raise _).defers=true;rw[(jL hb _).2];exact hb.2,hcs⟩⟩
    ·trivial
   |call d w r s=>simp[mb]at hi
   |extern r a=>simp[mb]at hi
   |inRegion ops todo=>
    cases todo with
    |nil=>exact absurd ⟨_,by simp only[ca,ht]<;>rfl⟩ hpl
    |cons n rest=>
     cases hw:((ops[n]?).map (mw · (yielded ops fr.tmps))).getD false with
     |false=>
      rw[jx ht hw];exact .inr ⟨hP, .inl ⟨rfl,cV (by rw[kB];exact hb.1),rfl⟩⟩
     |true=>
      cases ho:ops[n]? with
      |none=>rw[ho]at hw;cases hw
      |some oo=>
       rw[ho]at hw;have hw':mw oo (yielded ops fr.tmps)=true:=hw;have hoo:GB (dX fr.fn) oo=true:=by have:=hi.1;simp only[mb]at this;exact Qm.1 this oo (Qv ho)
       by_cases hop:kL (dX fr.fn) oo.op=true
       ·rw[jy ht ho hw' hop];have hal:=xI (ρ:=id) (z:=dX fr.fn) (ev:=fr.eval) (ev':=λx=>PI id (fr.eval x)) E.same (E.toEnv.far (Iu G)) (E.fn id) (λx _=>rfl) oo hop;exact jW hb hcs (vZ (E.fn id) fr.eval oo hop) (λy w' e=>dk hal w hP y w' e) λy w' e=>⟨gz hal w hP y w' e,g6 hal w hP y w' e⟩
       ·have hsp:(∃t x ix,oo.op= .indexAddr t x ix)\/∃t x,oo.op= .load t x:=by
         unfold GB at hoo;simp only[Rr,i5]at hoo;rcases hoo with h|⟨_,h⟩
         ·exact absurd h.1 hop
         ·split at h
          ·rename_i e;exact .inl ⟨_,_,_,e⟩
          ·rename_i e;exact .inr ⟨_,_,e⟩
          ·cases h
        have hnd:∀c,oo.op≠ .defer c:=λc e=>by rcases hsp with⟨_,_,_,h⟩|⟨_,_,h⟩<;>rw[h]at e<;>cases e
        rw[dJ ht ho hw' hnd];rcases hsp with⟨t,x,ix,h⟩|⟨t,x,h⟩
        ·have hex:execOp fr.eval oo=(do pure (.value (←Instr.indexAt t (fr.eval x) (fr.eval ix))):Sem Next):=(by unfold execOp;rw[h]);rw[hex];exact jW hb hcs (fL _) (λy w' e=>dk (cg (k6 (ρ:=id) E.same t _ _)) w hP y w' e) λy w' e=>⟨gz (cg (k6 (ρ:=id) E.same t _ _)) w hP y w' e,g6 (cg (k6 (ρ:=id) E.same t _ _)) w hP y w' e⟩
        ·have hex:execOp fr.eval oo=(do pure (.value (←AT t (fr.eval x))):Sem Next):=(by unfold execOp;rw[h]);rw[hex];exact jW hb hcs (fL _) (λy w' e=>dk (cg (gI (ρ:=id) E.same t _)) w hP y w' e) λy w' e=>⟨gz (cg (gI (ρ:=id) E.same t _)) w hP y w' e,g6 (cg (gI (ρ:=id) E.same t _)) w hP y w' e⟩
   |_=>exact absurd ⟨_,by simp only[ca,ht]<;>rfl⟩ hpl
 ·have hL:stepG PL true {frame:=fr,callers:=cs,status:= .running,dying:=none,offers:=o} w=unwind PL true fr cs none w:=by unfold stepG;simp only[hm]
  rw[hL];unfold unwind;cases hd:fr.defers with
  |nil=>
   simp only[hm];split
   ·exact iZ E.inits ok.kind _ hP hcs
   ·rename_i fn hf;obtain⟨fn',_,hr,hok⟩:=E.res _ _ hf;refine ef.after ?_;split
    ·rename_i v w1 hv;rw[Sem.runT_fst]at hv;exact iZ E.inits ok.kind _ (dk (uo (ρ:=id) E.same fn fn' fr.fn fr.tmps hr hok) w hP v w1 hv) hcs
    ·trivial
    ·trivial
  |cons d ds=>
   have:=ok.defers;rw[hd]at this;simp only[cY,List.all_cons,i5]at this;obtain⟨tg,args⟩:=d;cases tg with
   |collected b=>
    simp only;refine ef.after ?_;split
    ·rename_i calls w1 hr;rw[Sem.runT_fst]at hr;exact .inr ⟨dk (jd (ρ:=id) (PM:=PM) b) w hP calls w1 hr, .inl ⟨rfl,cV (.inr hm),rfl⟩⟩
    ·trivial
   |_=>simp at this
end
end
section
open Go.Conc
section
variable{G:Nat}
theorem qH(fr:Frame)(cs:List Frame)(w:World):lone fr cs w=solo {frame:=fr,callers:=cs,status:= .running,dying:=none} w:=rfl
theorem gN{g':Goroutine}(h:solo g w=solo g' w'):g=g'/\w=w':=by simp only[solo,Machine.mk.injEq]at h;obtain⟨b,a,_⟩:=h;exact⟨by simpa using a,b⟩
theorem mR{m:Machine}(c:g.status= .running)(b:ef (stepG P true g w))(h:step P (solo g w)= .next m):
 ∃g' w' es,stepG P true g w= .go g' w' es/\m=solo g' w':=by
 rw[step,stepT_solo c]at h;cases a:stepG P true g w with
 |go g' w' es=>
  rw[runT_solo_go a]at h;simp only[Stepped.next.injEq]at h;exact⟨g',w',es,rfl,h.symm⟩
 |ended o w' es=>
  simp[runT,solo,Array.swapAt!,Array.swapAt,a]at h
 |_=>rw[a]at b;exact b.elim
theorem BL(E:uD g)(n:aT w):ef (stepG P true g w)/\∀g' w' es,stepG P true g w= .go g' w' es->g'.dying≠none\/(uD g'/\aT w'):=by
 obtain⟨q,s,J,K,C⟩:=g;obtain⟨z,y,⟨v,p⟩,l,o⟩:=E;simp only at z y p l o;subst z y;have G:stepG P true {frame:=q,callers:=s,status:= .running,dying:=none,offers:=C} w=unwind P true q s none w:=by unfold stepG;simp only[p]
 rw[G];unfold unwind;cases F:q.defers with
 |nil=>
  simp only[p];split
  ·exact⟨trivial,λ_ _ _ e=>by cases e⟩
  ·cases s with
   |cons c h=>
    have u:=o c Qj;have m:=jL u [{v,recovered:=false}];have f:uD {frame:=c.raise [{v,recovered:=false}],callers:=h,status:= .running,dying:=none}:=⟨rfl,rfl,⟨v,m.1⟩,by rw[m.2];exact u.2,λx D=>o x (QP _ D)⟩;refine⟨.inr ⟨n, .inr f⟩,λg' w' es e=> ?_⟩;cases e;exact .inr ⟨f,n⟩
   |nil=>
    simp only[List.head?_cons,Option.any_some,Q7,↓reduceIte];split
    ·exact⟨.inl s_,λ_ _ _ e=>by cases e;exact .inl s_⟩
    ·exact⟨trivial,λ_ _ _ e=>by cases e⟩
    ·exact⟨trivial,λ_ _ _ e=>by cases e⟩
 |cons d I=>
  rw[F]at l;simp only[cY,List.all_cons,i5]at l;obtain⟨B,A⟩:=d;cases B with
  |collected b=>
   simp only;have f:=Sem.runT_fst P (Instr.takeDeferred b) w #[];cases m:(Instr.takeDeferred b).runT P w #[]with
   |mk r H=>
    rw[m]at f;cases r with
    |ok a t=>
     have i:=yd n f.symm;have k:aT t:=dk (jd (ρ:=id) (PM:=P) b) w n _ _ f.symm;have j:uD {frame:={q with defers:=a++I},callers:=s,status:= .running,dying:=none}:=⟨rfl,rfl,⟨v,p⟩,by rw[i];exact l.2,o⟩;refine⟨ef.after (.inr ⟨k, .inr j⟩),λg' w' es e=> ?_⟩;simp only[AS,GStep.go.injEq]at e;obtain⟨rfl,rfl,_⟩:=e;exact .inr ⟨j,k⟩
    |halt x t=>exact⟨trivial,λ_ _ _ e=>by cases e⟩
  |_=>simp at l
def Ak(I:Machine->Prop):Prop:=∀m,I m->∀g∈m.gs,g.dying=none
theorem yi(g:Goroutine)(w:World):g∈(solo g w).gs:=by simp[solo]
theorem ui{I:Machine->Prop}(c:Ak I){m a:Machine}(h:StepsIn I P m a)(b:lone fr cs w'=a)(e:m=solo g w):g.dying=none:=by
 cases h with
 |refl=>
  rw[←b,qH]at e;rw[←(gN e).1]
 |head d _ _=>exact c _ d g (by rw[e];exact yi g w)
theorem zw{I:Machine->Prop}(r:Ak I)(z:fr.mode= .returning){m:Machine}(h:StepsIn I P m (lone fr cs w')):∀g w,m=solo g w->aT w->¬(g.dying≠none\/uD g):=by
 generalize f:lone fr cs w'=F at h;induction h with
 |refl m=>
  intro g w e q j;subst f;rw[qH]at e;obtain⟨E,_⟩:=gN e;subst E;rcases j with h|⟨_,_,⟨v,h⟩,_⟩
  ·exact h rfl
  ·simp only[z]at h;cases h
 | @head m H G C x _ u=>
   intro g w e q j;subst e;have i:=r _ C g (yi g w);have p:uD g:=j.resolve_left λh=>h i;obtain⟨A,y⟩:=BL (P:=P) p q;obtain⟨s,o,D,B,rfl⟩:=mR p.1 A x;rcases y s o D B with h|⟨h,k⟩
   ·
    exact h (ui r ‹_› f rfl)
   ·exact u f s o rfl k (.inr h)
end
def jJ(w:World)(τ:Tape)(d:Nat):World:={w with tape:=τ,drawn:=d}
inductive gn (P:Program) (Stop:Goroutine->World->Prop):Goroutine->World->Prop
 |stop {g:Goroutine} {w:World} (h:Stop g w):gn P Stop g w
 |go {g:Goroutine} {w:World} (n:Tape->Nat->Goroutine×World) (h:∀τ d,∃es,stepG P true g (jJ w τ d)= .go (n τ d).1 (n τ d).2 es) (hw:∀τ d,gk (n τ d).1) (ht:∀τ d,gn P Stop (n τ d).1 (n τ d).2):gn P Stop g w
section
variable{G T:Nat}{base:List Frame}
theorem cT.re(h:cT G T D ρ wL wM){wL' wM':World}(c:wL'.heap=wL.heap)(a:wM'.heap=wM.heap){d:Nat}(e:∀i,wL'.drawn+i<d->wM'.tape (wM'.drawn+i)=wL'.tape (wL'.drawn+i)):cT G d D ρ wL' wM':=
 ⟨h.inj,λb f=>by rw[c,a];exact h.obj b f,e,h.glob,by rw[c,a];exact h.far,h.out⟩
theorem eN.well{b a:Goroutine}(h:eN G D ρ base b a)(f:cT G T D ρ wL wM)(d:gk b):gk a:=
 ⟨h.run.2.1,λc e=>by rw[h.frame ρ f.self]at e;exact d.2.1 c e,h.run.2.2.2⟩
theorem ko.enters(e:∀f (fn:Func) c,PL.funcs[f]?=some fn->fn.body=some c->rN f c=true)(f:FuncId)(fn:Func)(a:PL.funcs[f]?=some fn)(d:fn.body.isSome=true):kH PL PL f:=by obtain⟨c,b⟩:=Option.isSome_iff_exists.1 d;exact⟨fn,fn,a,a,rfl,rfl,c,b,e f fn c a b⟩
theorem EO(E:ko PL PM G){I:Machine->Prop}(n:Ak I)(u:fr.mode= .returning)(s:gk g)(l:ie g.frame)(e:∀c∈g.callers,ie c/\cF c)(v:aT w)
 {k:Machine} (t:step PL (solo g w)= .next k) (a:StepsIn I PL k (lone fr cs w')):∃d b es,stepG PL true g w= .go d b es/\k=solo d b/\gk d/\aT b:=by
 obtain⟨f,c,y,z,r⟩:=g;obtain⟨q,x,p⟩:=s;simp only at q x p l e;subst q p;have i:=E7 (w:=w) (o:=r) E l e v;obtain⟨d,b,es,m,rfl⟩:=mR rfl i t;rw[m]at i;rcases i with h|⟨j,i⟩
 ·exact absurd (ui n a rfl rfl) h
 ·exact⟨d,b,es,m,rfl,i.resolve_right λh=>zw n u a d b rfl j (.inr h),j⟩
end
section
variable{Stop:Goroutine->World->Prop}
structure mB where
 g:Goroutine
 w:World
 τ:Tape
 d:Nat
 dead:Bool
def mB.step(P:Program)(X:mB):GStep:=stepG P true X.g (jJ X.w X.τ X.d)
def mB.good(P:Program)(X:mB):Prop:=X.dead=false/\∃g' w' es,X.step P= .go g' w' es/\gk g'
def mB.bad(P:Program)(Stop:Goroutine->World->Prop)(X:mB):Prop:=¬Stop X.g X.w/\∀g' w' es,X.step P= .go g' w' es->gk g'->¬gn P Stop g' w'
theorem ud(h:¬gn PL Stop g w):∃X:mB,X.g=g/\X.w=w/\X.dead=false/\X.bad PL Stop:=by
 have q:¬Stop g w:=λm=>h (.stop m);refine Classical.byContradiction λo=> ?_;have b:∀a d,∃x:Goroutine×World,(∃f,stepG PL true g (jJ w a d)= .go x.1 x.2 f)/\gk x.1/\gn PL Stop x.1 x.2:=by intro a d;refine Classical.byContradiction λj=>o ⟨⟨g,w,a,d,false⟩,rfl,rfl,rfl,q,λr i f e k l=>j ⟨(r,i),⟨f,e⟩,k,l⟩⟩
 have p:∃n:Tape->Nat->Goroutine×World,∀a d,(∃f,stepG PL true g (jJ w a d)= .go (n a d).1 (n a d).2 f)/\gk (n a d).1/\gn PL Stop (n a d).1 (n a d).2:=
  ⟨λa d=>Classical.choose (b a d),λa d=>Classical.choose_spec (b a d)⟩
 obtain⟨n,c⟩:=p;exact h (.go n (λa d=>(c a d).1) (λa d=>(c a d).2.1) λa d=>(c a d).2.2)
theorem zy(PL:Program)(a:Goroutine->World->Prop):∃b:mB->mB,(∀X,X.bad PL a->X.good PL->(∃es,X.step PL= .go (b X).g (b X).w es)/\gk (b X).g/\(b X).dead=false/\(b X).bad PL a)/\∀X,¬X.good PL->b X=⟨X.g,X.w,X.τ,X.d+1,true⟩:=by
 have h:∀X:mB,∃Y:mB,(X.bad PL a->X.good PL->(∃es,X.step PL= .go Y.g Y.w es)/\gk Y.g/\Y.dead=false/\Y.bad PL a)/\(¬X.good PL->Y=⟨X.g,X.w,X.τ,X.d+1,true⟩):=by
  intro X;by_cases f:X.good PL
  ·by_cases i:X.bad PL a
   ·obtain⟨l,k,g,es,d,c⟩:=f;obtain⟨Y,j,o,n,m⟩:=ud (i.2 k g es d c);exact⟨Y,λ_ _=>⟨⟨es,by rw[j,o];exact d⟩,by rw[j];exact c,n,m⟩,λe=>absurd ⟨l,k,g,es,d,c⟩ e⟩
   ·exact⟨X,λh=>absurd h i,λe=>absurd f e⟩
  ·exact⟨_,λ_ h=>absurd h f,λ_=>rfl⟩
 exact⟨λX=>Classical.choose (h X),λX=>(Classical.choose_spec (h X)).1,λX=>(Classical.choose_spec (h X)).2⟩
section
variable(nx:mB->mB)(X0:mB)
def cp:Nat->mB
 |0=>X0
 |n+1=>nx (cp n)
def lg(k:Nat->Nat):Nat->Nat
 |0=>0
 |n+1=>lg k n+k n
theorem vx(k:Nat->Nat)(h:n<=m):lg k n<=lg k m:=by
 induction h with
 |refl=>exact d5 _
 |step _ a=>exact By a (Nat.le_add_right _ _)
theorem LL(k:Nat->Nat)(t:Nat->Nat->Question->Nat):∃T:Tape,∀n i,i<k n->T (lg k n+i)=t n i:=by
 have h:∀j,∃f:Question->Nat,∀n i,i<k n->lg k n+i=j->f=t n i:=by
  intro j;by_cases d:∃n i,i<k n/\lg k n+i=j
  ·obtain⟨n,i,g,e⟩:=d;refine⟨t n i,λm l r q=> ?_⟩;have o:m=n:=by
    rcases Nat.lt_trichotomy m n with a|c|b
    ·have:=vx k (show m+1<=n from a);have:lg k (m+1)=lg k m+k m:=rfl;omega
    ·exact c
    ·have:=vx k (show n+1<=m from b);have:lg k (n+1)=lg k n+k n:=rfl;omega
   subst o;have:i=l:=o_;rw[this]
  ·exact⟨λ_=>0,λn i g e=>absurd ⟨n,i,g,e⟩ d⟩
 exact⟨λj=>Classical.choose (h j),λn i p=>Classical.choose_spec (h _) n i p rfl⟩
theorem BM(PL:Program)(a:mB->mB)(b:mB):∃k:Nat->Nat,∀n,((cp a b n).good PL->k n=(cp a b (n+1)).w.drawn-(cp a b n).d)/\(¬(cp a b n).good PL->k n=1):=by
 have h:∀n,∃c:Nat,((cp a b n).good PL->c=(cp a b (n+1)).w.drawn-(cp a b n).d)/\(¬(cp a b n).good PL->c=1):=by
  intro n;by_cases d:(cp a b n).good PL
  ·exact⟨_,λ_=>rfl,λe=>absurd d e⟩
  ·exact⟨1,λh=>absurd h d,λ_=>rfl⟩
 exact⟨λn=>Classical.choose (h n),λn=>Classical.choose_spec (h n)⟩
variable{nx X0}
theorem zn(b:∀X:mB,¬X.good PL->nx X=⟨X.g,X.w,X.τ,X.d+1,true⟩){k:Nat->Nat}(d:∀n,¬(cp nx X0 n).good PL->k n=1){T:Tape}(p:∀n i,i<k n->T (lg k n+i)=(cp nx X0 n).τ ((cp nx X0 n).d+i))
  (m:¬(cp nx X0 n).good PL) (j:Nat):T (lg k n+j)=(cp nx X0 n).τ ((cp nx X0 n).d+j):=by
 have h:∀j,¬(cp nx X0 (n+j)).good PL/\(cp nx X0 (n+j)).τ=(cp nx X0 n).τ/\(cp nx X0 (n+j)).d=(cp nx X0 n).d+j/\lg k (n+j)=lg k n+j:=by
  intro j;induction j with
  |zero=>exact⟨m,rfl,rfl,rfl⟩
  |succ j l=>
   obtain⟨a,c,g,f⟩:=l;have e:cp nx X0 (n+(j+1))=⟨(cp nx X0 (n+j)).g,(cp nx X0 (n+j)).w,(cp nx X0 (n+j)).τ,(cp nx X0 (n+j)).d+1,true⟩:=b _ a;refine⟨λo=> ?_,by rw[e];exact c,by rw[e];show(cp nx X0 (n+j)).d+1=_;omega, ?_⟩
   ·have:=o.1;rw[e]at this;cases this
   ·have:=d (n+j) a;show lg k (n+j)+k (n+j)=_;omega
 obtain⟨a,c,g,f⟩:=h j;have:=p (n+j) 0 (by rw[d _ a];exact Nat.one_pos);rw[S7,S7,f,c,g]at this;exact this
end
end
section
variable{G:Nat}{Stop:Goroutine->World->Prop}
structure kl (G:Nat) (D0:Nat->Prop) (g:Goroutine) (w:World) (g':Goroutine) (w':World):Prop where
 rel:∃D ρ,cT G 0 D ρ w w'/\eN G D ρ [] g g'/\∀b,D0 b->D b/\ρ b=b
 tab:kj w w'
 calm:aT w
theorem kl.step(E:ko PL PL G)(B:∀f (fn:Func) c,PL.funcs[f]?=some fn->fn.body=some c->rN f c=true){D0:Nat->Prop}{o g':Goroutine}{k:World}(h:kl G D0 g w g' w')
  (hs:stepG PL true g w= .go o k es) (r:gk o) (y:∀i,w.drawn+i<k.drawn->w'.tape (w'.drawn+i)=w.tape (w.drawn+i)):
 ∃d a j,stepG PL true g' w'= .go d a j/\gk d/\kl G D0 o k d a/\w.drawn<=k.drawn/\a.drawn+w.drawn=k.drawn+w'.drawn/\a.tape=w'.tape:=by
 obtain⟨⟨D,p,F,C,n⟩,u,t⟩:=h;have s:cT G k.drawn D p w w':=F.re rfl rfl y;obtain⟨H,m,d,a,j,x,q,e,_⟩:=oP (mM:=true) E s t u C hs (d5 _) r λf v I A=>by obtain⟨fn,z,l⟩:=mo (E.fn p) A;exact ko.enters B f fn z l
 exact⟨d,a,j,x,q.well e.rel r,⟨⟨H,m,e.rel.re rfl rfl λi J=>o_,q,λb l=>⟨(e.ext b (n b l).1).1,(e.ext b (n b l).1).2.trans (n b l).2⟩⟩,u.ran E.tab s e,e.quiet t⟩,e.drawn,e.drew,e.tape⟩
theorem kl.re{D0:Nat->Prop}{g':Goroutine}(h:kl G D0 g w g' w'){v v':World}(a:v.heap=w.heap)(d:v'.heap=w'.heap):kl G D0 g v g' v':=by obtain⟨⟨D,j,r,q,p⟩,⟨c,e,f,n,m,l⟩,k⟩:=h;exact⟨⟨D,j,r.re a d λi t=>o_,q,p⟩,⟨c,e,f,n,by rw[a];exact m,by rw[d];exact l⟩,λb o s=>k b o (by rw[←a];exact s)⟩
theorem lN(E:ko PL PL G)(hB:∀f (fn:Func) c,PL.funcs[f]?=some fn->fn.body=some c->rN f c=true){D0:Nat->Prop}{I:Machine->Prop}(hI:Ak I){q:Goroutine}{w0:World}(hp:kl G D0 q w0 q w0)(a2:gk q)
 (x:∀τ,∃fr w',fr.mode= .returning/\StepsIn I PL (solo q (jJ w0 τ 0)) (lone fr [] w')/\Stop {frame:=fr,callers:=[],status:= .running,dying:=none} w')
 (hS:∀g w g' w',kl G D0 g w g' w'->Stop g w->Stop g' w'):gn PL Stop q w0:=by
 refine Classical.byContradiction λhn=> ?_;obtain⟨a,J,H,a0,Z⟩:=ud hn;obtain⟨b,z,A⟩:=zy PL Stop;obtain⟨k,hk⟩:=BM PL b a;obtain⟨T,hT⟩:=LL k λn i=>(cp b a n).τ ((cp b a n).d+i);obtain⟨fr,wE,hm,K,t⟩:=x T;have Y:∀m X,StepsIn I PL m X->X=lone fr [] wE->∀n o d,m=solo o d->d.tape=T->d.drawn=lg k n->(cp b a n).bad PL Stop->(cp b a n).dead=false->gk o->
  kl G D0 (cp b a n).g (cp b a n).w o d->kl G D0 o d (cp b a n).g (cp b a n).w->False:=by
  intro m X h;induction h with
  |refl m=>
   intro e n o d e2 _ _ hb _ _ _ j;rw[e2,qH]at e;obtain⟨e3,e4⟩:=gN e;rw[e3,e4]at j;exact hb.1 (hS _ _ _ _ j t)
  | @head m m1 m2 h0 hs y ih=>
    intro e n o d e2 Q hd hb a6 a1 a4 j;subst e e2;obtain⟨⟨D2,S,U,C,_⟩,V,O⟩:=j;obtain⟨g1,P,es,u,a7,s,ae⟩:=EO E hI hm a1 C.ok C.oks O hs y;have j:kl G D0 o d (cp b a n).g (cp b a n).w:=⟨⟨D2,S,U,C,‹_›⟩,V,O⟩;by_cases R:(cp b a n).good PL
    ·obtain⟨⟨ah,p⟩,a3,N,a9⟩:=z _ hb R;have a8:k n=(cp b a (n+1)).w.drawn-(cp b a n).d:=(hk n).1 R;have L:kl G D0 (cp b a n).g (jJ (cp b a n).w (cp b a n).τ (cp b a n).d) o d:=a4.re rfl rfl;obtain⟨af,aa,ag,q1,q2,q3,q4,q5,q6⟩:=L.step E hB p a3 λi hi=>by have ad:(cp b a n).d+i<(b (cp b a n)).w.drawn:=hi;have hc:cp b a (n+1)=b (cp b a n):=rfl;rw[Q,hd];exact hT n i (by rw[a8,hc];omega)
     rw[u]at q1;cases q1;have ac:(cp b a n).d<=(cp b a (n+1)).w.drawn:=q4;have ab:P.drawn+(cp b a n).d=(cp b a (n+1)).w.drawn+d.drawn:=q5;have v:P.drawn=lg k (n+1):=by show P.drawn=lg k n+k n;omega
     have l:kl G D0 o d (cp b a n).g (jJ (cp b a n).w (cp b a n).τ (cp b a n).d):=j.re rfl rfl;obtain⟨B,r,D,W,r2,r3,r4,r5,r6⟩:=l.step E hB u s λi hi=>by show(cp b a n).τ ((cp b a n).d+i)=d.tape (d.drawn+i);rw[Q,hd];refine(hT n i ?_).symm;have:lg k (n+1)=lg k n+k n:=rfl;omega
     have F:(cp b a n).step PL= .go B r D:=W;rw[p]at F;cases F;exact ih rfl (n+1) g1 P a7 (q6.trans Q) v a9 N s q3 r3
    ·have l:kl G D0 o d (cp b a n).g (jJ (cp b a n).w (cp b a n).τ (cp b a n).d):=j.re rfl rfl;obtain⟨B,r,D,W,r2,_⟩:=l.step E hB u s λi hi=>by show(cp b a n).τ ((cp b a n).d+i)=d.tape (d.drawn+i);rw[Q,hd];exact(zn A (λn=>(hk n).2) hT R i).symm
     exact R ⟨a6,B,r,D,W,r2⟩
 have a5:kl G D0 a.g a.w q (jJ w0 T 0):=by rw[J,H];exact hp.re rfl rfl
 have M:kl G D0 q (jJ w0 T 0) a.g a.w:=by rw[J,H];exact hp.re rfl rfl
 exact Y _ _ K rfl 0 q (jJ w0 T 0) rfl rfl rfl Z a0 a2 a5 M
end
end
section
open Go Go.Conc
open Go.ConcN (sumTo upd sumTo_upd upd_ne upd_same)
def dW(P:Program)(Post:Value->World->Prop)(m:Machine)(t:Trace):Prop:=
 ∃N last o w' t',runNT P (N+1) m t=(.ended o w',t')/\runN P N m= .next last/\step P last= .ended o w'/\Go.Conc.Good P Post last o w' t'
section
variable{Stop:Goroutine->World->Prop}
theorem dW.next{m b:Machine}{t ops:Trace}(h:stepT P m=(.next b,ops))(j:dW P Post b (t++ops)):dW P Post m t:=by obtain⟨N,a,o,c,d,i,g,f,e⟩:=j;exact⟨N+1,a,o,c,d,by rw[runNT];simp only[h];exact i,by rw[runN];simp only[step,h];exact g,f,e⟩
theorem dW.now{m:Machine}{t ops:Trace}{o:Outcome}(h:stepT P m=(.ended o w,ops))(a:Go.Conc.Good P Post m o w (t++ops)):dW P Post m t:=
 ⟨0,m,o,w,t++ops,by simp[runNT,h],rfl,by simp[step,h],a⟩
def L3(PL:Program)(g:Goroutine)(w:World)(g2:Goroutine)(w2:World):Prop:=
 ∃τ d g1 w1 es,stepG PL true g (jJ w τ d)= .go g1 w1 es/\StepsIn (λ_=>True) PL (solo g1 w1) (solo g2 w2)
theorem xZ{C:Goroutine->World->Prop}(i:∀g w,Stop g w->∀k d,∃o s es,stepG PL true g (jJ w k d)= .ended o s es)
 (h:∀g w,gn PL Stop g w->gk g->(∀f c,L3 PL g w f c->C f c)->C g w)   (y:gn PL Stop g w) (p:gk g):C g w:=by
 have v:∀g w,gn PL Stop g w->gk g->∀f c,StepsIn (λ_=>True) PL (solo g w) (solo f c)->C f c:=by
  intro g w y;induction y with
  | @stop g w z=>
    intro p f c b;have B:C g w:=h g w (.stop z) p λf c ⟨k,d,G,s,es,e,_⟩=>by obtain⟨_,_,_,r⟩:=i g w z k d;rw[r]at e;cases e
    generalize t:solo g w=m at b;generalize j:solo f c=E at b;cases b with
    |refl=>
     obtain⟨rfl,rfl⟩:=gN (t.trans j.symm);exact B
    |head _ a _=>
     exfalso;subst t;obtain⟨o,s,es,e⟩:=i g w z w.tape w.drawn;have r:stepG PL true g w= .ended o s es:=e;rw[step,stepT_solo p.1]at a;simp[runT,solo,Array.swapAt!,Array.swapAt,r]at a
  | @go g w n A l x D=>
    intro p f c b;have B:C g w:=h g w (.go n A l x) p λf c ⟨k,d,G,s,es,e,F⟩=>by obtain⟨u,r⟩:=A k d;rw[r]at e;cases e;exact D k d (l k d) f c F
    generalize t:solo g w=m at b;generalize j:solo f c=E at b;cases b with
    |refl=>
     obtain⟨rfl,rfl⟩:=gN (t.trans j.symm);exact B
    | @head _ I _ _ a q=>
      subst t j;obtain⟨u,r⟩:=A w.tape w.drawn;have H:stepG PL true g w= .go (n w.tape w.drawn).1 (n w.tape w.drawn).2 u:=r;rw[step,stepT_solo p.1,runT_solo_go H]at a;simp only[Stepped.next.injEq]at a;subst a;exact D w.tape w.drawn (l _ _) f c q
 exact v g w y p g w (.refl _)
end
def eq(S:Nat->Prop):Loc->Prop
 | .cell a=>S a.block
 | .obj r=>S r
 |_=>False
def dq(S:Nat->Prop)(l:Loc):Prop:=eq S l\/l.isMemory=false
section
variable{Stop:Goroutine->World->Prop}{G T:Nat}
theorem Hz{o:Nat->Nat}{wL p:World}{S:Nat->Prop}(t:cT G T D o wL p)(C:fh<G)(w:∀b,D b->¬S (o b))(u:∀r,S r->G<=r)(g:j6 D o e\/uE e):EvL (dq S) p.heap.size e:=by
 rcases g with g|⟨a,B,rfl⟩
 ·obtain⟨q,v,A⟩:=e;cases q with
  |cell a=>
   obtain⟨rfl,b,n,l⟩:=g;have s:¬dq S (.cell a):=by
    rintro(h|h)
    ·have y:S a.block:=h;rw[←l]at y;exact w b n y
    ·cases h
   have d:a.block<p.heap.size:=(by rw[←l];exact t.ltM n);exact evL_cell a v s d
  |obj r=>
   obtain⟨rfl,b,n,rfl⟩:=g;have d:=t.ltM n;refine⟨λx k c=> ?_,s_,s_, ?_⟩
   ·have j:(MemAct.ofEvent ⟨.obj (o b),v,false⟩).touch?=some x:=k;simp only[MemAct.ofEvent,MemAct.touch?,Option.some.injEq]at j;subst j;exact c.elim (λh=>absurd h (w b n)) λh=>by cases h
   ·simp only[MemAct.ofEvent,MemAct.low,Loc.low];exact d
  |mark m=>
   have z:fD m=true:=g;cases m with
   |extern f=>exact⟨λx k=>(by cases k),(by intro i;cases i),(by intro i;cases i),trivial⟩
   |noRoom=>exact⟨λx k=>(by cases k),(by intro i;cases i),(by intro i;cases i),trivial⟩
   |_=>simp[fD]at z
  |output=>exact g.elim
  |goroutines=>exact g.elim
 ·refine evL_cell a false (λc=> ?_) (by have:=t.far;omega);rcases c with c|c
  ·have:S a.block:=c;have:=u _ this;omega
  ·cases c
end
section
variable{Stop:Goroutine->World->Prop}{G T:Nat}
theorem cy{g:Nat}{fn:FuncId}{pos:String}:∀op∈MemOp.ofEvents g fn pos es,op.g=g:=λop a=>by obtain⟨e,_,rfl⟩:=Go.Conc.mem_ofEvents a;rfl
theorem nc{t:Trace}{gs:Array Goroutine}{q:Nat->Nat}(h:Leavers P t gs q)(a a':Goroutine)(w':World)(fn:FuncId)(pos:String)(es:Array Event)(d:0<gs.size):
 Leavers P (t++MemOp.ofEvents 0 fn pos es) ((gs.map (woken P a a' w')).setIfInBounds 0 a') q:=by
 refine⟨λi g l e=> ?_,λj k=> ?_⟩
 ·rw[sN o_,Array.getElem?_map]at e;obtain⟨y,f,rfl⟩:=Qh.1 e;have c:=h.old i y l f;rw[woken_quitsD c,Deaf_other t (g':=0) o_ _ cy];exact c
 ·have b:gs.size<=j:=by simpa using k
  rw[Deaf_other t (g':=0) o_ _ cy];exact h.above j b
theorem GP{t:Trace}{gs:Array Goroutine}{q:Nat->Nat}(h:Leavers P t gs q){g':Goroutine}(d:i<gs.size)(w':World)(es:Array Event)(m:QuitsD P k (deafBehind (Deaf t i) es) g'):
 Leavers P (t++MemOp.ofEvents i g.frame.fn g.frame.place es) ((gs.map (woken P g g' w')).setIfInBounds i g') (upd q i k):=by
 refine⟨λj x f c=> ?_,λj f=> ?_⟩
 ·by_cases a:i=j
  ·subst a;rw[Array.getElem?_setIfInBounds_self_of_lt (by simpa using d)]at c;cases c;rw[upd_same,Deaf_own];exact m
  ·rw[sN a,Array.getElem?_map]at c;obtain⟨y,l,rfl⟩:=Qh.1 c;have b:=h.old j y f l;rw[woken_quitsD b,upd_ne q k (Ne.symm a),Deaf_other t a _ cy];exact b
 ·have e:gs.size<=j:=by simpa using f
  rw[Deaf_other t (g':=i) o_ _ cy];exact h.above j e
theorem z9{t:Trace}{gs:Array Goroutine}{q:Nat->Nat}(h:Leavers P t gs q){a:Goroutine}(c:gs[0]?=some a)(d:a.status= .running):∀g∈gs,Conc.awake g:=by
 intro g e;obtain⟨i,b,rfl⟩:=Array.mem_iff_getElem.1 e;by_cases f:i=0
 ·subst f;rw[i7 b]at c;cases c;exact awake_of (.inl d)
 ·exact awake_of ((h.old i _ o_ (i7 b)).status.elim .inl λx=> .inr (.inr x))
theorem AN{c:Loc->Prop}{t:Trace}(h:Quiet c t){g:Nat}{fn:FuncId}{pos:String}(d:∀e∈es,e.mute=true):Quiet c (t++MemOp.ofEvents g fn pos es):=
 h.app λi b x a _=>by obtain⟨e,f,rfl⟩:=Go.Conc.mem_ofEvents b;have:=touch_mute (d e f);simp only at a;rw[this]at a;cases a
theorem G1{S:Nat->Prop}{B:Nat}{a:Goroutine}(z:a.status= .running)(w:World):
 ∀(M:Nat) (gs:Array Goroutine) (h:Nat) (sl:Option (Nat×Nat)) (t:Trace) (q:Nat->Nat),sumTo gs.size q<=M->gs[0]?=some a->Leavers P t gs q->Past (dq S) B t->Quiet (dq S) t->(∀op∈t,op.g<gs.size)->
  (∀c h v d b u K,c[0]?=some a->Leavers P u c K->Past (dq S) B u->Quiet (dq S) u->(∀op∈u,op.g<c.size)->stepT P (crowd c (w.at h) v)=runT P (crowd c (w.at d) b) 0->dW P Post (crowd c (w.at h) v) u)->
  dW P Post (crowd gs (w.at h) sl) t:=by
 intro M;induction M with
 |zero=>
  intro gs h sl t q O o n F E D C;obtain⟨i,g,d,b,s,r,j⟩:=crowd_pick (P:=P) (w:=w.at h) (sl:=sl) (z9 n o z) ⟨0,a,o,z⟩;by_cases m:i=0
  ·subst m;exact C gs h sl d b t q o n F E D j
  ·exfalso;have p:=n.old i g o_ s;have f:i<gs.size:=(gA s).1;have l:q i=0:=by have Q:sumTo gs.size (upd q i 0)+q i=sumTo gs.size q+0:=sumTo_upd q 0 id f;omega
   rw[l]at p;rw[p.1]at r;cases r
 |succ M L=>
  intro gs h sl t q O o n F E D C;obtain⟨i,g,d,b,s,r,j⟩:=crowd_pick (P:=P) (w:=w.at h) (sl:=sl) (z9 n o z) ⟨0,a,o,z⟩;by_cases m:i=0
  ·subst m;exact C gs h sl d b t q o n F E D j
  ·have A:0<i:=o_;have p:=n.old i g A s;have f:i<gs.size:=(gA s).1;have H:(i==0)=false:=(by simpa using m);cases l:q i with
   |zero=>rw[l]at p;rw[p.1]at r;cases r
   |succ k=>
    rw[l]at p;rcases p with⟨N,_⟩|⟨_,T,R,J,x,G⟩
    ·rw[N]at r;cases r
    ·have y:=runT_crowd_go (P:=P) (sl:=b) (i:=i) s (by rw[H];exact x ((w.at h).at d));have I:sumTo gs.size (upd q i k)+(k+1)=sumTo gs.size q+k:=by have Q:sumTo gs.size (upd q i k)+q i=sumTo gs.size q+k:=sumTo_upd q k id f;omega
     refine dW.next (j.trans y) ?_;refine L _ d b _ (upd q i k) (by simp only[Array.size_setIfInBounds,Array.size_map];omega) ?_ (GP n f _ R G) (F.mute o_ J) (AN E J) (λop e=> ?_) C
     ·rw[sN o_,Array.getElem?_map,o];simp[woken_run z]
     ·rw[Array.size_setIfInBounds,Array.size_map];rcases Array.mem_append.1 e with e|e
      ·exact D op e
      ·rw[cy op e];exact f
end
structure Oo (B:List Frame) (P:Program) (G:Nat) (D0:Nat->Prop) (W:World) (gL:Goroutine) (wL:World) (gs:Array Goroutine) (wM:World) (t:Trace) (D:Nat->Prop) (ρ:Nat->Nat) (S:Nat->Prop) (gM:Goroutine) (q:Nat->Nat):Prop where
 rel:cT G 0 D ρ wL wM
 grel:eN G D ρ B gL gM
 at0:gs[0]?=some gM
 first:∀b,D0 b->D b/\ρ b=b
 shun:∀b,D b->¬S (ρ b)
 shunLow:∀r,S r->G<=r/\r<wM.heap.size
 past:Past (dq S) wM.heap.size t
 quiet:Quiet (dq S) t
 who:∀op∈t,op.g<gs.size
 tab:kj wL wM
 calm:aT wL
 leave:Leavers P t gs q
 same:wM.os=W.os/\wM.output=W.output/\wM.tape=W.tape
 tabW:wM.heap[fh]?=W.heap[fh]?
end
section
open Go.Conc
section
variable{G T:Nat}{base:List Frame}
def bS(P:Program)(f:FuncId)(args:Array Value)(cs:List Frame):Goroutine:={frame:=Frame.enter P f args .normal,callers:=cs,status:= .running,dying:=none}
theorem qf(I:∀w a b,World.farLoad PM w a b=World.farLoad PL w a b)(K:∀w a v b,World.farStore PM w a v b=World.farStore PL w a v b)(B:cT G T D ρ wL wM)
 {fr':Frame} (cs':List Frame) (y:∀c,aR G D ρ c->fr'=bU c fr) (ok:ie fr)
 {s s':Sem Next} (F:∀c,aR G D ρ c->aG c PL PM (fC c) s s')   {wL':World} (n:s.run PL wL= .ok (.enter f args) wL') (J:wL'.drawn<=T):
 ∃D' c g wM' q,stepG.apply PM true fr' cs' none s' wM= .go (bS PM f g (fr'::cs')) wM' q/\(∀h,aR G D' c h->g=args.map (PI h))/\jf G T D ρ wL wM D' c wL' wM'/\∀e∈q,j6 D' c e:=by
 obtain⟨D',j,Q,wM',M,P,O,C,N⟩:=fp I K fC s s' D ρ wL wM B F #[] _ wL' n rfl J;cases O with
 | @ok _ E _ _ o=>
   have p:=y ρ B.self;have z:eJ fr':=by
    intro d w r s k e;rw[p]at e;have:=ok.noCall;cases u:fr.todo with
    |nil=>simp[bU,u]at e
    |cons i t=>
     simp only[bU,u,IN,List.cons.injEq]at e;cases i<;>simp[dr]at e;exact this _ _ _ _ _ u
   have l:=o j C.rel.self;have x:xR E=true:=(by rw[l,CN];rfl);have m:=dF (cs:=cs') z P x;rw[l]at m;refine⟨D',j,args.map (PI j),wM',_,m,λh L=> ?_,C,λe H=> ?_⟩
   ·have:=l.symm.trans (o h L);simp only[fC,Next.enter.injEq,true_and]at this;exact this
   ·have A:=dZ _ _ _ e H;split at A
    ·simp at A
    ·exact N e (by simpa using A)
theorem pm(cs:List Frame)(d:ie fr){s:Sem Next}(a:s.run P w= .ok (.enter f args) w'):∃es,stepG.apply P true fr cs none s w= .go (bS P f args (fr::cs)) w' es:=by
 cases c:s.runT P w #[]with
 |mk r es=>
  have:=Sem.runT_fst P s w #[];rw[c,a]at this;have b:r= .ok (.enter f args) w':=this;rw[b]at c;exact⟨_,dF (cs:=cs) d.noCall c rfl⟩
theorem ru(E:ko PL PM G)(hW:cT G T D ρ wL wM)(hP:aT wL){gL gM:Goroutine}(hg:eN G D ρ base gL gM){w1:World}(O:j7 PL gL.frame wL f args w1)(hT:w1.drawn<=T)(mL mM:Bool):
 ∃a4 ai,stepG PL mL gL wL= .go (bS PL f args a4) w1 ai/\∃D' g p a9 wM' N,stepG PM mM gM wM= .go (bS PM f p a9) wM' N/\(∀s,aR G D' g s->p=args.map (PI s))/\
  (∀s,aR G D' g s->a9=a4.map (bU s)++base)/\(∀c∈a4,ie c/\cF c)/\jf G T D ρ wL wM D' g w1 wM'/\∀e∈N,j6 D' g e:=by
 obtain⟨B,a2,ok,W,h1,h2,h3,h4⟩:=hg;obtain⟨h,cs,st,dy,aa⟩:=gL;obtain⟨m,F,ak,am,a6⟩:=gM;simp only at B a2 ok W h1 h2 h3 h4 O;subst h1 h2 h3 h4;have L:=B ρ hW.self;obtain⟨hm,O⟩:=O;have a0:m.mode=h.mode:=by rw[L];rfl
 have hL:stepG PL mL {frame:=h,callers:=cs,status:= .running,dying:=none,offers:=aa} wL=stepG.exec PL mL true h cs none wL:=by unfold stepG;simp only[hm]
 have hM:stepG PM mM {frame:=m,callers:=F,status:= .running,dying:=none,offers:=a6} wM=stepG.exec PM mM true m F none wM:=by unfold stepG;simp only[a0,hm]
 rw[hL,hM];rcases O with⟨H,n,a5,k,o,X,ho,hw,Z,A,u⟩|⟨x,V,a,b,k,l,i,w0,X,w,u⟩
 ·have I:m.todo= .inRegion H (n::a5)::k.map (dr ρ):=by rw[L];show h.todo.map (dr ρ)=_;rw[X];rfl
  have ac:mw o (yielded H m.tmps)=true:=by rw[L];have:yielded H (bU ρ h).tmps=yielded H h.tmps:=funext λj=>fG ρ h.fn H h.tmps j;rw[this];exact hw
  have S:∀g,aR G D ρ g->aG g PL PM (fC g) (execOp h.eval o) (execOp m.eval o):=λg hA=>
   xI (z:=dX h.fn) E.same (E.toEnv.far hA) (E.fn g) (λx hx=>by rw[B g hA];exact gZ h x hx) o Z
  have Y:h.oper?=some o:=by simp only[Frame.oper?,X,ho]
  have R:cF h:=λo' d e1 e2=>by rw[Y]at e1;cases e1;rw[e2]at A;simpa using A
  obtain⟨es,e1⟩:=pm cs ok u;obtain⟨D',g,p,wM',N,q1,q2,q3,q4⟩:=qf E.load E.store hW F B ok S u hT;refine⟨h::cs,es,by rw[jy X ho hw Z];exact e1,D',g,p,m::F,wM',N,by rw[jy I ho ac Z];exact q1,q2,λs h2=> ?_,λc hc=> ?_,q3,q4⟩
  ·have hA:=aR.of_ran q3 h2;rw[B s hA,a2 s hA];rfl
  ·rcases PZ.1 hc with rfl|hc
   ·exact⟨ok,R⟩
   ·exact W c hc
 ·have hi:=ok.todo;rw[X]at hi;simp only[List.all_cons,i5,mb,ji]at hi;obtain⟨⟨⟨⟨hz,hx⟩,ha⟩,hb⟩,hk⟩:=hi;have M:dX h.fn=0:=by simpa using hz
  rw[M]at ha hb hx;have S:∀g,aR G D ρ g->aG g PL PM (λy=>(g y.1,y.2.map (mJ g))) (Instr.enterLoop h.fn h.tmps V a b h.roundOf) (Instr.enterLoop m.fn m.tmps V a b m.roundOf):=λg hA=>by rw[B g hA];show aG g PL PM _ _ (Instr.enterLoop h.fn (ig g h.fn h.tmps) V a b (h.roundOf.map g));rw[m6 g M];exact PQ h.fn h.tmps V a b h.roundOf ha hb M
  have ah:aT w0:=dk (S ρ hW.self) wL hP _ _ w;have P:cY i=true:=ny w;have K:ie (bY h k l i):=by
   refine⟨?_, ?_,ok.mode,ok.kind,ok.round⟩
   ·show(Item.inRangeFunc l::k).all (mb (dX h.fn))=true;simp only[List.all_cons,i5,mb];exact⟨hz,hk⟩
   ·show cY (i++h.defers)=true;simp only[cY,List.all_append,i5];exact⟨P,ok.defers⟩
  have A:cF (bY h k l i):=λo d ho=>by cases ho
  have ad:aG ρ PL PM (fC ρ) (cM (bY h k l i) x l) (cM (bU ρ (bY h k l i)) x (ρ l)):=j5 E.same (E.fn ρ) (gZ (bY h k l i) x (by show mO (dX h.fn) x=true;rw[M];exact hx)) l;have ag:w0.drawn<=T:=By (sq ad w0 ah _ _ u) hT;obtain⟨D1,t,r',aj,al,e1,e2,e3,e4⟩:=fp E.load E.store (λg y=>(g y.1,y.2.map (mJ g))) _ _ D ρ wL wM hW S #[] _ w0 w rfl ag;cases e2 with
  | @ok _ y' _ _ ab=>
    obtain⟨l1,v⟩:=y';have a3:=λg (C:aR G D1 t g)=>aR.of_ran e3 C;have a1:∀g,aR G D1 t g->l1=g l/\v=i.map (mJ g):=λg C=>by have:=ab g C;simpa using this
    have I:∀g,aR G D1 t g->m.todo= .code (.rangeFunc x V a b)::k.map (dr g):=λg C=>by rw[B g (a3 g C)];show h.todo.map (dr g)=_;rw[X];rfl
    have J:∀g,aR G D1 t g->bY m (k.map (dr t)) l1 v=bU g (bY h k l i):=λg C=>by have q:=(I t e3.rel.self).symm.trans (I g C);simp only[List.cons.injEq,true_and]at q;rw[q,(a1 g C).1,(a1 g C).2,B g (a3 g C)];simp only[bY,bU,IN,dr,QW]
    have a7:∀g,aR G D1 t g->aG g PL PM (fC g) (cM (bY h k l i) x l) (cM (bY m (k.map (dr t)) l1 v) x l1):=λg C=>by rw[J g C,(a1 g C).1];exact j5 E.same (E.fn g) (gZ (bY h k l i) x (by show mO (dX h.fn) x=true;rw[M];exact hx)) l
    obtain⟨es,f0⟩:=pm cs K u;obtain⟨D',g,p,wM',N,q1,q2,q3,q4⟩:=qf E.load E.store e3.rel F J K a7 u hT;have Q:∃U,(Instr.enterLoop h.fn h.tmps V a b h.roundOf).runT PL wL #[]=(.ok (l,i) w0,U):=by
     cases hr:(Instr.enterLoop h.fn h.tmps V a b h.roundOf).runT PL wL #[]with
     |mk r U=>
      have:=Sem.runT_fst PL (Instr.enterLoop h.fn h.tmps V a b h.roundOf) wL #[];rw[hr,w]at this;have ae:r= .ok (l,i) w0:=this;exact⟨U,by rw[ae]⟩
    obtain⟨U,af⟩:=Q;refine⟨bY h k l i::cs,_,by rw[fN X af,f0];rfl,D',g,p,bY m (k.map (dr t)) l1 v::F,wM',_,by rw[fN (I t e3.rel.self) e1,q1];rfl,q2,λs h2=> ?_,λc hc=> ?_,e3.trans q3,λe O=> ?_⟩
    ·have a8:=aR.of_ran q3 h2;rw[J s a8,a2 s (a3 s a8)];rfl
    ·rcases PZ.1 hc with rfl|hc
     ·exact⟨K,A⟩
     ·exact W c hc
    ·rcases Array.mem_append.1 O with O|O
     ·exact(e4 e (by simpa using dZ _ _ _ e O)).mono q3.ext
     ·exact q4 e O
end
section
variable{G T:Nat}{base:List Frame}
theorem cT.join(h:cT G T D ρ wL wM){wL2 wM2:World}{bL C:Nat}{o:Obj}(t:∀b,D b->wL2.heap[b]?=wL.heap[b]?)(s:∀b,D b->wM2.heap[ρ b]?=wM.heap[ρ b]?)(B:wL.heap.size<=wL2.heap.size)(A:wM.heap.size<=wM2.heap.size)
 (r:wL.heap.size<=bL) (F:wM.heap.size<=C) (q:wL2.heap[bL]?=some o) (p:cJ o=true) (j:∀d,wM2.heap[C]?=some (em d o)):
 ∃f,cT G 0 (λb=>D b\/b=bL) f wL2 wM2/\(∀b,D b->f b=ρ b)/\f bL=C:=by
 have g:=h.far;have k:=h.glob bL;have a:∀b,D b->lc (ρ bL) C (ρ b)=ρ b:=λb c=>mQ (λe=>by have:=h.inj _ _ e;have:=h.ltL c;omega) (by have:=h.ltM c;omega);refine⟨λz=>lc (ρ bL) C (ρ z),⟨λx y e=>h.inj _ _ (qp e),λb c=> ?_,λi E=>o_,λb=>(h.glob b).trans (tl o_ _),⟨g.1,o_,o_⟩,λb c=> ?_⟩,a,lO _ _⟩
 ·rcases c with c|rfl
  ·obtain⟨n,w,v,u⟩:=h.obj b c;refine⟨n,(t b c).trans w,v,λd m=> ?_⟩;rw[a b c,s b c];exact u d ⟨m.1,λx l=>(m.2 x (.inl l)).trans (a x l)⟩
  ·refine⟨o,q,p,λd _=> ?_⟩;rw[lO];exact j d
 ·rcases c with c|rfl
  ·exact h.out b c
  ·omega
theorem C5{c c':Frame}{cs':List Frame}{v':Value}(f:∀a,aR G D ρ a->c'::cs'=(c::cs).map (bU a)++base)(d:∀x∈c::cs,ie x/\cF x)(hv:∀a,aR G D ρ a->v'=PI a v):
 eN G D ρ base {frame:=c.finish v,callers:=cs,status:= .running,dying:=none} {frame:=c'.finish v',callers:=cs',status:= .running,dying:=none}:=by
 have b:∀a,aR G D ρ a->c'=bU a c/\cs'=cs.map (bU a)++base:=λa e=>by have:=f a e;simp only[IN,List.cons_append,List.cons.injEq]at this;exact this
 refine⟨λa e=> ?_,λa e=>(b a e).2,ew c v (d c Qj).1,λx g=>d x (QP _ g),rfl,rfl,rfl,rfl⟩;show c'.finish v'=bU a (c.finish v);rw[(b a e).1,hv a e,fM c v (d c Qj).1 (d c Qj).2]
theorem aR.less{f:Nat->Prop}{a c:Nat->Nat}(h:aR G f a c)(d:∀b,D b->f b/\a b=ρ b):aR G D ρ c:=⟨h.1,λb e=>(h.2 b (d b e).1).trans (d b e).2⟩
end
end
section
open Go Go.Conc
open Go.ConcN (sumTo upd sumTo_upd upd_ne upd_same)
structure OK (D0 S0:Nat->Prop) (W wM:World) (D:Nat->Prop) (ρ:Nat->Nat) (S:Nat->Prop):Prop where
 size:W.heap.size<=wM.heap.size
 keep:∀r,r<W.heap.size->¬D0 r->¬S0 r->wM.heap[r]?=W.heap[r]?
 fresh:∀b,D b->D0 b\/W.heap.size<=ρ b
 shun:∀r,S r->W.heap.size<=r\/S0 r
theorem OK.step{G T:Nat}{D0 S0 D' S:Nat->Prop}{f a:Nat->Nat}{W wL c wL' wM':World}{d:Nat}(h:OK D0 S0 W c D f S)(n:∀b,D0 b->D b/\f b=b)(q:jf G T D f wL (c.at d) D' a wL' wM'):OK D0 S0 W wM' D' a S where
 size:=By h.size q.size
 keep:=λr m j l=>by
  have p:=h.size;refine(q.keep r (show r<c.heap.size by omega) λb g e=> ?_).trans (h.keep r m j l);rcases h.fresh b g with i|i
  ·rw[(n b i).2]at e;exact j (e▸i)
  ·omega
 fresh:=λb g=>by
  rcases q.new b g with k|⟨_,o⟩
  ·rw[(q.ext b k).2];exact h.fresh b k
  ·have s:c.heap.size<=a b:=o;have:=h.size;exact .inr o_
 shun:=h.shun
def uy(B:List Frame)(S0:Nat->Prop)(P:Program)(G:Nat)(D0:Nat->Prop)(W:World)(gL:Goroutine)(wL:World)(gs:Array Goroutine)(wM:World)(t:Trace)(D:Nat->Prop)(ρ:Nat->Nat)(S:Nat->Prop)(gM:Goroutine)(q:Nat->Nat):Prop:=Oo B P G D0 W gL wL gs wM t D ρ S gM q/\OK D0 S0 W wM D ρ S
def Iy(B:List Frame)(S0:Nat->Prop)(P PL:Program)(K:FuncId)(G:Nat)(D0:Nat->Prop)(W:World)(Stop:Goroutine->World->Prop)(Post:Value->World->Prop):Prop:=
 ∀gL wL gs wM sl sl' t D ρ S gM q d d0 args w1,uy B S0 P G D0 W gL wL gs wM t D ρ S gM q->gn PL Stop gL wL->gk gL->j7 PL gL.frame (jJ wL wM.tape d) K args w1->stepT P (crowd gs (wM.at d0) sl)=runT P (crowd gs (wM.at d) sl') 0->
  (∀g2 w2 gs2 wM2 sl2 t2 D2 ρ2 S2 gM2 q2,L3 PL gL wL g2 w2->uy B S0 P G D0 W g2 w2 gs2 wM2 t2 D2 ρ2 S2 gM2 q2->dW P Post (crowd gs2 wM2 sl2) t2)->dW P Post (crowd gs (wM.at d0) sl) t
section
variable{K:FuncId}{Stop:Goroutine->World->Prop}{G:Nat}{D0 S0:Nat->Prop}{W:World}{B:List Frame}
theorem Hu{gs:Array Goroutine}{b:World}{t:Trace}{S:Nat->Prop}{a:Goroutine}{q:Nat->Nat}(k:a.status= .running)(at0:gs[0]?=some a)(leave:Leavers P t gs q)(past:Past (dq S) b.heap.size t)(quiet:Quiet (dq S) t)(who:∀op∈t,op.g<gs.size)
 (h:∀d,∃v es,stepG P true a (b.at d)= .ended (.done v) (b.at d) es/\(∀e∈es,EvL (dq S) b.heap.size e)/\Post v (b.at d)) (sl:Option (Nat×Nat)):dW P Post (crowd gs b sl) t:=by
 refine G1 k b _ gs b.drawn sl t q (d5 _) at0 leave past quiet who ?_;intro E G y d n m z D w C F u p;obtain⟨v,es,A,s,f⟩:=h d;have c:=runT_many_ended (P:=P) (sl:=n) (i:=0) D (show stepG P (0==0) a (b.at d)=_ from A);have l:=C.own (fn:=a.frame.fn) (pos:=a.frame.place) s;refine dW.now (p.trans c) ⟨v,rfl,f,l.clean,l.over,⟨λx o=> ?_,rfl⟩,λj x o r=> ?_⟩
 ·obtain⟨j,r⟩:=List.mem_iff_getElem?.1 o;rw[List.getElem?_drop]at r;exact⟨_,(w.old (1+j) x o_ (by simpa[crowd]using r)).leaves⟩
 ·refine⟨z j, ?_⟩;have B:(m++MemOp.ofEvents 0 a.frame.fn a.frame.place es).deaf j (m++MemOp.ofEvents 0 a.frame.fn a.frame.place es).size=Deaf m j:=Deaf_other m (g:=j) (g':=0) o_ _ cy;rw[B];exact(w.old j x o_ o).hears _
theorem tU(E:ko PL P G)(ad:∀f (fn:Func),PL.funcs[f]?=some fn->fn.body.isSome=true->f≠K->kH PL P f)
 (R:∀g w,Stop g w->∀τ d,∃o H es,stepG PL true g (jJ w τ d)= .ended o H es)
 (Y:∀M wL gs a sl t D z S y q,uy B S0 P G D0 W M wL gs a t D z S y q->Stop M wL->dW P Post (crowd gs a sl) t)
 (hK:Iy B S0 P PL K G D0 W Stop Post) {M:Goroutine} {wL:World} (ht:gn PL Stop M wL) (hw:gk M):
 ∀gs a sl t D z S y q,uy B S0 P G D0 W M wL gs a t D z S y q->dW P Post (crowd gs a sl) t:=by
 refine xZ (C:=λM wL=>∀gs a sl t D z S y q,uy B S0 P G D0 W M wL gs a t D z S y q->dW P Post (crowd gs a sl) t) R ?_ ht hw;intro g w ht hw ih gs a sl t D z S y q j;by_cases p:Stop g w
 ·exact Y g w gs a sl t D z S y q j p
 have X:y.status= .running:=j.1.grel.run.2.1;refine G1 X a _ gs a.drawn sl t q (d5 _) j.1.at0 j.1.leave j.1.past j.1.quiet j.1.who ?_;intro a0 d0 a6 d O t' q' h0 hL hP hQ L V;by_cases Z:∃k H,j7 PL g.frame (jJ w a.tape d) K k H
 ·obtain⟨k,H,J⟩:=Z;exact hK g w a0 a a6 O t' D z S y q' d d0 k H ⟨{j.1 with at0:=h0,past:=hP,quiet:=hQ,who:=L,leave:=hL},j.2⟩ ht hw J V λg2 w2 ae a4 a5 t2 D2 a3 S2 af q2 hr aa=>ih g2 w2 hr ae a4 a5 t2 D2 a3 S2 af q2 aa
 ·have a9:∀f k w',j7 PL g.frame (jJ w a.tape d) f k w'->kH PL P f:=λf k w' J=>by obtain⟨fn,hf,F⟩:=mo (E.fn z) J;exact ad f fn hf F λac=>Z ⟨k,w',ac▸J⟩
  have U:0<a0.size:=(gA h0).1;cases ht with
  |stop h=>exact absurd h p
  |go n hn a7 ah=>
   obtain⟨ai,hl⟩:=hn a.tape d;generalize ab:(n a.tape d).1=g1 at hl;generalize ag:(n a.tape d).2=H at hl;have Q:gk g1:=(by rw[←ab];exact a7 _ _);have hW:cT G H.drawn D z (jJ w a.tape d) (a.at d):=cT.re (wL':=jJ w a.tape d) (wM':=a.at d) j.1.rel rfl rfl λi _=>rfl;have v:aT (jJ w a.tape d):=λb o ho=>j.1.calm b o ho;have s:kj (jJ w a.tape d) (a.at d):=j.1.tab;obtain⟨D1,N,a1,A,a2,q1,q2,m,q4⟩:=oP (mM:=true) E hW v s j.1.grel hl (d5 _) Q a9;have a8:a.heap.size<=A.heap.size:=m.size;have u:∀b,D1 b->¬S (N b):=λb F p=>by
    rcases m.new b F with h1|⟨_,h2⟩
    ·rw[(m.ext b h1).2]at p;exact j.1.shun b h1 p
    ·have h3:a.heap.size<=N b:=h2;have:=(j.1.shunLow _ p).2;omega
   have I:∀e∈a2,EvL (dq S) A.heap.size e:=λe J=>Hz m.rel E.tab u (λr p=>(j.1.shunLow r p).1) (q4 e J);have T:=runT_crowd_go (P:=P) (sl:=O) (i:=0) h0 (show stepG P (0==0) y (a.at d)=_ from q1);refine dW.next (V.trans T) (ih g1 H ⟨_,_,_,_,_,hl, .refl _⟩ _ A O _ D1 N S a1 q' ?_);refine⟨?_,j.2.step j.1.first m⟩;exact
    {rel:=m.rel.re rfl rfl λi hi=>by omega
     grel:=q2
     at0:=by simp[U]
     first:=λb F=>⟨(m.ext b (j.1.first b F).1).1,(m.ext b (j.1.first b F).1).2.trans (j.1.first b F).2⟩
     shun:=u
     shunLow:=λr p=>⟨(j.1.shunLow r p).1,by have:=(j.1.shunLow r p).2;omega⟩
     past:=(hP.mono a8).own I
     quiet:=hQ.app λop l x hx p=>by obtain⟨e,J,rfl⟩:=Go.Conc.mem_ofEvents l;exact⟨(I e J).1 x hx p,λ_=>rfl⟩
     who:=λop l=>by
      rw[Array.size_setIfInBounds,Array.size_map];rcases Array.mem_append.1 l with l|l
      ·exact L op l
      ·rw[cy op l];exact U
     tab:=s.ran E.tab hW m
     calm:=m.quiet v
     leave:=nc hL y a1 A _ _ a2 U
     same:=⟨m.os.trans j.1.same.1,m.output.trans j.1.same.2.1,m.tape.trans j.1.same.2.2⟩
     tabW:=by obtain⟨c,e,f,h1,h2,h3⟩:=s;exact(m.keep fh (de h3) λb F e=>by have:=hW.out _ F;have:=hW.glob b;have:=E.tab;omega).trans j.1.tabW}
end
section
variable{G T:Nat}{base:List Frame}
theorem Bj{D0:Nat->Prop}{W:World}{S:Nat->Prop}{wL2 wM2:World}{bL C Wg:Nat}{o:Obj}{c c':Frame}{cs':List Frame}{v':Value}{gs:Array Goroutine}{t:Trace}{q:Nat->Nat}(I:cT G T D ρ wL wM)
 (d:∀b,D0 b->D b/\ρ b=b) (i:∀b,D b->¬S (ρ b)) (g:∀r,S r->G<=r/\r<wM.heap.size) (F:∀a,aR G D ρ a->c'::cs'=(c::cs).map (bU a)++base) (z:∀x∈c::cs,ie x/\cF x)
 (U:∀b,D b->wL2.heap[b]?=wL.heap[b]?) (R:∀b,D b->wM2.heap[ρ b]?=wM.heap[ρ b]?) (N:wL.heap.size<=wL2.heap.size) (M:wM.heap.size<=wM2.heap.size) (H:wL.heap.size<=bL) (V:wM.heap.size<=C)
 (Q:wL2.heap[bL]?=some o) (O:cJ o=true) (B:∀a,wM2.heap[C]?=some (em a o)) (u:wM.heap.size<=Wg/\Wg<wM2.heap.size/\Wg≠C) (hv:∀a,a bL=C->v'=PI a v)
 (p:kj wL2 wM2) (l:aT wL2) (j:wM2.os=W.os/\wM2.output=W.output/\wM2.tape=W.tape) (A:wM2.heap[fh]?=W.heap[fh]?) (at0:gs[0]?=some {frame:=c'.finish v',callers:=cs',status:= .running,dying:=none})
 (k:Past (dq λb=>S b\/b=Wg) wM2.heap.size t) (h:Quiet (dq λb=>S b\/b=Wg) t) (n:∀op∈t,op.g<gs.size) (E:Leavers P t gs q):
 ∃e,Oo base P G D0 W {frame:=c.finish v,callers:=cs,status:= .running,dying:=none} wL2 gs wM2 t (λb=>D b\/b=bL) e (λb=>S b\/b=Wg) {frame:=c'.finish v',callers:=cs',status:= .running,dying:=none} q/\(∀b,D b->e b=ρ b)/\e bL=C:=by
 obtain⟨e,X,y,K⟩:=I.join U R N M H V Q O B;have L:=I.far;have s:∀b,D b->(D b\/b=bL)/\e b=ρ b:=λb f=>⟨.inl f,y b f⟩;refine⟨e, ?_,y,K⟩;exact
  {rel:=X
   grel:=C5 (λa J=>F a (J.less s)) z λa J=>hv a ((J.2 bL (.inr rfl)).trans K)
   at0:=at0
   first:=λb f=>⟨.inl (d b f).1,(y b (d b f).1).trans (d b f).2⟩
   shun:=λb f=>by
    rcases f with f|rfl
    ·rw[y b f];rintro(m|m)
     ·exact i b f m
     ·have:=I.ltM f;omega
    ·rw[K];rintro(m|m)
     ·have:=(g _ m).2;omega
     ·exact u.2.2 m.symm
   shunLow:=λr w=>by
    rcases w with w|rfl
    ·exact⟨(g r w).1,by have:=(g r w).2;omega⟩
    ·exact⟨o_,u.2.1⟩
   past:=k
   quiet:=h
   who:=n
   tab:=p
   calm:=l
   leave:=E
   same:=j
   tabW:=A}
end
end
section
open Go Go.Conc
open Go.ConcN (sumTo upd sumTo_upd upd_ne upd_same CT Apart PermW WgLive)
section
variable{α:Type}{r:α->α->Prop}
def CM(r:α->α->Prop)(n:Nat)(f' f:Nat->α):Prop:=∃i x,i<n/\r x (f i)/\f'=upd f i x
theorem rc:∀(n:Nat) (f:Nat->α),(∀i,i<n->Acc r (f i))->Acc (CM r n) f
 |0,f,_=>⟨_,λf' ⟨i,_,g,_⟩=>absurd g (Nat.not_lt_zero _)⟩
 |n+1,f,h=>by
  have j:∀x,Acc r x->∀f,Acc (CM r n) f->f n=x->(∀i,i<n->Acc r (f i))->Acc (CM r (n+1)) f:=by
   intro x s;induction s with
   |intro x _ l=>
    intro f u;induction u with
    |intro f t m=>
     intro q p;refine⟨_,λf' ⟨i,y,g,c,e⟩=> ?_⟩;subst e;by_cases v:i=n
     ·subst v;rw[q]at c;have b:∀k,k<i->Acc r (upd f i y k):=λk d=>by rw[upd_ne f y o_];exact p k d
      exact l y c (upd f i y) (rc i _ b) (upd_same f i y) b
     ·have o:i<n:=o_;refine m (upd f i y) ⟨i,y,o,c,rfl⟩ (by rw[upd_ne f y o_];exact q) λk d=> ?_;by_cases a:k=i
      ·subst a;rw[upd_same];exact(p k d).inv c
      ·rw[upd_ne f y a];exact p k d
  exact j (f n) (h n (Nat.lt_succ_self n)) f (rc n f λi g=>h i o_) rfl λi g=>h i o_
end
def gt(V RO:Nat->Prop)(e:Event):Prop:=
 match e.loc with
 | .cell a=>e.sync=false/\(V a.block\/(RO a.block/\e.write=false))
 | .obj b=>e.sync=false/\V b
 | .mark m=>fD m=true
 |_=>False
def co(V:Nat->Prop)(w w':World)(b:Nat):Prop:=V b\/(w.heap.size<=b/\b<w'.heap.size)
structure cC (V RO:Nat->Prop) (w w':World) (es:Array Event):Prop where
 keep:∀b,b<w.heap.size->¬V b->w'.heap[b]?=w.heap[b]?
 size:w.heap.size<=w'.heap.size
 os:w'.os=w.os
 output:w'.output=w.output
 tape:w'.tape=w.tape
 ev:∀e∈es,gt (co V w w') RO e
structure eB (V:Nat->Prop) (w w₁:World):Prop where
 keep:∀b,V b->w₁.heap[b]?=w.heap[b]?
 size:w.heap.size<=w₁.heap.size
 os:w₁.os=w.os
 output:w₁.output=w.output
 tape:w₁.tape=w.tape
theorem eB.refl(V:Nat->Prop)(w:World):eB V w w:=⟨λ_ _=>rfl,d5 _,rfl,rfl,rfl⟩
theorem eB.trans{c a:World}(h:eB V w c)(d:eB V c a):eB V w a:=
 ⟨λb e=>(d.keep b e).trans (h.keep b e),By h.size d.size,d.os.trans h.os,d.output.trans h.output,d.tape.trans h.tape⟩
theorem eB.at(V:Nat->Prop)(w:World)(d:Nat):eB V w (w.at d):=⟨λ_ _=>rfl,d5 _,rfl,rfl,rfl⟩
theorem eB.mono{c:Nat->Prop}{a:World}(h:eB V w a)(hv:∀b,c b->V b):eB c w a:=⟨λb d=>h.keep b (hv b d),h.size,h.os,h.output,h.tape⟩
section
variable{G T:Nat}
def ov(D:Nat->Prop)(ρ:Nat->Nat)(r:Nat):Prop:=∃b,D b/\ρ b=r
theorem AW{D':Nat->Prop}{c:Nat->Nat}{wL' wM':World}(h:jf G T D ρ wL wM D' c wL' wM')(j:RO fh)(s:∀e∈es,j6 D' c e\/uE e):
 cC (ov D ρ) RO wM wM' es/\∀r,ov D' c r->co (ov D ρ) wM wM' r:=by
 have k:∀r,ov D' c r->co (ov D ρ) wM wM' r:=λr ⟨b,f,e⟩=>by
  rcases h.new b f with d|⟨_,g⟩
  ·exact .inl ⟨b,d,(h.ext b d).2.symm.trans e⟩
  ·exact .inr ⟨o_,by rw[←e];exact h.rel.ltM f⟩
 refine⟨⟨λb f p=>h.keep b f λx o e=>p ⟨x,o,e⟩,h.size,h.os,h.output,h.tape,λe q=> ?_⟩,k⟩;rcases s e q with d|⟨a,t,rfl⟩
 ·obtain⟨i,u,v⟩:=e;cases i with
  |cell a=>
   obtain⟨g,b,n,l⟩:=d;exact⟨g, .inl (k _ ⟨b,n,l⟩)⟩
  |obj r=>
   obtain⟨g,b,n,l⟩:=d;exact⟨g,k _ ⟨b,n,l⟩⟩
  |mark m=>exact d
  |output=>exact d.elim
  |goroutines=>exact d.elim
 ·exact⟨rfl, .inr ⟨by rw[t];exact j,rfl⟩⟩
theorem cT.kept(h:cT G T D ρ wL wM){wM':World}(c:eB (ov D ρ) wM wM'):cT G 0 D ρ wL wM':=
 ⟨h.inj,λb d=>let ⟨o,h1,h2,h3⟩:=h.obj b d;⟨o,h1,h2,λa e=>by rw[c.keep _ ⟨b,d,rfl⟩];exact h3 a e⟩,λi f=>o_,h.glob,⟨h.far.1,h.far.2.1,By h.far.2.2 c.size⟩,h.out⟩
end
section
variable{Sh:Loc->Prop}{Own Own' Rd Rd':Nat->Loc->Prop}{t:Trace}
theorem Ko(h:CT Sh Own Rd t j)(n:∀i a,touchAt t i=some a->∀k,Own' k a.loc↔Own k a.loc)(o:∀i a,touchAt t i=some a->∀k,Rd' k a.loc↔Rd k a.loc):CT Sh Own' Rd' t j:=
 {quiet:=h.quiet
  own:=λk d c l f i a b e=>h.own k d c l (by rw[←e];exact(n i a b k).1 (by rw[e];exact f)) i a b e
  rd:=λk d c l f i a b e g=>h.rd k d c l (by rw[←e];exact(o i a b k).1 (by rw[e];exact f)) i a b e g
  free:=λl m f i a b e=>h.free l m (λk d c=>⟨λx=>(f k d c).1 (by rw[←e];exact(n i a b k).2 (by rw[e];exact x)),λx=>(f k d c).2 (by rw[←e];exact(o i a b k).2 (by rw[e];exact x))⟩) i a b e
  mine:=λl m f i a b e g=>h.mine l m (λk d c x=>f k d c (by rw[←e];exact(n i a b k).2 (by rw[e];exact x))) i a b e g
  nr:=h.nr
  gs:=h.gs}
end
end
section
open Go Go.Conc
open Go.ConcN (sumTo upd sumTo_upd upd_ne upd_same CT Apart PermW WgLive)
open Go.ConcR (KK WgAt stA smA rd wr mk DC0)
abbrev ep:Go.ConcR.Payload:=⟨0⟩
def Ni(P:Program)(ty:TypeId)(Wg:Nat):Goroutine->World->Prop:= @Go.ConcN.AtK1 ep P ty Wg 0 0 0 1
def wI(ty:TypeId)(Wg:Nat):World->World->Prop:= @Go.ConcN.RW ep ty Wg 0 0 0 0
structure aW where
 P:Program
 ty:TypeId
 /-- the group's block;the list's;the type of the list's cells;how many there are;what each is to hold-/
 Wg:Nat
 C:Nat
 ety:TypeId
 n:Nat
 val:Nat->Value
 /-- what nobody writes-/
 RO:Nat->Prop
 /-- whose cell is whose-/
 mine:Nat->Nat->Prop
def aW.list(X:aW)(w:World):Prop:=∃cs,w.heap[X.C]?=some (.cells cs X.ety)/\cs.size=X.n
def aW.at(X:aW)(c:Nat):Addr:=⟨X.C,c,none⟩
structure bQ (X:aW) (i:Nat) (V:Nat->Prop) (w w₁:World):Prop where
 own:eB (λb=>V b\/X.RO b) w w₁
 live:WgLive X.ty X.Wg w->WgLive X.ty X.Wg w₁
 list:X.list w->X.list w₁
 cells:∀c,X.mine i c->w₁.cell? (X.at c)=w.cell? (X.at c)
theorem bQ.refl(X:aW)(i:Nat)(V:Nat->Prop)(w:World):bQ X i V w w:=⟨eB.refl _ w,id,id,λ_ _=>rfl⟩
theorem bQ.trans{X:aW}{b a:World}(h:bQ X i V w b)(d:bQ X i V b a):bQ X i V w a:=
 ⟨h.own.trans d.own,d.live∘h.live,d.list∘h.list,λc e=>(d.cells c e).trans (h.cells c e)⟩
structure fm where
 V:Nat->Prop
 g:Goroutine
 w:World
def wO(X:aW)(i:Nat)(x:fm):Prop:=
 x.g.status= .running/\∀w₁,bQ X i x.V x.w w₁->(∀c,X.mine i c->w₁.cell? (X.at c)=some (X.val c))/\
  ∃g',stepG X.P false x.g w₁= .go g' w₁ #[mk (.releaseMerge (stA X.Wg))]/\∃m,Goes X.P false (wI X.ty X.Wg) DC0 (Ni X.P X.ty X.Wg) m g' w₁
def kg(X:aW)(i:Nat)(V:Nat->Prop)(w w':World)(es:Array Event):Prop:=
 cC V X.RO w w' es\/∃c v,X.mine i c/\w'=w.setCell (X.at c) v/\es=#[⟨.cell (X.at c),true,false⟩]
def fm.next(x:fm)(w₁:World)(g':Goroutine)(w':World):fm:=⟨co x.V w₁ w',g',w'⟩
def aX(X:aW)(i:Nat)(x:fm):Prop:=
 ∀Q:fm->Prop,(∀x,wO X i x->Q x)->
  (∀x:fm,x.g.status= .running->(∀w₁,bQ X i x.V x.w w₁->∃g' w' es,stepG X.P false x.g w₁= .go g' w' es/\kg X i x.V w₁ w' es/\Q (x.next w₁ g' w'))->Q x)->Q x
section
variable{X:aW}{x:fm}
theorem aX.stop(h:wO X i x):aX X i x:=λ_ a _=>a x h
theorem aX.step(e:x.g.status= .running)(h:∀a,bQ X i x.V x.w a->∃g' w' es,stepG X.P false x.g a= .go g' w' es/\kg X i x.V a w' es/\aX X i (x.next a g' w')):aX X i x:=
 λQ d c=>c x e λa b=>let ⟨g',w',es,h1,h2,h3⟩:=h a b;⟨g',w',es,h1,h2,h3 Q d c⟩
theorem aX.cases(h:aX X i x):wO X i x\/(x.g.status= .running/\∀a,bQ X i x.V x.w a->∃g' w' es,stepG X.P false x.g a= .go g' w' es/\kg X i x.V a w' es/\aX X i (x.next a g' w')):=by
 have c:=h (λx=>aX X i x/\(wO X i x\/(x.g.status= .running/\∀a,bQ X i x.V x.w a->∃g' w' es,stepG X.P false x.g a= .go g' w' es/\kg X i x.V a w' es/\aX X i (x.next a g' w'))))
  (λx d=>⟨aX.stop d, .inl d⟩) (λx e g=> ?_)
 ·exact c.2
 ·have f:∀a,bQ X i x.V x.w a->∃g' w' es,stepG X.P false x.g a= .go g' w' es/\kg X i x.V a w' es/\aX X i (x.next a g' w'):=λa b=>
   let ⟨g',w',es,h1,h2,h3⟩:=g a b
   ⟨g',w',es,h1,h2,h3.1⟩
  exact⟨aX.step e f, .inr ⟨e,f⟩⟩
theorem aX.running(h:aX X i x):x.g.status= .running:=by
 rcases h.cases with h|h
 ·exact h.1
 ·exact h.1
def l0(X:aW)(i:Nat)(y x:fm):Prop:=¬wO X i x/\∃w₁ g' w' es,bQ X i x.V x.w w₁/\stepG X.P false x.g w₁= .go g' w' es/\y=x.next w₁ g' w'
theorem aX.acc(h:aX X i x):Acc (l0 X i) x:=by refine h (λx=>Acc (l0 X i) x) (λx d=>⟨_,λy b=>absurd d b.1⟩) λx _ e=>⟨_,λy b=> ?_⟩;obtain⟨_,a,o,m,p,j,c,rfl⟩:=b;obtain⟨n,l,k,g,_,f⟩:=e a j;rw[g]at c;cases c;exact f
end
structure bW (X:aW) (V:Nat->Prop) (w w₁:World):Prop where
 own:eB (λb=>V b\/X.RO b) w w₁
 live:WgLive X.ty X.Wg w->WgLive X.ty X.Wg w₁
theorem bW.refl(X:aW)(V:Nat->Prop)(w:World):bW X V w w:=⟨eB.refl _ w,id⟩
theorem bW.trans{X:aW}{b a:World}(h:bW X V w b)(c:bW X V b a):bW X V w a:=⟨h.own.trans c.own,c.live∘h.live⟩
def cD(X:aW)(Next:(Nat->Prop)->Goroutine->World->Prop):Nat->(Nat->Prop)->Goroutine->World->Prop
 |0,V,g,w=>∀w₁,bW X V w w₁->Next V g w₁
 |m+1,V,g,w=>(∀w₁,bW X V w w₁->Next V g w₁)\/(g.status= .running/\∀w₁,bW X V w w₁->∃g' w' es,stepG X.P true g w₁= .go g' w' es/\cC V X.RO w₁ w' es/\cD X Next m (co V w₁ w') g' w')
section
variable{X:aW}{Next Next':(Nat->Prop)->Goroutine->World->Prop}{w₁:World}
theorem cD.stop(h:∀a,bW X V w a->Next V g a):cD X Next m V g w:=by
 cases m with
 |zero=>exact h
 |succ m=>exact .inl h
theorem cD.step(b:g.status= .running)(h:∀a,bW X V w a->∃g' w' es,stepG X.P true g a= .go g' w' es/\cC V X.RO a w' es/\cD X Next m (co V a w') g' w'):cD X Next (m+1) V g w:= .inr ⟨b,h⟩
theorem cD.rely:∀{m:Nat} {V:Nat->Prop} {g:Goroutine} {w c:World},cD X Next m V g w->bW X V w c->cD X Next m V g c
 |0,_,_,_,_,h,hr=>λa b=>h a (hr.trans b)
 |_+1,_,_,_,_,h,hr=>h.elim (λh=> .inl λa b=>h a (hr.trans b)) λ⟨d,h⟩=> .inr ⟨d,λa b=>h a (hr.trans b)⟩
theorem cD.mono(c:∀V g w,Next V g w->Next' V g w):∀{m:Nat} {V:Nat->Prop} {g:Goroutine} {w:World},cD X Next m V g w->cD X Next' m V g w
 |0,_,_,_,h=>λa b=>c _ _ _ (h a b)
 |_+1,_,_,_,h=>h.elim (λh=> .inl λa b=>c _ _ _ (h a b)) λ⟨d,h⟩=> .inr ⟨d,λa b=>let ⟨g',w',es,h1,h2,h3⟩:=h a b;⟨g',w',es,h1,h2,cD.mono c h3⟩⟩
theorem cD.running(a:∀V g w,Next V g w->g.status= .running)(h:cD X Next m V g w):g.status= .running:=by
 cases m with
 |zero=>exact a _ _ _ (h w (bW.refl X V w))
 |succ m=>exact h.elim (λh=>a _ _ _ (h w (bW.refl X V w))) λh=>h.1
theorem cD.trans{c:(Nat->Prop)->Goroutine->World->Prop}:∀{m:Nat} {V:Nat->Prop} {g:Goroutine} {w:World},cD X c m V g w->(∀V g w,c V g w->cD X Next k V g w)->cD X Next (m+k) V g w
 |0,V,g,w,h,hM=>by have f:=hM V g w (h w (bW.refl X V w));rw[Nat.zero_add];exact f
 |m+1,V,g,w,h,hM=>by
  rw[show m+1+k=(m+k)+1 from o_];rcases h with h|⟨d,h⟩
  ·have f:=hM V g w (h w (bW.refl X V w));have i:∀{k:Nat} {V:Nat->Prop} {g:Goroutine} {w:World},cD X Next k V g w->∀e,cD X Next (e+k) V g w:=by
    intro k;induction k with
    |zero=>exact λh e=>cD.stop h
    |succ k j=>
     intro V g w h e;rw[show e+(k+1)=(e+k)+1 from o_];exact h.elim .inl λ⟨d,h⟩=> .inr ⟨d,λa b=>let ⟨g',w',es,h1,h2,h3⟩:=h a b;⟨g',w',es,h1,h2,j h3 e⟩⟩
   rw[show m+k+1=(m+1)+k from o_];exact i f (m+1)
  ·exact .inr ⟨d,λa b=>let ⟨g',w',es,h1,h2,h3⟩:=h a b;⟨g',w',es,h1,h2,cD.trans h3 hM⟩⟩
theorem dV(V RO:Nat->Prop)(w:World):cC V RO w w #[]:=⟨λ_ _ _=>rfl,d5 _,rfl,rfl,rfl,λe a=>by simp at a⟩
theorem cI(V:Nat->Prop)(w:World):co V w w=V:=by
 funext b
 apply propext;exact⟨λh=>h.elim id λh=>absurd h.2 (RS.2 h.1), .inl⟩
theorem cD.of_goes{c:Goroutine->World->Prop}:∀{m:Nat} {g:Goroutine} {w:World},Goes X.P true (bW X V) DC0 c m g w->cD X (λo g w=>o=V/\c g w) m V g w
 |0,_,_,h=>λa b=>⟨rfl,h a b⟩
 |m+1,g,w,h=>by
  rcases h with h|⟨i,h⟩
  ·exact .inl λa b=>⟨rfl,h a b⟩
  ·refine .inr ⟨i,λa b=> ?_⟩;have e:=h a b;cases d:stepG X.P true g a with
   |go n f p=>
    rw[d,goes_go]at e;obtain⟨⟨l,k⟩,j⟩:=e;subst l k;refine⟨n,f,#[],rfl,dV _ _ _, ?_⟩;rw[cI];exact cD.of_goes j
   |_=>rw[d]at e;exact e.elim
end
end
variable{X:aW}
section
open Go Go.Conc
open Go.ConcN (sumTo upd sumTo_upd upd_ne upd_same CT Apart PermW WgLive)
open Go.ConcR (KK WgAt stA smA rd wr mk DC0)
section
variable(X:aW)(Fin Anch:(Nat->Prop)->Goroutine->World->Prop)
def Cl(m:Mark)(Next:(Nat->Prop)->Goroutine->World->Prop)(V:Nat->Prop)(g:Goroutine)(w:World):Prop:=
 g.status= .running/\∃g',stepG X.P true g w= .go g' w #[mk m]/\∃k,cD X Next k V g' w
def L9:=Cl X (.acquire (stA X.Wg)) Fin
def Nj:=Cl X .enable (L9 X Fin)
def Ow(V:Nat->Prop)(g:Goroutine)(w:World):Prop:=
 g.status= .running/\(WgAt X.ty X.Wg w 0 0->∃g',stepG X.P true g w= .go g' w #[rd (stA X.Wg)]/\∃k,cD X (Nj X Fin) k V g' w)
def Nh(V:Nat->Prop)(g:Goroutine)(w:World):Prop:=
 g.status= .running/\g.offers=none/\((∃st,WgAt X.ty X.Wg w st 0)->stepG X.P true g w= .go {g with status:= .blocked} w #[])/\
  (WgAt X.ty X.Wg w 0 1->∃g',stepG X.P true g w= .go g' (w.setCell (smA X.Wg) (.int .u32 0)) (semEvents (smA X.Wg))/\∃k,cD X (Ow X Fin) k V g' (w.setCell (smA X.Wg) (.int .u32 0)))
def Ov:=Cl X (.write (smA X.Wg)) (Nh X Fin)
def Ox(vs:Nat)(V:Nat->Prop)(g:Goroutine)(w:World):Prop:=
 g.status= .running/\∀v:Nat,v<2147483648->WgAt X.ty X.Wg w (v*KK) 0->
  (v=vs->∃g',stepG X.P true g w= .go g' (w.setCell (stA X.Wg) (.int .u64 (v*KK+1))) #[rd (stA X.Wg),wr (stA X.Wg)]/\∃k,cD X (Ov X Fin) k V g' (w.setCell (stA X.Wg) (.int .u64 (v*KK+1))))/\
  (v≠vs->∃g',stepG X.P true g w= .go g' w #[rd (stA X.Wg)]/\∃k,cD X Anch k V g' w)
def sK(V:Nat->Prop)(g:Goroutine)(w:World):Prop:=
 g.status= .running/\∀v:Nat,v<2147483648->WgAt X.ty X.Wg w (v*KK) 0->∃g',stepG X.P true g w= .go g' w #[rd (stA X.Wg)]/\
  (v=0->∃k,cD X (Nj X Fin) k V g' w)/\(v≠0->∃k,cD X (Ox X Fin Anch v) k V g' w)
def IL:=Cl X .disable Anch
def Nk(i:Nat)(Next:(Nat->Prop)->Goroutine->World->Prop)(V:Nat->Prop)(g:Goroutine)(w:World):Prop:=
 g.status= .running/\∃g' child Vc,stepG X.P true g w= .spawn g' child w #[]/\(∀b,Vc b->V b)/\(X.list w->(∀b,Vc b->b<w.heap.size)->aX X i ⟨Vc,child,w⟩)/\Next (λb=>V b/\¬Vc b) g' w
def IK(i:Nat)(Next:(Nat->Prop)->Goroutine->World->Prop):=Cl X .enable (Nk X i Next)
def Oy(i:Nat)(Next:(Nat->Prop)->Goroutine->World->Prop):=Cl X (.read (smA X.Wg)) (IK X i Next)
def Oz(i:Nat)(Next:(Nat->Prop)->Goroutine->World->Prop)(V:Nat->Prop)(g:Goroutine)(w:World):Prop:=
 g.status= .running/\∀v:Nat,v<2147483647->WgAt X.ty X.Wg w (v*KK) 0->
  ∃g',stepG X.P true g w= .go g' (w.setCell (stA X.Wg) (.int .u64 ((v+1)*KK))) #[rd (stA X.Wg),wr (stA X.Wg)]/\
   (v=0->∃k,cD X (Oy X i Next) k V g' (w.setCell (stA X.Wg) (.int .u64 ((v+1)*KK))))/\(v≠0->∃k,cD X (IK X i Next) k V g' (w.setCell (stA X.Wg) (.int .u64 ((v+1)*KK))))
def Aj(i:Nat)(Next:(Nat->Prop)->Goroutine->World->Prop):=Cl X .disable (Oz X i Next)
def kW(n:Nat):Nat->(Nat->Prop)->Goroutine->World->Prop
 |0,V,g,w=>∃k,cD X (IL X Anch) k V g w
 |r+1,V,g,w=>∃k,cD X (Aj X (n-(r+1)) (kW n r)) k V g w
end
end
section
open Go Go.Conc
open Go.ConcN (sumTo upd sumTo_upd upd_ne upd_same CT Apart PermW WgLive RelBy WD ShN OkW Ok0)
open Go.ConcR (KK WgAt stA smA rd wr mk DC0)
abbrev Ah(X:aW):Nat->Nat->Nat->Goroutine->World->Prop:= @Go.ConcN.WSit ep X.P X.ty X.Wg 0 0 (λ_ _=>False) (λ_ _=>False) 0 1 .nilFunc
def ik(S:Nat->Prop)(Wg:Nat)(l:Loc):Prop:=dq (λb=>S b\/b=Wg) l
def pS(X:aW)(m j:Nat)(Nd:Nat->fm)(k:Nat)(l:Loc):Prop:=∃i,i<j/\k=1+m+i/\(eq (Nd i).V l\/∃c,X.mine i c/\l= .cell (X.at c))
def xk(X:aW)(m:Nat)(k:Nat)(l:Loc):Prop:=m<k/\eq X.RO l
structure jo (X:aW) (S:Nat->Prop) (j:Nat) (Nd:Nat->fm) (V0:Nat->Prop) (w:World):Prop where
 mine:∀i i' c,X.mine i c->X.mine i' c->i=i'
 wgc:X.Wg≠X.C
 wgl:X.Wg<w.heap.size/\X.C<w.heap.size
 ro:∀b,X.RO b->b<w.heap.size/\b≠X.Wg/\b≠X.C
 sh:∀b,S b->b<w.heap.size/\¬X.RO b/\b≠X.C
 v0:∀b,V0 b->b<w.heap.size/\¬X.RO b/\b≠X.Wg/\b≠X.C/\¬S b
 priv:∀i,i<j->∀b,(Nd i).V b->b<w.heap.size/\¬X.RO b/\b≠X.Wg/\b≠X.C/\¬S b/\¬V0 b
 two:∀i i',i<j->i'<j->∀b,(Nd i).V b->(Nd i').V b->i=i'
section
variable{S:Nat->Prop}{Nd:Nat->fm}
theorem fX{A B:Nat->Prop}{l:Loc}(c:eq A l)(d:eq B l):∃b,A b/\B b:=by
 cases l with
 |cell a=>exact⟨_,c,d⟩
 |obj r=>exact⟨_,c,d⟩
 |_=>exact c.elim
theorem wY{A B:Nat->Prop}{l:Loc}(d:eq A l)(c:dq B l):∃b,A b/\B b:=by
 rcases c with c|c
 ·exact fX d c
 ·cases l with
  |cell a=>cases c
  |obj r=>cases c
  |_=>exact d.elim
theorem jo.apart(h:jo X S j Nd V0 w):Apart (ik S X.Wg) (pS X m j Nd) (xk X m):=by
 refine⟨λk x l ⟨i,n,v,a⟩ ⟨q,p,y,d⟩=> ?_,λk x l ⟨i,n,v,a⟩ ⟨_,r⟩=> ?_,λk l ⟨i,n,v,a⟩ o=> ?_,λk l ⟨_,r⟩ o=> ?_⟩
 ·have:i=q:=by
   rcases a with a|⟨c,u,rfl⟩<;>rcases d with d|⟨z,t,e⟩
   ·obtain⟨b,g,f⟩:=fX a d;exact h.two i q n p b g f
   ·subst e;exact absurd rfl (h.priv i n _ a).2.2.2.1
   ·exact absurd rfl (h.priv q p _ d).2.2.2.1
   ·simp only[aW.at,Loc.cell.injEq,Addr.mk.injEq,true_and,and_true]at e;subst e;exact h.mine i q c u t
  omega
 ·rcases a with a|⟨c,u,rfl⟩
  ·obtain⟨b,g,f⟩:=fX a r;exact(h.priv i n b g).2.1 f
  ·exact absurd rfl (h.ro _ r).2.2
 ·rcases a with a|⟨c,u,rfl⟩
  ·obtain⟨b,g,f⟩:=wY a o;exact f.elim (h.priv i n b g).2.2.2.2.1 (h.priv i n b g).2.2.1
  ·have s:S X.C\/X.C=X.Wg:=o.elim id λh=>by cases h
   exact s.elim (λo=>absurd rfl (h.sh _ o).2.2) λe=>h.wgc e.symm
 ·obtain⟨b,g,f⟩:=wY r o;exact f.elim (λf=>(h.sh b f).2.1 g) (h.ro b g).2.1
theorem jo.grow(h:jo X S j Nd V0 w)(d:w.heap.size<=w'.heap.size):jo X S j Nd V0 w':=
 ⟨h.mine,h.wgc,⟨by have:=h.wgl.1;omega,by have:=h.wgl.2;omega⟩,λb a=>⟨by have:=(h.ro b a).1;omega,(h.ro b a).2⟩,λb a=>⟨by have:=(h.sh b a).1;omega,(h.sh b a).2⟩,λb a=>⟨by have:=(h.v0 b a).1;omega,(h.v0 b a).2⟩,λi c b a=>⟨by have:=(h.priv i c b a).1;omega,(h.priv i c b a).2⟩,h.two⟩
theorem jo.work(h:jo X S j Nd V0 w)(r:i<j){g':Goroutine}{p:World}(q:w.heap.size<=w'.heap.size):jo X S j (upd Nd i ⟨co (Nd i).V w w',g',p⟩) V0 w':=by
 have f:=h.grow q;have n:∀b,w.heap.size<=b/\b<w'.heap.size->b<w'.heap.size/\¬X.RO b/\b≠X.Wg/\b≠X.C/\¬S b/\¬V0 b:=λb c=>
  ⟨c.2,λm=>by have:=(h.ro b m).1;omega,by have:=h.wgl.1;omega,by have:=h.wgl.2;omega,λm=>by have:=(h.sh b m).1;omega,λm=>by have:=(h.v0 b m).1;omega⟩
 refine⟨f.mine,f.wgc,f.wgl,f.ro,f.sh,f.v0,λk g b c=> ?_,λk l g d b c a=> ?_⟩
 ·by_cases e:k=i
  ·subst e;rw[upd_same]at c;rcases c with c|c
   ·exact f.priv k g b c
   ·exact n b c
  ·rw[upd_ne Nd _ e]at c;exact f.priv k g b c
 ·by_cases e:k=i<;>by_cases o:l=i
  ·omega
  ·subst e;rw[upd_same]at c;rw[upd_ne Nd _ o]at a;rcases c with c|c
   ·exact h.two k l g d b c a
   ·have:=(h.priv l d b a).1;omega
  ·subst o;rw[upd_same]at a;rw[upd_ne Nd _ e]at c;rcases a with a|a
   ·exact h.two k l g d b c a
   ·have:=(h.priv k g b c).1;omega
  ·rw[upd_ne Nd _ e]at c;rw[upd_ne Nd _ o]at a;exact h.two k l g d b c a
theorem jo.maiN(h:jo X S j Nd V0 w)(hs:w.heap.size<=w'.heap.size):jo X S j Nd (co V0 w w') w':=by
 have hg:=h.grow hs;refine⟨hg.mine,hg.wgc,hg.wgl,hg.ro,hg.sh,λb hb=> ?_,λk hk b hb=> ?_,hg.two⟩
 ·rcases hb with hb|hb
  ·exact hg.v0 b hb
  ·exact⟨hb.2,λhr=>by have:=(h.ro b hr).1;omega,by have:=h.wgl.1;omega,by have:=h.wgl.2;omega,λhr=>by have:=(h.sh b hr).1;omega⟩
 ·obtain⟨h1,h2,h3,h4,h5,h6⟩:=hg.priv k hk b hb;refine⟨h1,h2,h3,h4,h5,λhv=>hv.elim h6 λhv=> ?_⟩;have:=(h.priv k hk b hb).1;omega
end
end
section
open Go Go.Conc
open Go.ConcN (sumTo upd sumTo_upd upd_ne upd_same CT Apart PermW WgLive RelBy WD ShN OkW Ok0 norel_of)
open Go.ConcR (KK WgAt stA smA rd wr mk DC0)
structure jp (X:aW) (S:Nat->Prop) (m j:Nat) (gs:Array Goroutine) (w:World) (t:Trace) (D:Nat->WD) (Nd:Nat->fm) (V0:Nat->Prop) (d0:Nat) (q:Nat->Nat):Prop where
 size:gs.size=1+m+j
 old:∀i,0<i->i<=m->∃g,gs[i]?=some g/\QuitsD X.P (q i) (Deaf t i) g
 wk:∀i,i<j->∃g,gs[1+m+i]?=some g/\(((D i).stage=7/\(D i).fuel=0/\(D i).deaf=0/\g=(Nd i).g/\aX X i (Nd i)/\bQ X i (Nd i).V (Nd i).w w)\/((D i).stage<=6/\Ah X (D i).stage (D i).fuel (D i).deaf g w))
 lies:jo X S j Nd V0 w
 tabRO:X.RO 0
 ct:CT (ik S X.Wg) (pS X m j Nd) (xk X m) t (m+j)
 norel:NoRelease (stA X.Wg) t
 deaf0:Deaf t 0=d0
 deafW:∀i,i<j->Deaf t (1+m+i)=(D i).deaf
 rel:∀i,i<j->(D i).stage<=6->∃r,RelBy (stA X.Wg) t (1+m+i) r
 has:∀i,i<j->(D i).stage<=6->∀c,X.mine i c->w.cell? (X.at c)=some (X.val c)
 list:X.list w
 seen:∀op∈t,op.act.low w.heap.size
 over:∀(i g:Nat),t.g? i=some g->g≠0->g<=m->t.counts i->∃k,t.g? k=some 0/\HappensBefore t i k
 known:∀(i:Nat) (a:Touch) (g:Nat),touchAt t i=some a->t.g? i=some g->g<=m->a.loc.isMemory=true->Knows t 0 i\/(ik S X.Wg a.loc/\a.kind= .atomic)
 atom:∀(i:Nat) (a:Touch) (g:Nat),touchAt t i=some a->t.g? i=some g->m<g->a.kind= .atomic->ik S X.Wg a.loc
section
variable{S:Nat->Prop}{gs:Array Goroutine}{t:Trace}{D:Nat->WD}{Nd:Nat->fm}{d0:Nat}{q:Nat->Nat}
theorem JD{q:Loc->Prop}{Own Rd:Nat->Loc->Prop}(hv:∀l,eq V l->Own k l)(n:∀l,eq RO l->Rd k l)(c:gt V RO e)(fn:FuncId)(pos:String):OkW q Own Rd k {g:=k,fn,pos,act:= .ofEvent e}:=by
 refine⟨rfl,λx d=> ?_⟩;obtain⟨i,j,s⟩:=e;cases i with
 |cell a=>
  obtain⟨rfl,h⟩:=c;have b:(MemAct.access ⟨.cell a,j,false⟩).touch?=some x:=d;simp only[MemAct.touch?,Option.some.injEq]at b;subst b;rcases h with h|⟨h,p⟩
  ·exact .inr (.inl (hv (.cell a) h))
  ·exact .inr (.inr ⟨n (.cell a) h,p⟩)
 |obj r=>
  obtain⟨rfl,h⟩:=c;have b:(MemAct.ofEvent ⟨.obj r,j,false⟩).touch?=some x:=d;simp only[MemAct.ofEvent,MemAct.touch?,Option.some.injEq]at b;subst b;exact .inr (.inl (hv (.obj r) h))
 |mark m=>
  have o:fD m=true:=c;cases m with
  |extern f=>cases d
  |noRoom=>cases d
  |_=>simp[fD]at o
 |output=>exact c.elim
 |goroutines=>exact c.elim
theorem Er(d:gt V RO e){x:Touch}(c:(MemAct.ofEvent e).touch?=some x):x.kind= .plain:=by
 obtain⟨g,j,l⟩:=e;cases g with
 |cell a=>
  obtain⟨rfl,h⟩:=d;have b:(MemAct.access ⟨.cell a,j,false⟩).touch?=some x:=c;simp only[MemAct.touch?,Option.some.injEq]at b;subst b;rfl
 |obj r=>
  obtain⟨rfl,h⟩:=d;simp only[MemAct.ofEvent,MemAct.touch?,Option.some.injEq]at c;subst c;rfl
 |mark i=>
  have k:fD i=true:=d;cases i with
  |extern f=>cases c
  |noRoom=>cases c
  |_=>simp[fD]at k
 |output=>exact d.elim
 |goroutines=>exact d.elim
theorem xl{B:Nat}(hv:∀b,V b->b<B)(i:∀b,RO b->b<B)(c:gt V RO e):(MemAct.ofEvent e).low B:=by
 obtain⟨d,k,l⟩:=e;cases d with
 |cell a=>
  obtain⟨rfl,h⟩:=c;show a.block<B;rcases h with h|⟨h,_⟩
  ·exact hv _ h
  ·exact i _ h
 |obj r=>
  obtain⟨rfl,h⟩:=c;simp only[MemAct.ofEvent,MemAct.low,Loc.low];exact hv _ h
 |mark g=>
  have j:fD g=true:=c;cases g with
  |extern f=>trivial
  |noRoom=>trivial
  |_=>simp[fD]at j
 |output=>exact c.elim
 |goroutines=>exact c.elim
theorem jw(g:gt V RO e):e.loc≠ .mark .disable/\e.loc≠ .mark .enable/\∀a,e.loc≠ .mark (.release a):=by
 obtain⟨b,i,j⟩:=e;cases b with
 |mark c=>
  have d:fD c=true:=g;cases c with
  |extern f=>exact⟨(by intro h;cases h),(by intro h;cases h),λa h=>(by cases h)⟩
  |noRoom=>exact⟨(by intro h;cases h),(by intro h;cases h),λa h=>(by cases h)⟩
  |_=>simp[fD]at d
 |_=>exact⟨(by intro h;cases h),(by intro h;cases h),λa h=>(by cases h)⟩
theorem rq{B:Nat}(h:∀op∈t,op.act.low B){a:Touch}(j:touchAt t i=some a):a.loc.low B:=by
 obtain⟨x,g,b⟩:=touch_of j;have d:=h x (Qv g);cases c:x.act with
 |access e=>rw[c]at d b;simp only[MemAct.touch?,Option.some.injEq]at b;subst b;exact d
 |mark f=>
  rw[c]at d b;cases f<;>simp only[MemAct.touch?]at b<;>first|(cases b;done)|(simp only[Option.some.injEq]at b;subst b;exact d)
 |_=>rw[c]at b;simp[MemAct.touch?]at b
end
section
variable{S:Nat->Prop}{gs:Array Goroutine}{t:Trace}{D:Nat->WD}{Nd:Nat->fm}{d0:Nat}{q:Nat->Nat}
structure kh (A:Nat->Prop) (w w':World):Prop where
 keep:∀b,b<w.heap.size->¬A b->w'.heap[b]?=w.heap[b]?
 size:w.heap.size<=w'.heap.size
 os:w'.os=w.os
 output:w'.output=w.output
 tape:w'.tape=w.tape
theorem cC.turns(h:cC V RO w w' es):kh V w w':=⟨h.keep,h.size,h.os,h.output,h.tape⟩
theorem vy(w:World)(a:Addr)(v:Value):kh (· =a.block) w (w.setCell a v):=
 ⟨λb _ c=>by simp only[Q6];exact kM c,by simp[Q6],rfl,rfl,rfl⟩
theorem kh.live{A:Nat->Prop}(h:kh A w w'){ty:TypeId}{Wg:Nat}(c:¬A Wg)(d:Wg<w.heap.size):WgLive ty Wg w->WgLive ty Wg w':=λ⟨a,b,e⟩=>⟨a,b,(h.keep Wg d c).trans e⟩
theorem kh.cell{A:Nat->Prop}(h:kh A w w'){a:Addr}(b:¬A a.block)(c:a.block<w.heap.size):w'.cell? a=w.cell? a:=by unfold Qe;rw[h.keep _ c b]
theorem kh.list{A:Nat->Prop}(h:kh A w w')(a:¬A X.C)(b:X.C<w.heap.size):X.list w->X.list w':=λ⟨e,d,c⟩=>⟨e,(h.keep _ b a).trans d,c⟩
theorem kh.kept{A:Nat->Prop}(h:kh A w w')(hv:∀b,V b->¬A b/\b<w.heap.size):eB V w w':=⟨λb a=>h.keep b (hv b a).2 (hv b a).1,h.size,h.os,h.output,h.tape⟩
theorem iX(c:Nat)(v:Value)(h:X.list w):X.list (w.setCell (X.at c) v):=by obtain⟨d,b,a⟩:=h;refine⟨d.setIfInBounds c v, ?_,by simpa using a⟩;simp[Q6,aW.at,Array.getElem?_modify,b]
theorem Ea{c c':Nat}(a:c'≠c)(v:Value)(h:X.list w):(w.setCell (X.at c) v).cell? (X.at c')=w.cell? (X.at c'):=by obtain⟨e,b,d⟩:=h;unfold Qe;simp[Q6,aW.at,Array.getElem?_modify,b,sN (Ne.symm a)]
theorem t5(g:jo X S j Nd V0 w)(y:X.list w)(u:i<j)(h:kg X i (Nd i).V w w' es):
 bW X V0 w w'/\(∀d,d<j->d≠i->bQ X d (Nd d).V w w')/\(X.RO 0->wI X.ty X.Wg w w')/\X.list w'/\(∀d,d≠i->∀c,X.mine d c->w'.cell? (X.at c)=w.cell? (X.at c))/\w.heap.size<=w'.heap.size/\w'.heap[X.Wg]?=w.heap[X.Wg]?:=by
 have r:∀A:Nat->Prop,kh A w w'->(∀b,A b->((Nd i).V b\/b=X.C))->X.list w'->(∀d,d≠i->∀c,X.mine d c->w'.cell? (X.at c)=w.cell? (X.at c))->
  bW X V0 w w'/\(∀d,d<j->d≠i->bQ X d (Nd d).V w w')/\(X.RO 0->wI X.ty X.Wg w w')/\X.list w'/\(∀d,d≠i->∀c,X.mine d c->w'.cell? (X.at c)=w.cell? (X.at c))/\w.heap.size<=w'.heap.size/\w'.heap[X.Wg]?=w.heap[X.Wg]?:=by
  intro A q l t m;have s:¬A X.Wg:=λh=>(l _ h).elim (λh=>(g.priv i u _ h).2.2.1 rfl) g.wgc;have n:∀b,X.RO b->¬A b/\b<w.heap.size:=λb f=>⟨λh=>(l b h).elim (λh=>(g.priv i u b h).2.1 f) (g.ro b f).2.2,(g.ro b f).1⟩;have k:=q.live (ty:=X.ty) s g.wgl.1;refine⟨⟨q.kept λb f=> ?_,k⟩,λd p o=>⟨q.kept λb f=> ?_,k,λ_=>t,m d o⟩,λx=> @Go.ConcN.RW.mk ep _ _ _ _ _ _ _ _ (λb f=>absurd f (Nat.not_lt_zero _)) k (λ⟨F,E,D⟩=>⟨F,(q.keep 0 (n 0 x).2 (n 0 x).1).trans E,D⟩) (q.cell (n 0 x).1 (n 0 x).2),t,m,q.size,q.keep _ g.wgl.1 s⟩
  ·rcases f with f|f
   ·exact⟨λh=>(l b h).elim (λh=>(g.priv i u b h).2.2.2.2.2 f) (g.v0 b f).2.2.2.1,(g.v0 b f).1⟩
   ·exact n b f
  ·rcases f with f|f
   ·exact⟨λh=>(l b h).elim (λh=>o (g.two d i p u b f h)) (g.priv d p b f).2.2.2.1,(g.priv d p b f).1⟩
   ·exact n b f
 rcases h with h|⟨c,v,C,rfl,_⟩
 ·have B:¬(Nd i).V X.C:=λh=>(g.priv i u _ h).2.2.2.1 rfl;exact r _ h.turns (λb f=> .inl f) (h.turns.list B g.wgl.2 y) λd _ c _=>h.turns.cell (a:=X.at c) B g.wgl.2
 ·exact r _ (vy w (X.at c) v) (λb f=> .inr f) (iX c v y) λd o G z=>Ea (λe=>o (g.mine d i G z (by rw[e];exact C))) v y
end
end
end Go.Proofs.YtkmoglhgkcnalaaGreatDoor
