/- A part of what the last text of the claim imports: texts laid together, and made small, by a program. -/
import Derived.Conc.Events
import Derived.Fence
import Derived.Conc.Fork
import Derived.CallsIn
import Derived.ProofKit
import Derived.WalkKit
import Derived.WalkSpells
import Derived.WalkLawsBesides
import Derived.Deep.MidRow
import Derived.Deep.OwnRows
import Derived.Test.YtkmoglhgkcnalaaGreatDoorOwn2
set_option maxHeartbeats 16000000
set_option maxRecDepth 100000
namespace Go.Proofs.YtkmoglhgkcnalaaGreatDoor
open Go
variable{n b i N l m k j:Nat}{w w':World}{fr:Frame}{v:Value}{cs:List Frame}{args cv:Array Value}{V RO D:Nat->Prop}{q main listen:Bool}{g:Goroutine}{a:Act}{K:List Item}{P:Program}{x:Operand}{ops:Array Oper}{KS:List Int}{t u:TypeId}{o:Oper}{f:FuncId}{es:Array Event}{Goal:Goroutine->World->Prop}{fn:Func}{rest:List Nat}{ds:List Deferred}{F:List (Nat×Value)}{e:Event}{listed:Array Bool}{c:Int}{s msg key sig:ByteArray}
section
open Go
inductive fq (fr:Frame):Option Code->Prop
 |done (h:fr.todo=[]):fq fr none
 |ret {k:List Item} (h:fr.todo= .code .ret::k):fq fr (some .ret)
 |exit {id:Nat} {k:List Item} (h:fr.todo= .code (.exit id)::k) (he:exitTo id k=none):fq fr (some (.exit id))
theorem fq.ok{j:Option Code}(h:fq fr j):j.all (eY false)=true:=by cases h<;>rfl
theorem fq.ren{j:Option Code}(h:fq fr j)(a:Nat->Nat):fq (aV a fr) j:=by
 cases h with
 |done h=>exact .done (by simp[aV,h])
 |ret h=>exact .ret (k:=_) (by simp only[aV,h,List.map_cons,cE];rfl)
 | @exit id k h b=>exact .exit (k:=k.map (cE a)) (by simp[aV,h,cE]) (by rw[nl,b];rfl)
section
variable{PL PM:Program}{G T:Nat}{D:Nat->Prop}{ρ:Nat->Nat}{wL wM:World}{base:List Frame}
theorem nm{c:Frame}{j:Option Code}(e:fq fr j)(b:fr.roundOf=some l)(d:fr.kind= .normal)
 (a:(Instr.endRound l j).runT P w #[]=(.ok v w',es)):stepG.exec P main listen fr (c::cs) none w= .go {frame:=c.finish v,callers:=cs,status:= .running,dying:=none} w' (seen P fr.fn es):=by
 unfold stepG.exec;cases e with
 |done h=>simp only[h,b,a,doReturn,d,GStep.after,Array.append_empty]
 |ret h=>simp only[h,b,a,doReturn,d,GStep.after,Array.append_empty]
 |exit h f=>simp only[h,f,Option.elim_none,b,a,doReturn,d,GStep.after,Array.append_empty]
theorem sV{c:Frame}{j:Option Code}(m:fq fr j)(i:fr.roundOf=some l)(k:fr.kind= .normal)
 (h:stepG.exec P main listen fr (c::cs) none w= .go g w' es):∃v,(Instr.endRound l j).run P w= .ok v w'/\g={frame:=c.finish v,callers:=cs,status:= .running,dying:=none}:=by
 have a:=Sem.runT_fst P (Instr.endRound l j) w #[];unfold stepG.exec at h;cases m with
 |done e=>
  simp only[e,i]at h;generalize (Instr.endRound l none).runT P w #[]=q at h a;obtain⟨r,f⟩:=q;simp only at a;subst a;simp only at h;cases b:(Instr.endRound l none).run P w with
  |ok v d=>
   rw[b]at h;simp only[doReturn,k,GStep.after,GStep.go.injEq]at h;obtain⟨rfl,rfl,_⟩:=h;exact⟨v,rfl,rfl⟩
  |halt x d=>
   rw[b]at h;simp[GStep.after]at h
 |ret e=>
  simp only[e,i]at h;generalize (Instr.endRound l (some .ret)).runT P w #[]=q at h a;obtain⟨r,f⟩:=q;simp only at a;subst a;simp only at h;cases b:(Instr.endRound l (some .ret)).run P w with
  |ok v d=>
   rw[b]at h;simp only[doReturn,k,GStep.after,GStep.go.injEq]at h;obtain⟨rfl,rfl,_⟩:=h;exact⟨v,rfl,rfl⟩
  |halt x d=>
   rw[b]at h;simp[GStep.after]at h
 | @exit id _ e n=>
   simp only[e,n,Option.elim_none,i]at h;generalize (Instr.endRound l (some (.exit id))).runT P w #[]=q at h a;obtain⟨r,f⟩:=q;simp only at a;subst a;simp only at h;cases b:(Instr.endRound l (some (.exit id))).run P w with
   |ok v d=>
    rw[b]at h;simp only[doReturn,k,GStep.after,GStep.go.injEq]at h;obtain⟨rfl,rfl,_⟩:=h;exact⟨v,rfl,rfl⟩
   |halt x d=>
    rw[b]at h;simp[GStep.after]at h
theorem xk(E:Env PL PM G)(i:cr G T D ρ wL wM){fr' c:Frame}{cs':List Frame}(k:∀a,aB G D ρ a->fr'=aV a fr)(b:∀a,aB G D ρ a->cs'=(c::cs).map (aV a)++base)(ok:fU fr)(d:∀x∈c::cs,fU x/\bH x)
  {j:Option Code} (w:fq fr j) (C:fr.roundOf=some l) {I mM J lM:Bool} {H:Goroutine} {wL':World} {y:Array Event} (h:stepG.exec PL I J fr (c::cs) none wL= .go H wL' y) (N:wL'.drawn<=T):
 ∃D' a F wM' o,stepG.exec PM mM lM fr' cs' none wM= .go F wM' o/\eX G D' a base H F/\ic G T D ρ wL wM D' a wL' wM'/\∀e∈o,gS D' a e:=by
 obtain⟨v,L,rfl⟩:=sV w C ok.kind h;have f:=k ρ i.self;have g:∀a,aB G D ρ a->fr'.roundOf=some (a l):=λa n=>by
  rw[k a n];show fr.roundOf.map a=_;rw[C];rfl
 have u:∀a,aB G D ρ a->a l=ρ l:=λa n=>Option.some.inj ((g a n).symm.trans (g ρ i.self));obtain⟨D',r,R,wM',z,Q,P,A,O⟩:=ea E.load E.store dM (Instr.endRound l j) (Instr.endRound (ρ l) j) D ρ wL wM i (λa n=>by rw[←u a n];exact qg l j w.ok) #[] _ wL' L rfl N;cases P with
 | @ok _ B _ _ s=>
   have m:=b ρ i.self;simp only[List.map_cons,List.cons_append]at m;have t:stepG.exec PM mM lM fr' cs' none wM= .go {frame:=(aV ρ c).finish B,callers:=cs.map (aV ρ)++base,status:= .running,dying:=none} wM' (seen PM fr'.fn (#[]++z)):=by
    rw[m];refine nm ?_ (g ρ i.self) ?_ Q
    ·rw[f];exact w.ren ρ
    ·rw[f];exact ok.kind
   refine⟨D',r,_,wM',_,t,⟨λa p=> ?_,λa p=> ?_,dn c v (d c List.mem_cons_self).1,λx K=>d x (List.mem_cons_of_mem _ K),rfl,rfl,rfl,rfl⟩,A,λe M=> ?_⟩
   ·have q:=(b ρ i.self).symm.trans (b a (aB.of_ran A p));simp only[List.map_cons,List.cons_append,List.cons.injEq]at q;show(aV ρ c).finish B=aV a (c.finish v);rw[q.1,s a p];exact eH c v (d c List.mem_cons_self).1 (d c List.mem_cons_self).2
   ·have q:=(b ρ i.self).symm.trans (b a (aB.of_ran A p));simp only[List.map_cons,List.cons_append,List.cons.injEq]at q;exact q.2
   ·have:=de _ _ _ e M;exact O e (by simpa using this)
end
def im(wL wM:World):Prop:=∃c e f,(∀v∈c,aL v=true)/\wL.heap[dV]?=some (.cells c e f)/\wM.heap[dV]?=some (.cells c e f)
def sC(e:Event):Prop:=∃a:Addr,a.block=dV/\e=⟨.cell a,false,false⟩
def AV(PL:Program):Prop:=∃d,PL.underlying qn=some d/\(∀fs,d≠ .struct fs)/\∀n e,d≠ .array n e
section
variable{PL PM:Program}{G T:Nat}{D:Nat->Prop}{ρ:Nat->Nat}{wL wM:World}{base:List Frame}
theorem im.ran{D':Nat->Prop}{a:Nat->Nat}{wL' wM':World}(h:im wL wM)(n:dV<G)(d:cr G T D ρ wL wM)(g:ic G T D ρ wL wM D' a wL' wM'):im wL' wM':=by
 obtain⟨c,e,f,m,j,i⟩:=h;refine⟨c,e,f,m, ?_, ?_⟩
 ·rw[g.keepL dV (cj j) λk=>by have:=d.out _ k;omega];exact j
 ·rw[g.keep dV (cj i) λb l e=>by have:=d.out _ l;have:=d.glob b;omega];exact i
theorem CJ(a:Addr)(n:Nat):(a.add n).block=a.block:=by
 unfold Addr.add;split<;>rfl
theorem vv{a:Type}{k:IntKind}{x y:Int}{c:BoundsCode}{v:a}(h:(boundsPanic k x y c:Sem a).run PL w= .ok v w'):False:=by
 unfold boundsPanic at h;dsimp only at h;split at h
 all_goals
  rw[Sem.run_bind]at h;revert h;generalize Sem.run PL _ w=q;intro h;cases q with
  |halt z d=>cases h
  |ok b d=>
   obtain⟨g,i,f,_⟩:=iA (PL:=PL) (α:=a) (.bounds (IntKind.i64.wrap x) y b c) d;exact absurd (f.symm.trans h) (by intro e;cases e)
theorem vh(g:aK PL PM){a:Addr}{c:Value}(h:(Instr.indexAt t (.pointer (some a)) c).run PL w= .ok v w'):
 w'=w/\(∀j,dM j c=c)/\(∃b:Addr,v= .pointer (some b)/\b.block=a.block)/\∀l es,(Instr.indexAt t (.pointer (some a)) c).runT PM l es=(.ok v l,es):=by
 cases c with
 |int k i=>
  unfold Instr.indexAt at h⊢;simp only[asIntOf,underlying,program,bind,pure,Sem.bind,Sem.run,Sem.runT,←g.under]at h⊢;cases f:PL.underlying t with
  |none=>simp[f,stuck,Sem.bind]at h
  |some d=>
   simp only[f,Sem.bind]at h⊢;cases d with
   |array n e=>
    simp only[Instr.sureAddr,pure,Sem.bind,Sem.run,Sem.runT,f,←g.under]at h⊢;by_cases o:0<=i/\i<(n:Int)
    ·simp only[o,and_self,↓reduceIte,sizeOf,typeInfo,program,bind,pure,Sem.bind,Sem.run,Sem.runT,←g.info]at h⊢;cases m:PL.info? e with
     |none=>simp[m,stuck,Sem.bind]at h
     |some z=>
      simp only[m,Sem.bind,Sem.run,Sem.runT,Result.ok.injEq]at h⊢;obtain⟨rfl,rfl⟩:=h;exact⟨rfl,λj=>by simp[dM],⟨_,rfl,CJ _ _⟩,λ_ _=>by first|rfl|trivial⟩
    ·simp only[o,↓reduceIte]at h;split at h
     ·simp[unsupported]at h
     ·exfalso;exact vv h
   |_=>simp[stuck,Sem.bind]at h
 |pointer p=>cases p<;>simp[Instr.indexAt,asIntOf,stuck,unsupported,bind,Sem.bind]at h
 |_=>simp[Instr.indexAt,asIntOf,stuck,bind,Sem.bind]at h
theorem cR{k:List Item}
 (b:fr.todo= .inRegion ops (i::rest)::k) (d:ops[i]?=some o) (f:Region.wanted o (yielded ops fr.tmps)=true) (a:∀c,o.op≠ .defer c):
 stepG.exec P main listen fr cs none w=stepG.apply P listen fr cs none (execOp fr.eval o) w:=by
 unfold stepG.exec;simp only[b,d,Option.map_some,Option.getD_some,f,↓reduceIte];unfold stepG.oper;simp only[Frame.oper?,b,d];split
 ·rename_i e;exact absurd e (a _)
 ·rfl
theorem yC(b:Nat->Nat)(tmps:Array Value)(hv:fh b v=v):(j1 b aY tmps).setIfInBounds bU v=j1 b aY (tmps.setIfInBounds bU v):=by
 apply Array.ext_getElem?;intro i;by_cases d:(aY==aY&&i==bU)=true
 ·rw[kF b aY _ i d];have e:bU=i:=by simpa using Eq.symm (by simpa using d:i=bU)
  subst e;rw[Array.getElem?_setIfInBounds,Array.getElem?_setIfInBounds,tG];simp only[↓reduceIte];split
  ·simp[hv]
  ·rfl
 ·have a:(aY==aY&&i==bU)=false:=by simpa using d
  have c:bU≠i:=λe=>by subst e;simp at a
  rw[eC b aY _ i a,sN c,sN c,eC b aY _ i a]
theorem ug(c:Nat->Nat)(fr:Frame)(v:Value){k:List Item}(h:fr.todo= .inRegion ops (i::rest)::k)(l:ops[i]?=some o)(j:fr.fn=aY)(m:o.dst=some bU)(hv:fh c v=v):
 (aV c fr).finish v=aV c (fr.finish v):=by
 obtain⟨n,a,e,d,f,g,b⟩:=fr;simp only at h j;subst h j;simp only[aV,Frame.finish,List.map_cons,cE,l,Option.bind_some,m,yC c a hv]
theorem wF(E:Env PL PM G)(hW:cr G T D ρ wL wM)(hP:aD wL)
 {fr':Frame} {cs':List Frame} (u:∀a,aB G D ρ a->fr'=aV a fr) (M:∀a,aB G D ρ a->cs'=cs.map (aV a)++base) (ok:fU fr) (C:∀c∈cs,fU c/\bH c)
    {k:List Item}  (H:fr.todo= .inRegion ops (i::rest)::k) (J:ops[i]?=some o) (P:Region.wanted o (yielded ops fr.tmps)=true)
 (Q:fr.fn=aY)  {l:Operand} (m:o.op= .indexAddr t (.global dV) l) (V:ls true l=true) (z:o.dst=some bU)
 {S mM U:Bool} {A:Goroutine} {wL':World} {O:Array Event} (h:stepG.exec PL S U fr cs none wL= .go A wL' O) (X:A.status= .running/\∀c,A.frame.mode≠ .panicking c) (Z:A.dying=none):
 ∃R,wL'=wL/\stepG.exec PM mM true fr' cs' none wM= .go R wM/\eX G D ρ base A R:=by
 have g:=u ρ hW.self;have p:fr'.todo= .inRegion ops (i::rest)::k.map (cE ρ):=by rw[g];show fr.todo.map (cE ρ)=_;rw[H];rfl
 have F:Region.wanted o (yielded ops fr'.tmps)=true:=by
  rw[g];have:yielded ops (aV ρ fr).tmps=yielded ops fr.tmps:=funext λj=>er ρ fr.fn ops fr.tmps j;rw[this];exact P
 have q:∀c,o.op≠ .defer c:=λc e=>by rw[m]at e;cases e
 rw[cR H J P q]at h;have K:execOp fr.eval o=(do pure (.value (←Instr.indexAt t (fr.eval (.global dV)) (fr.eval l))):Sem Next):=by unfold execOp;rw[m]
 have y:execOp fr'.eval o=(do pure (.value (←Instr.indexAt t (fr'.eval (.global dV)) (fr'.eval l))):Sem Next):=by unfold execOp;rw[m]
 rw[K]at h;obtain⟨n,f,_,rfl⟩:=oy ok.noCall ok.mode (eG _) h X (λk B=>dR (ew (iW (ρ:=id) E.same t _ _)) wL hP k B) Z;rw[Sem.run_bind]at f;cases I:(Instr.indexAt t (fr.eval (.global dV)) (fr.eval l)).run PL wL with
 |halt x B=>rw[I]at f;cases f
 |ok v B=>
  rw[I]at f;cases f;obtain⟨rfl,h1,⟨b,rfl,h2⟩,h3⟩:=vh E.same I;have L:fr'.eval l=fr.eval l:=by
   rw[g,fO fr l (by rw[Q];simpa using V)];exact h1 ρ
  have W:(execOp fr'.eval o).runT PM wM #[]=(.ok (.value (.pointer (some b))) wM,#[]):=by
   rw[y,L];show Sem.runT PM (Sem.bind _ _) wM #[]=_;rw[Sem.runT_bind'];have:=h3 wM #[];simp only[Frame.eval]at this⊢;rw[this];rfl
  have N:dO fr':=by
   intro d w r s k2 e;rw[p]at e;cases e
  have Y:fr'.kind= .normal:=by rw[g];exact ok.kind
  refine⟨{frame:=fr'.finish (.pointer (some b)),callers:=cs',status:= .running,dying:=none},rfl, ?_,⟨λa hA=> ?_,M, ?_,C,rfl,rfl,rfl,rfl⟩⟩
  ·rw[cR p J F q,cN N W rfl];simp only[fT,Y]
   congr 1
  ·show fr'.finish _=aV a (fr.finish _);rw[u a hA];exact ug a fr _ H J Q z (by simp[fh,jU,h2])
  ·exact dn fr _ ok
theorem ze(E:Env PL PM G)(S:AV PL)(hW:cr G T D ρ wL wM)(hP:aD wL)(hR:im wL wM)
 {fr':Frame} {cs':List Frame} (F:∀l,aB G D ρ l->fr'=aV l fr) (Y:∀l,aB G D ρ l->cs'=cs.map (aV l)++base) (ok:fU fr) (Q:∀c∈cs,fU c/\bH c)
    {k:List Item}  (ht:fr.todo= .inRegion ops (i::rest)::k) (ho:ops[i]?=some o) (hw:Region.wanted o (yielded ops fr.tmps)=true)
 (hf:fr.fn=aY) (y:o.op= .load qn (.tmp bU)) (b:jU (fr.eval (.tmp bU))=true) (A:bH fr)
 {mL mM lL:Bool} {J:Goroutine} {wL':World} {a0:Array Event} (h:stepG.exec PL mL lL fr cs none wL= .go J wL' a0) (hq:J.status= .running/\∀c,J.frame.mode≠ .panicking c) (hd:J.dying=none):
 ∃gM K,wL'=wL/\stepG.exec PM mM true fr' cs' none wM= .go gM wM K/\eX G D ρ base J gM/\∀e∈K,sC e:=by
 have t:=F ρ hW.self;have B:fr'.todo= .inRegion ops (i::rest)::k.map (cE ρ):=by rw[t];show fr.todo.map (cE ρ)=_;rw[ht];rfl
 have R:Region.wanted o (yielded ops fr'.tmps)=true:=by
  rw[t];have:yielded ops (aV ρ fr).tmps=yielded ops fr.tmps:=funext λj=>er ρ fr.fn ops fr.tmps j;rw[this];exact hw
 have C:∀c,o.op≠ .defer c:=λc e=>by rw[y]at e;cases e
 rw[cR ht ho hw C]at h;have X:execOp fr.eval o=(do pure (.value (←Instr.loadAt qn (fr.eval (.tmp bU)))):Sem Next):=by unfold execOp;rw[y]
 have H:execOp fr'.eval o=(do pure (.value (←Instr.loadAt qn (fr'.eval (.tmp bU)))):Sem Next):=by unfold execOp;rw[y]
 have I:fr'.eval (.tmp bU)=fr.eval (.tmp bU):=by
  rw[t];simp only[Frame.eval,aV,Array.getD_eq_getD_getElem?];rw[kF ρ fr.fn fr.tmps bU (by simp[hf])];simp only[Frame.eval,Array.getD_eq_getD_getElem?]at b;cases hx:fr.tmps[bU]? with
  |none=>rfl
  |some v=>
   rw[hx]at b;simp only[Option.getD_some]at b;simp[fh,b]
 rw[X]at h;obtain⟨n,q,_,rfl⟩:=oy ok.noCall ok.mode (eG _) h hq (λk N=>dR (ew (fy (ρ:=id) E.same qn _)) wL hP k N) hd;rw[Sem.run_bind]at q;cases L:(Instr.loadAt qn (fr.eval (.tmp bU))).run PL wL with
 |halt x N=>rw[L]at q;cases q
 |ok v N=>
  rw[L]at q;cases q;generalize fr.eval (.tmp bU)=p at b L I;cases p<;>simp only[jU,Bool.false_eq_true]at b
  ·rename_i a;cases a with
   |none=>cases b
   |some a=>
    have M:a.block=dV:=(by simpa using b);obtain⟨d,hu,W,V⟩:=S;obtain⟨c,e,f,q1,O,q3⟩:=hR;have z:wM.cell? a=wL.cell? a:=(by unfold World.cell?;rw[M,O,q3]);have u:∀(P:Program),P.underlying qn=some d->∀w es,(Instr.loadAt qn (.pointer (some a))).runT P w es=(load a:Sem Value).runT P w es:=by
     intro P hP w es;unfold Instr.loadAt loadVar isAgg underlying Instr.sureAddr;simp only[program,bind,pure,Sem.bind,Sem.runT,hP];cases d<;>first|rfl|exact absurd rfl (W _)|exact absurd rfl (V _ _)
    have g:=congrArg Prod.fst (u PL hu wL #[]);rw[Sem.runT_fst,Sem.runT_fst,L]at g;have m:wL.cell? a=some v/\wL'=wL:=by
     simp only[load,Sem.run]at g;cases hc:wL.cell? a with
     |some x=>rw[hc]at g;simp only[Result.ok.injEq]at g;exact⟨by rw[g.1],g.2⟩
     |none=>
      rw[hc]at g;unfold World.farLoad at g;rw[M,O]at g;simp at g
    obtain⟨m,rfl⟩:=m;have U:aL v=true:=by
     unfold World.cell? at m;rw[M,O]at m;simp only at m;split at m
     ·cases m
     ·exact q1 v (Array.mem_of_getElem? m)
    have hr:(execOp fr'.eval o).runT PM wM #[]=(.ok (.value v) wM,#[⟨.cell a,false,false⟩]):=by
     rw[H,I];show Sem.runT PM (Sem.bind _ _) wM #[]=_;rw[Sem.runT_bind',u PM (by rw[←E.same.under];exact hu)];simp only[load,Sem.runT,z,m];rfl
    have Z:dO fr':=by
     intro d w r s k2 e;rw[B]at e;cases e
    have hk:fr'.kind= .normal:=(by rw[t];exact ok.kind);refine⟨_,_,rfl,by rw[cR B ho R C];exact cN Z hr rfl,⟨λl hA=> ?_,Y,dn fr v ok,Q,rfl,rfl,rfl,rfl⟩,λe he=> ?_⟩
    ·show fr'.finish v=aV l (fr.finish v);rw[F l hA,←eH fr v ok A,cJ l v U]
    ·have:=de _ _ _ e he;rw[hk]at this;simp at this;exact⟨a,M,this⟩
theorem uL(w:cr G T D ρ wL wM){fr':Frame}{cs':List Frame}(d:∀a,aB G D ρ a->fr'=aV a fr)(m:∀a,aB G D ρ a->cs'=cs.map (aV a)++base)(r:fU fr)(f:∀c∈cs,fU c/\bH c)
    {k:List Item}  (l:fr.todo= .inRegion ops (i::rest)::k) (u:ops[i]?=some o) (v:fr.fn=aY) (e:o.dst=some bU)
 (n:((ops[i]?).map (Region.wanted · (yielded ops fr.tmps))).getD false=false) (s mM t lM:Bool):
 ∃q p,stepG.exec PL s t fr cs none wL= .go q wL/\stepG.exec PM mM lM fr' cs' none wM= .go p wM/\eX G D ρ base q p:=by
 have b:=d ρ w.self;have h:fr'.todo= .inRegion ops (i::rest)::k.map (cE ρ):=by rw[b];show fr.todo.map (cE ρ)=_;rw[l];rfl
 have g:((ops[i]?).map (Region.wanted · (yielded ops fr'.tmps))).getD false=false:=by
  rw[b];have:yielded ops (aV ρ fr).tmps=yielded ops fr.tmps:=funext λj=>er ρ fr.fn ops fr.tmps j;rw[this];exact n
 refine⟨_,_,iy l n,iy h g,λa x=> ?_,m,dn fr undef r,f,rfl,rfl,rfl,rfl⟩;show fr'.finish undef=aV a (fr.finish undef);rw[d a x];exact ug a fr undef l u v e (eM a)
end
section
variable{PL PM:Program}{α β:Type}{f:α->β}{ρ:Nat->Nat}
theorem rP{p:Program}{g:World}{a:Addr}{b:Bool}{j:List Addr}(e:w.farStore p a v b= .ok (g,j)):g.drawn=w.drawn:=by
 unfold World.farStore at e;split at e
 ·rename_i f u o;split at e
  ·rename_i r d;cases e;cases h:w.seen p f u a b with
   |error x=>
    unfold World.viewStore at d;by_cases i:(!tight p p.depth u)=true
    ·rw[if_pos i]at d;cases d
    ·rw[if_neg i,h]at d;cases d
   |ok y=>
    obtain⟨c,n,l,k⟩:=kz h;obtain⟨q,m,_⟩:=gy p (w':={w with heap:=w.heap.setIfInBounds f.block (.cells (c.map (dM λx=>x)) n l)}) (λx=>x) k (by grind) d;rw[m]
  ·cases e
 ·cases e
theorem pZ{s:Sem α}{s':Sem β}(h:kL ρ PL PM f s s'):∀w,aD w->∀a w',s.run PL w= .ok a w'->w.drawn<=w'.drawn:=by
 induction h with
 |pure a=>intro w b k w' e;cases e;exact Nat.le_refl _
 | @load a j n h g=>
   intro w b k w' e;rw[Sem.run]at e;cases z:w.cell? a<;>grind
 | @store a v j n h g=>
   intro w b k w' e;cases i:oe v with
   |false=>
    obtain⟨A,B⟩:=fE (p:=PL) (w:=w) (m:= .plain) (a:=a) (k:=j) i;rw[B]at e;cases e
   |true=>
    rw[fa i]at e;cases z:w.cell? a with
    |some u=>
     simp only[z]at e;split at e
     ·cases e
     ·exact g _ (b.setCell a v) k w' e
    |none=>
     simp only[z]at e;cases l:w.farStore PL a v (Mode.plain==Mode.atomic)with
     |ok y=>rw[l]at e;rw[←rP l];exact g y.1 (gC b l) k w' e
     |error x=>rw[l]at e;cases e
 |new t h g=>intro w b k w' e;exact g _ _ (b.push t) k w' e
 |shape h g=>intro w b k w' e;exact g _ w b k w' e
 |freeze h g=>intro w b k w' e;exact Nat.le_trans (Nat.le_of_eq (by unfold World.freeze;split<;>rfl)) (g _ (b.freeze _ _) k w' e)
 |frozen h g=>intro w b k w' e;exact g _ w b k w' e
 | @getObj r j n h g=>
   intro w b k w' e;rw[Sem.run]at e;split at e
   ·cases e
   ·rename_i o t _;exact g o (b _ _ ‹_›) w b k w' e
   ·cases e
 | @setObj r o j n t h g=>
   intro w b k w' e;rw[Sem.run]at e;split at e
   ·cases e
   ·exact g _ (b.set r t) k w' e
   ·cases e
 | @choose q j n h g=>
   intro w b k w' e;rw[Sem.run]at e;split at e
   ·exact g _ w b k w' e
   ·exact Nat.le_trans (Nat.le_succ _) (g _ {w with drawn:=w.drawn+1} b k w' e)
 |program h g=>intro w b k w' e;exact g w b k w' e
 |mark E h g=>intro w b k w' e;exact g w b k w' e
 |panic v=>intro w b k w' e;cases e
 |dead d=>intro w b k w' e;cases e
 |deadMark d=>intro w b k w' e;cases e
 | @sys c j D d=>
   intro w b k w' e;obtain⟨x,C,l,F⟩:=d (w.sys c).1 (w.sys c).2;rw[Sem.run,l]at e;cases e
end
section
variable{PL PM:Program}{G T:Nat}{D:Nat->Prop}{ρ:Nat->Nat}{wL wM:World}{base:List Frame}
def mn(f:Operand)(l:Nat):Call:={callee:= .value f,args:=#[.const (.func (.yield l) #[] #[])],argTypes:=#[]}
def bS(fr:Frame)(f:Operand)(l:Nat):Sem Next:=do let d←resolve fr.eval (mn f l) 0;invoke d.target d.args
theorem gR(b:aK PL PM)(c:∀g,gx ρ PL PM g){fr':Frame}{f:Operand}(d:fr'.eval f=dM ρ (fr.eval f))(l:Nat):kL ρ PL PM (em ρ) (bS fr f l) (bS fr' f (ρ l)):=by
 unfold bS resolve mn;dsimp only;rw[d];have h:(#[Operand.const (.func (.yield (ρ l)) #[] #[])].map fr'.eval)=(#[Operand.const (.func (.yield l) #[] #[])].map fr.eval).map (dM ρ):=by
  simp[Frame.eval,dM,jb]
 rw[h];unfold Deferred.ofValue;cases fr.eval f with
 |func i first a=>
  simp only[dM,pure_bind];rw[←Array.map_append];exact qf b c i a _
 |nilFunc=>
  simp only[dM,pure_bind];exact g6 (e:= .nilDeref) b rfl
 |_=>simp only[dM];exact .dead trivial
theorem jr(b:∀g,gx ρ PL PM g)(fr:Frame)(f:Operand)(l:Nat):bV PL (bS fr f l):=by
 unfold bS resolve mn;dsimp only;cases fr.eval f with
 |func c first a=>exact mI b c a _
 |nilFunc=>exact bV.rt .nilDeref
 |_=>exact bV.halt _
def aU(fr:Frame)(k:List Item)(l:Nat)(mark:List Deferred):Frame:={fr with todo:= .inRangeFunc l::k,defers:=mark++fr.defers}
theorem eI{d:World}{f:Operand}{e:Array Tmp}{a b:Code}{k:List Item}{c:List Deferred}
 (g:fr.todo= .code (.rangeFunc f e a b)::k) (h:(Instr.enterLoop fr.fn fr.tmps e a b fr.roundOf).runT P w #[]=(.ok (l,c) d,es)):
 stepG.exec P main listen fr cs none w=GStep.after (seen P fr.fn es) (stepG.apply P listen (aU fr k l c) cs none (bS (aU fr k l c) f l) d):=by
 unfold stepG.exec;simp only[g,h];rfl
theorem sU{f:Operand}{e:Array Tmp}{a b:Code}{k:List Item}
 (m:fr.todo= .code (.rangeFunc f e a b)::k) (h:stepG.exec P main listen fr cs none w= .go g w' es):
 ∃l c d es1,(Instr.enterLoop fr.fn fr.tmps e a b fr.roundOf).run P w= .ok (l,c) d/\stepG.apply P listen (aU fr k l c) cs none (bS (aU fr k l c) f l) d= .go g w' es1:=by
 have j:=Sem.runT_fst P (Instr.enterLoop fr.fn fr.tmps e a b fr.roundOf) w #[];cases i:(Instr.enterLoop fr.fn fr.tmps e a b fr.roundOf).runT P w #[]with
 |mk r n=>
  rw[i]at j;cases r with
  |ok x d=>
   obtain⟨l,c⟩:=x;rw[eI m i]at h;obtain⟨es1,o⟩:=kq h;exact⟨l,c,d,es1,j.symm,o⟩
  |halt x d=>
   unfold stepG.exec at h
   grind[GStep.after]
theorem CO(e:aD wL){d:Nat}{tmps:Array Value}{a b:Code}{c:World}(h:(Instr.yield l args).run PL wL= .ok (.round d f tmps a b) c):eY false a=true/\eY false b=true/\f≠aY:=by
 unfold Instr.yield Instr.getLoop getObj at h;simp only[bind,Sem.bind,Sem.run]at h;split at h
 ·cases h
 ·rename_i o i j;have g:=e _ _ ‹_›;cases o with
  |loop r=>
   simp only[pure,Sem.bind]at h;split at h
   ·simp[stuck,Sem.bind]at h
   ·simp_all[Sem.run,Result.ok.injEq,Next.round.injEq,bX,Bool.and_eq_true,bne_iff_ne,ne_eq]
  |_=>simp[stuck,Sem.bind]at h
 ·cases h
def da(P:Program)(s:Sem Next):Prop:=∀w l f tmps a b w',s.run P w≠ .ok (.round l f tmps a b) w'
theorem da.after{d:Type}{s:Sem d}{k:d->Sem Next}(h:∀a,da PL (k a)):da PL (s>>=k):=λw l f c a b j e=>by
 rw[Sem.run_bind]at e;cases i:s.run PL w with
 |ok x g=>rw[i]at e;exact h x g l f c a b j e
 |halt x g=>rw[i]at e;cases e
theorem oj(x:Halt):da PL (.halt x):=λw l f c a b d e=>by cases e
theorem gB(s:Sem Value):da PL (do pure (.value (←s))):=da.after λ_ w l f c a b d e=>by cases e
theorem nh(x:RuntimeError):da PL (runtimePanic x):=λw l f c a b g h=>by
 obtain⟨y,e,d,_⟩:=iA x w;rw[d]at h;cases h
theorem gk(g:FuncId)(r:gx ρ PL PM g)(args:Array Value):da PL (callFunc g args):=by
 unfold callFunc;intro w l f c a b o h;rw[Sem.run_bind]at h
 change (match PL.funcs[g]? with|none=>_|some i=>_:Sem Next).run PL w=_ at h
 cases k:PL.funcs[g]? with
 |none=>rw[k]at h;cases h
 |some i=>
  rw[k]at h;obtain⟨q,t⟩:=r i k;have j:(i.name== "runtime.NumGoroutine")=false:=by simpa using q
  simp only[j,Bool.false_eq_true,↓reduceIte]at h;rcases t with⟨d,_⟩|⟨d,n,m,u⟩|⟨d,n,_,e,m,_⟩
  ·have p:i.body.isNone=false:=(by simp_all);simp only[p,Bool.false_eq_true,↓reduceIte]at h;cases h
  ·rw[d,n,m,u]at h;cases h
  ·rw[d,n,m]at h;exact da.after (PL:=PL) (s:=mark (.extern g)) (λ_=>gB (e args)) w l f c a b o h
theorem iN(a:∀g,gx ρ PL PM g)(r:Value)(name:String)(args:Array Value):da PL (callMethod r name args):=by
 unfold callMethod;cases r with
 |iface t v=>exact da.after λp=>da.after λy=>gk y.1 (a y.1) _
 |nilIface=>exact nh _
 |_=>exact oj _
theorem ve(o:aD wL)(i:∀g,gx ρ PL PM g)(fn:Fn)(cap args:Array Value){n:Nat}{tmps:Array Value}{a b:Code}{k:World}(h:(invoke (.fn fn cap) args).run PL wL= .ok (.round n f tmps a b) k):
 eY false a=true/\eY false b=true/\f≠aY:=by
 cases fn with
 |func g=>exact absurd h (gk g (i g) _ _ _ _ _ _ _ _)
 |method e=>
  unfold invoke at h;cases c:args[0]? with
  |none=>rw[c]at h;cases h
  |some r=>rw[c]at h;exact absurd h (iN i _ _ _ _ _ _ _ _ _ _)
 |methodOf t e=>
  unfold invoke at h;dsimp only at h;cases c:args[0]? with
  |none=>rw[c]at h;cases h
  |some r=>rw[c]at h;exact absurd h (da.after (λd=>iN i _ _ _) _ _ _ _ _ _ _)
 |via t j g m=>
  unfold invoke at h;dsimp only at h;cases c:args[0]? with
  |none=>rw[c]at h;cases h
  |some r=>rw[c]at h;exact absurd h (da.after (λd=>gk g (i g) _) _ _ _ _ _ _ _)
 |yield l=>exact CO o h
theorem po(k:aD wL)(j:∀g,gx ρ PL PM g)(v:Value)(args:Array Value){i:Nat}{tmps:Array Value}{a b:Code}{e:World}(h:(do let d←Deferred.ofValue v args;invoke d.target d.args:Sem Next).run PL wL= .ok (.round i f tmps a b) e):
 eY false a=true/\eY false b=true/\f≠aY:=by
 cases v with
 |func l first c=>exact ve k j l c _ h
 |nilFunc=>exact absurd h (nh .nilDeref _ _ _ _ _ _ _)
 |_=>exact absurd h (oj _ _ _ _ _ _ _ _)
theorem wx(i:aD wL)(e:∀g,gx ρ PL PM g){d:Nat}{tmps:Array Value}{a b:Code}{c:World}(h:(bS fr x l).run PL wL= .ok (.round d f tmps a b) c):
 eY false a=true/\eY false b=true/\f≠aY:=po i e _ _ h
theorem yN(B:aD wL)(v:∀g,gx ρ PL PM g)(ev:Operand->Value){z:Bool}(o:Oper)(k:jn z o.op=true){u:Nat}{tmps:Array Value}{a b:Code}{s:World}(h:(execOp ev o).run PL wL= .ok (.round u f tmps a b) s):
 eY false a=true/\eY false b=true/\f≠aY:=by
 unfold execOp at h;cases i:o.op with
 |move x=>rw[i]at h;cases h
 |assign x=>rw[i]at h;cases h
 |pick x y c=>rw[i]at h;exact absurd h (da.after (λ_ w l f tmps a b n e=>by cases e) _ _ _ _ _ _ _)
 |store t x y=>rw[i]at h;exact absurd h (da.after (λ_ w l f tmps a b n e=>by cases e) _ _ _ _ _ _ _)
 |nilCheck x=>
  rw[i]at h;exfalso;dsimp only at h;revert h;split<;>(try split)<;>intro h<;>first
   |exact nh _ _ _ _ _ _ _ _ h
   |(cases h;done)
   |(refine da.after (λ_=>da.after λ_=> ?_) _ _ _ _ _ _ _ h
     intro w l f tmps a b n e;revert e;split
     ·simp
     ·intro e;cases e)
 |call c=>
  rw[i]at h k
  change (do let d←resolve ev c o.type;invoke d.target d.args:Sem Next).run PL wL=_ at h
  unfold resolve at h;simp only[jn,ng,Bool.and_eq_true]at k;have m:=k.2;cases j:c.callee with
  |builtin q=>
   rw[j]at m h;have A:FT q=true:=m;exfalso;cases q<;>first|exact gB _ _ _ _ _ _ _ _ h|(simp[FT]at A;done)
  |invoke r p=>rw[j]at m;cases m
  |value g=>rw[j]at h;exact po B v _ _ h
 |_=>first
  |(rw[i]at h;exact absurd h (gB _ _ _ _ _ _ _ _))
  |(rw[i]at k;cases k)
def cK(P:Program)(s:Sem Next):Prop:=∀w f args w',s.run P w= .ok (.enter f args) w'->∃fn,P.funcs[f]?=some fn/\fn.body.isSome=true
theorem cK.after{c:Type}{s:Sem c}{k:c->Sem Next}(h:∀a,cK PL (k a)):cK PL (s>>=k):=λw f b i e=>by
 rw[Sem.run_bind]at e;cases g:s.run PL w with
 |ok x d=>rw[g]at e;exact h x d f b i e
 |halt x d=>rw[g]at e;cases e
theorem gP(x:Halt):cK PL (.halt x):=λw f a b e=>by cases e
theorem gO{n:Next}(h:∀f args,n≠ .enter f args):cK PL (pure n):=λw f args a e=>by simp_all
theorem kV(s:Sem Value):cK PL (do pure (.value (←s))):=cK.after λ_=>gO λ_ _ e=>by cases e
theorem xy(s:Sem Unit):cK PL (do s;pure .skip):=cK.after λ_=>gO λ_ _ e=>by cases e
theorem oS(x:RuntimeError):cK PL (runtimePanic x):=λw f a d h=>by
 obtain⟨y,c,b,_⟩:=iA x w;rw[b]at h;cases h
theorem hU(g:FuncId)(n:gx ρ PL PM g)(args:Array Value):cK PL (callFunc g args):=by
 unfold callFunc;intro w f q k h;rw[Sem.run_bind]at h
 change (match PL.funcs[g]? with|none=>_|some b=>_:Sem Next).run PL w=_ at h
 cases c:PL.funcs[g]? with
 |none=>rw[c]at h;cases h
 |some b=>
  rw[c]at h;obtain⟨m,o⟩:=n b c;have d:(b.name== "runtime.NumGoroutine")=false:=by simpa using m
  simp only[d,Bool.false_eq_true,↓reduceIte]at h;rcases o with⟨a,_⟩|⟨a,j,i,p⟩|⟨a,j,_,e,i,_⟩
  ·have l:b.body.isNone=false:=(by rw[Option.isNone_eq_false_iff];exact a);simp only[l,Bool.false_eq_true,↓reduceIte]at h;cases h;exact⟨b,c,a⟩
  ·rw[a,j,i,p]at h;cases h
  ·rw[a,j,i]at h;exact cK.after (PL:=PL) (s:=mark (.extern g)) (λ_=>kV (e args)) w f q k h
theorem jf(a:∀g,gx ρ PL PM g)(r:Value)(name:String)(args:Array Value):cK PL (callMethod r name args):=by
 unfold callMethod;cases r with
 |iface t v=>exact cK.after λp=>cK.after λy=>hU y.1 (a y.1) _
 |nilIface=>exact oS _
 |_=>exact gP _
theorem vm(l:Nat)(args:Array Value):cK PL (Instr.yield l args):=by
 refine cK.after λr=> ?_;intro w f b a e;revert e;split<;>simp
theorem sW(b:∀g,gx ρ PL PM g)(fn:Fn)(cap args:Array Value):cK PL (invoke (.fn fn cap) args):=by
 cases fn with
 |func g=>exact hU g (b g) _
 |method a=>
  unfold invoke;cases args[0]? with
  |none=>exact gP _
  |some r=>exact jf b _ _ _
 |methodOf t a=>
  unfold invoke;dsimp only;cases args[0]? with
  |none=>exact gP _
  |some r=>exact cK.after λd=>jf b _ _ _
 |via t c g e=>
  unfold invoke;dsimp only;cases args[0]? with
  |none=>exact gP _
  |some r=>exact cK.after λd=>hU g (b g) _
 |yield l=>exact vm l args
theorem lV(b:∀g,gx ρ PL PM g)(v:Value)(args:Array Value):cK PL (do let d←Deferred.ofValue v args;invoke d.target d.args):=by
 cases v with
 |func c first a=>exact sW b c a _
 |nilFunc=>exact oS .nilDeref
 |_=>exact gP _
theorem vo(a:∀g,gx ρ PL PM g)(fr:Frame)(x:Operand)(l:Nat):cK PL (bS fr x l):=lV a _ _
theorem xz(n:∀g,gx ρ PL PM g)(ev:Operand->Value){z:Bool}(o:Oper)(b:jn z o.op=true):cK PL (execOp ev o):=by
 unfold execOp;cases a:o.op with
 |move x=>exact gO λ_ _ e=>by cases e
 |assign x=>exact gO λ_ _ e=>by cases e
 |pick x y c=>exact cK.after λ_=>gO λ_ _ e=>by cases e
 |store t x y=>exact xy _
 |nilCheck x=>
  dsimp only;intro w f q m h;revert h;split<;>(try split)<;>intro h<;>first
   |exact oS _ _ _ _ _ h
   |(cases h;done)
   |(refine cK.after (λ_=>cK.after λ_=> ?_) _ _ _ _ h
     intro w f q m e;revert e;split
     ·simp
     ·intro e;cases e)
 |call c=>
  rw[a]at b
  change cK PL (do let d←resolve ev c o.type;invoke d.target d.args:Sem Next)
  unfold resolve;simp only[jn,ng,Bool.and_eq_true]at b;have j:=b.2;cases i:c.callee with
  |builtin l=>
   rw[i]at j;have p:FT l=true:=j;cases l<;>first|exact kV _|(simp[FT]at p;done)
  |invoke r k=>rw[i]at j;cases j
  |value g=>exact lV n _ _
 |_=>first
  |exact kV _
  |(rw[a]at b;cases b)
theorem lW{fn:FuncId}{tmps:Array Value}{i:Array Tmp}{a b:Code}{e:Option Nat}{d:List Deferred}{h:World}(c:(Instr.enterLoop fn tmps i a b e).run PL wL= .ok (l,d) h):cn d=true:=by
 unfold Instr.enterLoop newObj at c;cases e with
 |none=>
  simp[bind,Sem.bind,pure,Sem.run,Result.ok.injEq,Prod.mk.injEq]at c;rw[←c.1.2];rfl
 |some j=>
  simp[bind,pure]at c;rw[Sem.run_bind']at c;cases f:(Instr.getLoop j).run PL wL with
  |halt y g=>rw[f]at c;cases c
  |ok y g=>
   rw[f]at c;simp only[Sem.run,Sem.bind,Result.andThen,Result.ok.injEq,Prod.mk.injEq]at c;rw[←c.1.2];rfl
def gU(P:Program)(fr:Frame)(w:World)(f:FuncId)(args:Array Value)(w':World):Prop:=
 fr.mode= .run/\((∃ops n rest k o,fr.todo= .inRegion ops (n::rest)::k/\ops[n]?=some o/\Region.wanted o (yielded ops fr.tmps)=true/\jn (fr.fn==aY) o.op=true/\(fr.fn==aY&&o.dst==some bU)=false/\(execOp fr.eval o).run P w= .ok (.enter f args) w')\/
  ∃x ps a b k l mark w1,fr.todo= .code (.rangeFunc x ps a b)::k/\(Instr.enterLoop fr.fn fr.tmps ps a b fr.roundOf).run P w= .ok (l,mark) w1/\(bS (aU fr k l mark) x l).run P w1= .ok (.enter f args) w')
theorem kW(j:∀g,gx ρ PL PM g)(h:gU PL fr w f args w'):∃fn,PL.funcs[f]?=some fn/\fn.body.isSome=true:=by
 rcases h.2 with⟨m,n,d,k,o,_,_,_,c,_,e⟩|⟨x,q,a,b,k,l,i,p,_,_,e⟩
 ·exact xz j _ _ c _ _ _ _ e
 ·exact vo j _ _ _ _ _ _ _ e
theorem wB(E:Env PL PM G)(hW:cr G T D ρ wL wM)(hP:aD wL)
 {fr':Frame} {cs':List Frame} (J:∀g,aB G D ρ g->fr'=aV g fr) (a2:∀g,aB G D ρ g->cs'=cs.map (aV g)++base) (ok:fU fr) (Z:∀c∈cs,fU c/\bH c)
  {C:Array Tmp} {a b:Code} {k:List Item} (X:fr.todo= .code (.rangeFunc x C a b)::k)
 {mL mM lL:Bool} {S:Goroutine} {wL':World} {a4:Array Event} (h:stepG.exec PL mL lL fr cs none wL= .go S wL' a4) (hT:wL'.drawn<=T) (hq:S.status= .running/\∀c,S.frame.mode≠ .panicking c) (hd:S.dying=none) (a1:fr.mode= .run) (hE:∀f args w',gU PL fr wL f args w'->jj PL PM f):
 ∃D' g Y wM' v,stepG.exec PM mM true fr' cs' none wM= .go Y wM' v/\eX G D' g base S Y/\ic G T D ρ wL wM D' g wL' wM'/\∀e∈v,gS D' g e:=by
 obtain⟨l,i,B,a8,m,z⟩:=sU X h;have hi:=ok.todo;rw[X]at hi;simp only[List.all_cons,Bool.and_eq_true,kK,eY,Bool.not_eq_true']at hi;obtain⟨⟨⟨⟨M,hx⟩,ha⟩,hb⟩,hk⟩:=hi;have O:fr.fn≠aY:=by simpa using M
 rw[M]at ha hb hx;have R:∀g,aB G D ρ g->kL g PL PM (λy=>(g y.1,y.2.map (lG g))) (Instr.enterLoop fr.fn fr.tmps C a b fr.roundOf) (Instr.enterLoop fr'.fn fr'.tmps C a b fr'.roundOf):=λg hA=>by
  rw[J g hA];show kL g PL PM _ _ (Instr.enterLoop fr.fn (j1 g fr.fn fr.tmps) C a b (fr.roundOf.map g));rw[kE g O];exact lc fr.fn fr.tmps C a b fr.roundOf ha hb O
 have u:aD B:=cu (R ρ hW.self) wL hP _ _ m;have t:cn i=true:=lW m;have s:fU (aU fr k l i):=by
  refine⟨?_, ?_,ok.mode,ok.kind,ok.round⟩
  ·show(Item.inRangeFunc l::k).all (kK (fr.fn==aY))=true;simp only[List.all_cons,Bool.and_eq_true,kK,Bool.not_eq_true'];exact⟨M,hk⟩
  ·show cn (i++fr.defers)=true;simp only[cn,List.all_append,Bool.and_eq_true];exact⟨t,ok.defers⟩
 have K:bH (aU fr k l i):=λo d ho=>by cases ho
 have H:kL ρ PL PM (em ρ) (bS (aU fr k l i) x l) (bS (aV ρ (aU fr k l i)) x (ρ l)):=gR E.same (E.fn ρ) (fO (aU fr k l i) x (by show ls (fr.fn==aY) x=true;rw[M];exact hx)) l;obtain⟨n,N,_,rfl⟩:=oy s.noCall s.mode (jr (E.fn ρ) _ x l) z hq (λk A=>dR H B u k A) hd;have a3:B.drawn<=T:=Nat.le_trans (pZ H B u _ _ N) hT;obtain⟨V,j,r',a7,a5,e1,e2,U,e4⟩:=ea E.load E.store (λg y=>(g y.1,y.2.map (lG g))) _ _ D ρ wL wM hW R #[] _ B m rfl a3;cases e2 with
 | @ok _ y' _ _ a0=>
   obtain⟨W,p⟩:=y';have L:=λg (r:aB G V j g)=>aB.of_ran U r;have I:∀g,aB G V j g->W=g l/\p=i.map (lG g):=λg r=>by
    have:=a0 g r;simpa using this
   have F:∀g,aB G V j g->fr'.todo= .code (.rangeFunc x C a b)::k.map (cE g):=λg r=>by rw[J g (L g r)];show fr.todo.map (cE g)=_;rw[X];rfl
   have w:∀g,aB G V j g->aU fr' (k.map (cE j)) W p=aV g (aU fr k l i):=λg r=>by
    have q:=(F j U.rel.self).symm.trans (F g r);simp only[List.cons.injEq,true_and]at q;rw[q,(I g r).1,(I g r).2,J g (L g r)];simp only[aU,aV,List.map_cons,cE,List.map_append]
   have Q:∀g,aB G V j g->kL g PL PM (em g) (bS (aU fr k l i) x l) (bS (aU fr' (k.map (cE j)) W p) x W):=λg r=>by
    rw[w g r,(I g r).1];exact gR E.same (E.fn g) (fO (aU fr k l i) x (by show ls (fr.fn==aY) x=true;rw[M];exact hx)) l
   obtain⟨D',g,Y,wM',v,f1,f2,f3,f4⟩:=jg E.tab E.load E.store U.rel w (λg r=>a2 g (L g r)) s Z K Q (jr (E.fn j) _ x l) (λk A=>dR H B u k A)
    (λf args w2 e=>hE f args w2 ⟨a1, .inr ⟨x,C,a,b,k,l,i,B,X,m,e⟩⟩) (λl2 f a6 a b w2 e=>wx u (E.fn j) e) z hT hq hd
   refine⟨D',g,Y,wM',seen PM fr'.fn (#[]++a5)++v, ?_,f2,U.trans f3,λe P=> ?_⟩
   ·rw[eI (F j U.rel.self) e1,f1];rfl
   ·rcases Array.mem_append.1 P with P|P
    ·exact(e4 e (by simpa using de _ _ _ e P)).mono f3.ext
    ·exact f4 e P
end
structure j6 (PL PM:Program) (G:Nat):Prop extends Env PL PM G where
 ty:AV PL
 mix:PL.follows .mixedOrders=PM.follows .mixedOrders
 ex:aY<PL.funcs.size
 res:∀(f:FuncId) (fn:Func),PL.funcs[f]?=some fn->∃fn':Func,PM.funcs[f]?=some fn'/\fn'.results=fn.results/\fn.results.all (FQ (f==aY))=true
 none:∀f:Nat,PL.funcs[f]?=none->PM.funcs[f]?=none
 inits:PL.inits=#[]
def fl(g:Goroutine):Prop:=g.status= .running/\(∀c,g.frame.mode≠ .panicking c)/\g.dying=none
section
variable{PL PM:Program}{G T:Nat}{D:Nat->Prop}{ρ:Nat->Nat}{wL wM:World}{base:List Frame}
theorem ic.quiet{D':Nat->Prop}{a:Nat->Nat}{wL' wM':World}(h:ic G T D ρ wL wM D' a wL' wM')(f:aD wL):aD wL':=by
 intro r o b;by_cases e:D' r
 ·obtain⟨g,k,j,_⟩:=h.rel.obj r e
  grind
 ·have c:r<wL.heap.size:=Classical.byContradiction λi=>e (h.newL r (by omega) (cj b));rw[h.keepL r c λd=>e (h.ext r d).1]at b;exact f r o b
theorem sH(E:j6 PL PM G)(n:cr G T D ρ wL wM){fr' c:Frame}{cs':List Frame}(h:∀a,aB G D ρ a->fr'=aV a fr)(g:∀a,aB G D ρ a->cs'=(c::cs).map (aV a)++base)(p:fU fr)(d:∀x∈c::cs,fU x/\bH x)
 (u:fr.defers=[]) (t:fr.mode= .returning) (j:PL.funcs[fr.fn]?=none) (r mM:Bool):
 ∃z y,unwind PL r fr (c::cs) none wL= .go z wL/\unwind PM mM fr' cs' none wM= .go y wM/\eX G D ρ base z y:=by
 have l:fr.fn≠aY:=λe=>by
  rw[e]at j;exact absurd E.ex (Nat.not_lt.2 (Array.getElem?_eq_none_iff.1 j))
 have b:=h ρ n.self;have i:=g ρ n.self;simp only[List.map_cons,List.cons_append]at i;have s:∀(P:Program) (m:Bool) (f:Frame) (x:Frame) (k:List Frame) (w:World),f.defers=[]->f.mode= .returning->f.kind= .normal->P.funcs[f.fn]?=none->
  unwind P m f (x::k) none w= .go {frame:=x.finish (f.tmps.getD 0 undef),callers:=k,status:= .running,dying:=none} w:=λP m f x k w H F C B=>by
  unfold unwind;simp only[H,F,B,doReturn,C]
 refine⟨_,_,s PL r fr c cs wL u t p.kind j,by rw[i];exact s PM mM fr' _ _ wM (by rw[b];simp[aV,u]) (by rw[b];exact t) (by rw[b];exact p.kind) (by rw[b];exact E.none _ j),⟨λa o=> ?_,λa o=> ?_,dn c _ (d c List.mem_cons_self).1,λx A=>d x (List.mem_cons_of_mem _ A),rfl,rfl,rfl,rfl⟩⟩
 ·have q:=(g ρ n.self).symm.trans (g a o);simp only[List.map_cons,List.cons_append,List.cons.injEq]at q;show(aV ρ c).finish _=aV a (c.finish _);rw[q.1,←eH c _ (d c List.mem_cons_self).1 (d c List.mem_cons_self).2,h a o]
  congr 1
  simp only[aV,kE a l,Array.getD_eq_getD_getElem?,Array.getElem?_map];cases fr.tmps[0]? with
  |none=>exact(eM a).symm
  |some v=>rfl
 ·grind
theorem fQ{m:Bool}(b:P.inits=#[])(a:fr.kind= .normal)(h:doReturn P m fr [] none v w= .go g w' es):g.status≠ .running:=by
 unfold doReturn at h
 grind
theorem BX{j:Option Code}(f:P.inits=#[])(i:fq fr j)(d:fr.roundOf=some l)(e:fr.kind= .normal)
 (h:stepG.exec P main listen fr [] none w= .go g w' es):g.status≠ .running:=by
 unfold stepG.exec at h;cases i with
 |done b=>
  simp only[b,d]at h;obtain⟨c,a⟩:=kq h;split at a
  ·exact fQ f e a
  ·cases a
 |ret b=>
  simp only[b,d]at h;obtain⟨c,a⟩:=kq h;split at a
  ·exact fQ f e a
  ·cases a
 | @exit id _ b k=>
   simp only[b,k,Option.elim_none,d]at h;obtain⟨c,a⟩:=kq h;split at a
   ·exact fQ f e a
   ·cases a
theorem yp(c:P.inits=#[])(b:fr.kind= .normal)(e:fr.defers=[])(d:fr.mode= .returning)
 (h:unwind P main fr [] none w= .go g w' es):g.status≠ .running:=by
 unfold unwind at h;simp only[e,d]at h;split at h
 ·exact fQ c b h
 ·obtain⟨f,a⟩:=kq h;split at a
  ·exact fQ c b a
  ·cases a
  ·cases a
theorem sP(s:Sem Value)(w:World)(f:FuncId)(args:Array Value)(w':World):(do pure (.value (←s)):Sem Next).run PL w≠ .ok (.enter f args) w':=by
 intro e;rw[Sem.run_bind]at e;cases a:s.run PL w with
 |ok x b=>rw[a]at e;cases e
 |halt x b=>rw[a]at e;cases e
theorem G7(a:Nat->Nat)(d:fr.fn=aY)(b:jU (fr.eval (.tmp bU))=false):(aV a fr).eval (.tmp bU)=dM a (fr.eval (.tmp bU)):=by
 simp only[Frame.eval,aV,Array.getD_eq_getD_getElem?]at b⊢;rw[kF a fr.fn fr.tmps bU (by simp[d])];cases c:fr.tmps[bU]? with
 |none=>exact(eM a).symm
 |some v=>
  rw[c]at b;simp only[Option.getD_some]at b;simp[fh,b]
theorem Dz{z:Bool}(h:FR z o=true)(a:¬jn z o.op=true)(c:(z&&o.dst==some bU)=false):z=true/\o.op= .load qn (.tmp bU):=by
 unfold FR at h;simp only[Bool.or_eq_true,Bool.and_eq_true]at h;rcases h with h|⟨b,h⟩
 ·exact absurd h.1 a
 ·refine⟨b, ?_⟩;split at h
  ·rename_i e;simp only[Bool.and_eq_true]at h;rw[b]at c;simp[h.2]at c
  ·rename_i e;simp only[Bool.and_eq_true,beq_iff_eq]at h;rw[e,h.1.1,h.1.2]
  ·cases h
theorem BJ(h:FR true o=true)(b:o.dst=some bU):∃t a,o.op= .indexAddr t (.global dV) a/\ls true a=true:=by
 unfold FR at h;simp only[Bool.or_eq_true,Bool.and_eq_true,b]at h;rcases h with h|⟨c,h⟩
 ·simp at h
 ·split at h
  ·rename_i e;simp only[Bool.and_eq_true,beq_iff_eq]at h;exact⟨_,_,by rw[e,h.1.1],h.1.2⟩
  ·simp at h
  ·cases h
theorem n0(E:j6 PL PM G)(P:cr G T D ρ wL wM)(hP:aD wL)(hR:im wL wM){gL gM V:Goroutine}(hg:eX G D ρ base gL gM){mL mM lL:Bool}{wL':World}{aj:Array Event}
 (h:stepG PL mL gL wL lL= .go V wL' aj) (hT:wL'.drawn<=T) (O:fl V) (hE:∀f args w',gU PL gL.frame wL f args w'->jj PL PM f):
 ∃D' g m wM' z,stepG PM mM gM wM= .go m wM' z/\eX G D' g base V m/\ic G T D ρ wL wM D' g wL' wM'/\∀e∈z,gS D' g e\/sC e:=by
 obtain⟨p,y,L,v,h1,h2,h3,h4⟩:=hg;obtain⟨F,cs,st,dy,of⟩:=gL;obtain⟨I,U,al,an,W⟩:=gM;simp only at p y L v h1 h2 h3 h4;subst h1 h2 h3 h4;have a1:=p ρ P.self;have a0:I.mode=F.mode:=by rw[a1];rfl
 have A:(∃D' g m wM' z,stepG PM mM {frame:=I,callers:=U,status:= .running,dying:=none,offers:=W} wM= .go m wM' z/\eX G D' g base V m/\ic G T D ρ wL wM D' g wL' wM'/\∀e∈z,gS D' g e)->
  ∃D' g m wM' z,stepG PM mM {frame:=I,callers:=U,status:= .running,dying:=none,offers:=W} wM= .go m wM' z/\eX G D' g base V m/\ic G T D ρ wL wM D' g wL' wM'/\∀e∈z,gS D' g e\/sC e:=
  λ⟨D',g,m,wM',z,N,M,Q,q4⟩=>⟨D',g,m,wM',z,N,M,Q,λe he=> .inl (q4 e he)⟩
 have u:∀m,wL'=wL->stepG PM mM {frame:=I,callers:=U,status:= .running,dying:=none,offers:=W} wM= .go m wM->eX G D ρ base V m->
  ∃D' g m wM' z,stepG PM mM {frame:=I,callers:=U,status:= .running,dying:=none,offers:=W} wM= .go m wM' z/\eX G D' g base V m/\ic G T D ρ wL wM D' g wL' wM'/\∀e∈z,gS D' g e\/sC e:=
  λm e N M=>by subst e;exact⟨D,ρ,m,wM,_,N,M,ic.refl P,λe he=>by simp at he⟩
 rcases L.mode with hm|hm
 ·have hL:stepG PL mL {frame:=F,callers:=cs,status:= .running,dying:=none,offers:=of} wL lL=stepG.exec PL mL lL F cs none wL:=by
   unfold stepG;simp only[hm]
  have hM:stepG PM mM {frame:=I,callers:=U,status:= .running,dying:=none,offers:=W} wM=stepG.exec PM mM true I U none wM:=by
   unfold stepG;simp only[a0,hm]
  rw[hL]at h;rw[hM]at A u⊢;by_cases R:∃t,cb F=some t
  ·obtain⟨t,R⟩:=R;obtain⟨a3,B,N,M,Q⟩:=wD (PL:=PL) (PM:=PM) P p y L v R mL mM lL true;rw[N]at h;cases h;exact u B rfl M Q
  have S:∀j,fq F j->(F.roundOf=none->j=none\/j=some .ret)->∃D' g m wM' z,stepG.exec PM mM true I U none wM= .go m wM' z/\eX G D' g base V m/\ic G T D ρ wL wM D' g wL' wM'/\∀e∈z,gS D' g e\/sC e:=by
   intro j hj hn;cases X:F.roundOf with
   |none=>
    have ah:AO F:=by
     refine⟨X, ?_⟩;cases hj with
     |done C=>exact .inl C
     |ret C=>exact .inr ⟨_,C⟩
     |exit C he=>rcases hn X with e|e<;>cases e
    obtain⟨a3,B,N,M,Q⟩:=Ck (PL:=PL) (PM:=PM) P p y L v ah mL mM lL true;rw[N]at h;cases h;exact u B rfl M Q
   |some l=>
    cases cs with
    |nil=>exact absurd O.1 (BX E.inits hj X L.kind h)
    |cons c cs=>exact A (xk E.toEnv P p y L v hj X h hT)
  have hi:=L.todo;cases C:F.todo with
  |nil=>exact S none (.done C) λ_=> .inl rfl
  |cons i k=>
   rw[C]at hi;simp only[List.all_cons,Bool.and_eq_true]at hi;cases i with
   |code c=>
    cases c with
    |ret=>exact S _ (.ret C) λ_=> .inr rfl
    |exit id=>
     cases he:exitTo id k with
     |some t=>exact absurd ⟨t,by simp only[cb,C,he]⟩ R
     |none=>
      refine S _ (.exit C he) λX=> ?_;unfold stepG.exec at h;simp only[C,he,Option.elim_none,X]at h;simp at h
    |goto l=>simp[kK,eY]at hi
    |refuse ak=>unfold stepG.exec at h;simp only[C]at h;cases h
    |rangeFunc x ps a b=>exact A (wB E.toEnv P hP p y L v C h hT ⟨O.1,O.2.1⟩ O.2.2 hm hE)
    |region id J ad=>
     cases ad with
     |false=>exact absurd ⟨_,by simp only[cb,C]<;>rfl⟩ R
     |true=>
      obtain⟨D',g,B,wM',N,M,Q⟩:=zu (mM:=mM) (lM:=true) E.toEnv E.mix P p y L v C h hT;exact⟨D',g,B,wM',_,N,M,Q,λe he=>by simp at he⟩
    |cond x a b=>
     cases hx:F.eval x with
     |bool q=>exact absurd ⟨_,by simp only[cb,C,hx];rfl⟩ R
     |_=>unfold stepG.exec at h;simp only[C,hx]at h;cases h
    |_=>exact absurd ⟨_,by simp only[cb,C]<;>rfl⟩ R
   |inRangeFunc l=>unfold stepG.exec at h;simp only[C]at h;cases h
   |beginRound=>exact A (xL E.toEnv P hP p y L v C h hT ⟨O.1,O.2.1⟩ O.2.2)
   |endRangeFunc l=>exact A (sX E.toEnv P hP p y L v C h hT O.2.1)
   |call d w r s=>simp[kK]at hi
   |extern r a=>simp[kK]at hi
   |inRegion J a9=>
    cases a9 with
    |nil=>exact absurd ⟨_,by simp only[cb,C]<;>rfl⟩ R
    |cons n a5=>
     cases Z:J[n]? with
     |none=>
      have hw:((J[n]?).map (Region.wanted · (yielded J F.tmps))).getD false=false:=(by rw[Z];rfl);have H:bH F:=λo d h1=>by
       simp only[Frame.oper?,C,Z]at h1;cases h1
      obtain⟨a3,B,N,M,Q⟩:=qV (PL:=PL) (PM:=PM) P p y L v H C hw mL mM lL true;rw[N]at h;cases h;exact u B rfl M Q
     |some o=>
      have a7:FR (F.fn==aY) o=true:=by
       have:=hi.1;simp only[kK]at this;exact Array.all_eq_true'.1 this o (Array.mem_of_getElem? Z)
      have a6:F.oper?=some o:=(by simp only[Frame.oper?,C,Z]);by_cases H:(F.fn==aY&&o.dst==some bU)=false
      ·have K:bH F:=λo' d e1 e2=>by
        rw[a6]at e1;cases e1;rw[e2]at H;simpa using H
       cases hw:Region.wanted o (yielded J F.tmps)with
       |false=>
        obtain⟨a3,B,N,M,Q⟩:=qV (PL:=PL) (PM:=PM) P p y L v K C (by rw[Z];simpa using hw) mL mM lL true;rw[N]at h;cases h;exact u B rfl M Q
       |true=>
        by_cases Y:jn (F.fn==aY) o.op=true
        ·have ai:∀f args w1,(execOp F.eval o).run PL wL= .ok (.enter f args) w1->jj PL PM f:=λf args w1 e=>hE f args w1 ⟨hm, .inl ⟨J,n,a5,k,o,C,Z,hw,Y,H,e⟩⟩;exact A (yO E.toEnv P hP p y L v K C Z hw Y ai (λl f aa a b w1 e=>yN hP (E.fn ρ) F.eval o Y e) h hT ⟨O.1,O.2.1⟩ O.2.2)
        ·obtain⟨hf,a8⟩:=Dz a7 Y H;have a4:F.fn=aY:=(by simpa using hf);cases hs:jU (F.eval (.tmp bU))with
         |true=>
          obtain⟨B,z,N,M,Q,q4⟩:=ze (mM:=mM) E.toEnv E.ty P hP hR p y L v C Z hw a4 a8 hs K h ⟨O.1,O.2.1⟩ O.2.2;subst N;exact⟨D,ρ,B,wM,z,M,Q,ic.refl P,λe he=> .inr (q4 e he)⟩
         |false=>
          have ab:∀c,o.op≠ .defer c:=λc e=>by rw[a8]at e;cases e
          have af:I.todo= .inRegion J (n::a5)::k.map (cE ρ):=(by rw[a1];show F.todo.map (cE ρ)=_;rw[C];rfl);have ae:Region.wanted o (yielded J I.tmps)=true:=by
                rw[a1];have:yielded J (aV ρ F).tmps=yielded J F.tmps:=funext λj=>er ρ F.fn J F.tmps j;rw[this];exact hw
          have a2:∀ev:Operand->Value,execOp ev o=(do pure (.value (←Instr.loadAt qn (ev (.tmp bU)))):Sem Next):=λev=>by unfold execOp;rw[a8]
          have ac:∀g,aB G D ρ g->kL g PL PM (em g) (execOp F.eval o) (execOp I.eval o):=λg hA=>by
                rw[a2,a2,p g hA,G7 g a4 hs];exact ew (fy E.same qn _)
          rw[cR C Z hw ab]at h;rw[cR af Z ae ab]at A⊢;refine A (jg E.tab E.load E.store P p y L v K ac (by rw[a2];exact eG _) (λk w1=>dR (ac ρ P.self) wL hP k w1) (λf args w1 e=> ?_) (λl f aa a b w1 e=> ?_) h hT ⟨O.1,O.2.1⟩ O.2.2)
          ·rw[a2]at e;exact absurd e (sP _ _ _ _ _)
          ·rw[a2]at e;exact absurd e (gB _ _ _ _ _ _ _ _)
      ·have hz:F.fn=aY/\o.dst=some bU:=(by simpa using H);obtain⟨t,ix,Y,hx⟩:=BJ (by rw[hz.1]at a7;simpa using a7) hz.2;cases hw:Region.wanted o (yielded J F.tmps)with
       |false=>
        obtain⟨a3,B,N,M,Q⟩:=uL (PL:=PL) (PM:=PM) P p y L v C Z hz.1 hz.2 (by rw[Z];simpa using hw) mL mM lL true;rw[N]at h;cases h;exact u B rfl M Q
       |true=>
        obtain⟨B,N,M,Q⟩:=wF (mM:=mM) E.toEnv P hP p y L v C Z hw hz.1 Y hx hz.2 h ⟨O.1,O.2.1⟩ O.2.2;exact u B N M Q
   |_=>exact absurd ⟨_,by simp only[cb,C]<;>rfl⟩ R
 ·have hL:stepG PL mL {frame:=F,callers:=cs,status:= .running,dying:=none,offers:=of} wL lL=unwind PL mL F cs none wL:=by
   unfold stepG;simp only[hm]
  have hM:stepG PM mM {frame:=I,callers:=U,status:= .running,dying:=none,offers:=W} wM=unwind PM mM I U none wM:=by
   unfold stepG;simp only[a0,hm]
  rw[hL]at h;rw[hM]at A u⊢;cases hd:F.defers with
  |nil=>
   cases cs with
   |nil=>exact absurd O.1 (yp E.inits L.kind hd hm h)
   |cons c cs=>
    cases hf:PL.funcs[F.fn]? with
    |none=>
     obtain⟨a3,B,N,M,Q⟩:=sH E P p y L v hd hm hf mL mM;rw[N]at h;cases h;exact u B rfl M Q
    |some fn=>
     obtain⟨am,a4,hr,ag⟩:=E.res _ _ hf;exact A (uT E.toEnv P p y L v hd hm hf a4 hr ag h hT)
  |cons d ds=>
   have:=L.defers;rw[hd]at this;simp only[cn,List.all_cons,Bool.and_eq_true]at this;obtain⟨tg,args⟩:=d;cases tg with
   |collected b=>exact A (yX E.toEnv P hP p y L v hd h hT)
   |_=>simp at this
end
def zW(c:Frame):Prop:=(c.mode= .run\/c.mode= .returning)/\cn c.defers=true
def sB(g:Goroutine):Prop:=g.status= .running/\g.dying=none/\(∃v,g.frame.mode= .panicking [{v,recovered:=false}])/\cn g.frame.defers=true/\∀c∈g.callers,zW c
def db:GStep->Prop
 | .go g w _=>g.dying≠none\/(aD w/\(fl g\/sB g))
 | .ended ..=>True
 |_=>False
theorem db.after{x:GStep}(h:db x):db (GStep.after es x):=by
 cases x<;>exact h
theorem fU.bare{c:Frame}(h:fU c):zW c:=⟨h.mode,h.defers⟩
theorem je(fr:Frame)(v:Value):(fr.finish v).mode=fr.mode:=by
 unfold Frame.finish;split<;>rfl
theorem ck{m:FrameMode}(h:m= .run\/m= .returning):∀c,m≠ .panicking c:=λc e=>by
 rcases h with h|h<;>rw[h]at e<;>cases e
theorem iH(h:zW fr)(a:List PanicEntry):(fr.raise a).mode= .panicking a/\(fr.raise a).defers=fr.defers:=by
 unfold Frame.raise;rcases h.1 with b|b<;>rw[b]<;>exact⟨rfl,rfl⟩
section
variable{P:Program}{fr:Frame}{cs:List Frame}{w:World}
theorem zo(m:String):db (endFatal P fr cs none m w):=by
 unfold endFatal;dsimp only;split
 ·exact .inl (by simp)
 ·trivial
 ·trivial
theorem iS{s:Sem Next}(e:zW fr)(o:∀c∈cs,zW c)(B:bV P s)(A:∀n w',s.run P w= .ok n w'->aD w')(z:∀x w',s.run P w= .halt x w'->eo x/\aD w'):db (stepG.apply P listen fr cs none s w):=by
 have j:(if listen=true then s.runT P w #[]else(s.run P w,#[])).1=s.run P w:=by
  split
  ·exact Sem.runT_fst P s w #[]
  ·rfl
 unfold stepG.apply;generalize (if listen=true then s.runT P w #[]else(s.run P w,#[]))=q at j;obtain⟨r,C⟩:=q;simp only at j;subst j;cases i:s.run P w with
 |ok n g=>
  have y:=B w n g i;have d:=A n g i;refine db.after ?_;cases n with
  |value v=>exact .inr ⟨d, .inl ⟨rfl,ck (by rw[je];exact e.1),rfl⟩⟩
  |skip=>exact .inr ⟨d, .inl ⟨rfl,ck (by rw[je];exact e.1),rfl⟩⟩
  |enter f t=>exact .inr ⟨d, .inl ⟨rfl,ck (.inl rfl),rfl⟩⟩
  |round l f p a b=>exact .inr ⟨d, .inl ⟨rfl,ck (.inl rfl),rfl⟩⟩
  |_=>simp[wS]at y
 |halt x g=>
  obtain⟨h,d⟩:=z x g i;refine db.after ?_;cases x with
  |panic v=>exact .inr ⟨d, .inr ⟨rfl,rfl,⟨v,(iH e _).1⟩,by show cn (fr.raise _).defers=true;rw[(iH e _).2];exact e.2,o⟩⟩
  |goexit=>exact h.elim
  |blocked=>exact h.elim
  |waiting=>exact h.elim
  |unsupported u=>
   cases u with
   |initOrder k=>exact h.elim
   |_=>trivial
  |stuck m=>trivial
  |exit c=>trivial
  |throw m=>exact .inl (by simp)
  |fatal m=>exact zo m
theorem gK(e:P.inits=#[])(b:fr.kind= .normal)(v:Value)(d:aD w)(a:∀c∈cs,zW c):db (doReturn P true fr cs none v w):=by
 cases cs with
 |cons c cs=>
  simp only[doReturn,b];exact .inr ⟨d, .inl ⟨rfl,ck (by rw[je];exact(a c List.mem_cons_self).1),rfl⟩⟩
 |nil=>simp[doReturn,b,e,db]
end
section
variable{PL PM:Program}{G:Nat}
theorem EF(G:Nat):aB G (λ_=>False) id id:=⟨⟨λ_ _ h=>h,λ_=>Iff.rfl⟩,λ_ h=>h.elim⟩
theorem Bl(E:j6 PL PM G){o:Option (Array CommCase×CommShape)}(ok:fU fr)(oks:∀c∈cs,fU c/\bH c)(hP:aD w):
 db (stepG PL true {frame:=fr,callers:=cs,status:= .running,dying:=none,offers:=o} w):=by
 have hb:=ok.bare;have hcs:∀c∈cs,zW c:=λc hc=>(oks c hc).1.bare;rcases ok.mode with hm|hm
 ·have hL:stepG PL true {frame:=fr,callers:=cs,status:= .running,dying:=none,offers:=o} w=stepG.exec PL true true fr cs none w:=by
   unfold stepG;simp only[hm]
  rw[hL];have hrun:∀t:List Item,db (.go {frame:={fr with todo:=t},callers:=cs,status:= .running,dying:=none} w):=λt=> .inr ⟨hP, .inl ⟨rfl,ck (.inl hm),rfl⟩⟩;by_cases hpl:∃t,cb fr=some t
  ·obtain⟨t,hpl⟩:=hpl;rw[iJ hpl];exact hrun t
  have hend:∀l (j:Option Code) v w1,j.all (eY false)=true->((Instr.endRound l j).runT PL w #[]).1= .ok v w1->aD w1:=λl j v w1 hj e=>by
   rw[Sem.runT_fst]at e;exact cu (qg (ρ:=id) (PM:=PM) l j hj) w hP v w1 e
  have hleave:∀j,fq fr j->db (stepG.exec PL true true fr cs none w):=by
   intro j hj;cases hro:fr.roundOf with
   |none=>
    unfold stepG.exec;cases hj with
    |done ht=>simp only[ht,hro];exact .inr ⟨hP, .inl ⟨rfl,ck (.inr rfl),rfl⟩⟩
    |ret ht=>simp only[ht,hro];exact .inr ⟨hP, .inl ⟨rfl,ck (.inr rfl),rfl⟩⟩
    |exit ht he=>simp only[ht,he,Option.elim_none,hro];trivial
   |some l=>
    unfold stepG.exec;cases hj with
    |done ht=>
     simp only[ht,hro];refine db.after ?_;split
     ·rename_i v w1 hr;exact gK E.inits ok.kind _ (hend l _ v w1 rfl hr) hcs
     ·trivial
    |ret ht=>
     simp only[ht,hro];refine db.after ?_;split
     ·rename_i v w1 hr;exact gK E.inits ok.kind _ (hend l _ v w1 rfl hr) hcs
     ·trivial
    |exit ht he=>
     simp only[ht,he,Option.elim_none,hro];refine db.after ?_;split
     ·rename_i v w1 hr;exact gK E.inits ok.kind _ (hend l _ v w1 rfl hr) hcs
     ·trivial
  have hi:=ok.todo;cases ht:fr.todo with
  |nil=>exact hleave none (.done ht)
  |cons i k=>
   rw[ht]at hi;simp only[List.all_cons,Bool.and_eq_true]at hi;cases i with
   |code c=>
    cases c with
    |ret=>exact hleave _ (.ret ht)
    |exit id=>
     cases he:exitTo id k with
     |some t=>exact absurd ⟨t,by simp only[cb,ht,he]⟩ hpl
     |none=>exact hleave _ (.exit ht he)
    |goto l=>simp[kK,eY]at hi
    |refuse why=>unfold stepG.exec;simp only[ht];trivial
    |rangeFunc x ps a b=>
     have hi1:=hi.1;simp only[kK,eY,Bool.and_eq_true,Bool.not_eq_true']at hi1;obtain⟨⟨⟨hz,hx⟩,ha⟩,hbb⟩:=hi1;rw[hz]at ha hbb hx;have hfn:fr.fn≠aY:=(by simpa using hz);have hf:=Sem.runT_fst PL (Instr.enterLoop fr.fn fr.tmps ps a b fr.roundOf) w #[];cases hr:(Instr.enterLoop fr.fn fr.tmps ps a b fr.roundOf).runT PL w #[]with
     |mk r es0=>
      rw[hr]at hf;cases r with
      |ok y w1=>
       obtain⟨l,mark⟩:=y;rw[eI ht hr];refine db.after ?_;have hP1:aD w1:=cu (lc (ρ:=id) (PM:=PM) fr.fn fr.tmps ps a b fr.roundOf ha hbb hfn) w hP _ _ hf.symm;have hs1:kL id PL PM (em id) (bS (aU fr k l mark) x l) (bS (aV id (aU fr k l mark)) x (id l)):=
        gR E.same (E.fn id) (fO (aU fr k l mark) x (by show ls (fr.fn==aY) x=true;rw[hz];exact hx)) l
       refine iS ⟨.inl hm, ?_⟩ hcs (jr (E.fn id) _ x l) (λy w' e=>cu hs1 w1 hP1 y w' e) (λy w' e=>⟨fk hs1 w1 hP1 y w' e,eR hs1 w1 hP1 y w' e⟩);show cn (mark++fr.defers)=true;simp only[cn,List.all_append,Bool.and_eq_true];exact⟨lW hf.symm,ok.defers⟩
      |halt y w1=>
       unfold stepG.exec;simp only[ht,hr];trivial
    |region id ops draw=>
     cases draw with
     |false=>exact absurd ⟨_,by simp only[cb,ht]<;>rfl⟩ hpl
     |true=>
      obtain⟨n,w1,hn⟩:=rX PL (.order fr.fn id) w;rw[jX ht hn];exact .inr ⟨cu (ρ:=λx=>x) (PM:=PM) (f:=λx:Nat=>x) (s:=choose (.order fr.fn id)) (s':=choose (.order fr.fn id)) (.choose λn=> .pure n) w hP n w1 hn, .inl ⟨rfl,ck (.inl hm),rfl⟩⟩
    |cond x a b=>
     cases hx:fr.eval x with
     |bool q=>exact absurd ⟨_,by simp only[cb,ht,hx]<;>rfl⟩ hpl
     |_=>unfold stepG.exec;simp only[ht,hx];trivial
    |_=>exact absurd ⟨_,by simp only[cb,ht]<;>rfl⟩ hpl
   |inRangeFunc l=>unfold stepG.exec;simp only[ht];trivial
   |beginRound=>
    rw[iP ht];have hal:kL id PL PM (em id) (fj fr) (fj (aV id fr)):=by
     unfold fj;show kL id PL PM (em id) (do fr.roundOf.elim _ Instr.beginRound;pure .skip) (do(fr.roundOf.map id).elim _ Instr.beginRound;pure .skip);cases fr.roundOf with
     |none=>exact .dead trivial
     |some l=>exact vy (mR E.same l)
    exact iS hb hcs (oQ _) (λy w' e=>cu hal w hP y w' e) λy w' e=>⟨fk hal w hP y w' e,eR hal w hP y w' e⟩
   |endRangeFunc l=>
    unfold stepG.exec;simp only[ht];refine db.after ?_;split
    ·rename_i j w1 hr;rw[Sem.runT_fst]at hr;exact .inr ⟨cu (nA (ρ:=id) E.same l) w hP j w1 hr, .inl ⟨rfl,ck (.inl hm),rfl⟩⟩
    ·rename_i v w1 hr;rw[Sem.runT_fst]at hr;exact .inr ⟨eR (nA (ρ:=id) E.same l) w hP _ w1 hr, .inr ⟨rfl,rfl,⟨_,(iH hb _).1⟩,by show cn (fr.raise _).defers=true;rw[(iH hb _).2];exact hb.2,hcs⟩⟩
    ·trivial
   |call d w r s=>simp[kK]at hi
   |extern r a=>simp[kK]at hi
   |inRegion ops todo=>
    cases todo with
    |nil=>exact absurd ⟨_,by simp only[cb,ht]<;>rfl⟩ hpl
    |cons n rest=>
     cases hw:((ops[n]?).map (Region.wanted · (yielded ops fr.tmps))).getD false with
     |false=>
      rw[iy ht hw];exact .inr ⟨hP, .inl ⟨rfl,ck (by rw[je];exact hb.1),rfl⟩⟩
     |true=>
      cases ho:ops[n]? with
      |none=>rw[ho]at hw;cases hw
      |some oo=>
       rw[ho]at hw;have hw':Region.wanted oo (yielded ops fr.tmps)=true:=hw;have hoo:FR (fr.fn==aY) oo=true:=by
        have:=hi.1;simp only[kK]at this;exact Array.all_eq_true'.1 this oo (Array.mem_of_getElem? ho)
       by_cases hop:jn (fr.fn==aY) oo.op=true
       ·rw[iz ht ho hw' hop];have hal:=vz (ρ:=id) (z:=fr.fn==aY) (ev:=fr.eval) (ev':=λx=>dM id (fr.eval x)) E.same (E.toEnv.far (EF G)) (E.fn id) (λx _=>rfl) oo hop;exact iS hb hcs (ud (E.fn id) fr.eval oo hop) (λy w' e=>cu hal w hP y w' e) λy w' e=>⟨fk hal w hP y w' e,eR hal w hP y w' e⟩
       ·have hsp:(∃t x ix,oo.op= .indexAddr t x ix)\/∃t x,oo.op= .load t x:=by
         unfold FR at hoo;simp only[Bool.or_eq_true,Bool.and_eq_true]at hoo;rcases hoo with h|⟨_,h⟩
         ·exact absurd h.1 hop
         ·split at h
          ·rename_i e;exact .inl ⟨_,_,_,e⟩
          ·rename_i e;exact .inr ⟨_,_,e⟩
          ·cases h
        have hnd:∀c,oo.op≠ .defer c:=λc e=>by
         rcases hsp with⟨_,_,_,h⟩|⟨_,_,h⟩<;>rw[h]at e<;>cases e
        rw[cR ht ho hw' hnd];rcases hsp with⟨t,x,ix,h⟩|⟨t,x,h⟩
        ·have hex:execOp fr.eval oo=(do pure (.value (←Instr.indexAt t (fr.eval x) (fr.eval ix))):Sem Next):=(by unfold execOp;rw[h]);rw[hex];exact iS hb hcs (eG _) (λy w' e=>cu (ew (iW (ρ:=id) E.same t _ _)) w hP y w' e) λy w' e=>⟨fk (ew (iW (ρ:=id) E.same t _ _)) w hP y w' e,eR (ew (iW (ρ:=id) E.same t _ _)) w hP y w' e⟩
        ·have hex:execOp fr.eval oo=(do pure (.value (←Instr.loadAt t (fr.eval x))):Sem Next):=(by unfold execOp;rw[h]);rw[hex];exact iS hb hcs (eG _) (λy w' e=>cu (ew (fy (ρ:=id) E.same t _)) w hP y w' e) λy w' e=>⟨fk (ew (fy (ρ:=id) E.same t _)) w hP y w' e,eR (ew (fy (ρ:=id) E.same t _)) w hP y w' e⟩
   |_=>exact absurd ⟨_,by simp only[cb,ht]<;>rfl⟩ hpl
 ·have hL:stepG PL true {frame:=fr,callers:=cs,status:= .running,dying:=none,offers:=o} w=unwind PL true fr cs none w:=by
   unfold stepG;simp only[hm]
  rw[hL];unfold unwind;cases hd:fr.defers with
  |nil=>
   simp only[hm];split
   ·exact gK E.inits ok.kind _ hP hcs
   ·rename_i fn hf;obtain⟨fn',_,hr,hok⟩:=E.res _ _ hf;refine db.after ?_;split
    ·rename_i v w1 hv;rw[Sem.runT_fst]at hv;exact gK E.inits ok.kind _ (cu (sn (ρ:=id) E.same fn fn' fr.fn fr.tmps hr hok) w hP v w1 hv) hcs
    ·trivial
    ·trivial
  |cons d ds=>
   have:=ok.defers;rw[hd]at this;simp only[cn,List.all_cons,Bool.and_eq_true]at this;obtain⟨tg,args⟩:=d;cases tg with
   |collected b=>
    simp only;refine db.after ?_;split
    ·rename_i calls w1 hr;rw[Sem.runT_fst]at hr;exact .inr ⟨cu (ia (ρ:=id) (PM:=PM) b) w hP calls w1 hr, .inl ⟨rfl,ck (.inr hm),rfl⟩⟩
    ·trivial
   |_=>simp at this
end
end
section
open Go.Conc
section
variable{P PL PM:Program}{G:Nat}
theorem oN(fr:Frame)(cs:List Frame)(w:World):lone fr cs w=solo {frame:=fr,callers:=cs,status:= .running,dying:=none} w:=rfl
theorem fC{g':Goroutine}(h:solo g w=solo g' w'):g=g'/\w=w':=by
 simp only[solo,Machine.mk.injEq]at h;obtain⟨b,a,_⟩:=h;exact⟨by simpa using a,b⟩
theorem lA{m:Machine}(c:g.status= .running)(b:db (stepG P true g w))(h:step P (solo g w)= .next m):
 ∃g' w' es,stepG P true g w= .go g' w' es/\m=solo g' w':=by
 rw[step,stepT_solo c]at h;cases a:stepG P true g w with
 |go g' w' es=>
  rw[runT_solo_go a]at h;simp only[Stepped.next.injEq]at h;exact⟨g',w',es,rfl,h.symm⟩
 |ended o w' es=>
  simp[runT,solo,Array.swapAt!,Array.swapAt,a]at h
 |_=>rw[a]at b;exact b.elim
theorem zp(E:sB g)(n:aD w):db (stepG P true g w)/\∀g' w' es,stepG P true g w= .go g' w' es->g'.dying≠none\/(sB g'/\aD w'):=by
 obtain⟨q,s,J,K,C⟩:=g;obtain⟨z,y,⟨v,p⟩,l,o⟩:=E;simp only at z y p l o;subst z y;have G:stepG P true {frame:=q,callers:=s,status:= .running,dying:=none,offers:=C} w=unwind P true q s none w:=by
  unfold stepG;simp only[p]
 rw[G];unfold unwind;cases F:q.defers with
 |nil=>
  simp only[p];split
  ·exact⟨trivial,λ_ _ _ e=>by cases e⟩
  ·cases s with
   |cons c h=>
    have u:=o c List.mem_cons_self;have m:=iH u [{v,recovered:=false}];have f:sB {frame:=c.raise [{v,recovered:=false}],callers:=h,status:= .running,dying:=none}:=⟨rfl,rfl,⟨v,m.1⟩,by rw[m.2];exact u.2,λx D=>o x (List.mem_cons_of_mem _ D)⟩;refine⟨.inr ⟨n, .inr f⟩,λg' w' es e=> ?_⟩;cases e;exact .inr ⟨f,n⟩
   |nil=>
    simp only[List.head?_cons,Option.any_some,Bool.false_eq_true,↓reduceIte];split
    ·exact⟨.inl (by simp),λ_ _ _ e=>by cases e;exact .inl (by simp)⟩
    ·exact⟨trivial,λ_ _ _ e=>by cases e⟩
    ·exact⟨trivial,λ_ _ _ e=>by cases e⟩
 |cons d I=>
  rw[F]at l;simp only[cn,List.all_cons,Bool.and_eq_true]at l;obtain⟨B,A⟩:=d;cases B with
  |collected b=>
   simp only;have f:=Sem.runT_fst P (Instr.takeDeferred b) w #[];cases m:(Instr.takeDeferred b).runT P w #[]with
   |mk r H=>
    rw[m]at f;cases r with
    |ok a t=>
     have i:=vR n f.symm;have k:aD t:=cu (ia (ρ:=id) (PM:=P) b) w n _ _ f.symm;have j:sB {frame:={q with defers:=a++I},callers:=s,status:= .running,dying:=none}:=⟨rfl,rfl,⟨v,p⟩,by rw[i];exact l.2,o⟩;refine⟨db.after (.inr ⟨k, .inr j⟩),λg' w' es e=> ?_⟩;simp only[GStep.after,GStep.go.injEq]at e;obtain⟨rfl,rfl,_⟩:=e;exact .inr ⟨j,k⟩
    |halt x t=>exact⟨trivial,λ_ _ _ e=>by cases e⟩
  |_=>simp at l
def yi(I:Machine->Prop):Prop:=∀m,I m->∀g∈m.gs,g.dying=none
theorem vV(g:Goroutine)(w:World):g∈(solo g w).gs:=by simp[solo]
theorem rW{I:Machine->Prop}(c:yi I){m a:Machine}(h:StepsIn I P m a)(b:lone fr cs w'=a)(e:m=solo g w):g.dying=none:=by
 cases h with
 |refl=>
  rw[←b,oN]at e;rw[←(fC e).1]
 |head d _ _=>exact c _ d g (by rw[e];exact vV g w)
theorem xu{I:Machine->Prop}(r:yi I)(z:fr.mode= .returning){m:Machine}(h:StepsIn I P m (lone fr cs w')):∀g w,m=solo g w->aD w->¬(g.dying≠none\/sB g):=by
 generalize f:lone fr cs w'=F at h;induction h with
 |refl m=>
  intro g w e q j;subst f;rw[oN]at e;obtain⟨E,_⟩:=fC e;subst E;rcases j with h|⟨_,_,⟨v,h⟩,_⟩
  ·exact h rfl
  ·simp only[z]at h;cases h
 | @head m H G C x _ u=>
   intro g w e q j;subst e;have i:=r _ C g (vV g w);have p:sB g:=j.resolve_left λh=>h i;obtain⟨A,y⟩:=zp (P:=P) p q;obtain⟨s,o,D,B,rfl⟩:=lA p.1 A x;rcases y s o D B with h|⟨h,k⟩
   ·
    exact h (rW r ‹_› f rfl)
   ·exact u f s o rfl k (.inr h)
end
def jN(w:World)(τ:Tape)(d:Nat):World:={w with tape:=τ,drawn:=d}
inductive fo (P:Program) (Stop:Goroutine->World->Prop):Goroutine->World->Prop
 |stop {g:Goroutine} {w:World} (h:Stop g w):fo P Stop g w
 |go {g:Goroutine} {w:World} (n:Tape->Nat->Goroutine×World) (h:∀τ d,∃es,stepG P true g (jN w τ d)= .go (n τ d).1 (n τ d).2 es) (hw:∀τ d,fl (n τ d).1) (ht:∀τ d,fo P Stop (n τ d).1 (n τ d).2):fo P Stop g w
section
variable{P PL PM:Program}{G T:Nat}{D:Nat->Prop}{ρ:Nat->Nat}{wL wM:World}{base:List Frame}
theorem cr.re(h:cr G T D ρ wL wM){wL' wM':World}(c:wL'.heap=wL.heap)(a:wM'.heap=wM.heap){d:Nat}(e:∀i,wL'.drawn+i<d->wM'.tape (wM'.drawn+i)=wL'.tape (wL'.drawn+i)):cr G d D ρ wL' wM':=
 ⟨h.inj,λb f=>by rw[c,a];exact h.obj b f,e,h.glob,by rw[c,a];exact h.far,h.out⟩
theorem eX.well{b a:Goroutine}(h:eX G D ρ base b a)(f:cr G T D ρ wL wM)(d:fl b):fl a:=
 ⟨h.run.2.1,λc e=>by rw[h.frame ρ f.self]at e;exact d.2.1 c e,h.run.2.2.2⟩
theorem j6.enters(e:∀f (fn:Func) c,PL.funcs[f]?=some fn->fn.body=some c->eY (f==aY) c=true)(f:FuncId)(fn:Func)(a:PL.funcs[f]?=some fn)(d:fn.body.isSome=true):jj PL PL f:=by
 obtain⟨c,b⟩:=Option.isSome_iff_exists.1 d;exact⟨fn,fn,a,a,rfl,rfl,c,b,e f fn c a b⟩
theorem C3(E:j6 PL PM G){I:Machine->Prop}(n:yi I)(u:fr.mode= .returning)(s:fl g)(l:fU g.frame)(e:∀c∈g.callers,fU c/\bH c)(v:aD w)
 {k:Machine} (t:step PL (solo g w)= .next k) (a:StepsIn I PL k (lone fr cs w')):∃d b es,stepG PL true g w= .go d b es/\k=solo d b/\fl d/\aD b:=by
 obtain⟨f,c,y,z,r⟩:=g;obtain⟨q,x,p⟩:=s;simp only at q x p l e;subst q p;have i:=Bl (w:=w) (o:=r) E l e v;obtain⟨d,b,es,m,rfl⟩:=lA rfl i t;rw[m]at i;rcases i with h|⟨j,i⟩
 ·exact absurd (rW n a rfl rfl) h
 ·exact⟨d,b,es,m,rfl,i.resolve_right λh=>xu n u a d b rfl j (.inr h),j⟩
end
section
variable{PL:Program}{Stop:Goroutine->World->Prop}
structure lj where
 g:Goroutine
 w:World
 τ:Tape
 d:Nat
 dead:Bool
def lj.step(P:Program)(X:lj):GStep:=stepG P true X.g (jN X.w X.τ X.d)
def lj.good(P:Program)(X:lj):Prop:=X.dead=false/\∃g' w' es,X.step P= .go g' w' es/\fl g'
def lj.bad(P:Program)(Stop:Goroutine->World->Prop)(X:lj):Prop:=¬Stop X.g X.w/\∀g' w' es,X.step P= .go g' w' es->fl g'->¬fo P Stop g' w'
theorem rS(h:¬fo PL Stop g w):∃X:lj,X.g=g/\X.w=w/\X.dead=false/\X.bad PL Stop:=by
 have q:¬Stop g w:=λm=>h (.stop m);refine Classical.byContradiction λo=> ?_;have b:∀a d,∃x:Goroutine×World,(∃f,stepG PL true g (jN w a d)= .go x.1 x.2 f)/\fl x.1/\fo PL Stop x.1 x.2:=by
  intro a d;refine Classical.byContradiction λj=>o ⟨⟨g,w,a,d,false⟩,rfl,rfl,rfl,q,λr i f e k l=>j ⟨(r,i),⟨f,e⟩,k,l⟩⟩
 have p:∃n:Tape->Nat->Goroutine×World,∀a d,(∃f,stepG PL true g (jN w a d)= .go (n a d).1 (n a d).2 f)/\fl (n a d).1/\fo PL Stop (n a d).1 (n a d).2:=
  ⟨λa d=>Classical.choose (b a d),λa d=>Classical.choose_spec (b a d)⟩
 obtain⟨n,c⟩:=p;exact h (.go n (λa d=>(c a d).1) (λa d=>(c a d).2.1) λa d=>(c a d).2.2)
theorem xv(PL:Program)(a:Goroutine->World->Prop):∃b:lj->lj,(∀X,X.bad PL a->X.good PL->(∃es,X.step PL= .go (b X).g (b X).w es)/\fl (b X).g/\(b X).dead=false/\(b X).bad PL a)/\∀X,¬X.good PL->b X=⟨X.g,X.w,X.τ,X.d+1,true⟩:=by
 have h:∀X:lj,∃Y:lj,(X.bad PL a->X.good PL->(∃es,X.step PL= .go Y.g Y.w es)/\fl Y.g/\Y.dead=false/\Y.bad PL a)/\(¬X.good PL->Y=⟨X.g,X.w,X.τ,X.d+1,true⟩):=by
  intro X;by_cases f:X.good PL
  ·by_cases i:X.bad PL a
   ·obtain⟨l,k,g,es,d,c⟩:=f;obtain⟨Y,j,o,n,m⟩:=rS (i.2 k g es d c);exact⟨Y,λ_ _=>⟨⟨es,by rw[j,o];exact d⟩,by rw[j];exact c,n,m⟩,λe=>absurd ⟨l,k,g,es,d,c⟩ e⟩
   ·exact⟨X,λh=>absurd h i,λe=>absurd f e⟩
  ·exact⟨_,λ_ h=>absurd h f,λ_=>rfl⟩
 exact⟨λX=>Classical.choose (h X),λX=>(Classical.choose_spec (h X)).1,λX=>(Classical.choose_spec (h X)).2⟩
section
variable(nx:lj->lj)(X0:lj)
def i7:Nat->lj
 |0=>X0
 |n+1=>nx (i7 n)
def jH(k:Nat->Nat):Nat->Nat
 |0=>0
 |n+1=>jH k n+k n
theorem tr(k:Nat->Nat)(h:n<=m):jH k n<=jH k m:=by
 induction h with
 |refl=>exact Nat.le_refl _
 |step _ a=>exact Nat.le_trans a (Nat.le_add_right _ _)
theorem I7(k:Nat->Nat)(t:Nat->Nat->Question->Nat):∃T:Tape,∀n i,i<k n->T (jH k n+i)=t n i:=by
 have h:∀j,∃f:Question->Nat,∀n i,i<k n->jH k n+i=j->f=t n i:=by
  intro j;by_cases d:∃n i,i<k n/\jH k n+i=j
  ·obtain⟨n,i,g,e⟩:=d;refine⟨t n i,λm l r q=> ?_⟩;have o:m=n:=by
    rcases Nat.lt_trichotomy m n with a|c|b
    ·have:=tr k (show m+1<=n from a);have:jH k (m+1)=jH k m+k m:=rfl;omega
    ·exact c
    ·have:=tr k (show n+1<=m from b);have:jH k (n+1)=jH k n+k n:=rfl;omega
   subst o;have:i=l:=(by omega);rw[this]
  ·exact⟨λ_=>0,λn i g e=>absurd ⟨n,i,g,e⟩ d⟩
 exact⟨λj=>Classical.choose (h j),λn i p=>Classical.choose_spec (h _) n i p rfl⟩
theorem zq(PL:Program)(a:lj->lj)(b:lj):∃k:Nat->Nat,∀n,((i7 a b n).good PL->k n=(i7 a b (n+1)).w.drawn-(i7 a b n).d)/\(¬(i7 a b n).good PL->k n=1):=by
 have h:∀n,∃c:Nat,((i7 a b n).good PL->c=(i7 a b (n+1)).w.drawn-(i7 a b n).d)/\(¬(i7 a b n).good PL->c=1):=by
  intro n;by_cases d:(i7 a b n).good PL
  ·exact⟨_,λ_=>rfl,λe=>absurd d e⟩
  ·exact⟨1,λh=>absurd h d,λ_=>rfl⟩
 exact⟨λn=>Classical.choose (h n),λn=>Classical.choose_spec (h n)⟩
variable{nx X0}
theorem xm(b:∀X:lj,¬X.good PL->nx X=⟨X.g,X.w,X.τ,X.d+1,true⟩){k:Nat->Nat}(d:∀n,¬(i7 nx X0 n).good PL->k n=1){T:Tape}(p:∀n i,i<k n->T (jH k n+i)=(i7 nx X0 n).τ ((i7 nx X0 n).d+i))
  (m:¬(i7 nx X0 n).good PL) (j:Nat):T (jH k n+j)=(i7 nx X0 n).τ ((i7 nx X0 n).d+j):=by
 have h:∀j,¬(i7 nx X0 (n+j)).good PL/\(i7 nx X0 (n+j)).τ=(i7 nx X0 n).τ/\(i7 nx X0 (n+j)).d=(i7 nx X0 n).d+j/\jH k (n+j)=jH k n+j:=by
  intro j;induction j with
  |zero=>exact⟨m,rfl,rfl,rfl⟩
  |succ j l=>
   obtain⟨a,c,g,f⟩:=l;have e:i7 nx X0 (n+(j+1))=⟨(i7 nx X0 (n+j)).g,(i7 nx X0 (n+j)).w,(i7 nx X0 (n+j)).τ,(i7 nx X0 (n+j)).d+1,true⟩:=b _ a;refine⟨λo=> ?_,by rw[e];exact c,by rw[e];show(i7 nx X0 (n+j)).d+1=_;omega, ?_⟩
   ·have:=o.1;rw[e]at this;cases this
   ·have:=d (n+j) a;show jH k (n+j)+k (n+j)=_;omega
 obtain⟨a,c,g,f⟩:=h j;have:=p (n+j) 0 (by rw[d _ a];exact Nat.one_pos);rw[Nat.add_zero,Nat.add_zero,f,c,g]at this;exact this
end
end
section
variable{PL:Program}{G:Nat}{Stop:Goroutine->World->Prop}
structure j0 (G:Nat) (D0:Nat->Prop) (g:Goroutine) (w:World) (g':Goroutine) (w':World):Prop where
 rel:∃D ρ,cr G 0 D ρ w w'/\eX G D ρ [] g g'/\∀b,D0 b->D b/\ρ b=b
 tab:im w w'
 calm:aD w
theorem j0.step(E:j6 PL PL G)(C:∀f (fn:Func) c,PL.funcs[f]?=some fn->fn.body=some c->eY (f==aY) c=true){D0:Nat->Prop}{o g':Goroutine}{k:World}(h:j0 G D0 g w g' w')
  (z:stepG PL true g w= .go o k es) (r:fl o) (y:∀i,w.drawn+i<k.drawn->w'.tape (w'.drawn+i)=w.tape (w.drawn+i)):
 ∃d a j,stepG PL true g' w'= .go d a j/\fl d/\j0 G D0 o k d a/\w.drawn<=k.drawn/\a.drawn+w.drawn=k.drawn+w'.drawn/\a.tape=w'.tape:=by
 obtain⟨⟨D,p,H,F,n⟩,u,t⟩:=h;have s:cr G k.drawn D p w w':=H.re rfl rfl y;obtain⟨I,m,d,a,j,x,q,e,_⟩:=n0 (mM:=true) E s t u F z (Nat.le_refl _) r λf v J B=>by obtain⟨fn,A,l⟩:=kW (E.fn p) B;exact j6.enters C f fn A l
 exact⟨d,a,j,x,q.well e.rel r,⟨⟨I,m,e.rel.re rfl rfl λi K=>by omega,q,λb l=>⟨(e.ext b (n b l).1).1,(e.ext b (n b l).1).2.trans (n b l).2⟩⟩,u.ran E.tab s e,e.quiet t⟩,e.drawn,e.drew,e.tape⟩
theorem j0.re{D0:Nat->Prop}{g':Goroutine}(h:j0 G D0 g w g' w'){v v':World}(a:v.heap=w.heap)(d:v'.heap=w'.heap):j0 G D0 g v g' v':=by
 obtain⟨⟨D,j,r,q,p⟩,⟨c,e,f,n,m,l⟩,k⟩:=h;exact⟨⟨D,j,r.re a d λi t=>by omega,q,p⟩,⟨c,e,f,n,by rw[a];exact m,by rw[d];exact l⟩,λb o s=>k b o (by rw[←a];exact s)⟩
theorem nG(E:j6 PL PL G)(hB:∀f (fn:Func) c,PL.funcs[f]?=some fn->fn.body=some c->eY (f==aY) c=true){D0:Nat->Prop}{I:Machine->Prop}(hI:yi I){q:Goroutine}{w0:World}(hp:j0 G D0 q w0 q w0)(a2:fl q)
 (x:∀τ,∃fr w',fr.mode= .returning/\StepsIn I PL (solo q (jN w0 τ 0)) (lone fr [] w')/\Stop {frame:=fr,callers:=[],status:= .running,dying:=none} w')
 (hS:∀g w g' w',j0 G D0 g w g' w'->Stop g w->Stop g' w'):fo PL Stop q w0:=by
 refine Classical.byContradiction λhn=> ?_;obtain⟨a,J,H,a0,Z⟩:=rS hn;obtain⟨b,z,A⟩:=xv PL Stop;obtain⟨k,hk⟩:=zq PL b a;obtain⟨T,hT⟩:=I7 k λn i=>(i7 b a n).τ ((i7 b a n).d+i);obtain⟨fr,wE,hm,K,t⟩:=x T;have Y:∀m X,StepsIn I PL m X->X=lone fr [] wE->∀n o d,m=solo o d->d.tape=T->d.drawn=jH k n->(i7 b a n).bad PL Stop->(i7 b a n).dead=false->fl o->
  j0 G D0 (i7 b a n).g (i7 b a n).w o d->j0 G D0 o d (i7 b a n).g (i7 b a n).w->False:=by
  intro m X h;induction h with
  |refl m=>
   intro e n o d e2 _ _ hb _ _ _ j;rw[e2,oN]at e;obtain⟨e3,e4⟩:=fC e;rw[e3,e4]at j;exact hb.1 (hS _ _ _ _ j t)
  | @head m m1 m2 h0 hs y ih=>
    intro e n o d e2 Q hd hb a6 a1 a4 j;subst e e2;obtain⟨⟨D2,S,U,C,_⟩,V,O⟩:=j;obtain⟨g1,P,es,u,a7,s,ae⟩:=C3 E hI hm a1 C.ok C.oks O hs y;have j:j0 G D0 o d (i7 b a n).g (i7 b a n).w:=⟨⟨D2,S,U,C,‹_›⟩,V,O⟩;by_cases R:(i7 b a n).good PL
    ·obtain⟨⟨ah,p⟩,a3,N,a9⟩:=z _ hb R;have a8:k n=(i7 b a (n+1)).w.drawn-(i7 b a n).d:=(hk n).1 R;have L:j0 G D0 (i7 b a n).g (jN (i7 b a n).w (i7 b a n).τ (i7 b a n).d) o d:=a4.re rfl rfl;obtain⟨af,aa,ag,q1,q2,q3,q4,q5,q6⟩:=L.step E hB p a3 λi hi=>by
      have ad:(i7 b a n).d+i<(b (i7 b a n)).w.drawn:=hi;have hc:i7 b a (n+1)=b (i7 b a n):=rfl;rw[Q,hd];exact hT n i (by rw[a8,hc];omega)
     rw[u]at q1;cases q1;have ac:(i7 b a n).d<=(i7 b a (n+1)).w.drawn:=q4;have ab:P.drawn+(i7 b a n).d=(i7 b a (n+1)).w.drawn+d.drawn:=q5;have v:P.drawn=jH k (n+1):=by
      show P.drawn=jH k n+k n;omega
     have l:j0 G D0 o d (i7 b a n).g (jN (i7 b a n).w (i7 b a n).τ (i7 b a n).d):=j.re rfl rfl;obtain⟨B,r,D,W,r2,r3,r4,r5,r6⟩:=l.step E hB u s λi hi=>by
      show(i7 b a n).τ ((i7 b a n).d+i)=d.tape (d.drawn+i);rw[Q,hd];refine(hT n i ?_).symm;have:jH k (n+1)=jH k n+k n:=rfl;omega
     have F:(i7 b a n).step PL= .go B r D:=W;rw[p]at F;cases F;exact ih rfl (n+1) g1 P a7 (q6.trans Q) v a9 N s q3 r3
    ·have l:j0 G D0 o d (i7 b a n).g (jN (i7 b a n).w (i7 b a n).τ (i7 b a n).d):=j.re rfl rfl;obtain⟨B,r,D,W,r2,_⟩:=l.step E hB u s λi hi=>by
      show(i7 b a n).τ ((i7 b a n).d+i)=d.tape (d.drawn+i);rw[Q,hd];exact(xm A (λn=>(hk n).2) hT R i).symm
     exact R ⟨a6,B,r,D,W,r2⟩
 have a5:j0 G D0 a.g a.w q (jN w0 T 0):=by rw[J,H];exact hp.re rfl rfl
 have M:j0 G D0 q (jN w0 T 0) a.g a.w:=by rw[J,H];exact hp.re rfl rfl
 exact Y _ _ K rfl 0 q (jN w0 T 0) rfl rfl rfl Z a0 a2 a5 M
end
end
section
open Go
def ep(P:Program)(fs:Array Func):Program:={P with funcs:=fs,inits:=#[]}
section
variable(P:Program)(fs:Array Func)
theorem kw:(ep P fs).types=P.types:=by unfold ep;rfl
theorem wh:(ep P fs).cutTypes=P.cutTypes:=by unfold ep;rfl
theorem pw:∀(f:Nat) (t:TypeId),Made.infoAt (ep P fs).toTables f t=Made.infoAt P.toTables f t
 |0,_=>rfl
 |f+1,t=>by
  have a:Made.infoAt (ep P fs).toTables f=Made.infoAt P.toTables f:=funext (pw f);simp only[Made.infoAt,kw,a]
theorem dZ(t:TypeId):(ep P fs).info? t=P.info? t:=by
 simp only[Tables.info?,kw,pw]
theorem cq(t:TypeId):(ep P fs).underlying t=P.underlying t:=by
 simp only[Program.underlying,dZ]
theorem kv(t:TypeId):(ep P fs).underlyingId t=P.underlyingId t:=by
 simp only[Program.underlyingId,dZ]
theorem dJ(t:TypeId):(ep P fs).cellsOf t=P.cellsOf t:=by
 simp only[Program.cellsOf,dZ]
theorem eB(t:TypeId):(ep P fs).bytesOf t=P.bytesOf t:=by
 simp only[Program.bytesOf,dZ]
theorem cP:(ep P fs).depth=P.depth:=by
 simp only[Program.depth,kw]
theorem oI:∀(n:Nat) (t u:TypeId),(ep P fs).alikeButTags n t u=P.alikeButTags n t u
 |0,_,_=>rfl
 |n+1,t,u=>by
  simp only[Program.alikeButTags,dZ,oI n]
theorem kx(t:TypeId):(ep P fs).stoodInHeld t=P.stoodInHeld t:=by
 simp only[Program.stoodInHeld,Program.stoodInAs,cq,kv,dZ,wh,cP,oI]
theorem we(t:TypeId):(ep P fs).packed t=P.packed t:=by
 simp only[Program.packed,Program.packedAs,Program.ownRow,cq,kv,dZ,wh,cP,oI]
theorem ja:∀(d:Nat) (t:TypeId) (o:Nat),byteOfCell (ep P fs) d t o=byteOfCell P d t o
 |0,_,_=>rfl
 |d+1,t,o=>by
  simp only[byteOfCell,cq,dJ,eB,ja d]
theorem nN:∀(d:Nat) (t:TypeId) (o:Nat),cellHolding (ep P fs) d t o=cellHolding P d t o
 |0,_,_=>rfl
 |d+1,t,o=>by
  simp only[cellHolding,cq,dJ,eB,nN d]
theorem r9:∀(d:Nat) (t:TypeId) (o:Nat),plainCell (ep P fs) d t o=plainCell P d t o
 |0,_,_=>rfl
 |d+1,t,o=>by
  simp only[plainCell,cq,dJ,r9 d]
theorem pu:∀(d:Nat) (t:TypeId) (o:Nat),cellOfByte (ep P fs) d t o=cellOfByte P d t o
 |0,_,_=>rfl
 |d+1,t,o=>by
  simp only[cellOfByte,cq,dJ,eB,pu d]
theorem r8:∀(d:Nat) (t:TypeId),tight (ep P fs) d t=tight P d t
 |0,_=>rfl
 |d+1,t=>by
  simp only[tight,cq,eB,r8 d]
theorem tz:∀(d:Nat) (t:TypeId),(ep P fs).holdsStoodIn d t=P.holdsStoodIn d t
 |0,_=>rfl
 |d+1,t=>by
  simp only[Program.holdsStoodIn,cq,kx,tz d]
theorem jI:∀(d:Nat) (t:TypeId),(ep P fs).holdsPacked d t=P.holdsPacked d t
 |0,_=>rfl
 |d+1,t=>by
  simp only[Program.holdsPacked,cq,we,jI d]
theorem rc:∀(d:Nat) (t:TypeId),(ep P fs).eqGuardType d t=P.eqGuardType d t
 |0,_=>rfl
 |d+1,t=>by
  simp only[Program.eqGuardType,cq,rc d]
theorem pv:∀(d:Nat) (t u:TypeId),sameLayout (ep P fs) d t u=sameLayout P d t u
 |0,_,_=>rfl
 |d+1,t,u=>by
  simp only[sameLayout,cq,kv,kx,pv d]
theorem wb(a:TypeId->Bool):∀(d:Nat) (e:TypeId) (c o n:Nat),rowAt (ep P fs) a d e c o n=rowAt P a d e c o n
 |0,_,_,_,_=>rfl
 |d+1,e,c,o,n=>by
  simp only[rowAt,cq,dJ,kx,wb a d]
theorem tx:∀(d:Nat) (e:TypeId) (n o:Nat) (u:TypeId) (m:Nat),liesAt (ep P fs) d e n o u m=liesAt P d e n o u m
 |0,_,_,_,_,_=>rfl
 |d+1,e,n,o,u,m=>by
  simp only[liesAt,cq,wb,pv,cP,tx d]
theorem uN(d:Nat)(e:TypeId)(n o:Nat)(b:Int):cellAtBytes (ep P fs) d e n o b=cellAtBytes P d e n o b:=by
 simp only[cellAtBytes,dJ,eB,ja,pu]
theorem Br(a:∀t i z,P.info? t=some i->i.zero=some z->aL z=true):aK (ep P fs) P:=
 ⟨dZ P fs,cq P fs,λt i z h=>a t i z (by rw[←dZ P fs];exact h),by unfold ep;rfl,dJ P fs,eB P fs,λt o=>by rw[cP,ja],λe n o u m=>by rw[cP,tx],λe n o b=>by rw[cP,uN],λe=>by rw[cP,tz],λt=>by rw[cP,rc],kx P fs,by rw[kw],λt=>by rw[cP,jI]⟩
theorem lD(c:Array Value)(e:TypeId):∀(f x a:Nat),seenCells (ep P fs) c e f x a=seenCells P c e f x a
 |0,_,_=>rfl
 |f+1,x,a=>by
  simp only[seenCells,dJ,eB,cP,nN,lD c e f]
theorem tv(w:World)(a:Addr)(u:TypeId)(k:Addr)(b:Bool):w.seen (ep P fs) a u k b=w.seen P a u k b:=by
 simp only[World.seen,r9,ja,dJ,eB,lD,cP]
theorem Bt(w:World)(a:Addr)(b:Bool):w.farLoad P a b=w.farLoad (ep P fs) a b:=by
 simp only[World.farLoad,World.viewLoad,tv]
theorem yy(w:World)(a:Addr)(v:Value)(b:Bool):w.farStore P a v b=w.farStore (ep P fs) a v b:=by
 simp only[World.farStore,World.viewStore,tv,r8,cP]
end
def mO(f:Func):Func:={f with name:= "none",origin:= "none",body:=none}
theorem Ag:(Extern.allGenericRows.lookup "none").isNone=true∧(Extern.allTypedRows.lookup "none").isNone=true∧(Extern.allRows.lookup "none").isNone=true∧(Extern.allNextRows.lookup "none").isNone=true:=by
 refine⟨?_, ?_, ?_, ?_⟩<;>kernel_rfl
theorem Cr(f:Func):Extern.find (mO f)=none:=by
 obtain⟨c,b,a,_⟩:=Ag;rw[Option.isNone_iff_eq_none]at c b a;simp only[Extern.find,mO,c,b,a];rfl
theorem Cp(f:Func):Extern.findNext (mO f)=none:=by
 obtain⟨_,_,_,a⟩:=Ag;rw[Option.isNone_iff_eq_none]at a;simp only[Extern.findNext,mO,a];rfl
theorem Cq(f:Func):((mO f).name.endsWith ".init" && !(mO f).name.startsWith "(" && !(mO f).name.startsWith "gosem.")=false:=by
 show("none".endsWith ".init" && ! "none".startsWith "(" && ! "none".startsWith "gosem.")=false;kernel_rfl
def zZ(info:TypeId->Option TypeInfo):Prop:=∀t i z,info t=some i->i.zero=some z->aL z=true
theorem tK:∀{l:List Value},(∀v∈l,aL v=true)->iK l=true
 |[],_=>rfl
 |x::r,h=>by
  simp only[iK,Bool.and_eq_true];exact⟨h x List.mem_cons_self,tK λv hv=>h v (List.mem_cons_of_mem _ hv)⟩
theorem tJ{cs:Array Value}(h:∀x∈cs,aL x=true):aL (.agg cs)=true:=by
 obtain⟨l⟩:=cs;simp only[aL];exact tK λv a=>h v (by simpa using a)
theorem pE(h:aL v=true):∀x∈v.cells,aL x=true:=by
 intro x a;cases v with
 |agg b=>
  simp only[Value.cells]at a;obtain⟨l⟩:=b;simp only[aL]at h;exact gj h x (by simpa using a)
 |_=>simp only[Value.cells,Array.mem_singleton]at a;rw[a];exact h
theorem ue{d c:Type}(p:c->Prop)(f:d->c->Option (ForInStep c))(g:∀a s r,p s->f a s=some r->p r.value):∀(l:List d) (s r:c),p s->forIn l s f=some r->p r
 |[],s,r,hs,e=>by
  simp only[List.forIn_nil]at e;cases e;exact hs
 |a::l,s,r,hs,e=>by
  simp only[List.forIn_cons]at e;cases h:f a s with
  |none=>rw[h]at e;cases e
  |some q=>
   rw[h]at e;have:=g a s q hs h;cases q with
   |done b=>cases e;exact this
   |yield b=>exact ue p f g l b r this e
theorem B1{c:TypeId->Option TypeInfo}(j:zZ c){i:TypeInfo}(k:c t=some i){z:Option (Array Value)}(g:∀d,z=some d->∀x∈d,aL x=true){d:Array Value}
 (h:(if n>m then none else(do let a←z;let b←i.zero;pure (a++b.cells):Option (Array Value)))=some d):∀x∈d,aL x=true:=by
 split at h
 ·cases h
 ·cases z with
  |none=>cases h
  |some a=>
   cases f:i.zero with
   |none=>rw[f]at h;cases h
   |some b=>
    rw[f]at h;cases h;intro x e;rcases Array.mem_append.1 e with e|e
    ·exact g a rfl x e
    ·exact pE (j t i b k f) x e
theorem vJ{info:TypeId->Option TypeInfo}(hi:zZ info){fs:Array Field}{i:TypeInfo}{z:Value}(h:Made.reckonStruct info fs=some i)(hz:i.zero=some z):aL z=true:=by
 unfold Made.reckonStruct at h;rw[Option.bind_eq_bind,Option.bind_eq_some_iff]at h;obtain⟨r,hr,h⟩:=h;rw[←Array.forIn_toList]at hr;have key:=ue (λs:Array Field×Nat×Nat×Nat×Nat×Bool×Bool×Option (Array Value)×String=>∀zs,s.2.2.2.2.2.2.2.1=some zs->∀x∈zs,aL x=true) _ (λf s r hs e=> ?_) fs.toList _ r (λzs hzs x hx=> ?_) hr
 ·simp only[Option.pure_def]at h;split at h<;>cases h<;>(simp only[Option.map_eq_some_iff]at hz;obtain⟨zs,h1,rfl⟩:=hz;exact tJ (key zs h1))
 ·cases he:info f.type with
  |none=>rw[he]at e;cases e
  |some j=>
   rw[he]at e;simp only[Option.bind_eq_bind,Option.bind_some]at e;intro zs hzs;refine B1 hi he hs (n:=s.2.1+j.size) (m:=Made.mostCells) ?_;rw[←hzs];revert e
   (repeat' split)<;>intro e<;>first
     |(cases e;done)
     |(simp only[Option.bind_eq_some_iff,Option.pure_def,Option.some.injEq,exists_eq_left']at e;obtain rfl:=e;rfl)
     |(simp only[Option.bind_eq_some_iff]at e;obtain⟨_,_,e⟩:=e;revert e;(repeat' split)<;>intro e<;>cases e<;>rfl)
 ·cases hzs;simp at hx
theorem B2{g:TypeId->Option TypeInfo}(o:zZ g){d:TypeDesc}{i:TypeInfo}{z:Value}(h:Made.reckon g d=some i)(c:i.zero=some z):aL z=true:=by
 unfold Made.reckon at h;have b:∀{x:Option String} {f:String->TypeInfo} {v:Value},(∀s,(f s).zero=some v)->aL v=true->(x.bind λs=>some (f s))=some i->aL z=true:=by
  intro x f v A t e;cases x with
  |none=>cases e
  |some s=>
   cases e;rw[A s]at c;cases c;exact t
 cases d with
 |struct H=>exact vJ o h c
 |pointer e=>
  simp only[Option.bind_eq_bind,Option.pure_def]at h;rw[Option.bind_eq_some_iff]at h;obtain⟨j,m,h⟩:=h;split at h
  ·cases h
  ·split at h
   ·cases h
   ·exact b (v:= .pointer none) (λ_=>rfl) rfl h
  ·exact b (v:= .pointer none) (λ_=>rfl) rfl h
 |slice e=>
  simp only[Option.bind_eq_bind,Option.pure_def]at h;rw[Option.bind_eq_some_iff]at h;obtain⟨j,m,h⟩:=h;exact b (v:= .slice none 0 0) (λ_=>rfl) rfl h
 |map k e=>
  simp only[Option.bind_eq_bind,Option.pure_def]at h;rw[Option.bind_eq_some_iff]at h;obtain⟨j,m,h⟩:=h;rw[Option.bind_eq_some_iff]at h;obtain⟨F,w,h⟩:=h;rw[Option.bind_eq_some_iff]at h;obtain⟨E,u,h⟩:=h;exact b (v:= .map none) (λ_=>rfl) rfl h
 |chan B e=>
  simp only[Option.bind_eq_bind,Option.pure_def]at h;rw[Option.bind_eq_some_iff]at h;obtain⟨j,m,h⟩:=h;exact b (v:= .chan none) (λ_=>rfl) rfl h
 |func D C v=>
  simp only[Option.bind_eq_bind,Option.pure_def]at h;exact b (v:= .nilFunc) (λ_=>rfl) rfl h
 |array n e=>
  simp only[Option.bind_eq_bind,Option.pure_def]at h;rw[Option.bind_eq_some_iff]at h;obtain⟨j,m,h⟩:=h;rw[Option.bind_eq_some_iff]at h;obtain⟨s,G,h⟩:=h;cases h;simp only at c;split at c
  ·cases c
  ·split at c
   ·cases c;rfl
   ·rw[Option.map_eq_some_iff]at c;obtain⟨y,q,rfl⟩:=c;refine tJ λx r=> ?_;obtain⟨a,p,l⟩:=Array.mem_flatten.1 r;rw[Array.mem_replicate]at p;rw[p.2]at l;exact pE (o e j y m q) x l
 |_=>cases h
theorem pk(P:Program)(b:∀i∈P.types,∀z,i.zero=some z->aL z=true):∀f,zZ (Made.infoAt P.toTables f)
 |0=>λ_ _ _ h=>by cases h
 |f+1=>λt i z h a=>by
  unfold Made.infoAt at h;split at h
  ·exact b i (Array.mem_of_getElem? h) z a
  ·rw[Option.bind_eq_some_iff]at h;obtain⟨d,_,h⟩:=h;exact B2 (pk P b f) h a
theorem B3(P:Program)(b:∀i∈P.types,∀z,i.zero=some z->aL z=true)(t:TypeId)(i:TypeInfo)(z:Value)(h:P.info? t=some i)(a:i.zero=some z):aL z=true:=by
 unfold Tables.info? at h;split at h
 ·exact b i (Array.mem_of_getElem? h) z a
 ·exact pk P b _ t i z h a
section
variable{ρ:Nat->Nat}{PL PM:Program}
theorem xV(args:Array Value):kL ρ PL PM (dM ρ) (Extern.AbiNoEscape.same args) (Extern.AbiNoEscape.same (args.map (dM ρ))):=by
 obtain⟨l⟩:=args;cases l with
 |nil=>exact .dead trivial
 |cons x l=>
  cases l with
  |nil=>
   rw[show Array.map (dM ρ) ⟨[x]⟩=#[dM ρ x]from by simp];exact .pure x
  |cons y l=>exact .dead trivial
theorem ov:∀(n t:Nat) (a:Array Value),(∀v∈a,aL v=true)->∀v∈Extern.BytealgMakeNoZero.digits n t a,aL v=true
 |0,_,_,h=>h
 |n+1,t,a,h=>ov n _ _ λv hv=>by
  rcases Array.mem_push.1 hv with hv|hv
  ·exact h v hv
  ·rw[hv];rfl
theorem sZ(j:aK PL PM)(h rs:Array TypeId)(args:Array Value):kL ρ PL PM (dM ρ) (Extern.BytealgMakeNoZero.makeNoZero h rs args) (Extern.BytealgMakeNoZero.makeNoZero h rs (args.map (dM ρ))):=by
 obtain⟨l⟩:=args;cases l with
 |nil=>exact .dead trivial
 |cons x l=>
  cases l with
  |cons y l=>cases x<;>exact .dead trivial
  |nil=>
   cases x with
   |int k n=>
    cases k with
    |i64=>
     rw[show Array.map (dM ρ) ⟨[.i n]⟩=#[.i n]from by simp[dM]];unfold Extern.BytealgMakeNoZero.makeNoZero;cases rs[0]? with
     |none=>exact .dead trivial
     |some t=>
      dsimp only;refine(om j t).bind λd=> ?_;cases d with
      |slice e=>
       dsimp only[id];have g:kL ρ PL PM (dM ρ) (do let c←choose (.appendCap n.toNat 0 e);askRoom c;let bytes←choose (.extern "internal/bytealg.MakeNoZero.bytes" 0);let a←newRow e (Extern.BytealgMakeNoZero.digits c bytes #[]);pure (.slice (some a) n.toNat c)) (do let c←choose (.appendCap n.toNat 0 e);askRoom c;let bytes←choose (.extern "internal/bytealg.MakeNoZero.bytes" 0);let a←newRow e (Extern.BytealgMakeNoZero.digits c bytes #[]);pure (.slice (some a) n.toNat c)):=by
            refine kL.bind (f:=id) (.choose λn=> .pure n) λc=> ?_;refine(lg c).bind λ_=> ?_;refine kL.bind (f:=id) (.choose λn=> .pure n) λb=> ?_;have o:(Extern.BytealgMakeNoZero.digits c b #[]).map (dM ρ)=Extern.BytealgMakeNoZero.digits c b #[]:=iO λv m=>cJ ρ v (ov c b #[] (by simp) v m);have i:=ek (ρ:=ρ) (PL:=PL) (PM:=PM) e (Extern.BytealgMakeNoZero.digits c b #[]);rw[o]at i;exact i.bind λa=>dL _ (by simp[dM])
       split
       ·exact(g6 (f:=id) j rfl).bind λ_=>g
       ·exact g
      |_=>exact .dead trivial
    |_=>exact .dead trivial
   |_=>exact .dead trivial
end
def pO(K:FuncId)(sk:Func)(ext:FuncId->Bool)(i:Nat)(f:Func):Func:=
 if i=K then sk else if ext i then f else match f.body with
  |some c=>if eY (i==aY) c then f else mO f
  |none=>mO f
def fc(P:Program)(K:FuncId)(sk:Func)(ext:FuncId->Bool):Program:=ep P (P.funcs.mapIdx (pO K sk ext))
structure sA (P:Program) (K:FuncId) (sk:Func) (ext:FuncId->Bool) (G:Nat):Prop where
 zero:∀i∈P.types,∀z,i.zero=some z->aL z=true
 glob:P.globals.size=G
 tab:dV<G
 names:∀f∈P.funcs,f.name≠ "runtime.NumGoroutine"
 ty:AV P
 ex:aY<P.funcs.size
 exr:∀fn,P.funcs[aY]?=some fn->fn.results.all (FQ true)=true
 kex:K≠aY
 kfn:∃fn,P.funcs[K]?=some fn/\fn.body.isSome=true/\sk.results=fn.results
 kbody:∃c,sk.body=some c/\eY false c=true
 kname:sk.name≠ "runtime.NumGoroutine"
 ext:∀i fn,ext i=true->P.funcs[i]?=some fn->fn.body=none/\Extern.findNext fn=none/\∃e,Extern.find fn=some e/\∀(ρ:Nat->Nat) (PL PM:Program),aK PL PM->∀args,kL ρ PL PM (dM ρ) (e args) (e (args.map (dM ρ)))
section
variable{P:Program}{K:FuncId}{sk:Func}{ext:FuncId->Bool}{G:Nat}
theorem rF(f:Nat):(fc P K sk ext).funcs[f]?=(P.funcs[f]?).map (pO K sk ext f):=by
 unfold fc ep;simp only[Array.getElem?_mapIdx]
theorem BI(r:ResultVar):FQ false r=true:=by cases r<;>rfl
theorem jT(a:(fc P K sk ext).funcs[f]?=some fn):∃b,P.funcs[f]?=some b/\
 ((f=K/\fn=sk)\/(f≠K/\ext f=true/\fn=b)\/(f≠K/\fn=b/\∃c,fn.body=some c/\eY (f==aY) c=true)\/(f≠K/\fn=mO b)):=by
 rw[rF]at a;cases i:P.funcs[f]? with
 |none=>rw[i]at a;cases a
 |some g=>
  rw[i]at a;simp only[Option.map_some,Option.some.injEq]at a;refine⟨g,rfl, ?_⟩;unfold pO at a;split at a
  ·rename_i e;exact .inl ⟨e,a.symm⟩
  ·rename_i d;split at a
   ·rename_i e;exact .inr (.inl ⟨d,e,a.symm⟩)
   ·cases h:g.body with
    |none=>rw[h]at a;exact .inr (.inr (.inr ⟨d,a.symm⟩))
    |some c=>
     rw[h]at a;simp only at a;split at a
     ·rename_i j;subst a;exact .inr (.inr (.inl ⟨d,rfl,c,h,j⟩))
     ·exact .inr (.inr (.inr ⟨d,a.symm⟩))
theorem mq(h:sA P K sk ext G):aK (fc P K sk ext) P:=Br P _ λt i z b a=>B3 P h.zero t i z b a
theorem tA{PL PM:Program}(h:aK PL PM):aK PL PL:=⟨λ_=>rfl,λ_=>rfl,h.zero,rfl,λ_=>rfl,λ_=>rfl,λ_ _=>rfl,λ_ _ _ _ _=>rfl,λ_ _ _ _=>rfl,λ_=>rfl,λ_=>rfl,λ_=>rfl,rfl,λ_=>rfl⟩
theorem Am(h:sA P K sk ext G){PM:Program}(u:aK (fc P K sk ext) PM)(v:∀(f:FuncId) (fn:Func),(fc P K sk ext).funcs[f]?=some fn->∃a:Func,PM.funcs[f]?=some a/\(a=fn\/P.funcs[f]?=some a))(r:Nat->Nat)(g:FuncId):gx r (fc P K sk ext) PM g:=by
 intro fn s;obtain⟨a,j,m⟩:=jT s;obtain⟨q,l,d⟩:=v g fn s;have b:a.name≠ "runtime.NumGoroutine" :=h.names a (Array.mem_of_getElem? j);rcases m with⟨rfl,rfl⟩|⟨m,t,rfl⟩|⟨m,rfl,c,k,_⟩|⟨m,rfl⟩
 ·obtain⟨c,k,_⟩:=h.kbody;refine⟨h.kname, .inl ⟨by rw[k];rfl,q,l, ?_⟩⟩;rcases d with rfl|o
  ·exact⟨by rw[k];rfl,h.kname⟩
  ·rw[j]at o;cases o;obtain⟨x,n,p,_⟩:=h.kfn;rw[j]at n;cases n;exact⟨p,b⟩
 ·obtain⟨w,o,e,n,p⟩:=h.ext g fn t j;refine⟨b, .inr (.inr ⟨w,o, ?_,e,n,p r _ _ u⟩)⟩;rcases d with rfl|i
  ·exact l
  ·rw[j]at i;cases i;exact l
 ·refine⟨b, .inl ⟨by rw[k];rfl,q,l, ?_⟩⟩;have:q=fn:=by
   rcases d with i|i
   ·exact i
   ·rw[j]at i;cases i;rfl
  subst this;exact⟨by rw[k];rfl,b⟩
 ·exact⟨by show "none" ≠ "runtime.NumGoroutine";decide, .inr (.inl ⟨rfl,Cp _,Cr _,Cq _⟩)⟩
theorem xj(h:sA P K sk ext G)(k:(fc P K sk ext).funcs[f]?=some fn):∃b,P.funcs[f]?=some b/\b.results=fn.results/\fn.results.all (FQ (f==aY))=true:=by
 obtain⟨b,c,j⟩:=jT k;have a:b.results.all (FQ (f==aY))=true:=by
  by_cases d:f=aY
  ·subst d;simpa using h.exr b c
  ·have i:(f==aY)=false:=(by simpa using d);rw[i,Array.all_eq_true'];exact λr _=>BI r
 refine⟨b,c, ?_⟩;rcases j with⟨rfl,rfl⟩|⟨_,_,rfl⟩|⟨_,rfl,_⟩|⟨_,rfl⟩
 ·obtain⟨l,g,_,e⟩:=h.kfn;rw[c]at g;cases g;exact⟨e.symm,by rw[e];exact a⟩
 ·exact⟨rfl,a⟩
 ·exact⟨rfl,a⟩
 ·exact⟨rfl,a⟩
theorem Ak(h:sA P K sk ext G):AV (fc P K sk ext):=by
 obtain⟨d,b,a⟩:=h.ty;exact⟨d,by unfold fc;rw[cq];exact b,a⟩
theorem tZ:(fc P K sk ext).funcs.size=P.funcs.size:=by
 unfold fc ep;simp
theorem xx(h:sA P K sk ext G):j6 (fc P K sk ext) P G where
 same:=mq h
 gl:=h.glob
 tab:=h.tab
 gm:=h.glob
 load w a b:=Bt P _ w a b
 store w a v b:=yy P _ w a v b
 fn ρ g:=Am h (mq h) (λf fn hf=>by obtain⟨fn',hp,_⟩:=jT hf;exact⟨fn',hp, .inr hp⟩) ρ g
 ty:=Ak h
 mix:=rfl
 ex:=by rw[tZ];exact h.ex
 res f fn hf:=xj h hf
 none f hf:=by rw[rF]at hf;simpa using hf
 inits:=rfl
theorem xw(h:sA P K sk ext G):j6 (fc P K sk ext) (fc P K sk ext) G where
 same:=tA (mq h)
 gl:=h.glob
 tab:=h.tab
 gm:=h.glob
 load _ _ _:=rfl
 store _ _ _ _:=rfl
 fn ρ g:=Am h (tA (mq h)) (λf fn hf=>⟨fn,hf, .inl rfl⟩) ρ g
 ty:=Ak h
 mix:=rfl
 ex:=by rw[tZ];exact h.ex
 res f fn hf:=by obtain⟨_,_,_,h3⟩:=xj h hf;exact⟨fn,hf,rfl,h3⟩
 none f hf:=hf
 inits:=rfl
theorem pN(h:sA P K sk ext G)(f:FuncId)(fn:Func)(c:Code)(i:(fc P K sk ext).funcs[f]?=some fn)(d:fn.body=some c):eY (f==aY) c=true:=by
 obtain⟨l,e,g⟩:=jT i;rcases g with⟨rfl,rfl⟩|⟨_,j,rfl⟩|⟨_,rfl,m,b,a⟩|⟨_,rfl⟩
 ·obtain⟨m,b,a⟩:=h.kbody;rw[d]at b;cases b;have:(f==aY)=false:=by simpa using h.kex
  rw[this];exact a
 ·obtain⟨k,_⟩:=h.ext f fn j e;rw[k]at d;cases d
 ·rw[d]at b;cases b;exact a
 ·cases d
theorem pM(h:sA P K sk ext G)(f:FuncId)(fn:Func)(d:(fc P K sk ext).funcs[f]?=some fn)(b:fn.body.isSome=true)(j:f≠K):jj (fc P K sk ext) P f:=by
 obtain⟨l,c,e⟩:=jT d;rcases e with⟨rfl,_⟩|⟨_,g,rfl⟩|⟨_,rfl,m,i,a⟩|⟨_,rfl⟩
 ·exact absurd rfl j
 ·obtain⟨k,_⟩:=h.ext f fn g c;rw[k]at b;cases b
 ·exact⟨fn,fn,d,c,rfl,rfl,m,i,a⟩
 ·cases b
end
end
section
open Go.RowKit
theorem qp(op:BinOp)(x y:Int):0<=bits op .u64 x y:=by
 unfold bits;simp only[IntKind.wrap_u64];omega
def rl(x k:Int):Int:=
 bits .or .u32 (IntKind.u32.wrap (x*2^min (bits .and .u64 (IntKind.u64.wrap k) 31).toNat 32)) (x/2^min (IntKind.u64.wrap (32- bits .and .u64 (IntKind.u64.wrap k) 31)).toNat 32)
def cS(x a b c:Int):Int:=bits .xor .u32 (bits .xor .u32 (rl x (-a)) (rl x (-b))) (rl x (-c))
def fD(x a b c:Int):Int:=bits .xor .u32 (bits .xor .u32 (rl x (-a)) (rl x (-b))) (x/2^c.toNat)
theorem nW{a b:List UInt8}(h:a=b):Ending.returned (.string ⟨a.toArray⟩)= .returned (.string ⟨b.toArray⟩):=by rw[h]
def fM(l:List UInt8):Int:=l.foldl (λn b=>256*n+(b.toNat:Int)) 0
theorem jQ(l:List UInt8)(b:UInt8):fM (l++[b])=256*fM l+(b.toNat:Int):=by
 simp[fM,List.foldl_append]
theorem wW(n:Nat):∀l:List UInt8,l.length=n->0<=fM l/\fM l<256^n:=by
 induction n with
 |zero=>intro l h;rw[List.length_eq_zero_iff]at h;subst h;simp[fM]
 |succ n a=>
  intro l h;obtain⟨r,b,rfl⟩:∃r b,l=r++[b]:=⟨l.dropLast,l.getLast (by intro c;simp[c]at h),(List.dropLast_concat_getLast _).symm⟩;have:=a r (by simp at h;omega);rw[jQ];have d:=b.toNat_lt;rw[Int.pow_succ];omega
theorem mp(l:List UInt8)(n:Nat)(h:l.length<=n):0<=fM l/\fM l<256^n:=by
 have a:=wW _ l rfl;refine⟨a.1,Int.lt_of_lt_of_le a.2 ?_⟩;have d:=Nat.pow_le_pow_right (n:=256) (by decide) h;have c:=Int.natCast_pow 256 l.length;have b:=Int.natCast_pow 256 n;rw[show((256:Nat):Int)=256 from rfl]at c b;rw[←c,←b];exact Int.ofNat_le.2 d
theorem DF(n:Int)(b:UInt8)(a:0<=n)(d:n<72057594037927936):bits .or .u64 (n*256) (IntKind.u64.wrap (b.toNat:Int))=256*n+(b.toNat:Int):=by
 have c:=b.toNat_lt;obtain⟨m,rfl⟩:=Int.eq_ofNat_of_zero_le a;rw[IntKind.wrap_u64,Int.emod_eq_of_lt (by omega) (by omega)];have e:((m:Int)*256)=((m*256:Nat):Int):=by omega
 rw[e,u64_or_nat _ _ (by omega) (by omega),nat_join 8 (m*256) b.toNat (by omega) (by omega)];omega
theorem qA{k:IntKind}{a b:Int}(h:a=b):Ending.returned (.int k a)= .returned (.int k b):=by rw[h]
def cg(n:Nat):Nat->List UInt8
 |0=>[]
 |k+1=>cg (n/256) k++[UInt8.ofNat n]
theorem bZ(k:Nat):∀n,(cg n k).length=k:=by
 induction k with
 |zero=>intro n;rfl
 |succ k a=>intro n;simp[cg,a]
theorem tS(j:Nat):∀n,cg n (j+1)=UInt8.ofNat (n/256^j)::cg n j:=by
 induction j with
 |zero=>intro n;simp[cg]
 |succ j a=>
  intro n;rw[cg,a (n/256),cg,Nat.div_div_eq_div_mul,←Nat.pow_succ',List.cons_append]
def aA(l:List UInt8):List Value:=l.map λb=>Value.int .u8 (b.toNat:Int)
theorem fb(l:List UInt8):(aA l).length=l.length:=by simp[aA]
def Ba(n k m:Nat):List Value:=List.replicate m (Value.int .u8 0)++aA (cg n (k- m))
theorem yq(n k m:Nat)(h:m<=k):(Ba n k m).length=k:=by simp[Ba,fb,bZ];omega
theorem B9(n k:Nat):Ba n k k=List.replicate k (Value.int .u8 0):=by simp[Ba,cg,aA]
theorem Fe(n k:Nat):Ba n k 0=aA (cg n k):=by simp[Ba]
theorem Fc(n k p:Nat):(Ba n k (p+1))[p]?=some (Value.int .u8 0):=by
 rw[Ba,List.getElem?_append_left (by simp)];simp
theorem Fb(n k p:Nat)(h:p<k)(v:Int)(hv:v=((n/256^(k-(p+1)))%256:Nat)):(Ba n k (p+1)).set p (Value.int .u8 v)=Ba n k p:=by
 subst hv;rw[Ba,Ba,show k- p=(k-(p+1))+1 from by omega,tS,List.replicate_succ',aA,aA,List.map_cons,List.append_assoc,List.set_append_right _ _ (by simp)];simp
def tL(l:List Int):List Value:=l.map λx=>Value.int .u32 x
theorem aH(l:List Int):(tL l).length=l.length:=by simp[tL]
def pm(B:List UInt8)(i:Nat):Int:=IntKind.u32.wrap (fM ((B.drop (4*i)).take 4))
def pJ(W:List Int)(i:Nat):Int:=
 IntKind.u32.wrap (IntKind.u32.wrap (IntKind.u32.wrap (W.getD (i- 16) 0+fD (W.getD (i- 15) 0) 7 18 3)+W.getD (i- 7) 0)+fD (W.getD (i- 2) 0) 17 19 10)
theorem wY(W:List Int)(m:Nat):pJ W (m+16)=IntKind.u32.wrap (IntKind.u32.wrap (IntKind.u32.wrap (W.getD m 0+fD (W.getD (m+1) 0) 7 18 3)+W.getD (m+9) 0)+fD (W.getD (m+14) 0) 17 19 10):=by
 rw[pJ,show m+16- 16=m from by omega,show m+16- 15=m+1 from by omega,show m+16- 7=m+9 from by omega,show m+16- 2=m+14 from by omega]
def aW(B:List UInt8):Nat->List Int
 |0=>[]
 |k+1=>aW B k++[if k<16 then pm B k else pJ (aW B k) k]
theorem g3(B:List UInt8)(k:Nat):(aW B k).length=k:=by
 induction k with
 |zero=>rfl
 |succ k a=>simp[aW,a]
def bW(B:List UInt8)(k:Nat):List Int:=aW B k++List.replicate (64- k) 0
theorem sO(B:List UInt8)(k:Nat)(h:k<=64):(bW B k).length=64:=by simp[bW,g3];omega
theorem ri(B:List UInt8)(k:Nat)(h:k<64)(v:Int)(hv:v=if k<16 then pm B k else pJ (aW B k) k):(tL (bW B k)).set k (.int .u32 v)=tL (bW B (k+1)):=by
 subst hv;rw[bW,bW,show 64- k=(64-(k+1))+1 from by omega,List.replicate_succ,tL,tL,aW];rw[List.map_append,List.set_append_right _ _ (by simp[g3])];simp[g3]
theorem kB(B:List UInt8)(k j:Nat)(h:j<k):(tL (bW B k))[j]?=some (.int .u32 ((aW B k).getD j 0)):=by
 rw[bW,tL,List.map_append,List.getElem?_append_left (by simp[g3];omega)];simp[g3,h]
theorem pz(B:List UInt8)(k:Nat)(a:k<64):(tL (bW B k))[k]?=some (.int .u32 0):=by
 rw[bW,tL,List.map_append,List.getElem?_append_right (by simp[g3])];rw[List.map_replicate,List.getElem?_replicate,if_pos (by simp[g3];omega)]
theorem pA(B:List UInt8):bW B 64=aW B 64:=by simp[bW]
theorem gt(l:List Int):∀v∈tL l,v.oneCell'=true:=by
 intro v a;simp only[tL,List.mem_map]at a;obtain⟨x,_,rfl⟩:=a;rfl
theorem rY(l:List UInt8):∀v∈aA l,v.oneCell'=true:=by
 intro v a;simp only[aA,List.mem_map]at a;obtain⟨x,_,rfl⟩:=a;rfl
theorem dz{p:Tmp}{ty:TypeId}(h:fn.results=#[.cell p ty])(tmps:Array Value)(w:World)(b o:Nat)(cs:List Value)(d:TypeDesc)
 (e:tmps.getD p undef= .pointer (some ⟨b,o,none⟩)) (i:w.rangeAt b o cs)
 (c:P.underlying ty=some d) (g:d.isRow=true) (f:(P.info? ty).map (·.size)=some cs.length):
 (results fn tmps).run P w= .ok (.agg cs.toArray) w:=by
 have a:tmps[p]?.getD undef= .pointer (some ⟨b,o,none⟩):=by simpa using e
 simp[results,h,a,asAddr,run_loadVar_mid w b o ty cs d i c g f]
theorem cx{B:Nat}(a:B<=b):∀(c:List Value) (o:Nat) (w0 w:World),Below B w0 w->Below B w0 (w.setCells b o c)
 |[],_,_,_,h=>h
 |v::r,o,w0,w,h=>by
  rw[World.setCells];exact cx a r (o+1) w0 _ (h.setCell (p:=⟨b,o,none⟩) a v)
theorem FJ{a b:List Value}(h:a=b):Ending.returned (.agg a.toArray)= .returned (.agg b.toArray):=by rw[h]
theorem dp(z:Value)(n:Nat):madeCells #[z] n=(List.replicate n z).toArray:=by
 apply Array.ext
 ·simp[madeCells]
 ·intro i b a;simp[madeCells,Nat.mod_one]
theorem eb(w:World)(L:List Value)(t:TypeId)(b:Nat)(c:b=w.heap.size):(w.alloc (.cells L.toArray t)).rangeAt b 0 L:=λj v a=>by
 rw[Nat.zero_add,World.cell?_alloc_at _ _ _ _ c];simpa using a
theorem cI(w:World)(c:Array Value)(t:TypeId)(b n:Nat)(a:b=w.heap.size)(d:c.size=n):(w.alloc (.cells c t)).there b 0 n:=λj e=>by
 rw[Nat.zero_add,World.cell?_alloc_at _ _ _ _ a,World.frozen?_alloc_at _ _ _ _ a];simp[d,e]
theorem aM{B o:Nat}{L:List Value}(h:Below B w w')(d:b<B)(c:w.rangeAt b o L):w'.rangeAt b o L:=λj v a=>by
 rw[h.cell (p:=⟨b,o+j,none⟩) d];exact c j v a
theorem eu{B o:Nat}(h:Below B w w')(a:b<B)(c:w.there b o n):w'.there b o n:=λj d=>by
 rw[h.cell (p:=⟨b,o+j,none⟩) a,h.frozen (p:=⟨b,o+j,none⟩) a];exact c j d
theorem jc{o:Nat}{L:List Value}(h:w.rangeAt b o L):(w.drewN n).rangeAt b o L:=h
theorem pq{o:Nat}(h:w.there b o k):(w.drewN n).there b o k:=h
end
end Go.Proofs.YtkmoglhgkcnalaaGreatDoor
