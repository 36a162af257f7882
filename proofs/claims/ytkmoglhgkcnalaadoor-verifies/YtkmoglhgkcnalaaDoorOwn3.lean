/- A part of what the last text of the claim imports: texts laid together, and made small, by a program. -/
import Derived.Conc.Events
import Derived.Fence
import Derived.Conc.Fork
import Derived.CallsIn
import Derived.Test.YtkmoglhgkcnalaaDoorOwn2
set_option maxHeartbeats 16000000
set_option maxRecDepth 100000
namespace Go.Proofs.YtkmoglhgkcnalaaDoor
open Go
section
variable{PL PM:Program}{G T:Nat}{D:Nat->Prop}{ρ:Nat->Nat}{wL wM:World}{base:List Frame}
theorem jT{P:Program}{main listen:Bool}{fr:Frame}{cs:List Frame}{w w':World}{id:Nat}{ops:Array Oper}{k:List Item}{t:Nat}
 (ht:fr.todo= .code (.region id ops true)::k) (hr:(choose (.order fr.fn id)).run P w= .ok t w'):
 stepG.exec P main listen fr cs none w= .go {frame:={fr with todo:= .inRegion ops (Region.schedule (P.follows .mixedOrders) ops t)::k},callers:=cs,status:= .running,dying:=none} w':=by
 unfold stepG.exec
 simp only[ht,hr,Bool.not_true,Bool.false_eq_true,↓reduceIte]
theorem rA(P:Program)(q:Question)(w:World):∃n w',(choose q).run P w= .ok n w':=by
 unfold choose
 rw[Sem.run]
 split<;>exact⟨_,_,rfl⟩
theorem yF(E:Env PL PM G)(hm:PL.follows .mixedOrders=PM.follows .mixedOrders)(hW:ci G T D ρ wL wM){fr fr':Frame}{cs cs':List Frame}(hfr:∀ρ',aw G D ρ ρ'->fr'=aT ρ' fr)(hcs:∀ρ',aw G D ρ ρ'->cs'=cs.map (aT ρ')++base)(ok:fJ fr)(oks:∀c∈cs,fJ c/\bE c)
 {id:Nat} {ops:Array Oper} {k:List Item} (ht:fr.todo= .code (.region id ops true)::k) {mL mM lL lM:Bool} {gL:Goroutine} {wL':World} {esL:Array Event} (h:stepG.exec PL mL lL fr cs none wL= .go gL wL' esL) (hT:wL'.drawn<=T):
 ∃D' ρ' gM wM',stepG.exec PM mM lM fr' cs' none wM= .go gM wM'/\eL G D' ρ' base gL gM/\gW G T D ρ wL wM D' ρ' wL' wM':=by
 have hfr0:=hfr ρ hW.self
 have ht':fr'.todo= .code (.region id ops true)::k.map (cA ρ):=by rw[hfr0];show fr.todo.map (cA ρ)=_;rw[ht];rfl
 have hfn:fr'.fn=fr.fn:=by rw[hfr0];rfl
 obtain⟨n,wL1,hn⟩:=rA PL (.order fr.fn id) wL
 rw[jT ht hn]at h
 simp only[GStep.go.injEq]at h
 obtain⟨rfl,rfl,_⟩:=h
 obtain⟨D',ρ1,r',wM',es',e1,e2,e3,_⟩:=dS E.load E.store (λ_ n=>n) (choose (.order fr.fn id)) (choose (.order fr.fn id)) D ρ wL wM hW (λ_ _=> .choose λn=> .pure n) #[] _ wL1 hn rfl hT
 cases e2 with
 | @ok _ n' _ _ hn'=>
   have h1:(choose (.order fr.fn id)).run PM wM= .ok n' wM':=by rw[←Sem.runT_fst PM _ wM #[],e1]
   have h2:n'=n:=hn' ρ1 e3.rel.self
   rw[h2]at h1
   rw[←hfn]at h1
   refine⟨D',ρ1,_,wM',jT ht' h1, ?_,e3⟩
   rw[←hm]
   have hi:=ok.todo
   rw[ht]at hi
   simp only[List.all_cons,Bool.and_eq_true]at hi
   refine xG (λρ' h'=>hfr ρ' (aw.of_ran e3 h')) (λρ' h'=>hcs ρ' (aw.of_ran e3 h')) ok oks (λρ' h'=> ?_) ?_
   ·have q1:=hfr ρ' (aw.of_ran e3 h')
    have q2:k.map (cA ρ)=k.map (cA ρ'):=by
     have:=congrArg Frame.todo (hfr0.symm.trans q1)
     simp only[aT,ht,List.map_cons,List.cons.injEq]at this
     exact this.2
    rw[q2]
    rfl
   ·simp only[List.all_cons,Bool.and_eq_true]
    exact⟨hi.1,hi.2⟩
def zV(fr:Frame):Prop:=fr.roundOf=none/\(fr.todo=[]\/∃k,fr.todo= .code .ret::k)
theorem jS{P:Program}{main listen:Bool}{fr:Frame}{cs:List Frame}{w:World}(h:zV fr):
 stepG.exec P main listen fr cs none w= .go {frame:={fr with mode:= .returning},callers:=cs,status:= .running,dying:=none} w:=by
 obtain⟨h1,h2|⟨k,h2⟩⟩:=h<;>unfold stepG.exec<;>simp only[h1,h2]<;>rfl
theorem BD(hW:ci G T D ρ wL wM){fr fr':Frame}{cs cs':List Frame}(hfr:∀ρ',aw G D ρ ρ'->fr'=aT ρ' fr)(hcs:∀ρ',aw G D ρ ρ'->cs'=cs.map (aT ρ')++base)(ok:fJ fr)(oks:∀c∈cs,fJ c/\bE c)(h:zV fr)(mL mM lL lM:Bool):
 ∃gL gM,stepG.exec PL mL lL fr cs none wL= .go gL wL/\stepG.exec PM mM lM fr' cs' none wM= .go gM wM/\eL G D ρ base gL gM:=by
 have hfr0:=hfr ρ hW.self
 have h':zV fr':=by
  rw[hfr0]
  obtain⟨h1,h2|⟨k,h2⟩⟩:=h
  ·exact⟨by simp[aT,h1], .inl (by simp[aT,h2])⟩
  ·exact⟨by simp[aT,h1], .inr ⟨k.map (cA ρ),by simp[aT,h2,cA]⟩⟩
 refine⟨_,_,jS h,jS h',λρ' hA=> ?_,hcs,⟨ok.todo,ok.defers, .inr rfl,ok.kind,ok.round⟩,oks,rfl,rfl,rfl,rfl⟩
 rw[hfr ρ' hA]
 rfl
end
section
variable{ρ:Nat->Nat}{PL PM:Program}
theorem xk{γ:Type}{g g':γ->Sem Value}:∀l:List γ,(∀x∈l,ag ρ PL PM (aa ρ) (g x) (g' x))->ag ρ PL PM (List.map (aa ρ)) (l.mapM g) (l.mapM g')
 |[],h=>by simp only[List.mapM_nil];exact a9 _ rfl
 |x::l,h=>by
  simp only[List.mapM_cons]
  exact(h x List.mem_cons_self).bind λv=>(xk l λy hy=>h y (List.mem_cons_of_mem _ hy)).bind λvs=>a9 _ rfl
theorem Ed{γ:Type}{g g':γ->Sem Value}(xs:Array γ)(h:∀x∈xs,ag ρ PL PM (aa ρ) (g x) (g' x)):ag ρ PL PM (Array.map (aa ρ)) (xs.mapM g) (xs.mapM g'):=by
 rw[Array.mapM_eq_mapM_toList,Array.mapM_eq_mapM_toList]
 have:=xk (ρ:=ρ) (PL:=PL) (PM:=PM) xs.toList λx hx=>h x (by simpa using hx)
 exact this.bind λvs=>a9 _ (by simp)
def FP(z:Bool)(r:ResultVar):Bool:=
 match r with
 | .tmp t=> !(z&&t==bN)
 | .cell a _=> !(z&&a==bN)
theorem wu(fn:FuncId)(tmps:Array Value)(t:Nat)(h:(fn==aV&&t==bN)=false):(iY ρ fn tmps).getD t undef=aa ρ (tmps.getD t undef):=by
 simp only[Array.getD_eq_getD_getElem?]
 rw[ek ρ fn tmps t h]
 cases tmps[t]? with
 |none=>exact(eD ρ).symm
 |some v=>rfl
theorem rE(hP:aH PL PM)(fn fn':Func)(g:FuncId)(tmps:Array Value)(hr:fn'.results=fn.results)(hok:fn.results.all (FP (g==aV))=true):
 ag ρ PL PM (aa ρ) (results fn tmps) (results fn' (iY ρ g tmps)):=by
 unfold results
 rw[hr]
 refine(Ed fn.results λx hx=> ?_).bind λvs=>a9 _ ?_
 ·have:=Array.all_eq_true'.1 hok x hx
  cases x with
  |tmp t=>
   simp only[FP,Bool.not_eq_true']at this
   exact a9 _ (wu g tmps t this)
  |cell a t=>
   simp only[FP,Bool.not_eq_true']at this
   dsimp only
   rw[wu g tmps a this]
   exact(ka hP _).bind λb=>iQ hP t b
 ·by_cases h1:vs.size=1
  ·simp[h1]
  ·simp[h1,aa]
end
section
variable{PL PM:Program}{G T:Nat}{D:Nat->Prop}{ρ:Nat->Nat}{wL wM:World}{base:List Frame}
theorem Ac{P:Program}{main:Bool}{fr c:Frame}{cs:List Frame}{w w':World}{v:Value}{es:Array Event}{fn:Func}(hd:fr.defers=[])(hm:fr.mode= .returning)(hk:fr.kind= .normal)(hf:P.funcs[fr.fn]?=some fn)
 (hr:(results fn fr.tmps).runT P w #[]=(.ok v w',es)):unwind P main fr (c::cs) none w= .go {frame:=c.finish v,callers:=cs,status:= .running,dying:=none} w' (seen P fr.fn es):=by
 unfold unwind
 simp only[hd,hm,hf,hr,doReturn,hk,GStep.after,Array.append_empty]
theorem Ad{P:Program}{main:Bool}{fr c:Frame}{cs:List Frame}{w w':World}{g:Goroutine}{es:Array Event}{fn:Func}(hd:fr.defers=[])(hm:fr.mode= .returning)(hk:fr.kind= .normal)(hf:P.funcs[fr.fn]?=some fn)
 (h:unwind P main fr (c::cs) none w= .go g w' es):∃v,(results fn fr.tmps).run P w= .ok v w'/\g={frame:=c.finish v,callers:=cs,status:= .running,dying:=none}:=by
 have hr:=Sem.runT_fst P (results fn fr.tmps) w #[]
 unfold unwind at h
 simp only[hd,hm,hf]at h
 generalize (results fn fr.tmps).runT P w #[]=q at h hr
 obtain⟨r,es0⟩:=q
 simp only at hr
 subst hr
 simp only at h
 cases hs:(results fn fr.tmps).run P w with
 |ok v w1=>
  rw[hs]at h
  simp only[doReturn,hk,GStep.after,GStep.go.injEq]at h
  obtain⟨rfl,rfl,_⟩:=h
  exact⟨v,rfl,rfl⟩
 |halt x w1=>
  rw[hs]at h
  cases x<;>simp[GStep.after]at h
theorem un(E:Env PL PM G)(hW:ci G T D ρ wL wM){fr fr' c:Frame}{cs cs':List Frame}(hfr:∀ρ',aw G D ρ ρ'->fr'=aT ρ' fr)(hcs:∀ρ',aw G D ρ ρ'->cs'=(c::cs).map (aT ρ')++base)(ok:fJ fr)(oks:∀x∈c::cs,fJ x/\bE x)
 (hd:fr.defers=[]) (hm:fr.mode= .returning) {fn fn':Func} (hf:PL.funcs[fr.fn]?=some fn) (hf':PM.funcs[fr.fn]?=some fn') (hr:fn'.results=fn.results) (hok:fn.results.all (FP (fr.fn==aV))=true)
 {mL mM:Bool} {gL:Goroutine} {wL':World} {esL:Array Event} (h:unwind PL mL fr (c::cs) none wL= .go gL wL' esL) (hT:wL'.drawn<=T):
 ∃D' ρ' gM wM' esM,unwind PM mM fr' cs' none wM= .go gM wM' esM/\eL G D' ρ' base gL gM/\gW G T D ρ wL wM D' ρ' wL' wM'/\∀e∈esM,gC D' ρ' e:=by
 obtain⟨v,hv,rfl⟩:=Ad hd hm ok.kind hf h
 have hfr0:=hfr ρ hW.self
 have hal:∀ρ',aw G D ρ ρ'->ag ρ' PL PM (aa ρ') (results fn fr.tmps) (results fn' fr'.tmps):=λρ' hA=>by
  rw[hfr ρ' hA]
  exact rE E.same fn fn' fr.fn fr.tmps hr hok
 obtain⟨D',ρ1,r',wM',es',e1,e2,e3,e4⟩:=dS E.load E.store aa _ _ D ρ wL wM hW hal #[] _ wL' hv rfl hT
 cases e2 with
 | @ok _ v' _ _ hv'=>
   have hc0:=hcs ρ hW.self
   simp only[List.map_cons,List.cons_append]at hc0
   have hst:unwind PM mM fr' cs' none wM= .go {frame:=(aT ρ c).finish v',callers:=cs.map (aT ρ)++base,status:= .running,dying:=none} wM' (seen PM fr'.fn (#[]++es')):=by
    rw[hc0]
    refine Ac (fn:=fn') ?_ ?_ ?_ ?_ e1
    ·rw[hfr0];simp[aT,hd]
    ·rw[hfr0];exact hm
    ·rw[hfr0];exact ok.kind
    ·rw[hfr0];exact hf'
   refine⟨D',ρ1,_,wM',_,hst,⟨λρ' h'=> ?_,λρ' h'=> ?_,db c v (oks c List.mem_cons_self).1,λx hx=>oks x (List.mem_cons_of_mem _ hx),rfl,rfl,rfl,rfl⟩,e3,λe he=> ?_⟩
   ·have q:=(hcs ρ hW.self).symm.trans (hcs ρ' (aw.of_ran e3 h'))
    simp only[List.map_cons,List.cons_append,List.cons.injEq]at q
    show(aT ρ c).finish v'=aT ρ' (c.finish v)
    rw[q.1,hv' ρ' h']
    exact er c v (oks c List.mem_cons_self).1 (oks c List.mem_cons_self).2
   ·have q:=(hcs ρ hW.self).symm.trans (hcs ρ' (aw.of_ran e3 h'))
    simp only[List.map_cons,List.cons_append,List.cons.injEq]at q
    exact q.2
   ·have:=cT _ _ _ e he
    exact e4 e (by simpa using this)
end
section
variable{PL PM:Program}{G T:Nat}{D:Nat->Prop}{ρ:Nat->Nat}{wL wM:World}{base:List Frame}
def eY(fr:Frame):Sem Next:=do fr.roundOf.elim (stuck "beginRound: no round") Instr.beginRound;pure .skip
theorem iK{P:Program}{main listen:Bool}{fr:Frame}{cs:List Frame}{w:World}{k:List Item}(ht:fr.todo= .beginRound::k):
 stepG.exec P main listen fr cs none w=stepG.apply P listen fr cs none (eY fr) w:=by
 unfold stepG.exec
 simp only[ht]
 rfl
theorem wU(E:Env PL PM G)(hW:ci G T D ρ wL wM)(hP:ax wL)
 {fr fr':Frame} {cs cs':List Frame} (hfr:∀ρ',aw G D ρ ρ'->fr'=aT ρ' fr) (hcs:∀ρ',aw G D ρ ρ'->cs'=cs.map (aT ρ')++base) (ok:fJ fr) (oks:∀c∈cs,fJ c/\bE c)
 {k:List Item} (ht:fr.todo= .beginRound::k) {mL mM lL:Bool} {gL:Goroutine} {wL':World} {esL:Array Event} (h:stepG.exec PL mL lL fr cs none wL= .go gL wL' esL) (hT:wL'.drawn<=T) (hq:gL.status= .running/\∀c,gL.frame.mode≠ .panicking c) (hd:gL.dying=none):
 ∃D' ρ' gM wM' esM,stepG.exec PM mM true fr' cs' none wM= .go gM wM' esM/\eL G D' ρ' base gL gM/\gW G T D ρ wL wM D' ρ' wL' wM'/\∀e∈esM,gC D' ρ' e:=by
 have hfr0:=hfr ρ hW.self
 have ht':fr'.todo= .beginRound::k.map (cA ρ):=by rw[hfr0];show fr.todo.map (cA ρ)=_;rw[ht];rfl
 have hcalm:bE fr:=λo d ho=>by
  unfold Frame.oper? at ho
  rw[ht]at ho
  cases ho
 have hal:∀ρ',aw G D ρ ρ'->ag ρ' PL PM (ea ρ') (eY fr) (eY fr'):=λρ' hA=>by
  rw[hfr ρ' hA]
  unfold eY
  show ag ρ' PL PM (ea ρ') (do fr.roundOf.elim _ Instr.beginRound;pure .skip) (do(fr.roundOf.map ρ').elim _ Instr.beginRound;pure .skip)
  cases fr.roundOf with
  |none=>exact .dead trivial
  |some l=>exact uQ (mr E.same l)
 have h4:bO PL (eY fr):=oj _
 have hno:∀n w1,(eY fr).run PL wL= .ok n w1->n= .skip:=λn w1 e=>by
  unfold eY at e
  rw[Sem.run_bind]at e
  cases hb:(fr.roundOf.elim (stuck "beginRound: no round") Instr.beginRound:Sem Unit).run PL wL with
  |ok a w2=>rw[hb]at e;cases e;rfl
  |halt x w2=>rw[hb]at e;cases e
 rw[iK ht]at h
 rw[iK ht']
 exact jc E.tab E.load E.store hW hfr hcs ok oks hcalm hal h4 (λk w1=>dG (hal ρ hW.self) wL hP k w1) (λf args w1 e=>by have:=hno _ _ e;cases this) (λl f tmps a b w1 e=>by have:=hno _ _ e;cases this) h hT hq hd
theorem vl{w w':World}{P:Program}{b:Nat}{calls:List Deferred}(hP:ax w)(h:(Instr.takeDeferred b).run P w= .ok calls w'):calls=[]:=by
 unfold Instr.takeDeferred at h
 simp only[Bind.bind,getObj,Sem.bind,Sem.run]at h
 split at h
 ·cases h
 ·rename_i o ho _
  have hq:=hP _ _ ‹_›
  cases o with
  |deferred ds=>
   cases ds with
   |none=>cases h
   |some ds=>
    have hds:ds=[]:=by simpa[bQ]using hq
    subst hds
    simp only[setObj,Sem.bind,Sem.run]at h
    split at h
    ·cases h
    ·cases h;rfl
    ·cases h
  |_=>cases h
 ·cases h
theorem vf{P:Program}{main:Bool}{fr:Frame}{cs:List Frame}{w w':World}{b:Nat}{args:Array Value}{ds calls:List Deferred}{es:Array Event}(hd:fr.defers=⟨.collected b,args⟩::ds)
 (hr:(Instr.takeDeferred b).runT P w #[]=(.ok calls w',es)):unwind P main fr cs none w= .go {frame:={fr with defers:=calls++ds},callers:=cs,status:= .running,dying:=none} w' (seen P fr.fn es):=by
 unfold unwind
 simp only[hd,hr,GStep.after,Array.append_empty]
theorem qp{P:Program}{main:Bool}{fr:Frame}{cs:List Frame}{w w':World}{b:Nat}{args:Array Value}{ds:List Deferred}{g:Goroutine}{es:Array Event}(hd:fr.defers=⟨.collected b,args⟩::ds)
 (h:unwind P main fr cs none w= .go g w' es):∃calls,(Instr.takeDeferred b).run P w= .ok calls w'/\g={frame:={fr with defers:=calls++ds},callers:=cs,status:= .running,dying:=none}:=by
 have hr:=Sem.runT_fst P (Instr.takeDeferred b) w #[]
 unfold unwind at h
 simp only[hd]at h
 generalize (Instr.takeDeferred b).runT P w #[]=q at h hr
 obtain⟨r,es0⟩:=q
 simp only at hr
 subst hr
 simp only at h
 cases hs:(Instr.takeDeferred b).run P w with
 |ok v w1=>
  rw[hs]at h
  simp only[GStep.after,GStep.go.injEq]at h
  obtain⟨rfl,rfl,_⟩:=h
  exact⟨v,rfl,rfl⟩
 |halt x w1=>
  rw[hs]at h
  simp[GStep.after]at h
theorem yd(E:Env PL PM G)(hW:ci G T D ρ wL wM)(hP:ax wL){fr fr':Frame}{cs cs':List Frame}(hfr:∀ρ',aw G D ρ ρ'->fr'=aT ρ' fr)(hcs:∀ρ',aw G D ρ ρ'->cs'=cs.map (aT ρ')++base)(ok:fJ fr)(oks:∀x∈cs,fJ x/\bE x)
 {b:Nat} {args:Array Value} {ds:List Deferred} (hd:fr.defers=⟨.collected b,args⟩::ds) {mL mM:Bool} {gL:Goroutine} {wL':World} {esL:Array Event} (h:unwind PL mL fr cs none wL= .go gL wL' esL) (hT:wL'.drawn<=T):
 ∃D' ρ' gM wM' esM,unwind PM mM fr' cs' none wM= .go gM wM' esM/\eL G D' ρ' base gL gM/\gW G T D ρ wL wM D' ρ' wL' wM'/\∀e∈esM,gC D' ρ' e:=by
 obtain⟨calls,hv,rfl⟩:=qp hd h
 have hnil:=vl hP hv
 have hfr0:=hfr ρ hW.self
 have hdM:∀ρ',aw G D ρ ρ'->fr'.defers=⟨.collected (ρ' b),args.map (aa ρ')⟩::ds.map (lq ρ'):=λρ' hA=>by
  rw[hfr ρ' hA]
  show fr.defers.map (lq ρ')=_
  rw[hd]
  rfl
 have hb:∀ρ',aw G D ρ ρ'->ρ' b=ρ b:=λρ' hA=>by
  have:=(hdM ρ' hA).symm.trans (hdM ρ hW.self)
  simp only[List.cons.injEq,Deferred.mk.injEq,Target.collected.injEq]at this
  exact this.1.1
 obtain⟨D',ρ1,r',wM',es',e1,e2,e3,e4⟩:=dS E.load E.store (λρ l=>l.map (lq ρ)) (Instr.takeDeferred b) (Instr.takeDeferred (ρ b)) D ρ wL wM hW (λρ' hA=>by rw[←hb ρ' hA];exact gU b) #[] _ wL' hv rfl hT
 cases e2 with
 | @ok _ v' _ _ hv'=>
   have hv0:v'=[]:=by rw[hv' ρ1 e3.rel.self,hnil];rfl
   refine⟨D',ρ1,_,wM',_,vf (hdM ρ hW.self) e1,⟨λρ' h'=> ?_,λρ' h'=>hcs ρ' (aw.of_ran e3 h'), ?_,oks,rfl,rfl,rfl,rfl⟩,e3,λe he=> ?_⟩
   ·have q:=(hdM ρ hW.self).symm.trans (hdM ρ' (aw.of_ran e3 h'))
    simp only[List.cons.injEq]at q
    show{fr' with defers:=v'++ds.map (lq ρ)}=aT ρ' {fr with defers:=calls++ds}
    rw[q.2,hv0,hnil,hfr ρ' (aw.of_ran e3 h')]
    rfl
   ·refine⟨ok.todo, ?_,ok.mode,ok.kind,ok.round⟩
    have:=ok.defers
    rw[hd]at this
    simp only[cd,List.all_cons,Bool.and_eq_true]at this
    show cd (calls++ds)=true
    rw[hnil]
    exact this.2
   ·have:=cT _ _ _ e he
    exact e4 e (by simpa using this)
end
section
variable{PL PM:Program}{G T:Nat}{D:Nat->Prop}{ρ:Nat->Nat}{wL wM:World}{base:List Frame}
theorem yE{w w':World}{P:Program}{l:Nat}{jump:Option Code}(hP:ax w)(h:(Instr.endLoop l).run P w= .ok jump w'):jump.all (eM false)=true:=by
 unfold Instr.endLoop Instr.getLoop at h
 simp only[Bind.bind,getObj,Sem.bind,Sem.run]at h
 split at h
 ·cases h
 ·rename_i o ho _
  have hq:=hP _ _ ‹_›
  cases o with
  |loop r=>
   simp only[Pure.pure,Sem.bind]at h
   split at h
   ·obtain⟨x,w1,hx,_⟩:=ip (PL:=P) (α:=PUnit) (.error "range function recovered a loop body panic and did not resume panicking") w
    rw[Sem.run_bind',hx]at h
    cases h
   ·simp only[setObj,Sem.bind,Sem.run]at h
    simp only[bQ,Bool.and_eq_true]at hq
    split at h
    ·cases h
    ·cases h;exact hq.1.2
    ·cases h
  |_=>cases h
 ·cases h
theorem kF{P:Program}{main listen:Bool}{fr:Frame}{cs:List Frame}{w w':World}{l:Nat}{k:List Item}{jump:Option Code}{es:Array Event}(ht:fr.todo= .endRangeFunc l::k)
 (hr:(Instr.endLoop l).runT P w #[]=(.ok jump w',es)):stepG.exec P main listen fr cs none w= .go {frame:={fr with todo:=(jump.map Item.code).toList++k},callers:=cs,status:= .running,dying:=none} w' (seen P fr.fn es):=by
 unfold stepG.exec
 simp only[ht,hr,GStep.after,Array.append_empty]
theorem pT{P:Program}{main listen:Bool}{fr:Frame}{cs:List Frame}{w w':World}{l:Nat}{k:List Item}{g:Goroutine}{es:Array Event}(ht:fr.todo= .endRangeFunc l::k)(hm:fr.mode= .run\/fr.mode= .returning)
 (h:stepG.exec P main listen fr cs none w= .go g w' es) (hq:∀c,g.frame.mode≠ .panicking c):∃jump,(Instr.endLoop l).run P w= .ok jump w'/\g={frame:={fr with todo:=(jump.map Item.code).toList++k},callers:=cs,status:= .running,dying:=none}:=by
 have hr:=Sem.runT_fst P (Instr.endLoop l) w #[]
 unfold stepG.exec at h
 simp only[ht]at h
 generalize (Instr.endLoop l).runT P w #[]=q at h hr
 obtain⟨r,es0⟩:=q
 simp only at hr
 subst hr
 simp only at h
 cases hs:(Instr.endLoop l).run P w with
 |ok v w1=>
  rw[hs]at h
  simp only[GStep.after,GStep.go.injEq]at h
  obtain⟨rfl,rfl,_⟩:=h
  exact⟨v,rfl,rfl⟩
 |halt x w1=>
  rw[hs]at h
  cases x with
  |panic v=>
   simp only[GStep.after,GStep.go.injEq]at h
   obtain⟨rfl,_,_⟩:=h
   obtain⟨c,e⟩:=iC fr [{v,recovered:=false}] hm
   exact absurd e (hq c)
  |_=>simp[GStep.after]at h
theorem sq(E:Env PL PM G)(hW:ci G T D ρ wL wM)(hP:ax wL){fr fr':Frame}{cs cs':List Frame}(hfr:∀ρ',aw G D ρ ρ'->fr'=aT ρ' fr)(hcs:∀ρ',aw G D ρ ρ'->cs'=cs.map (aT ρ')++base)(ok:fJ fr)(oks:∀x∈cs,fJ x/\bE x)
 {l:Nat} {k:List Item} (ht:fr.todo= .endRangeFunc l::k) {mL mM lL lM:Bool} {gL:Goroutine} {wL':World} {esL:Array Event} (h:stepG.exec PL mL lL fr cs none wL= .go gL wL' esL) (hT:wL'.drawn<=T) (hq:∀c,gL.frame.mode≠ .panicking c):
 ∃D' ρ' gM wM' esM,stepG.exec PM mM lM fr' cs' none wM= .go gM wM' esM/\eL G D' ρ' base gL gM/\gW G T D ρ wL wM D' ρ' wL' wM'/\∀e∈esM,gC D' ρ' e:=by
 obtain⟨jump,hv,rfl⟩:=pT ht ok.mode h hq
 have hj:=yE hP hv
 have htM:∀ρ',aw G D ρ ρ'->fr'.todo= .endRangeFunc (ρ' l)::k.map (cA ρ'):=λρ' hA=>by
  rw[hfr ρ' hA]
  show fr.todo.map (cA ρ')=_
  rw[ht]
  rfl
 have hl:∀ρ',aw G D ρ ρ'->ρ' l=ρ l:=λρ' hA=>by
  have:=(htM ρ' hA).symm.trans (htM ρ hW.self)
  simp only[List.cons.injEq,Item.endRangeFunc.injEq]at this
  exact this.1
 obtain⟨D',ρ1,r',wM',es',e1,e2,e3,e4⟩:=dS E.load E.store (λ_ j=>j) (Instr.endLoop l) (Instr.endLoop (ρ l)) D ρ wL wM hW (λρ' hA=>by rw[←hl ρ' hA];exact n0 E.same l) #[] _ wL' hv rfl hT
 cases e2 with
 | @ok _ v' _ _ hv'=>
   have hv0:v'=jump:=hv' ρ1 e3.rel.self
   subst hv0
   have hi:=ok.todo
   rw[ht]at hi
   simp only[List.all_cons,Bool.and_eq_true]at hi
   have hz:(fr.fn==aV)=false:=by
    have:=hi.1
    simpa[kx]using this
   refine⟨D',ρ1,_,wM',_,kF (htM ρ hW.self) e1,xG (λρ' h'=>hfr ρ' (aw.of_ran e3 h')) (λρ' h'=>hcs ρ' (aw.of_ran e3 h')) ok oks (λρ' h'=> ?_) ?_,e3,λe he=> ?_⟩
   ·have q:=(htM ρ hW.self).symm.trans (htM ρ' (aw.of_ran e3 h'))
    simp only[List.cons.injEq]at q
    rw[q.2]
    cases v'<;>simp[cA]
   ·rw[hz]at hi⊢
    cases v' with
    |none=>simpa using hi.2
    |some c=>simp only[Option.map_some,Option.toList_some,List.cons_append,List.nil_append,List.all_cons,Bool.and_eq_true];exact⟨hj,hi.2⟩
   ·have:=cT _ _ _ e he
    exact e4 e (by simpa using this)
end
inductive fe (fr:Frame):Option Code->Prop
 |done (h:fr.todo=[]):fe fr none
 |ret {k:List Item} (h:fr.todo= .code .ret::k):fe fr (some .ret)
 |exit {id:Nat} {k:List Item} (h:fr.todo= .code (.exit id)::k) (he:exitTo id k=none):fe fr (some (.exit id))
theorem fe.ok{fr:Frame}{j:Option Code}(h:fe fr j):j.all (eM false)=true:=by cases h<;>rfl
theorem fe.ren{fr:Frame}{j:Option Code}(h:fe fr j)(ρ:Nat->Nat):fe (aT ρ fr) j:=by
 cases h with
 |done h=>exact .done (by simp[aT,h])
 |ret h=>exact .ret (k:=_) (by simp only[aT,h,List.map_cons,cA];rfl)
 | @exit id k h he=>exact .exit (k:=k.map (cA ρ)) (by simp[aT,h,cA]) (by rw[mS,he];rfl)
section
variable{PL PM:Program}{G T:Nat}{D:Nat->Prop}{ρ:Nat->Nat}{wL wM:World}{base:List Frame}
theorem mU{P:Program}{main listen:Bool}{fr c:Frame}{cs:List Frame}{w w':World}{l:Nat}{j:Option Code}{v:Value}{es:Array Event}(hj:fe fr j)(hl:fr.roundOf=some l)(hk:fr.kind= .normal)
 (hr:(Instr.endRound l j).runT P w #[]=(.ok v w',es)):stepG.exec P main listen fr (c::cs) none w= .go {frame:=c.finish v,callers:=cs,status:= .running,dying:=none} w' (seen P fr.fn es):=by
 unfold stepG.exec
 cases hj with
 |done h=>simp only[h,hl,hr,doReturn,hk,GStep.after,Array.append_empty]
 |ret h=>simp only[h,hl,hr,doReturn,hk,GStep.after,Array.append_empty]
 |exit h he=>simp only[h,he,Option.elim_none,hl,hr,doReturn,hk,GStep.after,Array.append_empty]
theorem sn{P:Program}{main listen:Bool}{fr c:Frame}{cs:List Frame}{w w':World}{l:Nat}{j:Option Code}{g:Goroutine}{es:Array Event}(hj:fe fr j)(hl:fr.roundOf=some l)(hk:fr.kind= .normal)
 (h:stepG.exec P main listen fr (c::cs) none w= .go g w' es):∃v,(Instr.endRound l j).run P w= .ok v w'/\g={frame:=c.finish v,callers:=cs,status:= .running,dying:=none}:=by
 have hr:=Sem.runT_fst P (Instr.endRound l j) w #[]
 unfold stepG.exec at h
 cases hj with
 |done ht=>
  simp only[ht,hl]at h
  generalize (Instr.endRound l none).runT P w #[]=q at h hr
  obtain⟨r,es0⟩:=q
  simp only at hr
  subst hr
  simp only at h
  cases hs:(Instr.endRound l none).run P w with
  |ok v w1=>
   rw[hs]at h
   simp only[doReturn,hk,GStep.after,GStep.go.injEq]at h
   obtain⟨rfl,rfl,_⟩:=h
   exact⟨v,rfl,rfl⟩
  |halt x w1=>
   rw[hs]at h
   simp[GStep.after]at h
 |ret ht=>
  simp only[ht,hl]at h
  generalize (Instr.endRound l (some .ret)).runT P w #[]=q at h hr
  obtain⟨r,es0⟩:=q
  simp only at hr
  subst hr
  simp only at h
  cases hs:(Instr.endRound l (some .ret)).run P w with
  |ok v w1=>
   rw[hs]at h
   simp only[doReturn,hk,GStep.after,GStep.go.injEq]at h
   obtain⟨rfl,rfl,_⟩:=h
   exact⟨v,rfl,rfl⟩
  |halt x w1=>
   rw[hs]at h
   simp[GStep.after]at h
 | @exit id _ ht he=>
   simp only[ht,he,Option.elim_none,hl]at h
   generalize (Instr.endRound l (some (.exit id))).runT P w #[]=q at h hr
   obtain⟨r,es0⟩:=q
   simp only at hr
   subst hr
   simp only at h
   cases hs:(Instr.endRound l (some (.exit id))).run P w with
   |ok v w1=>
    rw[hs]at h
    simp only[doReturn,hk,GStep.after,GStep.go.injEq]at h
    obtain⟨rfl,rfl,_⟩:=h
    exact⟨v,rfl,rfl⟩
   |halt x w1=>
    rw[hs]at h
    simp[GStep.after]at h
theorem wj(E:Env PL PM G)(hW:ci G T D ρ wL wM){fr fr' c:Frame}{cs cs':List Frame}(hfr:∀ρ',aw G D ρ ρ'->fr'=aT ρ' fr)(hcs:∀ρ',aw G D ρ ρ'->cs'=(c::cs).map (aT ρ')++base)(ok:fJ fr)(oks:∀x∈c::cs,fJ x/\bE x)
 {l:Nat} {j:Option Code} (hj:fe fr j) (hl:fr.roundOf=some l) {mL mM lL lM:Bool} {gL:Goroutine} {wL':World} {esL:Array Event} (h:stepG.exec PL mL lL fr (c::cs) none wL= .go gL wL' esL) (hT:wL'.drawn<=T):
 ∃D' ρ' gM wM' esM,stepG.exec PM mM lM fr' cs' none wM= .go gM wM' esM/\eL G D' ρ' base gL gM/\gW G T D ρ wL wM D' ρ' wL' wM'/\∀e∈esM,gC D' ρ' e:=by
 obtain⟨v,hv,rfl⟩:=sn hj hl ok.kind h
 have hfr0:=hfr ρ hW.self
 have hlM:∀ρ',aw G D ρ ρ'->fr'.roundOf=some (ρ' l):=λρ' hA=>by
  rw[hfr ρ' hA]
  show fr.roundOf.map ρ'=_
  rw[hl]
  rfl
 have hll:∀ρ',aw G D ρ ρ'->ρ' l=ρ l:=λρ' hA=>Option.some.inj ((hlM ρ' hA).symm.trans (hlM ρ hW.self))
 obtain⟨D',ρ1,r',wM',es',e1,e2,e3,e4⟩:=dS E.load E.store aa (Instr.endRound l j) (Instr.endRound (ρ l) j) D ρ wL wM hW (λρ' hA=>by rw[←hll ρ' hA];exact pP l j hj.ok) #[] _ wL' hv rfl hT
 cases e2 with
 | @ok _ v' _ _ hv'=>
   have hc0:=hcs ρ hW.self
   simp only[List.map_cons,List.cons_append]at hc0
   have hst:stepG.exec PM mM lM fr' cs' none wM= .go {frame:=(aT ρ c).finish v',callers:=cs.map (aT ρ)++base,status:= .running,dying:=none} wM' (seen PM fr'.fn (#[]++es')):=by
    rw[hc0]
    refine mU ?_ (hlM ρ hW.self) ?_ e1
    ·rw[hfr0];exact hj.ren ρ
    ·rw[hfr0];exact ok.kind
   refine⟨D',ρ1,_,wM',_,hst,⟨λρ' h'=> ?_,λρ' h'=> ?_,db c v (oks c List.mem_cons_self).1,λx hx=>oks x (List.mem_cons_of_mem _ hx),rfl,rfl,rfl,rfl⟩,e3,λe he=> ?_⟩
   ·have q:=(hcs ρ hW.self).symm.trans (hcs ρ' (aw.of_ran e3 h'))
    simp only[List.map_cons,List.cons_append,List.cons.injEq]at q
    show(aT ρ c).finish v'=aT ρ' (c.finish v)
    rw[q.1,hv' ρ' h']
    exact er c v (oks c List.mem_cons_self).1 (oks c List.mem_cons_self).2
   ·have q:=(hcs ρ hW.self).symm.trans (hcs ρ' (aw.of_ran e3 h'))
    simp only[List.map_cons,List.cons_append,List.cons.injEq]at q
    exact q.2
   ·have:=cT _ _ _ e he
    exact e4 e (by simpa using this)
end
def ib(wL wM:World):Prop:=∃c e f,(∀v∈c,aI v=true)/\wL.heap[dN]?=some (.cells c e f)/\wM.heap[dN]?=some (.cells c e f)
def rL(e:Event):Prop:=∃a:Addr,a.block=dN/\e=⟨.cell a,false,false⟩
def A0(PL:Program):Prop:=∃d,PL.underlying pU=some d/\(∀fs,d≠ .struct fs)/\∀n e,d≠ .array n e
section
variable{PL PM:Program}{G T:Nat}{D:Nat->Prop}{ρ:Nat->Nat}{wL wM:World}{base:List Frame}
theorem ib.ran{D':Nat->Prop}{ρ':Nat->Nat}{wL' wM':World}(h:ib wL wM)(hG:dN<G)(hW:ci G T D ρ wL wM)(hr:gW G T D ρ wL wM D' ρ' wL' wM'):ib wL' wM':=by
 obtain⟨c,e,f,h1,h2,h3⟩:=h
 refine⟨c,e,f,h1, ?_, ?_⟩
 ·rw[hr.keepL dN (bY h2) λhd=>by have:=hW.out _ hd;omega]
  exact h2
 ·rw[hr.keep dN (bY h3) λb hb e=>by have:=hW.out _ hb;have:=hW.glob b;omega]
  exact h3
theorem C2(a:Addr)(n:Nat):(a.add n).block=a.block:=by
 unfold Addr.add
 split<;>rfl
theorem uN{α:Type}{k:IntKind}{x y:Int}{c:BoundsCode}{w w':World}{v:α}(h:(boundsPanic k x y c:Sem α).run PL w= .ok v w'):False:=by
 unfold boundsPanic at h
 dsimp only at h
 split at h
 all_goals
  rw[Sem.run_bind]at h
  revert h
  generalize Sem.run PL _ w=q
  intro h
  cases q with
  |halt z w1=>cases h
  |ok b w1=>
   obtain⟨y1,w2,h1,_⟩:=ip (PL:=PL) (α:=α) (.bounds (IntKind.i64.wrap x) y b c) w1
   exact absurd (h1.symm.trans h) (by intro e;cases e)
theorem uD(hP:aH PL PM){t:TypeId}{a:Addr}{ix v:Value}{w w':World}(h:(Instr.indexAt t (.pointer (some a)) ix).run PL w= .ok v w'):
 w'=w/\(∀ρ,aa ρ ix=ix)/\(∃b:Addr,v= .pointer (some b)/\b.block=a.block)/\∀wM es,(Instr.indexAt t (.pointer (some a)) ix).runT PM wM es=(.ok v wM,es):=by
 cases ix with
 |int k i=>
  unfold Instr.indexAt at h⊢
  simp only[asIntOf,underlying,program,bind,pure,Sem.bind,Sem.run,Sem.runT,←hP.under]at h⊢
  cases hu:PL.underlying t with
  |none=>simp[hu,stuck,Sem.bind]at h
  |some d=>
   simp only[hu,Sem.bind]at h⊢
   cases d with
   |array n e=>
    simp only[Instr.sureAddr,pure,Sem.bind,Sem.run,Sem.runT,hu,←hP.under]at h⊢
    by_cases hb:0<=i/\i<(n:Int)
    ·simp only[hb,and_self,↓reduceIte,sizeOf,typeInfo,program,bind,pure,Sem.bind,Sem.run,Sem.runT,←hP.info]at h⊢
     cases hi:PL.info? e with
     |none=>simp[hi,stuck,Sem.bind]at h
     |some z=>
      simp only[hi,Sem.bind,Sem.run,Sem.runT,Result.ok.injEq]at h⊢
      obtain⟨rfl,rfl⟩:=h
      exact⟨rfl,λρ=>by simp[aa],⟨_,rfl,C2 _ _⟩,λ_ _=>by first|rfl|trivial⟩
    ·simp only[hb,↓reduceIte]at h
     split at h
     ·simp[unsupported]at h
     ·exfalso
      exact uN h
   |_=>simp[stuck,Sem.bind]at h
 |pointer p=>cases p<;>simp[Instr.indexAt,asIntOf,stuck,unsupported,bind,Sem.bind]at h
 |_=>simp[Instr.indexAt,asIntOf,stuck,bind,Sem.bind]at h
theorem cK{P:Program}{main listen:Bool}{fr:Frame}{cs:List Frame}{w:World}{ops:Array Oper}{i:Nat}{rest:List Nat}{k:List Item}{o:Oper}
 (ht:fr.todo= .inRegion ops (i::rest)::k) (ho:ops[i]?=some o) (hw:Region.wanted o (yielded ops fr.tmps)=true) (hop:∀c,o.op≠ .defer c):
 stepG.exec P main listen fr cs none w=stepG.apply P listen fr cs none (execOp fr.eval o) w:=by
 unfold stepG.exec
 simp only[ht,ho,Option.map_some,Option.getD_some,hw,↓reduceIte]
 unfold stepG.oper
 simp only[Frame.oper?,ht,ho]
 split
 ·rename_i e
  exact absurd e (hop _)
 ·rfl
theorem xO(ρ:Nat->Nat)(tmps:Array Value){v:Value}(hv:eT ρ v=v):(iY ρ aV tmps).setIfInBounds bN v=iY ρ aV (tmps.setIfInBounds bN v):=by
 apply Array.ext_getElem?
 intro i
 by_cases hi:(aV==aV&&i==bN)=true
 ·rw[kr ρ aV _ i hi]
  have e:bN=i:=by simpa using Eq.symm (by simpa using hi:i=bN)
  subst e
  rw[Array.getElem?_setIfInBounds,Array.getElem?_setIfInBounds,sV]
  simp only[↓reduceIte]
  split
  ·simp[hv]
  ·rfl
 ·have hi':(aV==aV&&i==bN)=false:=by simpa using hi
  have hne:bN≠i:=λe=>by subst e;simp at hi'
  rw[ek ρ aV _ i hi',sN hne,sN hne,ek ρ aV _ i hi']
theorem tz(ρ:Nat->Nat)(fr:Frame)(v:Value){ops:Array Oper}{i:Nat}{rest:List Nat}{k:List Item}{o:Oper}(ht:fr.todo= .inRegion ops (i::rest)::k)(ho:ops[i]?=some o)(hf:fr.fn=aV)(hd:o.dst=some bN)(hv:eT ρ v=v):
 (aT ρ fr).finish v=aT ρ (fr.finish v):=by
 obtain⟨fn,tmps,todo,defers,mode,kind,roundOf⟩:=fr
 simp only at ht hf
 subst ht hf
 simp only[aT,Frame.finish,List.map_cons,cA,ho,Option.bind_some,hd,xO ρ tmps hv]
theorem vK(E:Env PL PM G)(hW:ci G T D ρ wL wM)(hP:ax wL)
 {fr fr':Frame} {cs cs':List Frame} (hfr:∀ρ',aw G D ρ ρ'->fr'=aT ρ' fr) (hcs:∀ρ',aw G D ρ ρ'->cs'=cs.map (aT ρ')++base) (ok:fJ fr) (oks:∀c∈cs,fJ c/\bE c)
 {ops:Array Oper} {i:Nat} {rest:List Nat} {k:List Item} {o:Oper} (ht:fr.todo= .inRegion ops (i::rest)::k) (ho:ops[i]?=some o) (hw:Region.wanted o (yielded ops fr.tmps)=true)
 (hf:fr.fn=aV) {t:TypeId} {ix:Operand} (hop:o.op= .indexAddr t (.global dN) ix) (hx:l9 true ix=true) (hdst:o.dst=some bN)
 {mL mM lL:Bool} {gL:Goroutine} {wL':World} {esL:Array Event} (h:stepG.exec PL mL lL fr cs none wL= .go gL wL' esL) (hq:gL.status= .running/\∀c,gL.frame.mode≠ .panicking c) (hd:gL.dying=none):
 ∃gM,wL'=wL/\stepG.exec PM mM true fr' cs' none wM= .go gM wM/\eL G D ρ base gL gM:=by
 have hfr0:=hfr ρ hW.self
 have ht':fr'.todo= .inRegion ops (i::rest)::k.map (cA ρ):=by rw[hfr0];show fr.todo.map (cA ρ)=_;rw[ht];rfl
 have hw':Region.wanted o (yielded ops fr'.tmps)=true:=by
  rw[hfr0]
  have:yielded ops (aT ρ fr).tmps=yielded ops fr.tmps:=funext λj=>ee ρ fr.fn ops fr.tmps j
  rw[this]
  exact hw
 have hnd:∀c,o.op≠ .defer c:=λc e=>by rw[hop]at e;cases e
 rw[cK ht ho hw hnd]at h
 have hex:execOp fr.eval o=(do pure (.value (←Instr.indexAt t (fr.eval (.global dN)) (fr.eval ix))):Sem Next):=by unfold execOp;rw[hop]
 have hex':execOp fr'.eval o=(do pure (.value (←Instr.indexAt t (fr'.eval (.global dN)) (fr'.eval ix))):Sem Next):=by unfold execOp;rw[hop]
 rw[hex]at h
 obtain⟨n,hrun,_,rfl⟩:=nT ok.noCall ok.mode (eq _) h hq (λk w1=>dG (bc (iS (ρ:=id) E.same t _ _)) wL hP k w1) hd
 rw[Sem.run_bind]at hrun
 cases hs:(Instr.indexAt t (fr.eval (.global dN)) (fr.eval ix)).run PL wL with
 |halt x w1=>rw[hs]at hrun;cases hrun
 |ok v w1=>
  rw[hs]at hrun
  cases hrun
  obtain⟨rfl,h1,⟨b,rfl,h2⟩,h3⟩:=uD E.same hs
  have hev:fr'.eval ix=fr.eval ix:=by
   rw[hfr0,fC fr ix (by rw[hf];simpa using hx)]
   exact h1 ρ
  have hr:(execOp fr'.eval o).runT PM wM #[]=(.ok (.value (.pointer (some b))) wM,#[]):=by
   rw[hex',hev]
   show Sem.runT PM (Sem.bind _ _) wM #[]=_
   rw[Sem.runT_bind']
   have:=h3 wM #[]
   simp only[Frame.eval]at this⊢
   rw[this]
   rfl
  have hc':dE fr':=by
   intro d w r s k2 e
   rw[ht']at e
   cases e
  have hk:fr'.kind= .normal:=by rw[hfr0];exact ok.kind
  refine⟨{frame:=fr'.finish (.pointer (some b)),callers:=cs',status:= .running,dying:=none},rfl, ?_,⟨λρ' hA=> ?_,hcs, ?_,oks,rfl,rfl,rfl,rfl⟩⟩
  ·rw[cK ht' ho hw' hnd,cH hc' hr rfl]
   simp only[fH,hk]
   congr 1
  ·show fr'.finish _=aT ρ' (fr.finish _)
   rw[hfr ρ' hA]
   exact tz ρ' fr _ ht ho hf hdst (by simp[eT,jQ,h2])
  ·exact db fr _ ok
theorem ym(E:Env PL PM G)(hty:A0 PL)(hW:ci G T D ρ wL wM)(hP:ax wL)(hR:ib wL wM)
 {fr fr':Frame} {cs cs':List Frame} (hfr:∀ρ',aw G D ρ ρ'->fr'=aT ρ' fr) (hcs:∀ρ',aw G D ρ ρ'->cs'=cs.map (aT ρ')++base) (ok:fJ fr) (oks:∀c∈cs,fJ c/\bE c)
 {ops:Array Oper} {i:Nat} {rest:List Nat} {k:List Item} {o:Oper} (ht:fr.todo= .inRegion ops (i::rest)::k) (ho:ops[i]?=some o) (hw:Region.wanted o (yielded ops fr.tmps)=true)
 (hf:fr.fn=aV) (hop:o.op= .load pU (.tmp bN)) (hslot:jQ (fr.eval (.tmp bN))=true) (hcalm:bE fr)
 {mL mM lL:Bool} {gL:Goroutine} {wL':World} {esL:Array Event} (h:stepG.exec PL mL lL fr cs none wL= .go gL wL' esL) (hq:gL.status= .running/\∀c,gL.frame.mode≠ .panicking c) (hd:gL.dying=none):
 ∃gM esM,wL'=wL/\stepG.exec PM mM true fr' cs' none wM= .go gM wM esM/\eL G D ρ base gL gM/\∀e∈esM,rL e:=by
 have hfr0:=hfr ρ hW.self
 have ht':fr'.todo= .inRegion ops (i::rest)::k.map (cA ρ):=by rw[hfr0];show fr.todo.map (cA ρ)=_;rw[ht];rfl
 have hw':Region.wanted o (yielded ops fr'.tmps)=true:=by
  rw[hfr0]
  have:yielded ops (aT ρ fr).tmps=yielded ops fr.tmps:=funext λj=>ee ρ fr.fn ops fr.tmps j
  rw[this]
  exact hw
 have hnd:∀c,o.op≠ .defer c:=λc e=>by rw[hop]at e;cases e
 rw[cK ht ho hw hnd]at h
 have hex:execOp fr.eval o=(do pure (.value (←Instr.loadAt pU (fr.eval (.tmp bN)))):Sem Next):=by unfold execOp;rw[hop]
 have hex':execOp fr'.eval o=(do pure (.value (←Instr.loadAt pU (fr'.eval (.tmp bN)))):Sem Next):=by unfold execOp;rw[hop]
 have hev:fr'.eval (.tmp bN)=fr.eval (.tmp bN):=by
  rw[hfr0]
  simp only[Frame.eval,aT,Array.getD_eq_getD_getElem?]
  rw[kr ρ fr.fn fr.tmps bN (by simp[hf])]
  simp only[Frame.eval,Array.getD_eq_getD_getElem?]at hslot
  cases hx:fr.tmps[bN]? with
  |none=>rfl
  |some v=>
   rw[hx]at hslot
   simp only[Option.getD_some]at hslot
   simp[eT,hslot]
 rw[hex]at h
 obtain⟨n,hrun,_,rfl⟩:=nT ok.noCall ok.mode (eq _) h hq (λk w1=>dG (bc (fj (ρ:=id) E.same pU _)) wL hP k w1) hd
 rw[Sem.run_bind]at hrun
 cases hs:(Instr.loadAt pU (fr.eval (.tmp bN))).run PL wL with
 |halt x w1=>rw[hs]at hrun;cases hrun
 |ok v w1=>
  rw[hs]at hrun
  cases hrun
  generalize fr.eval (.tmp bN)=p at hslot hs hev
  cases p<;>simp only[jQ,Bool.false_eq_true]at hslot
  ·rename_i a
   cases a with
   |none=>cases hslot
   |some a=>
    have hb:a.block=dN:=by simpa using hslot
    obtain⟨d,hu,hn1,hn2⟩:=hty
    obtain⟨c,e,f,q1,q2,q3⟩:=hR
    have hcell:wM.cell? a=wL.cell? a:=by unfold World.cell?;rw[hb,q2,q3]
    have hload:∀(P:Program),P.underlying pU=some d->∀w es,(Instr.loadAt pU (.pointer (some a))).runT P w es=(load a:Sem Value).runT P w es:=by
     intro P hP w es
     unfold Instr.loadAt loadVar isAgg underlying Instr.sureAddr
     simp only[program,bind,pure,Sem.bind,Sem.runT,hP]
     cases d<;>first|rfl|exact absurd rfl (hn1 _)|exact absurd rfl (hn2 _ _)
    have hs':=congrArg Prod.fst (hload PL hu wL #[])
    rw[Sem.runT_fst,Sem.runT_fst,hs]at hs'
    have hcv:wL.cell? a=some v/\wL'=wL:=by
     simp only[load,Sem.run]at hs'
     cases hc:wL.cell? a with
     |some x=>rw[hc]at hs';simp only[Result.ok.injEq]at hs';exact⟨by rw[hs'.1],hs'.2⟩
     |none=>
      rw[hc]at hs'
      unfold World.farLoad at hs'
      rw[hb,q2]at hs'
      simp at hs'
    obtain⟨hcv,rfl⟩:=hcv
    have hpl:aI v=true:=by
     unfold World.cell? at hcv
     rw[hb,q2]at hcv
     simp only at hcv
     split at hcv
     ·cases hcv
     ·exact q1 v (Array.mem_of_getElem? hcv)
    have hr:(execOp fr'.eval o).runT PM wM #[]=(.ok (.value v) wM,#[⟨.cell a,false,false⟩]):=by
     rw[hex',hev]
     show Sem.runT PM (Sem.bind _ _) wM #[]=_
     rw[Sem.runT_bind',hload PM (by rw[←E.same.under];exact hu)]
     simp only[load,Sem.runT,hcell,hcv]
     rfl
    have hc':dE fr':=by
     intro d w r s k2 e
     rw[ht']at e
     cases e
    have hk:fr'.kind= .normal:=by rw[hfr0];exact ok.kind
    refine⟨_,_,rfl,by rw[cK ht' ho hw' hnd];exact cH hc' hr rfl,⟨λρ' hA=> ?_,hcs,db fr v ok,oks,rfl,rfl,rfl,rfl⟩,λe he=> ?_⟩
    ·show fr'.finish v=aT ρ' (fr.finish v)
     rw[hfr ρ' hA,←er fr v ok hcalm,cE ρ' v hpl]
    ·have:=cT _ _ _ e he
     rw[hk]at this
     simp at this
     exact⟨a,hb,this⟩
theorem ug(hW:ci G T D ρ wL wM){fr fr':Frame}{cs cs':List Frame}(hfr:∀ρ',aw G D ρ ρ'->fr'=aT ρ' fr)(hcs:∀ρ',aw G D ρ ρ'->cs'=cs.map (aT ρ')++base)(ok:fJ fr)(oks:∀c∈cs,fJ c/\bE c)
 {ops:Array Oper} {i:Nat} {rest:List Nat} {k:List Item} {o:Oper} (ht:fr.todo= .inRegion ops (i::rest)::k) (ho:ops[i]?=some o) (hf:fr.fn=aV) (hdst:o.dst=some bN)
 (hw:((ops[i]?).map (Region.wanted · (yielded ops fr.tmps))).getD false=false) (mL mM lL lM:Bool):
 ∃gL gM,stepG.exec PL mL lL fr cs none wL= .go gL wL/\stepG.exec PM mM lM fr' cs' none wM= .go gM wM/\eL G D ρ base gL gM:=by
 have hfr0:=hfr ρ hW.self
 have ht':fr'.todo= .inRegion ops (i::rest)::k.map (cA ρ):=by rw[hfr0];show fr.todo.map (cA ρ)=_;rw[ht];rfl
 have hw':((ops[i]?).map (Region.wanted · (yielded ops fr'.tmps))).getD false=false:=by
  rw[hfr0]
  have:yielded ops (aT ρ fr).tmps=yielded ops fr.tmps:=funext λj=>ee ρ fr.fn ops fr.tmps j
  rw[this]
  exact hw
 refine⟨_,_,im ht hw,im ht' hw',λρ' h'=> ?_,hcs,db fr undef ok,oks,rfl,rfl,rfl,rfl⟩
 show fr'.finish undef=aT ρ' (fr.finish undef)
 rw[hfr ρ' h']
 exact tz ρ' fr undef ht ho hf hdst (eD ρ')
end
section
variable{PL PM:Program}{α β:Type}{f:α->β}{ρ:Nat->Nat}
theorem rm{p:Program}{w w1:World}{a:Addr}{v:Value}{b:Bool}{tc:List Addr}(e:w.farStore p a v b= .ok (w1,tc)):w1.drawn=w.drawn:=by
 unfold World.farStore at e
 split at e
 ·rename_i at_ u he
  split at e
  ·rename_i r hr
   cases e
   cases hy:w.seen p at_ u a b with
   |error x=>
    unfold World.viewStore at hr
    by_cases ht:(!tight p p.depth u)=true
    ·rw[if_pos ht]at hr;cases hr
    ·rw[if_neg ht,hy]at hr;cases hr
   |ok y=>
    obtain⟨c,e0,fr,hc⟩:=kn hy
    obtain⟨c1,e1,_⟩:=ge p (w':={w with heap:=w.heap.setIfInBounds at_.block (.cells (c.map (aa λx=>x)) e0 fr)}) (λx=>x) hc (by simp[bY hc]) hr
    rw[e1]
  ·cases e
 ·cases e
theorem pJ{s:Sem α}{s':Sem β}(h:ag ρ PL PM f s s'):∀w,ax w->∀a w',s.run PL w= .ok a w'->w.drawn<=w'.drawn:=by
 induction h with
 |pure a=>intro w hw k w' e;cases e;exact Nat.le_refl _
 | @load a k0 k1 h ih=>
   intro w hw k w' e
   rw[Sem.run]at e
   cases hc:w.cell? a with
   |some v=>rw[hc]at e;exact ih v w hw k w' e
   |none=>
    rw[hc]at e
    cases hx:w.farLoad PL a (Mode.plain==Mode.atomic)with
    |ok y=>rw[hx]at e;exact ih y.1 w hw k w' e
    |error x=>rw[hx]at e;cases e
 | @store a v k0 k1 h ih=>
   intro w hw k w' e
   cases hone:nJ v with
   |false=>
    obtain⟨why,hy⟩:=fp (p:=PL) (w:=w) (m:= .plain) (a:=a) (k:=k0) hone
    rw[hy]at e
    cases e
   |true=>
    rw[eO hone]at e
    cases hc:w.cell? a with
    |some u=>
     simp only[hc]at e
     split at e
     ·cases e
     ·exact ih _ (hw.setCell a v) k w' e
    |none=>
     simp only[hc]at e
     cases hx:w.farStore PL a v (Mode.plain==Mode.atomic)with
     |ok y=>rw[hx]at e;rw[←rm hx];exact ih y.1 (gh hw hx) k w' e
     |error x=>rw[hx]at e;cases e
 |new ho h ih=>intro w hw k w' e;exact ih _ _ (hw.push ho) k w' e
 |shape h ih=>intro w hw k w' e;exact ih _ w hw k w' e
 |freeze h ih=>intro w hw k w' e;exact Nat.le_trans (Nat.le_of_eq (by unfold World.freeze;split<;>rfl)) (ih _ (hw.freeze _ _) k w' e)
 |frozen h ih=>intro w hw k w' e;exact ih _ w hw k w' e
 | @getObj r k0 k1 h ih=>
   intro w hw k w' e
   rw[Sem.run]at e
   split at e
   ·cases e
   ·rename_i o ho _
    exact ih o (hw _ _ ‹_›) w hw k w' e
   ·cases e
 | @setObj r o k0 k1 ho h ih=>
   intro w hw k w' e
   rw[Sem.run]at e
   split at e
   ·cases e
   ·exact ih _ (hw.set r ho) k w' e
   ·cases e
 | @choose q k0 k1 h ih=>
   intro w hw k w' e
   rw[Sem.run]at e
   split at e
   ·exact ih _ w hw k w' e
   ·exact Nat.le_trans (Nat.le_succ _) (ih _ {w with drawn:=w.drawn+1} hw k w' e)
 |program h ih=>intro w hw k w' e;exact ih w hw k w' e
 |mark hm h ih=>intro w hw k w' e;exact ih w hw k w' e
 |panic v=>intro w hw k w' e;cases e
 |dead d=>intro w hw k w' e;cases e
 |deadMark d=>intro w hw k w' e;cases e
 | @sys c k0 s0 d=>
   intro w hw k w' e
   obtain⟨x,w1,hx,hd⟩:=d (w.sys c).1 (w.sys c).2
   rw[Sem.run,hx]at e
   cases e
end
section
variable{PL PM:Program}{G T:Nat}{D:Nat->Prop}{ρ:Nat->Nat}{wL wM:World}{base:List Frame}
def lW(f:Operand)(l:Nat):Call:={callee:= .value f,args:=#[.const (.func (.yield l) #[] #[])],argTypes:=#[]}
def bM(fr:Frame)(f:Operand)(l:Nat):Sem Next:=do let d←resolve fr.eval (lW f l) 0;invoke d.target d.args
theorem gB(hP:aH PL PM)(hg:∀g,Ln ρ PL PM g){fr fr':Frame}{f:Operand}(he:fr'.eval f=aa ρ (fr.eval f))(l:Nat):ag ρ PL PM (ea ρ) (bM fr f l) (bM fr' f (ρ l)):=by
 unfold bM resolve lW
 dsimp only
 rw[he]
 have ha:(#[Operand.const (.func (.yield (ρ l)) #[] #[])].map fr'.eval)=(#[Operand.const (.func (.yield l) #[] #[])].map fr.eval).map (aa ρ):=by
  simp[Frame.eval,aa,j8]
 rw[ha]
 unfold Deferred.ofValue
 cases fr.eval f with
 |func fn first cap=>
  simp only[aa,pure_bind]
  rw[←Array.map_append]
  exact pO hP hg fn cap _
 |nilFunc=>
  simp only[aa,pure_bind]
  exact fP (e:= .nilDeref) hP rfl
 |_=>simp only[aa];exact .dead trivial
theorem jo(hg:∀g,Ln ρ PL PM g)(fr:Frame)(f:Operand)(l:Nat):bO PL (bM fr f l):=by
 unfold bM resolve lW
 dsimp only
 unfold Deferred.ofValue
 cases fr.eval f with
 |func fn first cap=>exact mi hg fn cap _
 |nilFunc=>exact bO.rt .nilDeref
 |_=>exact bO.halt _
def aS(fr:Frame)(k:List Item)(l:Nat)(mark:List Deferred):Frame:={fr with todo:= .inRangeFunc l::k,defers:=mark++fr.defers}
theorem eu{P:Program}{main listen:Bool}{fr:Frame}{cs:List Frame}{w w1:World}{f:Operand}{ps:Array Tmp}{a b:Code}{k:List Item}{l:Nat}{mark:List Deferred}{es:Array Event}
 (ht:fr.todo= .code (.rangeFunc f ps a b)::k) (hr:(Instr.enterLoop fr.fn fr.tmps ps a b fr.roundOf).runT P w #[]=(.ok (l,mark) w1,es)):
 stepG.exec P main listen fr cs none w=GStep.after (seen P fr.fn es) (stepG.apply P listen (aS fr k l mark) cs none (bM (aS fr k l mark) f l) w1):=by
 unfold stepG.exec
 simp only[ht,hr]
 rfl
theorem sj{P:Program}{main listen:Bool}{fr:Frame}{cs:List Frame}{w w':World}{f:Operand}{ps:Array Tmp}{a b:Code}{k:List Item}{g:Goroutine}{es:Array Event}
 (ht:fr.todo= .code (.rangeFunc f ps a b)::k) (h:stepG.exec P main listen fr cs none w= .go g w' es):
 ∃l mark w1 es1,(Instr.enterLoop fr.fn fr.tmps ps a b fr.roundOf).run P w= .ok (l,mark) w1/\stepG.apply P listen (aS fr k l mark) cs none (bM (aS fr k l mark) f l) w1= .go g w' es1:=by
 have hf:=Sem.runT_fst P (Instr.enterLoop fr.fn fr.tmps ps a b fr.roundOf) w #[]
 cases hr:(Instr.enterLoop fr.fn fr.tmps ps a b fr.roundOf).runT P w #[]with
 |mk r es0=>
  rw[hr]at hf
  cases r with
  |ok x w1=>
   obtain⟨l,mark⟩:=x
   rw[eu ht hr]at h
   obtain⟨es1,e1⟩:=kc h
   exact⟨l,mark,w1,es1,hf.symm,e1⟩
  |halt x w1=>
   unfold stepG.exec at h
   simp only[ht,hr,GStep.after]at h
   cases h
theorem C7(hP:ax wL){l:Nat}{args:Array Value}{l':Nat}{f:FuncId}{tmps:Array Value}{a b:Code}{w1:World}(h:(Instr.yield l args).run PL wL= .ok (.round l' f tmps a b) w1):eM false a=true/\eM false b=true/\f≠aV:=by
 unfold Instr.yield Instr.getLoop getObj at h
 simp only[bind,Sem.bind,Sem.run]at h
 split at h
 ·cases h
 ·rename_i o ho hn
  have hq:=hP _ _ ‹_›
  cases o with
  |loop r=>
   simp only[pure,Sem.bind]at h
   split at h
   ·simp[stuck,Sem.bind]at h
   ·simp only[Sem.run,Result.ok.injEq,Next.round.injEq]at h
    obtain⟨⟨_,rfl,_,rfl,rfl⟩,_⟩:=h
    simp only[bQ,Bool.and_eq_true,bne_iff_ne,ne_eq]at hq
    exact⟨hq.1.1.1,hq.1.1.2,hq.2⟩
  |_=>simp[stuck,Sem.bind]at h
 ·cases h
def cP(P:Program)(s:Sem Next):Prop:=∀w l f tmps a b w',s.run P w≠ .ok (.round l f tmps a b) w'
theorem cP.after{α:Type}{s:Sem α}{k:α->Sem Next}(h:∀a,cP PL (k a)):cP PL (s>>=k):=λw l f tmps a b w' e=>by
 rw[Sem.run_bind]at e
 cases hs:s.run PL w with
 |ok x w1=>rw[hs]at e;exact h x w1 l f tmps a b w' e
 |halt x w1=>rw[hs]at e;cases e
theorem nM(x:Halt):cP PL (.halt x):=λw l f tmps a b w' e=>by cases e
theorem gg(s:Sem Value):cP PL (do pure (.value (←s))):=cP.after λ_ w l f tmps a b w' e=>by cases e
theorem mO(x:RuntimeError):cP PL (runtimePanic x):=λw l f tmps a b w' h=>by
 obtain⟨y,w1,hy,_⟩:=ip (PL:=PL) (α:=Next) x w
 rw[hy]at h
 cases h
theorem fX(g:FuncId)(hg:Ln ρ PL PM g)(args:Array Value):cP PL (callFunc g args):=by
 unfold callFunc
 intro w l f tmps a b w' h
 rw[Sem.run_bind]at h
 change (match PL.funcs[g]? with|none=>_|some fn=>_:Sem Next).run PL w=_ at h
 cases h1:PL.funcs[g]? with
 |none=>rw[h1]at h;cases h
 |some fn=>
  rw[h1]at h
  obtain⟨hn,hc⟩:=hg fn h1
  have hn':(fn.name== "runtime.NumGoroutine")=false:=by simpa using hn
  simp only[hn',Bool.false_eq_true,↓reduceIte]at h
  rcases hc with⟨hb,_⟩|⟨hb,e1,e2,e3⟩|⟨hb,e1,_,e,e2,_⟩
  ·have q1:fn.body.isNone=false:=by rw[Option.isNone_eq_false_iff];exact hb
   simp only[q1,Bool.false_eq_true,↓reduceIte]at h
   cases h
  ·rw[hb,e1,e2,e3]at h
   cases h
  ·rw[hb,e1,e2]at h
   exact cP.after (PL:=PL) (s:=mark (.extern g)) (λ_=>gg (e args)) w l f tmps a b w' h
theorem iI(hg:∀g,Ln ρ PL PM g)(r:Value)(name:String)(args:Array Value):cP PL (callMethod r name args):=by
 unfold callMethod
 cases r with
 |iface t v=>exact cP.after λp=>cP.after λy=>fX y.1 (hg y.1) _
 |nilIface=>exact mO _
 |_=>exact nM _
theorem uz(hP:ax wL)(hg:∀g,Ln ρ PL PM g)(fn:Fn)(cap args:Array Value){l':Nat}{f:FuncId}{tmps:Array Value}{a b:Code}{w1:World}(h:(invoke (.fn fn cap) args).run PL wL= .ok (.round l' f tmps a b) w1):
 eM false a=true/\eM false b=true/\f≠aV:=by
 cases fn with
 |func g=>exact absurd h (fX g (hg g) _ _ _ _ _ _ _ _)
 |method name=>
  unfold invoke at h
  dsimp only at h
  cases h0:args[0]? with
  |none=>rw[h0]at h;cases h
  |some r=>rw[h0]at h;exact absurd h (iI hg _ _ _ _ _ _ _ _ _ _)
 |methodOf t name=>
  unfold invoke at h
  dsimp only at h
  cases h0:args[0]? with
  |none=>rw[h0]at h;cases h
  |some r=>rw[h0]at h;exact absurd h (cP.after (λd=>iI hg _ _ _) _ _ _ _ _ _ _)
 |via t path g ptr=>
  unfold invoke at h
  dsimp only at h
  cases h0:args[0]? with
  |none=>rw[h0]at h;cases h
  |some r=>rw[h0]at h;exact absurd h (cP.after (λd=>fX g (hg g) _) _ _ _ _ _ _ _)
 |yield l=>exact C7 hP h
theorem oS(hP:ax wL)(hg:∀g,Ln ρ PL PM g)(v:Value)(args:Array Value){l':Nat}{f:FuncId}{tmps:Array Value}{a b:Code}{w1:World}(h:(do let d←Deferred.ofValue v args;invoke d.target d.args:Sem Next).run PL wL= .ok (.round l' f tmps a b) w1):
 eM false a=true/\eM false b=true/\f≠aV:=by
 unfold Deferred.ofValue at h
 cases v with
 |func fn first cap=>exact uz hP hg fn cap _ h
 |nilFunc=>exact absurd h (mO .nilDeref _ _ _ _ _ _ _)
 |_=>exact absurd h (nM _ _ _ _ _ _ _ _)
theorem vF(hP:ax wL)(hg:∀g,Ln ρ PL PM g){fr:Frame}{x:Operand}{l l':Nat}{f:FuncId}{tmps:Array Value}{a b:Code}{w1:World}(h:(bM fr x l).run PL wL= .ok (.round l' f tmps a b) w1):
 eM false a=true/\eM false b=true/\f≠aV:=oS hP hg _ _ h
theorem y4(hP:ax wL)(hg:∀g,Ln ρ PL PM g)(ev:Operand->Value){z:Bool}(o:Oper)(ho:jl z o.op=true){l':Nat}{f:FuncId}{tmps:Array Value}{a b:Code}{w1:World}(h:(execOp ev o).run PL wL= .ok (.round l' f tmps a b) w1):
 eM false a=true/\eM false b=true/\f≠aV:=by
 unfold execOp at h
 cases hop:o.op with
 |move x=>rw[hop]at h;cases h
 |assign x=>rw[hop]at h;cases h
 |pick x y c=>rw[hop]at h;exact absurd h (cP.after (λ_ w l f tmps a b w' e=>by cases e) _ _ _ _ _ _ _)
 |store t x y=>rw[hop]at h;exact absurd h (cP.after (λ_ w l f tmps a b w' e=>by cases e) _ _ _ _ _ _ _)
 |nilCheck x=>
  rw[hop]at h
  exfalso
  dsimp only at h
  revert h
  split<;>(try split)<;>intro h<;>first
   |exact mO _ _ _ _ _ _ _ _ h
   |(cases h;done)
   |(refine cP.after (λ_=>cP.after λ_=> ?_) _ _ _ _ _ _ _ h
     intro w l f tmps a b w' e
     revert e
     split
     ·intro e;cases e
     ·intro e;cases e)
 |call c=>
  rw[hop]at h ho
  change (do let d←resolve ev c o.type;invoke d.target d.args:Sem Next).run PL wL=_ at h
  unfold resolve at h
  simp only[jl,mN,Bool.and_eq_true]at ho
  have h2:=ho.2
  cases hcl:c.callee with
  |builtin bi=>
   rw[hcl]at h2 h
   have hb:FR bi=true:=h2
   exfalso
   cases bi<;>first|exact gg _ _ _ _ _ _ _ _ h|(simp[FR]at hb;done)
  |invoke r name=>rw[hcl]at h2;cases h2
  |value g=>rw[hcl]at h;exact oS hP hg _ _ h
 |_=>first
  |(rw[hop]at h;exact absurd h (gg _ _ _ _ _ _ _ _))
  |(rw[hop]at ho;cases ho)
def cF(P:Program)(s:Sem Next):Prop:=∀w f args w',s.run P w= .ok (.enter f args) w'->∃fn,P.funcs[f]?=some fn/\fn.body.isSome=true
theorem cF.after{α:Type}{s:Sem α}{k:α->Sem Next}(h:∀a,cF PL (k a)):cF PL (s>>=k):=λw f args w' e=>by
 rw[Sem.run_bind]at e
 cases hs:s.run PL w with
 |ok x w1=>rw[hs]at e;exact h x w1 f args w' e
 |halt x w1=>rw[hs]at e;cases e
theorem gy(x:Halt):cF PL (.halt x):=λw f args w' e=>by cases e
theorem gx{n:Next}(h:∀f args,n≠ .enter f args):cF PL (pure n):=λw f args w' e=>by
 cases e
 exact absurd rfl (h f args)
theorem kG(s:Sem Value):cF PL (do pure (.value (←s))):=cF.after λ_=>gx λ_ _ e=>by cases e
theorem wB(s:Sem Unit):cF PL (do s;pure .skip):=cF.after λ_=>gx λ_ _ e=>by cases e
theorem oq(x:RuntimeError):cF PL (runtimePanic x):=λw f args w' h=>by
 obtain⟨y,w1,hy,_⟩:=ip (PL:=PL) (α:=Next) x w
 rw[hy]at h
 cases h
theorem gP(g:FuncId)(hg:Ln ρ PL PM g)(args:Array Value):cF PL (callFunc g args):=by
 unfold callFunc
 intro w f as w' h
 rw[Sem.run_bind]at h
 change (match PL.funcs[g]? with|none=>_|some fn=>_:Sem Next).run PL w=_ at h
 cases h1:PL.funcs[g]? with
 |none=>rw[h1]at h;cases h
 |some fn=>
  rw[h1]at h
  obtain⟨hn,hc⟩:=hg fn h1
  have hn':(fn.name== "runtime.NumGoroutine")=false:=by simpa using hn
  simp only[hn',Bool.false_eq_true,↓reduceIte]at h
  rcases hc with⟨hb,_⟩|⟨hb,e1,e2,e3⟩|⟨hb,e1,_,e,e2,_⟩
  ·have q1:fn.body.isNone=false:=by rw[Option.isNone_eq_false_iff];exact hb
   simp only[q1,Bool.false_eq_true,↓reduceIte]at h
   cases h
   exact⟨fn,h1,hb⟩
  ·rw[hb,e1,e2,e3]at h
   cases h
  ·rw[hb,e1,e2]at h
   exact cF.after (PL:=PL) (s:=mark (.extern g)) (λ_=>kG (e args)) w f as w' h
theorem jb(hg:∀g,Ln ρ PL PM g)(r:Value)(name:String)(args:Array Value):cF PL (callMethod r name args):=by
 unfold callMethod
 cases r with
 |iface t v=>exact cF.after λp=>cF.after λy=>gP y.1 (hg y.1) _
 |nilIface=>exact oq _
 |_=>exact gy _
theorem uH(l:Nat)(args:Array Value):cF PL (Instr.yield l args):=by
 unfold Instr.yield
 refine cF.after λr=> ?_
 intro w f as w' e
 revert e
 split
 ·intro e;cases e
 ·intro e;cases e
theorem so(hg:∀g,Ln ρ PL PM g)(fn:Fn)(cap args:Array Value):cF PL (invoke (.fn fn cap) args):=by
 cases fn with
 |func g=>exact gP g (hg g) _
 |method name=>
  unfold invoke
  dsimp only
  cases args[0]? with
  |none=>exact gy _
  |some r=>exact jb hg _ _ _
 |methodOf t name=>
  unfold invoke
  dsimp only
  cases args[0]? with
  |none=>exact gy _
  |some r=>exact cF.after λd=>jb hg _ _ _
 |via t path g ptr=>
  unfold invoke
  dsimp only
  cases args[0]? with
  |none=>exact gy _
  |some r=>exact cF.after λd=>gP g (hg g) _
 |yield l=>exact uH l args
theorem lC(hg:∀g,Ln ρ PL PM g)(v:Value)(args:Array Value):cF PL (do let d←Deferred.ofValue v args;invoke d.target d.args):=by
 unfold Deferred.ofValue
 cases v with
 |func fn first cap=>exact so hg fn cap _
 |nilFunc=>exact oq .nilDeref
 |_=>exact gy _
theorem uI(hg:∀g,Ln ρ PL PM g)(fr:Frame)(x:Operand)(l:Nat):cF PL (bM fr x l):=lC hg _ _
theorem wC(hg:∀g,Ln ρ PL PM g)(ev:Operand->Value){z:Bool}(o:Oper)(ho:jl z o.op=true):cF PL (execOp ev o):=by
 unfold execOp
 cases hop:o.op with
 |move x=>exact gx λ_ _ e=>by cases e
 |assign x=>exact gx λ_ _ e=>by cases e
 |pick x y c=>exact cF.after λ_=>gx λ_ _ e=>by cases e
 |store t x y=>exact wB _
 |nilCheck x=>
  dsimp only
  intro w f as w' h
  revert h
  split<;>(try split)<;>intro h<;>first
   |exact oq _ _ _ _ _ h
   |(cases h;done)
   |(refine cF.after (λ_=>cF.after λ_=> ?_) _ _ _ _ h
     intro w f as w' e
     revert e
     split
     ·intro e;cases e
     ·intro e;cases e)
 |call c=>
  rw[hop]at ho
  change cF PL (do let d←resolve ev c o.type;invoke d.target d.args:Sem Next)
  unfold resolve
  simp only[jl,mN,Bool.and_eq_true]at ho
  have h2:=ho.2
  cases hcl:c.callee with
  |builtin bi=>
   rw[hcl]at h2
   have hb:FR bi=true:=h2
   cases bi<;>first|exact kG _|(simp[FR]at hb;done)
  |invoke r name=>rw[hcl]at h2;cases h2
  |value g=>exact lC hg _ _
 |_=>first
  |exact kG _
  |(rw[hop]at ho;cases ho)
theorem lD{fn:FuncId}{tmps:Array Value}{ps:Array Tmp}{a b:Code}{ro:Option Nat}{l:Nat}{mark:List Deferred}{w1:World}(hloop:(Instr.enterLoop fn tmps ps a b ro).run PL wL= .ok (l,mark) w1):cd mark=true:=by
 unfold Instr.enterLoop newObj at hloop
 cases ro with
 |none=>
  simp only[bind,Sem.bind,pure,Sem.run,Result.ok.injEq,Prod.mk.injEq]at hloop
  rw[←hloop.1.2]
  rfl
 |some l0=>
  simp only[bind,pure]at hloop
  rw[Sem.run_bind']at hloop
  cases hg:(Instr.getLoop l0).run PL wL with
  |halt y w2=>rw[hg]at hloop;cases hloop
  |ok y w2=>
   rw[hg]at hloop
   simp only[Sem.run,Sem.bind,Result.andThen,Result.ok.injEq,Prod.mk.injEq]at hloop
   rw[←hloop.1.2]
   rfl
def gG(P:Program)(fr:Frame)(w:World)(f:FuncId)(args:Array Value)(w':World):Prop:=
 fr.mode= .run/\((∃ops n rest k o,fr.todo= .inRegion ops (n::rest)::k/\ops[n]?=some o/\Region.wanted o (yielded ops fr.tmps)=true/\jl (fr.fn==aV) o.op=true/\(fr.fn==aV&&o.dst==some bN)=false/\(execOp fr.eval o).run P w= .ok (.enter f args) w')\/
  ∃x ps a b k l mark w1,fr.todo= .code (.rangeFunc x ps a b)::k/\(Instr.enterLoop fr.fn fr.tmps ps a b fr.roundOf).run P w= .ok (l,mark) w1/\(bM (aS fr k l mark) x l).run P w1= .ok (.enter f args) w')
theorem kH(hg:∀g,Ln ρ PL PM g){fr:Frame}{w w':World}{f:FuncId}{args:Array Value}(h:gG PL fr w f args w'):∃fn,PL.funcs[f]?=some fn/\fn.body.isSome=true:=by
 rcases h.2 with⟨ops,n,rest,k,o,_,_,_,hop,_,e⟩|⟨x,ps,a,b,k,l,mark,w1,_,_,e⟩
 ·exact wC hg _ _ hop _ _ _ _ e
 ·exact uI hg _ _ _ _ _ _ _ e
theorem vH(E:Env PL PM G)(hW:ci G T D ρ wL wM)(hP:ax wL)
 {fr fr':Frame} {cs cs':List Frame} (hfr:∀ρ',aw G D ρ ρ'->fr'=aT ρ' fr) (hcs:∀ρ',aw G D ρ ρ'->cs'=cs.map (aT ρ')++base) (ok:fJ fr) (oks:∀c∈cs,fJ c/\bE c)
 {x:Operand} {ps:Array Tmp} {a b:Code} {k:List Item} (ht:fr.todo= .code (.rangeFunc x ps a b)::k)
 {mL mM lL:Bool} {gL:Goroutine} {wL':World} {esL:Array Event} (h:stepG.exec PL mL lL fr cs none wL= .go gL wL' esL) (hT:wL'.drawn<=T) (hq:gL.status= .running/\∀c,gL.frame.mode≠ .panicking c) (hd:gL.dying=none) (hmr:fr.mode= .run) (hE:∀f args w',gG PL fr wL f args w'->jf PL PM f):
 ∃D' ρ' gM wM' esM,stepG.exec PM mM true fr' cs' none wM= .go gM wM' esM/\eL G D' ρ' base gL gM/\gW G T D ρ wL wM D' ρ' wL' wM'/\∀e∈esM,gC D' ρ' e:=by
 obtain⟨l,mark,w1,es1,hloop,happ⟩:=sj ht h
 have hi:=ok.todo
 rw[ht]at hi
 simp only[List.all_cons,Bool.and_eq_true,kx,eM,Bool.not_eq_true']at hi
 obtain⟨⟨⟨⟨hz,hx⟩,ha⟩,hb⟩,hk⟩:=hi
 have hfn:fr.fn≠aV:=by simpa using hz
 rw[hz]at ha hb hx
 have hal:∀ρ',aw G D ρ ρ'->ag ρ' PL PM (λy=>(ρ' y.1,y.2.map (lq ρ'))) (Instr.enterLoop fr.fn fr.tmps ps a b fr.roundOf) (Instr.enterLoop fr'.fn fr'.tmps ps a b fr'.roundOf):=λρ' hA=>by
  rw[hfr ρ' hA]
  show ag ρ' PL PM _ _ (Instr.enterLoop fr.fn (iY ρ' fr.fn fr.tmps) ps a b (fr.roundOf.map ρ'))
  rw[kq ρ' hfn]
  exact kS fr.fn fr.tmps ps a b fr.roundOf ha hb hfn
 have hP1:ax w1:=cj (hal ρ hW.self) wL hP _ _ hloop
 have hmarks:cd mark=true:=lD hloop
 have hfr1:fJ (aS fr k l mark):=by
  refine⟨?_, ?_,ok.mode,ok.kind,ok.round⟩
  ·show(Item.inRangeFunc l::k).all (kx (fr.fn==aV))=true
   simp only[List.all_cons,Bool.and_eq_true,kx,Bool.not_eq_true']
   exact⟨hz,hk⟩
  ·show cd (mark++fr.defers)=true
   simp only[cd,List.all_append,Bool.and_eq_true]
   exact⟨hmarks,ok.defers⟩
 have hcalm:bE (aS fr k l mark):=λo d ho=>by cases ho
 have hs1:ag ρ PL PM (ea ρ) (bM (aS fr k l mark) x l) (bM (aT ρ (aS fr k l mark)) x (ρ l)):=gB E.same (E.fn ρ) (fC (aS fr k l mark) x (by show l9 (fr.fn==aV) x=true;rw[hz];exact hx)) l
 obtain⟨n,hrun,_,rfl⟩:=nT hfr1.noCall hfr1.mode (jo (E.fn ρ) _ x l) happ hq (λk w1'=>dG hs1 w1 hP1 k w1') hd
 have hT1:w1.drawn<=T:=Nat.le_trans (pJ hs1 w1 hP1 _ _ hrun) hT
 obtain⟨D1,ρ1,r',wM1,es',e1,e2,e3,e4⟩:=dS E.load E.store (λρ' y=>(ρ' y.1,y.2.map (lq ρ'))) _ _ D ρ wL wM hW hal #[] _ w1 hloop rfl hT1
 cases e2 with
 | @ok _ y' _ _ hy'=>
   obtain⟨l1,mark1⟩:=y'
   have hag:=λρ' (h':aw G D1 ρ1 ρ')=>aw.of_ran e3 h'
   have hl1:∀ρ',aw G D1 ρ1 ρ'->l1=ρ' l/\mark1=mark.map (lq ρ'):=λρ' h'=>by
    have:=hy' ρ' h'
    simpa using this
   have ht':∀ρ',aw G D1 ρ1 ρ'->fr'.todo= .code (.rangeFunc x ps a b)::k.map (cA ρ'):=λρ' h'=>by rw[hfr ρ' (hag ρ' h')];show fr.todo.map (cA ρ')=_;rw[ht];rfl
   have hfrM:∀ρ',aw G D1 ρ1 ρ'->aS fr' (k.map (cA ρ1)) l1 mark1=aT ρ' (aS fr k l mark):=λρ' h'=>by
    have q:=(ht' ρ1 e3.rel.self).symm.trans (ht' ρ' h')
    simp only[List.cons.injEq,true_and]at q
    rw[q,(hl1 ρ' h').1,(hl1 ρ' h').2,hfr ρ' (hag ρ' h')]
    simp only[aS,aT,List.map_cons,cA,List.map_append]
   have hal2:∀ρ',aw G D1 ρ1 ρ'->ag ρ' PL PM (ea ρ') (bM (aS fr k l mark) x l) (bM (aS fr' (k.map (cA ρ1)) l1 mark1) x l1):=λρ' h'=>by
    rw[hfrM ρ' h',(hl1 ρ' h').1]
    exact gB E.same (E.fn ρ') (fC (aS fr k l mark) x (by show l9 (fr.fn==aV) x=true;rw[hz];exact hx)) l
   obtain⟨D',ρ',gM,wM',esM,f1,f2,f3,f4⟩:=jc E.tab E.load E.store e3.rel hfrM (λρ' h'=>hcs ρ' (hag ρ' h')) hfr1 oks hcalm hal2 (jo (E.fn ρ1) _ x l) (λk w1'=>dG hs1 w1 hP1 k w1')
    (λf args w2 e=>hE f args w2 ⟨hmr, .inr ⟨x,ps,a,b,k,l,mark,w1,ht,hloop,e⟩⟩) (λl2 f tmps a b w2 e=>vF hP1 (E.fn ρ1) e) happ hT hq hd
   refine⟨D',ρ',gM,wM',seen PM fr'.fn (#[]++es')++esM, ?_,f2,e3.trans f3,λe he=> ?_⟩
   ·rw[eu (ht' ρ1 e3.rel.self) e1,f1]
    rfl
   ·rcases Array.mem_append.1 he with he|he
    ·exact(e4 e (by simpa using cT _ _ _ e he)).mono f3.ext
    ·exact f4 e he
end
structure j4 (PL PM:Program) (G:Nat):Prop extends Env PL PM G where
 ty:A0 PL
 mix:PL.follows .mixedOrders=PM.follows .mixedOrders
 ex:aV<PL.funcs.size
 res:∀(f:FuncId) (fn:Func),PL.funcs[f]?=some fn->∃fn':Func,PM.funcs[f]?=some fn'/\fn'.results=fn.results/\fn.results.all (FP (f==aV))=true
 none:∀f:Nat,PL.funcs[f]?=none->PM.funcs[f]?=none
 inits:PL.inits=#[]
def fa(g:Goroutine):Prop:=g.status= .running/\(∀c,g.frame.mode≠ .panicking c)/\g.dying=none
section
variable{PL PM:Program}{G T:Nat}{D:Nat->Prop}{ρ:Nat->Nat}{wL wM:World}{base:List Frame}
theorem gW.quiet{D':Nat->Prop}{ρ':Nat->Nat}{wL' wM':World}(h:gW G T D ρ wL wM D' ρ' wL' wM')(hP:ax wL):ax wL':=by
 intro r o ho
 by_cases hd:D' r
 ·obtain⟨o',h1,h2,_⟩:=h.rel.obj r hd
  rw[ho]at h1
  cases h1
  exact h2
 ·have hlt:r<wL.heap.size:=Classical.byContradiction λhn=>hd (h.newL r (by omega) (bY ho))
  rw[h.keepL r hlt λhd0=>hd (h.ext r hd0).1]at ho
  exact hP r o ho
theorem rR(E:j4 PL PM G)(hW:ci G T D ρ wL wM){fr fr' c:Frame}{cs cs':List Frame}(hfr:∀ρ',aw G D ρ ρ'->fr'=aT ρ' fr)(hcs:∀ρ',aw G D ρ ρ'->cs'=(c::cs).map (aT ρ')++base)(ok:fJ fr)(oks:∀x∈c::cs,fJ x/\bE x)
 (hd:fr.defers=[]) (hm:fr.mode= .returning) (hf:PL.funcs[fr.fn]?=none) (mL mM:Bool):
 ∃gL gM,unwind PL mL fr (c::cs) none wL= .go gL wL/\unwind PM mM fr' cs' none wM= .go gM wM/\eL G D ρ base gL gM:=by
 have hne:fr.fn≠aV:=λe=>by
  rw[e]at hf
  exact absurd E.ex (Nat.not_lt.2 (Array.getElem?_eq_none_iff.1 hf))
 have hfr0:=hfr ρ hW.self
 have hc0:=hcs ρ hW.self
 simp only[List.map_cons,List.cons_append]at hc0
 have hu:∀(P:Program) (m:Bool) (f:Frame) (x:Frame) (xs:List Frame) (w:World),f.defers=[]->f.mode= .returning->f.kind= .normal->P.funcs[f.fn]?=none->
  unwind P m f (x::xs) none w= .go {frame:=x.finish (f.tmps.getD 0 undef),callers:=xs,status:= .running,dying:=none} w:=λP m f x xs w h1 h2 h3 h4=>by
  unfold unwind
  simp only[h1,h2,h4,doReturn,h3]
 refine⟨_,_,hu PL mL fr c cs wL hd hm ok.kind hf,by rw[hc0];exact hu PM mM fr' _ _ wM (by rw[hfr0];simp[aT,hd]) (by rw[hfr0];exact hm) (by rw[hfr0];exact ok.kind) (by rw[hfr0];exact E.none _ hf),⟨λρ' hA=> ?_,λρ' hA=> ?_,db c _ (oks c List.mem_cons_self).1,λx hx=>oks x (List.mem_cons_of_mem _ hx),rfl,rfl,rfl,rfl⟩⟩
 ·have q:=(hcs ρ hW.self).symm.trans (hcs ρ' hA)
  simp only[List.map_cons,List.cons_append,List.cons.injEq]at q
  show(aT ρ c).finish _=aT ρ' (c.finish _)
  rw[q.1,←er c _ (oks c List.mem_cons_self).1 (oks c List.mem_cons_self).2,hfr ρ' hA]
  congr 1
  simp only[aT,kq ρ' hne,Array.getD_eq_getD_getElem?,Array.getElem?_map]
  cases fr.tmps[0]? with
  |none=>exact(eD ρ').symm
  |some v=>rfl
 ·have q:=(hcs ρ hW.self).symm.trans (hcs ρ' hA)
  simp only[List.map_cons,List.cons_append,List.cons.injEq]at q
  exact q.2
theorem fE{P:Program}{m:Bool}{fr:Frame}{v:Value}{w w':World}{g:Goroutine}{es:Array Event}(hI:P.inits=#[])(hk:fr.kind= .normal)(h:doReturn P m fr [] none v w= .go g w' es):g.status≠ .running:=by
 unfold doReturn at h
 simp only[hk,hI]at h
 cases m<;>simp at h
 obtain⟨rfl,_⟩:=h
 intro e
 cases e
theorem B8{P:Program}{main listen:Bool}{fr:Frame}{w w':World}{l:Nat}{j:Option Code}{g:Goroutine}{es:Array Event}(hI:P.inits=#[])(hj:fe fr j)(hl:fr.roundOf=some l)(hk:fr.kind= .normal)
 (h:stepG.exec P main listen fr [] none w= .go g w' es):g.status≠ .running:=by
 unfold stepG.exec at h
 cases hj with
 |done ht=>
  simp only[ht,hl]at h
  obtain⟨es1,e1⟩:=kc h
  split at e1
  ·exact fE hI hk e1
  ·cases e1
 |ret ht=>
  simp only[ht,hl]at h
  obtain⟨es1,e1⟩:=kc h
  split at e1
  ·exact fE hI hk e1
  ·cases e1
 | @exit id _ ht he=>
   simp only[ht,he,Option.elim_none,hl]at h
   obtain⟨es1,e1⟩:=kc h
   split at e1
   ·exact fE hI hk e1
   ·cases e1
theorem xE{P:Program}{main:Bool}{fr:Frame}{w w':World}{g:Goroutine}{es:Array Event}(hI:P.inits=#[])(hk:fr.kind= .normal)(hd:fr.defers=[])(hm:fr.mode= .returning)
 (h:unwind P main fr [] none w= .go g w' es):g.status≠ .running:=by
 unfold unwind at h
 simp only[hd,hm]at h
 split at h
 ·exact fE hI hk h
 ·obtain⟨es1,e1⟩:=kc h
  split at e1
  ·exact fE hI hk e1
  ·cases e1
  ·cases e1
theorem rW(s:Sem Value)(w:World)(f:FuncId)(args:Array Value)(w':World):(do pure (.value (←s)):Sem Next).run PL w≠ .ok (.enter f args) w':=by
 intro e
 rw[Sem.run_bind]at e
 cases hs:s.run PL w with
 |ok x w1=>rw[hs]at e;cases e
 |halt x w1=>rw[hs]at e;cases e
theorem G2(ρ:Nat->Nat){fr:Frame}(hf:fr.fn=aV)(hs:jQ (fr.eval (.tmp bN))=false):(aT ρ fr).eval (.tmp bN)=aa ρ (fr.eval (.tmp bN)):=by
 simp only[Frame.eval,aT,Array.getD_eq_getD_getElem?]at hs⊢
 rw[kr ρ fr.fn fr.tmps bN (by simp[hf])]
 cases hx:fr.tmps[bN]? with
 |none=>exact(eD ρ).symm
 |some v=>
  rw[hx]at hs
  simp only[Option.getD_some]at hs
  simp[eT,hs]
theorem D8{z:Bool}{o:Oper}(h:FQ z o=true)(hop:¬jl z o.op=true)(hc:(z&&o.dst==some bN)=false):z=true/\o.op= .load pU (.tmp bN):=by
 unfold FQ at h
 simp only[Bool.or_eq_true,Bool.and_eq_true]at h
 rcases h with h|⟨hz,h⟩
 ·exact absurd h.1 hop
 ·refine⟨hz, ?_⟩
  split at h
  ·rename_i e
   simp only[Bool.and_eq_true]at h
   rw[hz]at hc
   simp[h.2]at hc
  ·rename_i e
   simp only[Bool.and_eq_true,beq_iff_eq]at h
   rw[e,h.1.1,h.1.2]
  ·cases h
theorem AQ{o:Oper}(h:FQ true o=true)(hd:o.dst=some bN):∃t ix,o.op= .indexAddr t (.global dN) ix/\l9 true ix=true:=by
 unfold FQ at h
 simp only[Bool.or_eq_true,Bool.and_eq_true,hd]at h
 rcases h with h|⟨hz,h⟩
 ·simp at h
 ·split at h
  ·rename_i e
   simp only[Bool.and_eq_true,beq_iff_eq]at h
   exact⟨_,_,by rw[e,h.1.1],h.1.2⟩
  ·simp at h
  ·cases h
theorem mD(E:j4 PL PM G)(hW:ci G T D ρ wL wM)(hP:ax wL)(hR:ib wL wM){gL gM gL':Goroutine}(hg:eL G D ρ base gL gM){mL mM lL:Bool}{wL':World}{esL:Array Event}
 (h:stepG PL mL gL wL lL= .go gL' wL' esL) (hT:wL'.drawn<=T) (hq:fa gL') (hE:∀f args w',gG PL gL.frame wL f args w'->jf PL PM f):
 ∃D' ρ' gM' wM' esM,stepG PM mM gM wM= .go gM' wM' esM/\eL G D' ρ' base gL' gM'/\gW G T D ρ wL wM D' ρ' wL' wM'/\∀e∈esM,gC D' ρ' e\/rL e:=by
 obtain⟨hfr,hcs,ok,oks,h1,h2,h3,h4⟩:=hg
 obtain⟨fr,cs,st,dy,of⟩:=gL
 obtain⟨fr',cs',st',dy',of'⟩:=gM
 simp only at hfr hcs ok oks h1 h2 h3 h4
 subst h1 h2 h3 h4
 have hfr0:=hfr ρ hW.self
 have hmode:fr'.mode=fr.mode:=by rw[hfr0];rfl
 have lift:(∃D' ρ' gM' wM' esM,stepG PM mM {frame:=fr',callers:=cs',status:= .running,dying:=none,offers:=of'} wM= .go gM' wM' esM/\eL G D' ρ' base gL' gM'/\gW G T D ρ wL wM D' ρ' wL' wM'/\∀e∈esM,gC D' ρ' e)->
  ∃D' ρ' gM' wM' esM,stepG PM mM {frame:=fr',callers:=cs',status:= .running,dying:=none,offers:=of'} wM= .go gM' wM' esM/\eL G D' ρ' base gL' gM'/\gW G T D ρ wL wM D' ρ' wL' wM'/\∀e∈esM,gC D' ρ' e\/rL e:=
  λ⟨D',ρ',gM',wM',esM,q1,q2,q3,q4⟩=>⟨D',ρ',gM',wM',esM,q1,q2,q3,λe he=> .inl (q4 e he)⟩
 have still:∀gM',wL'=wL->stepG PM mM {frame:=fr',callers:=cs',status:= .running,dying:=none,offers:=of'} wM= .go gM' wM->eL G D ρ base gL' gM'->
  ∃D' ρ' gM' wM' esM,stepG PM mM {frame:=fr',callers:=cs',status:= .running,dying:=none,offers:=of'} wM= .go gM' wM' esM/\eL G D' ρ' base gL' gM'/\gW G T D ρ wL wM D' ρ' wL' wM'/\∀e∈esM,gC D' ρ' e\/rL e:=
  λgM' e q1 q2=>by subst e;exact⟨D,ρ,gM',wM,_,q1,q2,gW.refl hW,λe he=>by simp at he⟩
 rcases ok.mode with hm|hm
 ·have hL:stepG PL mL {frame:=fr,callers:=cs,status:= .running,dying:=none,offers:=of} wL lL=stepG.exec PL mL lL fr cs none wL:=by
   unfold stepG
   simp only[hm]
  have hM:stepG PM mM {frame:=fr',callers:=cs',status:= .running,dying:=none,offers:=of'} wM=stepG.exec PM mM true fr' cs' none wM:=by
   unfold stepG
   simp only[hmode,hm]
  rw[hL]at h
  rw[hM]at lift still⊢
  by_cases hpl:∃t,aY fr=some t
  ·obtain⟨t,hpl⟩:=hpl
   obtain⟨gL1,gM1,q1,q2,q3⟩:=vJ (PL:=PL) (PM:=PM) hW hfr hcs ok oks hpl mL mM lL true
   rw[q1]at h
   cases h
   exact still gM1 rfl q2 q3
  have hleave:∀j,fe fr j->(fr.roundOf=none->j=none\/j=some .ret)->∃D' ρ' gM' wM' esM,stepG.exec PM mM true fr' cs' none wM= .go gM' wM' esM/\eL G D' ρ' base gL' gM'/\gW G T D ρ wL wM D' ρ' wL' wM'/\∀e∈esM,gC D' ρ' e\/rL e:=by
   intro j hj hn
   cases hro:fr.roundOf with
   |none=>
    have hae:zV fr:=by
     refine⟨hro, ?_⟩
     cases hj with
     |done ht=>exact .inl ht
     |ret ht=>exact .inr ⟨_,ht⟩
     |exit ht he=>rcases hn hro with e|e<;>cases e
    obtain⟨gL1,gM1,q1,q2,q3⟩:=BD (PL:=PL) (PM:=PM) hW hfr hcs ok oks hae mL mM lL true
    rw[q1]at h
    cases h
    exact still gM1 rfl q2 q3
   |some l=>
    cases cs with
    |nil=>exact absurd hq.1 (B8 E.inits hj hro ok.kind h)
    |cons c cs=>exact lift (wj E.toEnv hW hfr hcs ok oks hj hro h hT)
  have hi:=ok.todo
  cases ht:fr.todo with
  |nil=>exact hleave none (.done ht) λ_=> .inl rfl
  |cons i k=>
   rw[ht]at hi
   simp only[List.all_cons,Bool.and_eq_true]at hi
   cases i with
   |code c=>
    cases c with
    |ret=>exact hleave _ (.ret ht) λ_=> .inr rfl
    |exit id=>
     cases he:exitTo id k with
     |some t=>exact absurd ⟨t,by simp only[aY,ht,he]⟩ hpl
     |none=>
      refine hleave _ (.exit ht he) λhro=> ?_
      unfold stepG.exec at h
      simp only[ht,he,Option.elim_none,hro]at h
      simp at h
    |goto l=>simp[kx,eM]at hi
    |refuse why=>unfold stepG.exec at h;simp only[ht]at h;cases h
    |rangeFunc x ps a b=>exact lift (vH E.toEnv hW hP hfr hcs ok oks ht h hT ⟨hq.1,hq.2.1⟩ hq.2.2 hm hE)
    |region id ops draw=>
     cases draw with
     |false=>exact absurd ⟨_,by simp only[aY,ht]<;>rfl⟩ hpl
     |true=>
      obtain⟨D',ρ',gM1,wM',q1,q2,q3⟩:=yF (mM:=mM) (lM:=true) E.toEnv E.mix hW hfr hcs ok oks ht h hT
      exact⟨D',ρ',gM1,wM',_,q1,q2,q3,λe he=>by simp at he⟩
    |cond x a b=>
     cases hx:fr.eval x with
     |bool q=>exact absurd ⟨_,by simp only[aY,ht,hx];rfl⟩ hpl
     |_=>unfold stepG.exec at h;simp only[ht,hx]at h;cases h
    |_=>exact absurd ⟨_,by simp only[aY,ht]<;>rfl⟩ hpl
   |inRangeFunc l=>unfold stepG.exec at h;simp only[ht]at h;cases h
   |beginRound=>exact lift (wU E.toEnv hW hP hfr hcs ok oks ht h hT ⟨hq.1,hq.2.1⟩ hq.2.2)
   |endRangeFunc l=>exact lift (sq E.toEnv hW hP hfr hcs ok oks ht h hT hq.2.1)
   |call d w r s=>simp[kx]at hi
   |extern r a=>simp[kx]at hi
   |inRegion ops todo=>
    cases todo with
    |nil=>exact absurd ⟨_,by simp only[aY,ht]<;>rfl⟩ hpl
    |cons n rest=>
     cases ho:ops[n]? with
     |none=>
      have hw:((ops[n]?).map (Region.wanted · (yielded ops fr.tmps))).getD false=false:=by rw[ho];rfl
      have hcalm:bE fr:=λo d h1=>by
       simp only[Frame.oper?,ht,ho]at h1
       cases h1
      obtain⟨gL1,gM1,q1,q2,q3⟩:=qA (PL:=PL) (PM:=PM) hW hfr hcs ok oks hcalm ht hw mL mM lL true
      rw[q1]at h
      cases h
      exact still gM1 rfl q2 q3
     |some o=>
      have hoo:FQ (fr.fn==aV) o=true:=by
       have:=hi.1
       simp only[kx]at this
       exact Array.all_eq_true'.1 this o (Array.mem_of_getElem? ho)
      have hoper:fr.oper?=some o:=by simp only[Frame.oper?,ht,ho]
      by_cases hcalm:(fr.fn==aV&&o.dst==some bN)=false
      ·have hcalm':bE fr:=λo' d e1 e2=>by
        rw[hoper]at e1
        cases e1
        rw[e2]at hcalm
        simpa using hcalm
       cases hw:Region.wanted o (yielded ops fr.tmps)with
       |false=>
        obtain⟨gL1,gM1,q1,q2,q3⟩:=qA (PL:=PL) (PM:=PM) hW hfr hcs ok oks hcalm' ht (by rw[ho];simpa using hw) mL mM lL true
        rw[q1]at h
        cases h
        exact still gM1 rfl q2 q3
       |true=>
        by_cases hop:jl (fr.fn==aV) o.op=true
        ·have hE':∀f args w1,(execOp fr.eval o).run PL wL= .ok (.enter f args) w1->jf PL PM f:=λf args w1 e=>hE f args w1 ⟨hm, .inl ⟨ops,n,rest,k,o,ht,ho,hw,hop,hcalm,e⟩⟩
         exact lift (y5 E.toEnv hW hP hfr hcs ok oks hcalm' ht ho hw hop hE' (λl f tmps a b w1 e=>y4 hP (E.fn ρ) fr.eval o hop e) h hT ⟨hq.1,hq.2.1⟩ hq.2.2)
        ·obtain⟨hf,hld⟩:=D8 hoo hop hcalm
         have hf':fr.fn=aV:=by simpa using hf
         cases hs:jQ (fr.eval (.tmp bN))with
         |true=>
          obtain⟨gM1,esM,q1,q2,q3,q4⟩:=ym (mM:=mM) E.toEnv E.ty hW hP hR hfr hcs ok oks ht ho hw hf' hld hs hcalm' h ⟨hq.1,hq.2.1⟩ hq.2.2
          subst q1
          exact⟨D,ρ,gM1,wM,esM,q2,q3,gW.refl hW,λe he=> .inr (q4 e he)⟩
         |false=>
          have hnd:∀c,o.op≠ .defer c:=λc e=>by rw[hld]at e;cases e
          have ht':fr'.todo= .inRegion ops (n::rest)::k.map (cA ρ):=by rw[hfr0];show fr.todo.map (cA ρ)=_;rw[ht];rfl
          have hw':Region.wanted o (yielded ops fr'.tmps)=true:=by
                rw[hfr0]
                have:yielded ops (aT ρ fr).tmps=yielded ops fr.tmps:=funext λj=>ee ρ fr.fn ops fr.tmps j
                rw[this]
                exact hw
          have hex:∀ev:Operand->Value,execOp ev o=(do pure (.value (←Instr.loadAt pU (ev (.tmp bN)))):Sem Next):=λev=>by unfold execOp;rw[hld]
          have hal:∀ρ',aw G D ρ ρ'->ag ρ' PL PM (ea ρ') (execOp fr.eval o) (execOp fr'.eval o):=λρ' hA=>by
                rw[hex,hex,hfr ρ' hA,G2 ρ' hf' hs]
                exact bc (fj E.same pU _)
          rw[cK ht ho hw hnd]at h
          rw[cK ht' ho hw' hnd]at lift⊢
          refine lift (jc E.tab E.load E.store hW hfr hcs ok oks hcalm' hal (by rw[hex];exact eq _) (λk w1=>dG (hal ρ hW.self) wL hP k w1) (λf args w1 e=> ?_) (λl f tmps a b w1 e=> ?_) h hT ⟨hq.1,hq.2.1⟩ hq.2.2)
          ·rw[hex]at e
           exact absurd e (rW _ _ _ _ _)
          ·rw[hex]at e
           exact absurd e (gg _ _ _ _ _ _ _ _)
      ·have hz:fr.fn=aV/\o.dst=some bN:=by simpa using hcalm
       obtain⟨t,ix,hop,hx⟩:=AQ (by rw[hz.1]at hoo;simpa using hoo) hz.2
       cases hw:Region.wanted o (yielded ops fr.tmps)with
       |false=>
        obtain⟨gL1,gM1,q1,q2,q3⟩:=ug (PL:=PL) (PM:=PM) hW hfr hcs ok oks ht ho hz.1 hz.2 (by rw[ho];simpa using hw) mL mM lL true
        rw[q1]at h
        cases h
        exact still gM1 rfl q2 q3
       |true=>
        obtain⟨gM1,q1,q2,q3⟩:=vK (mM:=mM) E.toEnv hW hP hfr hcs ok oks ht ho hw hz.1 hop hx hz.2 h ⟨hq.1,hq.2.1⟩ hq.2.2
        exact still gM1 q1 q2 q3
   |_=>exact absurd ⟨_,by simp only[aY,ht]<;>rfl⟩ hpl
 ·have hL:stepG PL mL {frame:=fr,callers:=cs,status:= .running,dying:=none,offers:=of} wL lL=unwind PL mL fr cs none wL:=by
   unfold stepG
   simp only[hm]
  have hM:stepG PM mM {frame:=fr',callers:=cs',status:= .running,dying:=none,offers:=of'} wM=unwind PM mM fr' cs' none wM:=by
   unfold stepG
   simp only[hmode,hm]
  rw[hL]at h
  rw[hM]at lift still⊢
  cases hd:fr.defers with
  |nil=>
   cases cs with
   |nil=>exact absurd hq.1 (xE E.inits ok.kind hd hm h)
   |cons c cs=>
    cases hf:PL.funcs[fr.fn]? with
    |none=>
     obtain⟨gL1,gM1,q1,q2,q3⟩:=rR E hW hfr hcs ok oks hd hm hf mL mM
     rw[q1]at h
     cases h
     exact still gM1 rfl q2 q3
    |some fn=>
     obtain⟨fn',hf',hr,hok⟩:=E.res _ _ hf
     exact lift (un E.toEnv hW hfr hcs ok oks hd hm hf hf' hr hok h hT)
  |cons d ds=>
   have:=ok.defers
   rw[hd]at this
   simp only[cd,List.all_cons,Bool.and_eq_true]at this
   obtain⟨tg,args⟩:=d
   cases tg with
   |collected b=>exact lift (yd E.toEnv hW hP hfr hcs ok oks hd h hT)
   |_=>simp at this
end
def zh(c:Frame):Prop:=(c.mode= .run\/c.mode= .returning)/\cd c.defers=true
def rK(g:Goroutine):Prop:=g.status= .running/\g.dying=none/\(∃v,g.frame.mode= .panicking [{v,recovered:=false}])/\cd g.frame.defers=true/\∀c∈g.callers,zh c
def cR:GStep->Prop
 | .go g w _=>g.dying≠none\/(ax w/\(fa g\/rK g))
 | .ended ..=>True
 |_=>False
theorem cR.after{es:Array Event}{x:GStep}(h:cR x):cR (GStep.after es x):=by
 cases x<;>exact h
theorem fJ.bare{c:Frame}(h:fJ c):zh c:=⟨h.mode,h.defers⟩
theorem ja(fr:Frame)(v:Value):(fr.finish v).mode=fr.mode:=by
 unfold Frame.finish
 split<;>rfl
theorem bZ{m:FrameMode}(h:m= .run\/m= .returning):∀c,m≠ .panicking c:=λc e=>by
 rcases h with h|h<;>rw[h]at e<;>cases e
theorem iD{fr:Frame}(h:zh fr)(chain:List PanicEntry):(fr.raise chain).mode= .panicking chain/\(fr.raise chain).defers=fr.defers:=by
 unfold Frame.raise
 rcases h.1 with h1|h1<;>rw[h1]<;>exact⟨rfl,rfl⟩
section
variable{P:Program}{fr:Frame}{cs:List Frame}{w:World}
theorem yA(m:String):cR (endFatal P fr cs none m w):=by
 unfold endFatal
 dsimp only
 split
 ·exact .inl (by simp)
 ·trivial
 ·trivial
theorem iN{listen:Bool}{s:Sem Next}(hb:zh fr)(hcs:∀c∈cs,zh c)(h4:bO P s)(hP:∀n w',s.run P w= .ok n w'->ax w')(hd:∀x w',s.run P w= .halt x w'->eb x/\ax w'):cR (stepG.apply P listen fr cs none s w):=by
 have hr:(if listen=true then s.runT P w #[]else(s.run P w,#[])).1=s.run P w:=by
  split
  ·exact Sem.runT_fst P s w #[]
  ·rfl
 unfold stepG.apply
 generalize (if listen=true then s.runT P w #[]else(s.run P w,#[]))=q at hr
 obtain⟨r,es0⟩:=q
 simp only at hr
 subst hr
 cases hs:s.run P w with
 |ok n w1=>
  have hn:=h4 w n w1 hs
  have hP1:=hP n w1 hs
  refine cR.after ?_
  cases n with
  |value v=>exact .inr ⟨hP1, .inl ⟨rfl,bZ (by rw[ja];exact hb.1),rfl⟩⟩
  |skip=>exact .inr ⟨hP1, .inl ⟨rfl,bZ (by rw[ja];exact hb.1),rfl⟩⟩
  |enter f args=>exact .inr ⟨hP1, .inl ⟨rfl,bZ (.inl rfl),rfl⟩⟩
  |round l f tmps a b=>exact .inr ⟨hP1, .inl ⟨rfl,bZ (.inl rfl),rfl⟩⟩
  |_=>simp[vQ]at hn
 |halt x w1=>
  obtain⟨hx,hP1⟩:=hd x w1 hs
  refine cR.after ?_
  cases x with
  |panic v=>exact .inr ⟨hP1, .inr ⟨rfl,rfl,⟨v,(iD hb _).1⟩,by show cd (fr.raise _).defers=true;rw[(iD hb _).2];exact hb.2,hcs⟩⟩
  |goexit=>exact hx.elim
  |blocked=>exact hx.elim
  |waiting=>exact hx.elim
  |unsupported u=>
   cases u with
   |initOrder k=>exact hx.elim
   |_=>trivial
  |stuck m=>trivial
  |exit c=>trivial
  |throw m=>exact .inl (by simp)
  |fatal m=>exact yA m
theorem gu(hI:P.inits=#[])(hk:fr.kind= .normal)(v:Value)(hP:ax w)(hcs:∀c∈cs,zh c):cR (doReturn P true fr cs none v w):=by
 cases cs with
 |cons c cs=>
  simp only[doReturn,hk]
  exact .inr ⟨hP, .inl ⟨rfl,bZ (by rw[ja];exact(hcs c List.mem_cons_self).1),rfl⟩⟩
 |nil=>simp[doReturn,hk,hI,cR]
end
section
variable{PL PM:Program}{G:Nat}
theorem Eo(G:Nat):aw G (λ_=>False) id id:=⟨⟨λ_ _ h=>h,λ_=>Iff.rfl⟩,λ_ h=>h.elim⟩
theorem Au(E:j4 PL PM G){fr:Frame}{cs:List Frame}{w:World}{o:Option (Array CommCase×CommShape)}(ok:fJ fr)(oks:∀c∈cs,fJ c/\bE c)(hP:ax w):
 cR (stepG PL true {frame:=fr,callers:=cs,status:= .running,dying:=none,offers:=o} w):=by
 have hb:=ok.bare
 have hcs:∀c∈cs,zh c:=λc hc=>(oks c hc).1.bare
 rcases ok.mode with hm|hm
 ·have hL:stepG PL true {frame:=fr,callers:=cs,status:= .running,dying:=none,offers:=o} w=stepG.exec PL true true fr cs none w:=by
   unfold stepG
   simp only[hm]
  rw[hL]
  have hrun:∀t:List Item,cR (.go {frame:={fr with todo:=t},callers:=cs,status:= .running,dying:=none} w):=λt=> .inr ⟨hP, .inl ⟨rfl,bZ (.inl hm),rfl⟩⟩
  by_cases hpl:∃t,aY fr=some t
  ·obtain⟨t,hpl⟩:=hpl
   rw[iF hpl]
   exact hrun t
  have hend:∀l (j:Option Code) v w1,j.all (eM false)=true->((Instr.endRound l j).runT PL w #[]).1= .ok v w1->ax w1:=λl j v w1 hj e=>by
   rw[Sem.runT_fst]at e
   exact cj (pP (ρ:=id) (PM:=PM) l j hj) w hP v w1 e
  have hleave:∀j,fe fr j->cR (stepG.exec PL true true fr cs none w):=by
   intro j hj
   cases hro:fr.roundOf with
   |none=>
    unfold stepG.exec
    cases hj with
    |done ht=>simp only[ht,hro];exact .inr ⟨hP, .inl ⟨rfl,bZ (.inr rfl),rfl⟩⟩
    |ret ht=>simp only[ht,hro];exact .inr ⟨hP, .inl ⟨rfl,bZ (.inr rfl),rfl⟩⟩
    |exit ht he=>simp only[ht,he,Option.elim_none,hro];trivial
   |some l=>
    unfold stepG.exec
    cases hj with
    |done ht=>
     simp only[ht,hro]
     refine cR.after ?_
     split
     ·rename_i v w1 hr
      exact gu E.inits ok.kind _ (hend l _ v w1 rfl hr) hcs
     ·trivial
    |ret ht=>
     simp only[ht,hro]
     refine cR.after ?_
     split
     ·rename_i v w1 hr
      exact gu E.inits ok.kind _ (hend l _ v w1 rfl hr) hcs
     ·trivial
    |exit ht he=>
     simp only[ht,he,Option.elim_none,hro]
     refine cR.after ?_
     split
     ·rename_i v w1 hr
      exact gu E.inits ok.kind _ (hend l _ v w1 rfl hr) hcs
     ·trivial
  have hi:=ok.todo
  cases ht:fr.todo with
  |nil=>exact hleave none (.done ht)
  |cons i k=>
   rw[ht]at hi
   simp only[List.all_cons,Bool.and_eq_true]at hi
   cases i with
   |code c=>
    cases c with
    |ret=>exact hleave _ (.ret ht)
    |exit id=>
     cases he:exitTo id k with
     |some t=>exact absurd ⟨t,by simp only[aY,ht,he]⟩ hpl
     |none=>exact hleave _ (.exit ht he)
    |goto l=>simp[kx,eM]at hi
    |refuse why=>unfold stepG.exec;simp only[ht];trivial
    |rangeFunc x ps a b=>
     have hi1:=hi.1
     simp only[kx,eM,Bool.and_eq_true,Bool.not_eq_true']at hi1
     obtain⟨⟨⟨hz,hx⟩,ha⟩,hbb⟩:=hi1
     rw[hz]at ha hbb hx
     have hfn:fr.fn≠aV:=by simpa using hz
     have hf:=Sem.runT_fst PL (Instr.enterLoop fr.fn fr.tmps ps a b fr.roundOf) w #[]
     cases hr:(Instr.enterLoop fr.fn fr.tmps ps a b fr.roundOf).runT PL w #[]with
     |mk r es0=>
      rw[hr]at hf
      cases r with
      |ok y w1=>
       obtain⟨l,mark⟩:=y
       rw[eu ht hr]
       refine cR.after ?_
       have hP1:ax w1:=cj (kS (ρ:=id) (PM:=PM) fr.fn fr.tmps ps a b fr.roundOf ha hbb hfn) w hP _ _ hf.symm
       have hs1:ag id PL PM (ea id) (bM (aS fr k l mark) x l) (bM (aT id (aS fr k l mark)) x (id l)):=
        gB E.same (E.fn id) (fC (aS fr k l mark) x (by show l9 (fr.fn==aV) x=true;rw[hz];exact hx)) l
       refine iN ⟨.inl hm, ?_⟩ hcs (jo (E.fn id) _ x l) (λy w' e=>cj hs1 w1 hP1 y w' e) (λy w' e=>⟨eZ hs1 w1 hP1 y w' e,eH hs1 w1 hP1 y w' e⟩)
       show cd (mark++fr.defers)=true
       simp only[cd,List.all_append,Bool.and_eq_true]
       exact⟨lD hf.symm,ok.defers⟩
      |halt y w1=>
       unfold stepG.exec
       simp only[ht,hr]
       trivial
    |region id ops draw=>
     cases draw with
     |false=>exact absurd ⟨_,by simp only[aY,ht]<;>rfl⟩ hpl
     |true=>
      obtain⟨n,w1,hn⟩:=rA PL (.order fr.fn id) w
      rw[jT ht hn]
      exact .inr ⟨cj (ρ:=λx=>x) (PM:=PM) (f:=λx:Nat=>x) (s:=choose (.order fr.fn id)) (s':=choose (.order fr.fn id)) (.choose λn=> .pure n) w hP n w1 hn, .inl ⟨rfl,bZ (.inl hm),rfl⟩⟩
    |cond x a b=>
     cases hx:fr.eval x with
     |bool q=>exact absurd ⟨_,by simp only[aY,ht,hx]<;>rfl⟩ hpl
     |_=>unfold stepG.exec;simp only[ht,hx];trivial
    |_=>exact absurd ⟨_,by simp only[aY,ht]<;>rfl⟩ hpl
   |inRangeFunc l=>unfold stepG.exec;simp only[ht];trivial
   |beginRound=>
    rw[iK ht]
    have hal:ag id PL PM (ea id) (eY fr) (eY (aT id fr)):=by
     unfold eY
     show ag id PL PM (ea id) (do fr.roundOf.elim _ Instr.beginRound;pure .skip) (do(fr.roundOf.map id).elim _ Instr.beginRound;pure .skip)
     cases fr.roundOf with
     |none=>exact .dead trivial
     |some l=>exact uQ (mr E.same l)
    exact iN hb hcs (oj _) (λy w' e=>cj hal w hP y w' e) λy w' e=>⟨eZ hal w hP y w' e,eH hal w hP y w' e⟩
   |endRangeFunc l=>
    unfold stepG.exec
    simp only[ht]
    refine cR.after ?_
    split
    ·rename_i j w1 hr
     rw[Sem.runT_fst]at hr
     exact .inr ⟨cj (n0 (ρ:=id) E.same l) w hP j w1 hr, .inl ⟨rfl,bZ (.inl hm),rfl⟩⟩
    ·rename_i v w1 hr
     rw[Sem.runT_fst]at hr
     exact .inr ⟨eH (n0 (ρ:=id) E.same l) w hP _ w1 hr, .inr ⟨rfl,rfl,⟨_,(iD hb _).1⟩,by show cd (fr.raise _).defers=true;rw[(iD hb _).2];exact hb.2,hcs⟩⟩
    ·trivial
   |call d w r s=>simp[kx]at hi
   |extern r a=>simp[kx]at hi
   |inRegion ops todo=>
    cases todo with
    |nil=>exact absurd ⟨_,by simp only[aY,ht]<;>rfl⟩ hpl
    |cons n rest=>
     cases hw:((ops[n]?).map (Region.wanted · (yielded ops fr.tmps))).getD false with
     |false=>
      rw[im ht hw]
      exact .inr ⟨hP, .inl ⟨rfl,bZ (by rw[ja];exact hb.1),rfl⟩⟩
     |true=>
      cases ho:ops[n]? with
      |none=>rw[ho]at hw;cases hw
      |some oo=>
       rw[ho]at hw
       have hw':Region.wanted oo (yielded ops fr.tmps)=true:=hw
       have hoo:FQ (fr.fn==aV) oo=true:=by
        have:=hi.1
        simp only[kx]at this
        exact Array.all_eq_true'.1 this oo (Array.mem_of_getElem? ho)
       by_cases hop:jl (fr.fn==aV) oo.op=true
       ·rw[io ht ho hw' hop]
        have hal:=uR (ρ:=id) (z:=fr.fn==aV) (ev:=fr.eval) (ev':=λx=>aa id (fr.eval x)) E.same (E.toEnv.far (Eo G)) (E.fn id) (λx _=>rfl) oo hop
        exact iN hb hcs (tn (E.fn id) fr.eval oo hop) (λy w' e=>cj hal w hP y w' e) λy w' e=>⟨eZ hal w hP y w' e,eH hal w hP y w' e⟩
       ·have hsp:(∃t x ix,oo.op= .indexAddr t x ix)\/∃t x,oo.op= .load t x:=by
         unfold FQ at hoo
         simp only[Bool.or_eq_true,Bool.and_eq_true]at hoo
         rcases hoo with h|⟨_,h⟩
         ·exact absurd h.1 hop
         ·split at h
          ·rename_i e;exact .inl ⟨_,_,_,e⟩
          ·rename_i e;exact .inr ⟨_,_,e⟩
          ·cases h
        have hnd:∀c,oo.op≠ .defer c:=λc e=>by
         rcases hsp with⟨_,_,_,h⟩|⟨_,_,h⟩<;>rw[h]at e<;>cases e
        rw[cK ht ho hw' hnd]
        rcases hsp with⟨t,x,ix,h⟩|⟨t,x,h⟩
        ·have hex:execOp fr.eval oo=(do pure (.value (←Instr.indexAt t (fr.eval x) (fr.eval ix))):Sem Next):=by unfold execOp;rw[h]
         rw[hex]
         exact iN hb hcs (eq _) (λy w' e=>cj (bc (iS (ρ:=id) E.same t _ _)) w hP y w' e) λy w' e=>⟨eZ (bc (iS (ρ:=id) E.same t _ _)) w hP y w' e,eH (bc (iS (ρ:=id) E.same t _ _)) w hP y w' e⟩
        ·have hex:execOp fr.eval oo=(do pure (.value (←Instr.loadAt t (fr.eval x))):Sem Next):=by unfold execOp;rw[h]
         rw[hex]
         exact iN hb hcs (eq _) (λy w' e=>cj (bc (fj (ρ:=id) E.same t _)) w hP y w' e) λy w' e=>⟨eZ (bc (fj (ρ:=id) E.same t _)) w hP y w' e,eH (bc (fj (ρ:=id) E.same t _)) w hP y w' e⟩
   |_=>exact absurd ⟨_,by simp only[aY,ht]<;>rfl⟩ hpl
 ·have hL:stepG PL true {frame:=fr,callers:=cs,status:= .running,dying:=none,offers:=o} w=unwind PL true fr cs none w:=by
   unfold stepG
   simp only[hm]
  rw[hL]
  unfold unwind
  cases hd:fr.defers with
  |nil=>
   simp only[hm]
   split
   ·exact gu E.inits ok.kind _ hP hcs
   ·rename_i fn hf
    obtain⟨fn',_,hr,hok⟩:=E.res _ _ hf
    refine cR.after ?_
    split
    ·rename_i v w1 hv
     rw[Sem.runT_fst]at hv
     exact gu E.inits ok.kind _ (cj (rE (ρ:=id) E.same fn fn' fr.fn fr.tmps hr hok) w hP v w1 hv) hcs
    ·trivial
    ·trivial
  |cons d ds=>
   have:=ok.defers
   rw[hd]at this
   simp only[cd,List.all_cons,Bool.and_eq_true]at this
   obtain⟨tg,args⟩:=d
   cases tg with
   |collected b=>
    simp only
    refine cR.after ?_
    split
    ·rename_i calls w1 hr
     rw[Sem.runT_fst]at hr
     exact .inr ⟨cj (gU (ρ:=id) (PM:=PM) b) w hP calls w1 hr, .inl ⟨rfl,bZ (.inr hm),rfl⟩⟩
    ·trivial
   |_=>simp at this
end
end Go.Proofs.YtkmoglhgkcnalaaDoor
namespace Go.Proofs.YtkmoglhgkcnalaaDoor
open Go Go.Conc
section
variable{P PL PM:Program}{G:Nat}
theorem og(fr:Frame)(cs:List Frame)(w:World):lone fr cs w=solo {frame:=fr,callers:=cs,status:= .running,dying:=none} w:=rfl
theorem fl{g g':Goroutine}{w w':World}(h:solo g w=solo g' w'):g=g'/\w=w':=by
 simp only[solo,Machine.mk.injEq]at h
 obtain⟨h1,h2,_⟩:=h
 exact⟨by simpa using h2,h1⟩
theorem lj{g:Goroutine}{w:World}{m:Machine}(hs:g.status= .running)(hk:cR (stepG P true g w))(h:step P (solo g w)= .next m):
 ∃g' w' es,stepG P true g w= .go g' w' es/\m=solo g' w':=by
 rw[step,stepT_solo hs]at h
 cases hg:stepG P true g w with
 |go g' w' es=>
  rw[runT_solo_go hg]at h
  simp only[Stepped.next.injEq]at h
  exact⟨g',w',es,rfl,h.symm⟩
 |ended o w' es=>
  simp[runT,solo,Array.swapAt!,Array.swapAt,hg]at h
 |_=>rw[hg]at hk;exact hk.elim
theorem yB{g:Goroutine}{w:World}(hg:rK g)(hP:ax w):cR (stepG P true g w)/\∀g' w' es,stepG P true g w= .go g' w' es->g'.dying≠none\/(rK g'/\ax w'):=by
 obtain⟨fr,cs,st,dy,of⟩:=g
 obtain⟨h1,h2,⟨v,h3⟩,h4,h5⟩:=hg
 simp only at h1 h2 h3 h4 h5
 subst h1 h2
 have hL:stepG P true {frame:=fr,callers:=cs,status:= .running,dying:=none,offers:=of} w=unwind P true fr cs none w:=by
  unfold stepG
  simp only[h3]
 rw[hL]
 unfold unwind
 cases hd:fr.defers with
 |nil=>
  simp only[h3]
  split
  ·exact⟨trivial,λ_ _ _ e=>by cases e⟩
  ·cases cs with
   |cons c rest=>
    have hb:=h5 c List.mem_cons_self
    have hr:=iD hb [{v,recovered:=false}]
    have hf:rK {frame:=c.raise [{v,recovered:=false}],callers:=rest,status:= .running,dying:=none}:=⟨rfl,rfl,⟨v,hr.1⟩,by rw[hr.2];exact hb.2,λx hx=>h5 x (List.mem_cons_of_mem _ hx)⟩
    refine⟨.inr ⟨hP, .inr hf⟩,λg' w' es e=> ?_⟩
    cases e
    exact .inr ⟨hf,hP⟩
   |nil=>
    simp only[List.head?_cons,Option.any_some,Bool.false_eq_true,↓reduceIte]
    split
    ·exact⟨.inl (by simp),λ_ _ _ e=>by cases e;exact .inl (by simp)⟩
    ·exact⟨trivial,λ_ _ _ e=>by cases e⟩
    ·exact⟨trivial,λ_ _ _ e=>by cases e⟩
 |cons d ds=>
  rw[hd]at h4
  simp only[cd,List.all_cons,Bool.and_eq_true]at h4
  obtain⟨tg,args⟩:=d
  cases tg with
  |collected b=>
   simp only
   have hf:=Sem.runT_fst P (Instr.takeDeferred b) w #[]
   cases hr:(Instr.takeDeferred b).runT P w #[]with
   |mk r es0=>
    rw[hr]at hf
    cases r with
    |ok calls w1=>
     have hnil:=vl hP hf.symm
     have hP1:ax w1:=cj (gU (ρ:=id) (PM:=P) b) w hP _ _ hf.symm
     have hfl:rK {frame:={fr with defers:=calls++ds},callers:=cs,status:= .running,dying:=none}:=⟨rfl,rfl,⟨v,h3⟩,by rw[hnil];exact h4.2,h5⟩
     refine⟨cR.after (.inr ⟨hP1, .inr hfl⟩),λg' w' es e=> ?_⟩
     simp only[GStep.after,GStep.go.injEq]at e
     obtain⟨rfl,rfl,_⟩:=e
     exact .inr ⟨hfl,hP1⟩
    |halt x w1=>exact⟨trivial,λ_ _ _ e=>by cases e⟩
  |_=>simp at h4
def xx(I:Machine->Prop):Prop:=∀m,I m->∀g∈m.gs,g.dying=none
theorem vq(g:Goroutine)(w:World):g∈(solo g w).gs:=by simp[solo]
theorem ry{I:Machine->Prop}(hI:xx I){fr:Frame}{cs:List Frame}{w':World}{m mx:Machine}(h:StepsIn I P m mx)(hx:lone fr cs w'=mx){g:Goroutine}{w:World}(e:m=solo g w):g.dying=none:=by
 cases h with
 |refl=>
  rw[←hx,og]at e
  rw[←(fl e).1]
 |head h0 _ _=>exact hI _ h0 g (by rw[e];exact vq g w)
theorem wv{I:Machine->Prop}(hI:xx I){fr:Frame}{cs:List Frame}{w':World}(hm:fr.mode= .returning){m:Machine}(h:StepsIn I P m (lone fr cs w')):∀g w,m=solo g w->ax w->¬(g.dying≠none\/rK g):=by
 generalize hx:lone fr cs w'=mx at h
 induction h with
 |refl m=>
  intro g w e hP hc
  subst hx
  rw[og]at e
  obtain⟨e1,_⟩:=fl e
  subst e1
  rcases hc with h|⟨_,_,⟨v,h⟩,_⟩
  ·exact h rfl
  ·simp only[hm]at h
   cases h
 | @head m m1 m2 h0 hs _ ih=>
   intro g w e hP hc
   subst e
   have hdy:=hI _ h0 g (vq g w)
   have hf:rK g:=hc.resolve_left λh=>h hdy
   obtain⟨hk,hn⟩:=yB (P:=P) hf hP
   obtain⟨g',w1,es,hg,rfl⟩:=lj hf.1 hk hs
   rcases hn g' w1 es hg with h|⟨h,hP1⟩
   ·
    exact h (ry hI ‹_› hx rfl)
   ·exact ih hx g' w1 rfl hP1 (.inr h)
end
end Go.Proofs.YtkmoglhgkcnalaaDoor
