/- A part of what the last text of the claim imports: texts laid together, and made small, by a program. -/
import Derived.Below
import Derived.DyingRun
import Derived.Conc.WgGenN3
import Derived.Conc.CrowdStepC2
import Derived.Test.YtkmoglhgkcnalaaDoorOwn5
set_option maxHeartbeats 16000000
set_option maxRecDepth 100000
namespace Go.Proofs.YtkmoglhgkcnalaaDoor
open Go Go.Conc
def Rn(P:Program)(Goal:Goroutine->World->Prop)(fr:Frame)(cs:List Frame)(w:World):Prop:=∃g' w',StepsIn (λ_=>True) P (solo (hU fr cs) w) (solo g' w')/\Goal g' w'
section
variable{P:Program}{Goal:Goroutine->World->Prop}{b:Frame}{a:Act}{k:List Item}{cs:List Frame}{w:World}
theorem Rn.now{fr:Frame}(h:Goal (hU fr cs) w):Rn P Goal fr cs w:=⟨_,_, .refl _,h⟩
theorem Rn.step{fr fr':Frame}{cs':List Frame}{w':World}{es:Array Event}(hs:stepG P true (hU fr cs) w= .go (hU fr' cs') w' es)(h:Rn P Goal fr' cs' w'):Rn P Goal fr cs w:=
 let ⟨g',w2,h1,h2⟩:=h;⟨g',w2,(o7 rfl hs).trans h1,h2⟩
theorem Rn.exec{fr fr':Frame}{cs':List Frame}{w':World}{es:Array Event}(hm:fr.mode= .run)(hs:stepG.exec P true true fr cs none w= .go (hU fr' cs') w' es)(h:Rn P Goal fr' cs' w'):Rn P Goal fr cs w:=
 Rn.step ((jC hm true cs w).trans hs) h
theorem Rn.p{t:List Item}(hp:aY (b.atR a k)=some t)(h:Rn P Goal (b.atR a t) cs w):Rn P Goal (b.atR a k) cs w:=Rn.exec rfl (iF hp) h
theorem Rn.r{id:Nat}{ops:Array Oper}{L:List Nat}(hL:List.range ops.size=L)(h:Rn P Goal (b.atR a (.inRegion ops L::k)) cs w):Rn P Goal (b.atR a (.code (.region id ops false)::k)) cs w:=Rn.p rfl (by rw[hL];exact h)
theorem Rn.cond{x:Operand}{A B:Code}(q:Bool)(hq:a.eval x= .bool q)(h:Rn P Goal (b.atR a (.code (if q then A else B)::k)) cs w):Rn P Goal (b.atR a (.code (.cond x A B)::k)) cs w:=by
 refine Rn.p (t:= .code (if q then A else B)::k) ?_ h
 have e:(b.atR a (.code (.cond x A B)::k)).eval x= .bool q:=by rw[Frame.eval_atR];exact hq
 show(match (b.atR a (.code (.cond x A B)::k)).eval x with| .bool q=>some (Item.code (if q then A else B)::k)|_=>none)=_
 rw[e]
section
variable{ops:Array Oper}{n:Nat}{rest:List Nat}{o:Oper}
theorem Rn.oper(ho:ops[n]?=some o)(hw:Region.wanted o (yielded ops a.tmps)=true)(hnd:∀c,o.op≠ .defer c){nx:Next}{w':World}(hr:(execOp a.eval o).run P w= .ok nx w')(hn:vQ nx=true){fr':Frame}{cs':List Frame}(hg:fH P (b.atR a (.inRegion ops (n::rest)::k)) cs nx=hU fr' cs')
 (h:Rn P Goal fr' cs' w'):Rn P Goal (b.atR a (.inRegion ops (n::rest)::k)) cs w:=by
 have hc:dE (b.atR a (.inRegion ops (n::rest)::k)):=λd w r s k e=>by cases e
 have hrT:(execOp (b.atR a (.inRegion ops (n::rest)::k)).eval o).runT P w #[]=(.ok nx w',(execOp a.eval o).events P w #[]):=by rw[Frame.eval_atR,Sem.runT_eq,hr]
 have e:=(cK (main:=true) (listen:=true) (cs:=cs) rfl ho hw hnd).trans (cH (cs:=cs) hc hrT hn)
 rw[hg]at e
 exact Rn.exec rfl e h
theorem Rn.ran(ho:ops[n]?=some o)(hw:Region.wanted o (yielded ops a.tmps)=true)(hnd:∀c,o.op≠ .defer c){v:Value}{w':World}(hr:(execOp a.eval o).run P w= .ok (.value v) w')
 (h:Rn P Goal (b.atR (a.put o.dst v) (.inRegion ops rest::k)) cs w'):Rn P Goal (b.atR a (.inRegion ops (n::rest)::k)) cs w:=
 Rn.oper ho hw hnd hr rfl (fr':=b.atR (a.put o.dst v) (.inRegion ops rest::k)) (cs':=cs) (by show hU ((b.atR a (.inRegion ops (n::rest)::k)).finish v) cs=_;rw[Frame.finish_atR,ho];rfl) h
theorem Rn.did(ho:ops[n]?=some o)(hw:Region.wanted o (yielded ops a.tmps)=true)(hnd:∀c,o.op≠ .defer c){w':World}(hr:(execOp a.eval o).run P w= .ok .skip w')
 (h:Rn P Goal (b.atR (a.put o.dst undef) (.inRegion ops rest::k)) cs w'):Rn P Goal (b.atR a (.inRegion ops (n::rest)::k)) cs w:=
 Rn.oper ho hw hnd hr rfl (fr':=b.atR (a.put o.dst undef) (.inRegion ops rest::k)) (cs':=cs) (by show hU ((b.atR a (.inRegion ops (n::rest)::k)).finish undef) cs=_;rw[Frame.finish_atR,ho];rfl) h
theorem Rn.enter(ho:ops[n]?=some o)(hw:Region.wanted o (yielded ops a.tmps)=true)(hnd:∀c,o.op≠ .defer c){f:FuncId}{args:Array Value}(hr:(execOp a.eval o).run P w= .ok (.enter f args) w)
 (h:Rn P Goal (Frame.enter P f args .normal) (b.atR a (.inRegion ops (n::rest)::k)::cs) w):Rn P Goal (b.atR a (.inRegion ops (n::rest)::k)) cs w:=
 Rn.oper ho hw hnd hr rfl rfl h
theorem Rn.call(ho:ops[n]?=some o)(hw:Region.wanted o (yielded ops a.tmps)=true)(hnd:∀c,o.op≠ .defer c){f:FuncId}{args:Array Value}(hr:(execOp a.eval o).run P w= .ok (.enter f args) w){R:Value->World->Prop}(hC:Calls P f args w λe w'=>∃v,e= .returned v/\R v w')
 (h:∀v w',R v w'->Rn P Goal (b.atR (a.put o.dst v) (.inRegion ops rest::k)) cs w'):Rn P Goal (b.atR a (.inRegion ops (n::rest)::k)) cs w:=by
 refine Rn.enter ho hw hnd hr ?_
 obtain⟨en,w',fr,⟨v,rfl,hR⟩,hcm,_,hlv⟩:=hC (b.atR a (.inRegion ops (n::rest)::k)::cs)
 have hcm':Steps P (lone (Frame.enter P f args .normal) (b.atR a (.inRegion ops (n::rest)::k)::cs) w) (lone fr (b.atR a (.inRegion ops (n::rest)::k)::cs) w'):=hcm
 have hlast:=step_leave_returned (c:=b.atR a (.inRegion ops (n::rest)::k)) (cs:=cs) hlv
 have hfin:(b.atR a (.inRegion ops (n::rest)::k)).finish v=b.atR (a.put o.dst v) (.inRegion ops rest::k):=by rw[Frame.finish_atR,ho];rfl
 rw[hfin]at hlast
 obtain⟨g2,w2,h1,h2⟩:=h v w' hR
 exact⟨g2,w2,((StepsIn.of_steps hcm').trans (StepsIn.one trivial hlast)).trans h1,h2⟩
theorem Rn.yields(ho:ops[n]?=some o)(hw:Region.wanted o (yielded ops a.tmps)=true)(hnd:∀c,o.op≠ .defer c){l:Nat}{r:Loop}{args:Array Value}(hl:w.heap[l]?=some (.loop r))(hs:args.size=r.params.size)(hr:∀w,(execOp a.eval o).runT P w #[]=(Instr.yield l args).runT P w #[])
 (h:Rn P Goal (Frame.round l r.fn ((r.params.zip args).foldl (λtmps (t,a)=>tmps.setIfInBounds t a) r.tmps) r.assign r.body .normal) (b.atR a (.inRegion ops (n::rest)::k)::cs) w):Rn P Goal (b.atR a (.inRegion ops (n::rest)::k)) cs w:=by
 have hy:=(hr w).trans (sT P hl hs)
 rw[Sem.runT_eq]at hy
 exact Rn.oper ho hw hnd (Prod.mk.inj hy).1 rfl rfl h
end
theorem Rn.ends(hb:b.roundOf=none)(hk:k=[]\/∃k',k= .code .ret::k')(h:Rn P Goal {b.atR a k with mode:= .returning} cs w):Rn P Goal (b.atR a k) cs w:=Rn.exec rfl (jS (fr:=b.atR a k) ⟨hb,hk⟩) h
theorem Rn.leave{fn:Func}{c:Frame}(v:Value)(hk:b.kind= .normal)(hd:a.defers=[])(hf:P.funcs[b.fn]?=some fn)(hr:(results fn a.tmps).run P w= .ok v w)(he:(results fn a.tmps).events P w #[]=#[])
 (h:Rn P Goal (c.finish v) cs w):Rn P Goal {b.atR a k with mode:= .returning} (c::cs) w:=
 Rn.step (gw (fr:={b.atR a k with mode:= .returning}) (c:=c) (cs:=cs) hk hd rfl hf hr he true (g:=hU {b.atR a k with mode:= .returning} (c::cs)) ⟨rfl,rfl,rfl,rfl⟩) h
theorem Rn.range{x:Operand}{ps:Array Tmp}{ca cb:Code}{f:FuncId}{fn:Func}{first cap:Array Value}(hb:b.roundOf=none)(hf:P.funcs[f]?=some fn)(hname:(fn.name== "runtime.NumGoroutine")=false)(hbd:fn.body.isNone=false)(hx:a.eval x= .func (.func f) first cap)
 (h:Rn P Goal (Frame.enter P f (first++#[.func (.yield (w.heap.size+1)) #[] #[]]++cap) .normal) (b.atR ⟨a.tmps,{target:= .collected w.heap.size,args:=#[]}::a.defers⟩ (.inRangeFunc (w.heap.size+1)::k)::cs)
   (cp w {state:= .ready,pending:=none,fn:=b.fn,tmps:=a.tmps,params:=ps,assign:=ca,body:=cb,defers:=w.heap.size})):Rn P Goal (b.atR a (.code (.rangeFunc x ps ca cb)::k)) cs w:=by
 have e1:(Instr.enterLoop (b.atR a (.code (.rangeFunc x ps ca cb)::k)).fn (b.atR a (.code (.rangeFunc x ps ca cb)::k)).tmps ps ca cb (b.atR a (.code (.rangeFunc x ps ca cb)::k)).roundOf).runT P w #[]=(.ok (w.heap.size+1,[{target:= .collected w.heap.size,args:=#[]}])
  (cp w {state:= .ready,pending:=none,fn:=b.fn,tmps:=a.tmps,params:=ps,assign:=ca,body:=cb,defers:=w.heap.size}),#[]):=by
  rw[show(b.atR a (.code (.rangeFunc x ps ca cb)::k)).roundOf=none from hb]
  exact me P _ _ _ _ _
 have hx':(aS (b.atR a (.code (.rangeFunc x ps ca cb)::k)) k (w.heap.size+1) [{target:= .collected w.heap.size,args:=#[]}]).eval x= .func (.func f) first cap:=by
  rw[←hx,←Frame.eval_atR b a (.code (.rangeFunc x ps ca cb)::k)]
  cases x<;>rfl
 have hc:dE (aS (b.atR a (.code (.rangeFunc x ps ca cb)::k)) k (w.heap.size+1) [{target:= .collected w.heap.size,args:=#[]}]):=λd w r s k e=>by cases e
 have e2:=eu (P:=P) (main:=true) (listen:=true) (cs:=cs) (fr:=b.atR a (.code (.rangeFunc x ps ca cb)::k)) rfl e1
 rw[cH (cs:=cs) hc (nu hf hname hbd hx' _) rfl]at e2
 exact Rn.exec rfl e2 h
theorem Rn.rounds{l:Nat}{r:Loop}(hl:b.roundOf=some l)(h0:w.heap[l]?=some (.loop r))(hs:r.state= .ready)(h:Rn P Goal (b.atR a k) cs (aX w l {r with state:= .busy})):Rn P Goal (b.atR a (.beginRound::k)) cs w:=by
 have e:(eY (b.atR a (.beginRound::k))).runT P w #[]=(.ok .skip (aX w l {r with state:= .busy}),#[⟨.obj l,false,false⟩,⟨.obj l,true,false⟩]):=by
  have hro:(b.atR a (.beginRound::k)).roundOf=some l:=hl
  simp[-Sem.runT_eq,eY,hro,Instr.beginRound,Instr.getLoop,getObj,setObj,bind,Sem.bind,Sem.runT,pure,Obj.isChan,h0,hs,aX]
 have hc:dE (b.atR a (.beginRound::k)):=λd w r s k e=>by cases e
 have e2:=(iK (P:=P) (main:=true) (listen:=true) (cs:=cs) (w:=w) (fr:=b.atR a (.beginRound::k)) rfl).trans (cH (cs:=cs) hc e rfl)
 exact Rn.exec rfl e2 h
theorem Rn.through{l:Nat}{r:Loop}{c:Frame}(hl:b.roundOf=some l)(hk:b.kind= .normal)(h0:w.heap[l]?=some (.loop r))(h:Rn P Goal (c.finish (.bool true)) cs (aX w l {r with state:= .ready,pending:=none})):Rn P Goal (b.atR a []) (c::cs) w:=
 Rn.exec rfl (mU (fr:=b.atR a []) (j:=none) (.done rfl) hl hk (nv P h0 none)) h
theorem Rn.rangeOver{l:Nat}{r:Loop}(h0:w.heap[l]?=some (.loop r))(hs:r.state= .ready)(hp:r.pending=none)(h:Rn P Goal (b.atR a k) cs (aX w l {r with state:= .exhausted})):Rn P Goal (b.atR a (.endRangeFunc l::k)) cs w:=by
 have e:=kF (P:=P) (main:=true) (listen:=true) (cs:=cs) (fr:=b.atR a (.endRangeFunc l::k)) rfl (pg P h0 hs)
 have et:(r.pending.map Item.code).toList++k=k:=by rw[hp];rfl
 rw[et]at e
 exact Rn.exec rfl e h
theorem Ak{fr:Frame}{l:Nat}{x:Array Value}{ds rest:List Deferred}(hm:fr.mode= .returning)(hd:fr.defers={target:= .collected l,args:=x}::rest)(hl:w.heap[l]?=some (.deferred (some ds)))(main:Bool)(cs:List Frame):
 stepG P main (hU fr cs) w= .go (hU {fr with defers:=ds++rest} cs) {w with heap:=w.heap.setIfInBounds l (.deferred none)} (seen P fr.fn #[⟨.obj l,false,false⟩,⟨.obj l,true,false⟩]):=by
 unfold stepG
 simp only[hm,unwind,hd,vA P hl,GStep.after,Array.append_empty]
theorem Rn.take{l:Nat}{ds:List Deferred}(hd:a.defers={target:= .collected l,args:=#[]}::ds)(hl:w.heap[l]?=some (.deferred (some [])))(h:Rn P Goal {b.atR ⟨a.tmps,ds⟩ k with mode:= .returning} cs {w with heap:=w.heap.setIfInBounds l (.deferred none)}):Rn P Goal {b.atR a k with mode:= .returning} cs w:=by
 exact Rn.step (fr':={b.atR ⟨a.tmps,ds⟩ k with mode:= .returning}) (Ak (fr:={b.atR a k with mode:= .returning}) (rest:=ds) (ds:=[]) rfl hd hl true cs) h
theorem Rn.draw{id:Nat}{ops:Array Oper}(h:∀t,Rn P Goal (b.atR a (.inRegion ops (Region.schedule (P.follows .mixedOrders) ops t)::k)) cs {w with drawn:=w.drawn+1}):Rn P Goal (b.atR a (.code (.region id ops true)::k)) cs w:=by
 have hr:(choose (.order (b.atR a (.code (.region id ops true)::k)).fn id)).run P w= .ok (w.tape w.drawn (.order b.fn id)) {w with drawn:=w.drawn+1}:=by
  simp[choose,Sem.run,Question.forced,Question.cut,Frame.atR]
 exact Rn.exec rfl (jT rfl hr) (h _)
theorem Rn.order{md:Region.Mode}{ops:Array Oper}(Inv:Nat->Array Bool->Act->World->Prop)
 (hnone:∀listed a w,Inv 0 listed a w->Rn P Goal (b.atR a (.inRegion ops []::k)) cs w)
 (hall:∀fuel listed a w,Inv (fuel+1) listed a w->Region.ready md ops listed=[]->Rn P Goal (b.atR a (.inRegion ops []::k)) cs w)
 (hstep:∀fuel listed a w n rest,Inv (fuel+1) listed a w->n∈Region.ready md ops listed->(∀a' w',Inv fuel (listed.setIfInBounds n true) a' w'->Rn P Goal (b.atR a' (.inRegion ops rest::k)) cs w')->
   Rn P Goal (b.atR a (.inRegion ops (n::rest)::k)) cs w):
 ∀(fuel t:Nat) (listed:Array Bool) (a:Act) (w:World),Inv fuel listed a w->Rn P Goal (b.atR a (.inRegion ops (Region.linearise.go md ops fuel t listed [])::k)) cs w:=by
 intro fuel
 induction fuel with
 |zero=>intro t listed a w h;simpa[Region.linearise.go]using hnone listed a w h
 |succ fuel ih=>
  intro t listed a w h
  have hgo:Region.linearise.go md ops (fuel+1) t listed []=(match (Region.ready md ops listed)[t%(Region.ready md ops listed).length]? with
   |some i=>Region.linearise.go md ops fuel (t/(Region.ready md ops listed).length) (listed.setIfInBounds i true) [i]
   |none=>[].reverse):=by
   simp only[Region.linearise.go]
   rfl
  rw[hgo]
  cases hi:(Region.ready md ops listed)[t%(Region.ready md ops listed).length]? with
  |none=>
   have hnil:Region.ready md ops listed=[]:=by
    cases hr:Region.ready md ops listed with
    |nil=>rfl
    |cons x xs=>
     rw[hr]at hi
     have hlt:t%(x::xs).length<(x::xs).length:=Nat.mod_lt _ (by simp)
     simp at hi
     simp at hlt
     omega
   exact hall fuel listed a w h hnil
  |some n=>
   show Rn P Goal (b.atR a (.inRegion ops (Region.linearise.go md ops fuel (t/(Region.ready md ops listed).length) (listed.setIfInBounds n true) [n])::k)) cs w
   rw[linearise_go_acc,List.reverse_singleton,List.singleton_append]
   exact hstep fuel listed a w n _ h (mG hi) λa' w' h'=>ih _ _ a' w' h'
theorem Rn.ordered{md:Region.Mode}{ops:Array Oper}(hdep:∀(n:Nat) (o:Oper),ops[n]?=some o->∀e∈o.after,e.on<n)(Inv:Array Bool->Act->World->Prop)
 (hend:∀listed a w,(∀n,n<ops.size->listed[n]?=some true)->Inv listed a w->Rn P Goal (b.atR a (.inRegion ops []::k)) cs w)
 (hstep:∀listed a w n o rest,listed.size=ops.size->ops[n]?=some o->listed[n]?=some false->(∀e∈o.after,Region.binds md e=true->listed[e.on]?=some true)->Inv listed a w->
   (∀a' w',Inv (listed.setIfInBounds n true) a' w'->Rn P Goal (b.atR a' (.inRegion ops rest::k)) cs w')->Rn P Goal (b.atR a (.inRegion ops (n::rest)::k)) cs w)
 (t:Nat) (a:Act) (w:World) (h0:Inv (Array.replicate ops.size false) a w):Rn P Goal (b.atR a (.inRegion ops (Region.linearise md ops t)::k)) cs w:=by
 unfold Region.linearise
 refine Rn.order (md:=md) (λfuel listed a w=>listed.size=ops.size/\gJ listed=fuel/\Inv listed a w) (λlisted a w h=> ?_) (λfuel listed a w h hr=> ?_) (λfuel listed a w n rest h hn hnext=> ?_) ops.size t _ a w ⟨by simp, ?_,h0⟩
 ·exact hend listed a w (λn hn=>mz h.2.1 n (by rw[h.1];exact hn)) h.2.2
 ·exfalso
  obtain⟨n,h1,h2,h3⟩:=lh h.2.1
  have hlt:n<ops.size:=by rw[←h.1];exact h1
  have hm:n∈Region.ready md ops listed:=by
   unfold Region.ready
   rw[List.mem_filter]
   refine⟨List.mem_range.2 hlt, ?_⟩
   rw[Array.getElem?_eq_getElem hlt]
   have e1:listed.getD n true=false:=by simp[Array.getD_eq_getD_getElem?,h2]
   rw[e1]
   simp only[Bool.not_false,Option.map_some,Option.getD_some,Bool.true_and]
   rw[Array.all_eq_true']
   intro e he
   have:=hdep n _ (Array.getElem?_eq_getElem hlt) e he
   simp[Array.getD_eq_getD_getElem?,h3 _ this]
  rw[hr]at hm
  simp at hm
 ·unfold Region.ready at hn
  rw[List.mem_filter]at hn
  obtain⟨hn1,hn2⟩:=hn
  have hlt:=List.mem_range.1 hn1
  rw[Array.getElem?_eq_getElem hlt]at hn2
  simp only[Option.map_some,Option.getD_some,Bool.and_eq_true,Bool.not_eq_true']at hn2
  have hl:n<listed.size:=by rw[h.1];exact hlt
  have hf:listed[n]?=some false:=by
   have:=hn2.1
   rw[Array.getD_eq_getD_getElem?,Array.getElem?_eq_getElem hl]at this
   rw[Array.getElem?_eq_getElem hl]
   simpa using this
  refine hstep listed a w n _ rest h.1 (Array.getElem?_eq_getElem hlt) hf (λe he hb=> ?_) h.2.2 λa' w' h'=>hnext a' w' ⟨by simp[h.1],my h.2.1 hf,h'⟩
  have:=Array.all_eq_true'.1 hn2.2 e he
  rw[hb]at this
  simp only[Bool.not_true,Bool.false_or]at this
  rw[Array.getD_eq_getD_getElem?]at this
  cases e3:listed[e.on]? with
  |none=>rw[e3]at this;simp at this
  |some q=>rw[e3]at this;simp at this;rw[this]
 ·simp[gJ]
theorem Rn.op{F:List (Nat×Value)}{N:Nat}{ds:List Deferred}{ops:Array Oper}{m:Nat}{rest:List Nat}(hF:aM F N ds a)(d:Tmp)(p:Op){v:Value}{w':World}(hd:d<N)(h:(ops[m]?).map (λo=>(o.dst,o.op,o.guard))=some (some d,p,none))(hnd:∀c,p≠ .defer c)
 (hy:∀o:Oper,o.op=p->(execOp a.eval o).run P w= .ok (.value v) w')
 (next:∀a',aM ((d,v)::F) N ds a'->Rn P Goal (b.atR a' (.inRegion ops rest::k)) cs w'):Rn P Goal (b.atR a (.inRegion ops (m::rest)::k)) cs w:=by
 cases ho:ops[m]? with
 |none=>rw[ho]at h;simp at h
 |some o=>
  obtain⟨e1,e2,e3⟩:=aJ ho h
  refine Rn.ran ho (e3 _) (λc=>by rw[e2];exact hnd c) (hy o e2) ?_
  rw[e1]
  exact next _ (hF.put hd v)
theorem bF{f:FuncId}{fn:Func}{args:Array Value}{R:Ending->World->Prop}{t:Tmp}(hf:P.funcs[f]?=some fn)(hres:fn.results=#[.tmp t])
 (h:∀cs,Rn P (λg w'=>∃(a:Act) (k:List Item) (v:Value),g=hU {(base f).atR a k with mode:= .returning} cs/\a.defers=[]/\a.tmps[t]?=some v/\R (.returned v) w') (Frame.enter P f args .normal) cs w):Calls P f args w R:=λcs=>by
 obtain⟨g',w',h1,a,k,v,rfl,h2,h3,h4⟩:=h cs
 refine⟨.returned v,w',{(base f).atR a k with mode:= .returning},h4,StepsIn.steps h1,rfl,rfl,h2,rfl,fn,hf, ?_⟩
 have e:a.tmps.getD t undef=v:=by rw[Array.getD_eq_getD_getElem?,h3];rfl
 show(results fn a.tmps).run P w'=_
 rw[results_tmp hres,e]
end
end Go.Proofs.YtkmoglhgkcnalaaDoor
namespace Go.Proofs.YtkmoglhgkcnalaaDoor
open Go Go.Conc Go.RowKit
section
variable{L:List (Nat×Obj)}{w w':World}
theorem an(w:World)(o:Obj):Below w.heap.size w (w.alloc o):=⟨rfl,rfl,rfl,by show _<=(w.heap.push o).size;simp,λk hk=>by show(w.heap.push o)[k]?=_;rw[Array.getElem?_push,if_neg (by omega)]⟩
theorem dw(w:World)(a:Addr)(v:Value){N:Nat}(h:N<=a.block):Below N w (w.setCell a v):=⟨rfl,rfl,rfl,by simp[World.setCell],λk hk=>by simp only[World.setCell];exact jm (by omega)⟩
theorem iM{N:Nat}(w:World):Below N w {w with drawn:=w.drawn+1}:=⟨rfl,rfl,rfl,Nat.le_refl _,λ_ _=>rfl⟩
theorem eG{N:Nat}(w:World)(l:Nat)(r:Loop)(h:N<=l):Below N w (aX w l r):=⟨rfl,rfl,rfl,by simp[aX],λk hk=>sN (by omega)⟩
theorem i9(w:World)(r:Loop):Below w.heap.size w (cp w r):=⟨rfl,rfl,rfl,by rw[fw];omega,λk hk=>bv w r hk⟩
theorem kN{N:Nat}(w:World)(l:Nat)(h:N<=l):Below N w {w with heap:=w.heap.setIfInBounds l (.deferred none)}:=⟨rfl,rfl,rfl,by simp,λk hk=>sN (by omega)⟩
theorem ah{N:Nat}{w w' w'':World}(h:Below N w w')(hN:N<=w'.heap.size)(h':Below w'.heap.size w' w''):Below N w w'':=h.trans (h'.mono hN)
end
section
variable{fx:List (Nat×Value)}{tb:List (Nat×Nat×Value)}{N:Nat}{listed:Array Bool}{a:Act}
theorem eQ.aside(h:eQ fx tb N listed a){n d:Nat}{v:Value}(h1:∀p∈fx,p.1≠d)(h2:∀p∈tb,p.2.1≠d/\p.1≠n):eQ fx tb N (listed.setIfInBounds n true) (a.put (some d) v):=by
 refine⟨h.defers,by simpa[Act.put]using h.size,λp hp=> ?_,λp hp hl=> ?_⟩
 ·show(a.tmps.setIfInBounds d v)[p.1]?=_
  rw[sN (Ne.symm (h1 p hp))]
  exact h.fixed p hp
 ·show(a.tmps.setIfInBounds d v)[p.2.1]?=_
  rw[sN (Ne.symm (h2 p hp).1)]
  rw[sN (Ne.symm (h2 p hp).2)]at hl
  exact h.come p hp hl
end
end Go.Proofs.YtkmoglhgkcnalaaDoor
namespace Go.Proofs.YtkmoglhgkcnalaaDoor
open Go Go.Conc
def fq(id:Nat):Code->Option (Array Oper)
 | .region i ops _=>if i=id then some ops else none
 | .seq x y=>(fq id x).or (fq id y)
 | .block _ x=>fq id x
 | .loop x=>fq id x
 | .cond _ x y=>(fq id x).or (fq id y)
 | .rangeFunc _ _ x y=>(fq id x).or (fq id y)
 |_=>none
def ae(f:Func)(id:Nat):Array Oper:=(fq id (f.body.getD .skip)).getD #[]
theorem G3{P:Program}{f:FuncId}{fn:Func}{c:Code}{N:Nat}(L:List Value)(hf:P.funcs[f]?=some fn)(hb:fn.body=some c)(hN:fn.ntmps=N):Frame.enter P f L.toArray .deferred=(baseD f).atR ⟨L.toArray++Array.replicate (N- L.toArray.size) undef,[]⟩ [.code c]:=by
 subst hN
 exact enter_atD L.toArray hf hb
theorem bW{P:Program}{f:FuncId}{fn:Func}{c:Code}{N:Nat}(L:List Value)(hf:P.funcs[f]?=some fn)(hb:fn.body=some c)(hN:fn.ntmps=N):Frame.enter P f L.toArray .normal=(base f).atR ⟨L.toArray++Array.replicate (N- L.toArray.size) undef,[]⟩ [.code c]:=by
 subst hN
 exact enter_at L.toArray hf hb
theorem nb(b k c:Nat):(⟨b,k,none⟩:Addr).add c=⟨b,k+c,none⟩:=by
 unfold Addr.add
 split
 ·rename_i h;rw[h];rfl
 ·rfl
theorem nB{P:Program}{fn:Func}{t:Tmp}(hr:fn.results=#[.tmp t]){tmps:Array Value}{v:Value}(hv:tmps[t]?=some v)(w:World):(results fn tmps).run P w= .ok v w/\(results fn tmps).events P w #[]=#[]:=by
 have e:tmps.getD t undef=v:=by rw[Array.getD_eq_getD_getElem?,hv];rfl
 constructor
 ·rw[results_tmp hr,e]
 ·exact events_results_tmp hr _ _
theorem az{P:Program}{ev:Operand->Value}{o:Oper}{f:FuncId}{xs:Array Operand}{ats:Array TypeId}{args:Array Value}{w:World}(hop:o.op= .call {callee:= .value (.func f),args:=xs,argTypes:=ats})(ha:xs.map ev=args)(hr:(callFunc f args).runT P w #[]=(.ok (.enter f args) w,#[]))
 (hf:ev (.func f)= .func (.func f) #[] #[]:=by rfl):(execOp ev o).run P w= .ok (.enter f args) w/\(execOp ev o).events P w #[]=#[]:=by
 have e:execOp ev o=callFunc f args:=by
  simp only[execOp,hop,resolve,Deferred.ofValue,hf,ha]
  simp[invoke,bind,Sem.bind,pure]
 rw[Sem.runT_eq]at hr
 rw[e]
 exact⟨(Prod.mk.inj hr).1,(Prod.mk.inj hr).2⟩
theorem aC(w:World)(o:Obj):(w.alloc o).heap[w.heap.size]?=some o:=by
 show(w.heap.push o)[w.heap.size]?=_
 rw[Array.getElem?_push,if_pos rfl]
theorem bH(w:World)(o:Obj){b:Nat}(h:b<w.heap.size):(w.alloc o).heap[b]?=w.heap[b]?:=by
 show(w.heap.push o)[b]?=_
 rw[Array.getElem?_push,if_neg (by omega)]
theorem ak(w:World)(o:Obj):(w.alloc o).heap.size=w.heap.size+1:=by
 show(w.heap.push o).size=_
 rw[Array.size_push]
theorem ii{w:World}{l:Nat}{r r':Loop}(h:w.heap[l]?=some (.loop r)):(aX w l r').heap[l]?=some (.loop r'):=Array.getElem?_setIfInBounds_self_of_lt (gA h).1
theorem aW(w:World){l b:Nat}(r:Loop)(h:b≠l):(aX w l r).heap[b]?=w.heap[b]?:=sN (Ne.symm h)
theorem mH{P:Program}{ev:Operand->Value}{o:Oper}{x:Operand}{xs:Array Operand}{ats:Array TypeId}{args:Array Value}{l:Nat}(hop:o.op= .call {callee:= .value x,args:=xs,argTypes:=ats})(hx:ev x= .func (.yield l) #[] #[])(ha:xs.map ev=args)(w:World):
 (execOp ev o).runT P w #[]=(Instr.yield l args).runT P w #[]:=by
 have e:execOp ev o=Instr.yield l args:=by
  simp only[execOp,hop,resolve,Deferred.ofValue,hx,ha]
  simp[invoke,bind,Sem.bind,pure]
 rw[e]
theorem kg{w:World}{b:Nat}{v0 v:Value}{t:TypeId}(h:w.heap[b]?=some (.cells #[v0] t)):(w.setCell ⟨b,0,none⟩ v).heap[b]?=some (.cells #[v] t):=by
 simp only[World.setCell]
 rw[Array.getElem?_modify,h]
 simp
theorem bV(w:World){a:Addr}{b:Nat}(v:Value)(h:b≠a.block):(w.setCell a v).heap[b]?=w.heap[b]?:=by
 simp only[World.setCell]
 exact jm h
def rb(f:FuncId)(l:Nat):Frame:={(default:Frame)with fn:=f,kind:= .normal,roundOf:=some l}
theorem Rn.rangeAs{P:Program}{Goal:Goroutine->World->Prop}{b:Frame}{a:Act}{k:List Item}{cs:List Frame}{w:World}{x:Operand}{ps:Array Tmp}{ca cb:Code}{f:FuncId}{fn:Func}{first cap args:Array Value}(r:Loop)(hb:b.roundOf=none)(hr:r={state:= .ready,pending:=none,fn:=b.fn,tmps:=a.tmps,params:=ps,assign:=ca,body:=cb,defers:=w.heap.size})
 (hf:P.funcs[f]?=some fn) (hname:(fn.name== "runtime.NumGoroutine")=false) (hbd:fn.body.isNone=false) (hx:a.eval x= .func (.func f) first cap) (ha:first++#[.func (.yield (w.heap.size+1)) #[] #[]]++cap=args)
 (h:Rn P Goal (Frame.enter P f args .normal) (b.atR ⟨a.tmps,{target:= .collected w.heap.size,args:=#[]}::a.defers⟩ (.inRangeFunc (w.heap.size+1)::k)::cs) (cp w r)):Rn P Goal (b.atR a (.code (.rangeFunc x ps ca cb)::k)) cs w:=by
 subst hr
 subst ha
 exact Rn.range hb hf hname hbd hx h
def du:GStep->Prop
 | .go g _ _=>g.dying≠none
 | .comm g _ _ _ _ _=>g.dying≠none
 | .spawn g _ _ _=>g.dying≠none
 | .count g _ _=>g.dying≠none
 | .timer g _ _ _=>g.dying≠none
 | .alone g _ _ _=>g.dying≠none
 | .newcoro g _ _ _ _=>g.dying≠none
 | .coroswitch g _ _ _ _=>g.dying≠none
 | .collect g _ _=>g.dying≠none/\g.status= .running
 | .watch g _ _=>g.dying≠none
 | .ended _ _ _=>True
theorem g6{es:Array Event}{s:GStep}(h:du s):du (GStep.after es s):=by
 cases s<;>exact h
theorem wJ{c:Prop}[Decidable c]{a b:GStep}(ha:du a)(hb:du b):du (if c then a else b):=by
 split
 ·exact ha
 ·exact hb
section
variable{P:Program}{fr:Frame}{cs:List Frame}{d:Dying}{w:World}
theorem uL(fd:Nat)(text:ByteArray)(o:Outcome):du (endWith w fd text o):=by
 obtain⟨o',w',he,h⟩:=endWith_ended w fd text o
 rw[he]
 trivial
theorem mV(ahead:List ByteArray)(m:String)(whole:Bool):du (dieOf fr ahead m whole w):=by
 unfold dieOf
 simp[du]
theorem gi(m:String):du (endThrow fr m w):=by
 unfold endThrow
 exact mV _ _ _
theorem jW(v:Value):du (endPrinting P fr v w):=by
 unfold endPrinting
 dsimp only
 split
 ·exact mV _ _ _
 ·trivial
theorem mn(m:String):du (endFatal P fr cs (some d) m w):=by
 unfold endFatal
 dsimp only
 split
 ·exact mV _ _ _
 ·trivial
 ·trivial
theorem uK(f:Fatal):du (writeOn P fr d f w):=by
 unfold writeOn
 dsimp only
 split
 ·trivial
 ·split<;>simp[du]
theorem E0:du (die P fr d w):=by
 unfold die
 split
 ·exact uK _
 ·split
  ·split
   ·simp[du]
   ·exact uL _ _ _
  ·dsimp only
   split
   ·simp[du]
   ·split<;>simp[du]
   ·refine g6 ?_
    split
    ·simp[du]
    ·simp[du]
    ·simp[du]
    ·exact jW _
    ·trivial
   ·trivial
theorem lE(hI:P.inits=#[])(v:Value):du (doReturn P true fr cs (some d) v w):=by
 unfold doReturn
 split
 ·split<;>simp[du]
 ·split
  ·simp[du]
  ·trivial
  ·simp[hI,du]
theorem yI(g:Nat):du (early P fr cs (some d) g w):=by
 unfold early
 dsimp only
 repeat' (first|(split)|trivial|(simp[du];done))
theorem mW(listen:Bool)(s:Sem Next):du (stepG.apply P listen fr cs (some d) s w):=by
 unfold stepG.apply
 dsimp only
 refine g6 ?_
 split
 all_goals first
  |trivial
  |(simp[du];done)
  |(split<;>first|trivial|(simp[du];done)|exact gi _)
  |exact mn _
  |exact gi _
  |exact yI _
  |exact wJ (gi _) (by simp[du])
theorem BF(listen:Bool):du (stepG.oper P listen fr cs (some d) w):=by
 unfold stepG.oper
 split
 ·trivial
 ·split
  ·exact mW _ _
  ·exact mW _ _
theorem sr(x:Deferred):du (callDeferred P fr cs (some d) x w):=by
 unfold callDeferred
 refine wJ trivial ?_
 ·dsimp only
  refine g6 ?_
  split
  all_goals first
   |trivial
   |(simp[du];done)
   |(split<;>first|trivial|(simp[du];done))
   |exact mn _
   |exact gi _
theorem wI(hI:P.inits=#[]):du (unwind P true fr cs (some d) w):=by
 unfold unwind
 split
 ·dsimp only
  refine g6 ?_
  split
  ·simp[du]
  ·trivial
 ·exact sr _
 ·split
  ·trivial
  ·split
   ·trivial
   ·split
    ·simp[du]
    ·dsimp only
     split
     ·exact jW _
     ·trivial
  ·split
   ·exact lE hI _
   ·dsimp only
    refine g6 ?_
    split
    ·exact lE hI _
    ·trivial
    ·trivial
theorem BG(listen:Bool)(hI:P.inits=#[]):du (stepG.exec P true listen fr cs (some d) w):=by
 unfold stepG.exec
 dsimp only
 repeat' (first
  |trivial
  |(simp[du];done)
  |exact mW _ _
  |exact BF _
  |exact lE hI _
  |refine g6 ?_
  |split
  |(unfold Option.elim))
theorem tB(hI:P.inits=#[]){g:Goroutine}(h:g.dying≠none):du (stepG P true g w):=by
 obtain⟨fr,cs,st,dy,off⟩:=g
 cases dy with
 |none=>exact absurd rfl h
 |some d=>
  unfold stepG
  dsimp only
  split
  ·exact E0
  ·exact BG _ hI
  ·exact wI hI
end
def j0(gs:Array Goroutine)(rest:Rest):Prop:=2<=gs.size\/rest.watch=true\/∃g,gs=#[g]/\g.dying≠none
def mt:Stepped->Prop
 | .next m=>j0 m.gs m.rest
 | .ended _ _=>True
def Ey:Move->Prop
 | .goroutine m _=>j0 m.gs m.rest
 | .machine s _=>mt s
theorem pQ(w:World)(g:Goroutine):(g.again w).dying=g.dying:=by
 unfold Goroutine.again
 split
 ·dsimp only
  split<;>rfl
 all_goals rfl
section
variable{P:Program}{gs:Array Goroutine}{rest:Rest}{w:World}
theorem jA(r:Option Nat)(items:List Item)(st:Bool):gs.size<=(giveWork P gs r items st).1.size:=by
 unfold giveWork
 cases r<;>simp
theorem C9{g:Goroutine}(h:g.dying≠none)(hs:g.status= .running)(r:Option Nat)(items:List Item)(st:Bool):2<=(giveWork P #[g] r items st).1.size\/∃g',(giveWork P #[g] r items st).1=#[g']/\g'.dying≠none/\g'.status= .running:=by
 unfold giveWork
 cases r with
 |none=>exact .inl (by simp)
 |some f=>
  right
  cases f with
  |zero=>
   simp only[Array.modify,Array.modifyM]
   simp
   split
   all_goals first|exact⟨h,hs⟩|(simp_all)
  |succ f=>exact⟨g,by simp[Array.modify,Array.modifyM],h,hs⟩
theorem te(h:2<=gs.size\/rest.watch=true):mt (look P gs rest w):=by
 unfold look
 split
 ·dsimp only
  split
  ·trivial
  ·split
   ·trivial
   ·split
    ·refine h.elim (λh=> .inl ?_) λh=> .inr (.inl h)
     dsimp only
     split<;>split
     ·exact h
     ·exact Nat.le_trans h (jA _ _ _)
     ·exact Nat.le_trans h (jA _ _ _)
     ·exact Nat.le_trans h (Nat.le_trans (jA _ _ _) (jA _ _ _))
    ·trivial
    ·trivial
 ·trivial
theorem Dn{g:Goroutine}(h:g.dying≠none)(hs:g.status= .running):mt (look P #[g] rest w):=by
 have one:∀(gs1:Array Goroutine),(2<=gs1.size\/∃g',gs1=#[g']/\g'.dying≠none/\g'.status= .running)->j0 gs1 rest:=λgs1 h1=>h1.elim .inl λ⟨g',e,h2,_⟩=> .inr (.inr ⟨g',e,h2⟩)
 have two:∀(gs1:Array Goroutine) r items st,(2<=gs1.size\/∃g',gs1=#[g']/\g'.dying≠none/\g'.status= .running)->(2<=(giveWork P gs1 r items st).1.size\/∃g',(giveWork P gs1 r items st).1=#[g']/\g'.dying≠none/\g'.status= .running):=λgs1 r items st h1=>by
  rcases h1 with h1|⟨g',rfl,h2,h3⟩
  ·exact .inl (Nat.le_trans h1 (jA _ _ _))
  ·exact C9 h2 h3 _ _ _
 have base:2<=(#[g]:Array Goroutine).size\/∃g',(#[g]:Array Goroutine)=#[g']/\g'.dying≠none/\g'.status= .running:= .inr ⟨g,rfl,h,hs⟩
 unfold look
 split
 ·dsimp only
  split
  ·trivial
  ·split
   ·trivial
   ·split
    ·refine one _ ?_
     dsimp only
     split<;>split
     ·exact base
     ·exact two _ _ _ _ base
     ·exact two _ _ _ _ base
     ·exact two _ _ _ _ (two _ _ _ _ base)
    ·trivial
    ·trivial
 ·trivial
theorem wa(f:Goroutine->Goroutine)(hf:∀g,(f g).dying=g.dying)(h:j0 gs rest):j0 (gs.map f) rest:=by
 rcases h with h|h|⟨g,rfl,h⟩
 ·exact .inl (by simpa using h)
 ·exact .inr (.inl h)
 ·exact .inr (.inr ⟨f g,by simp,by rw[hf];exact h⟩)
theorem oe(g:Goroutine)(h:j0 gs rest):j0 (gs.push g) rest:=by
 rcases h with h|h|⟨g0,rfl,h⟩
 ·exact .inl (by simp;omega)
 ·exact .inr (.inl h)
 ·exact .inl (by simp)
theorem vZ(k:Nat)(f:Goroutine->Goroutine)(hf:∀g,(f g).dying=g.dying)(h:j0 gs rest):j0 (gs.modify k f) rest:=by
 rcases h with h|h|⟨g,rfl,h⟩
 ·exact .inl (by simpa using h)
 ·exact .inr (.inl h)
 ·cases k with
  |zero=>exact .inr (.inr ⟨f g,by simp[Array.modify,Array.modifyM],by rw[hf];exact h⟩)
  |succ k=>exact .inr (.inr ⟨g,by simp[Array.modify,Array.modifyM],h⟩)
theorem dV{rest':Rest}(hw:rest.watch=true->rest'.watch=true)(h:j0 gs rest):j0 gs rest':=h.elim .inl λh=>h.elim (λh=> .inr (.inl (hw h))) λh=> .inr (.inr h)
theorem yi{m:Machine}(k:Nat)(h:j0 m.gs m.rest):mt (serve P m k):=by
 unfold serve
 split
 ·trivial
 ·exact wa _ (pQ _) (dV (rest':={m.rest with timers:=_}) (λh=>h) h)
 ·dsimp only
  split
  ·trivial
  ·exact oe _ (dV (rest':={m.rest with timers:=_,alone:=_}) (λh=>h) h)
theorem mQ{m:Machine}(h:j0 m.gs m.rest):Ey (askOn P m):=by
 unfold askOn
 dsimp only
 repeat' (first
  |trivial
  |exact h
  |exact yi _ h
  |exact dV (λh=>h) h
  |split)
theorem wb{m:Machine}(h:j0 m.gs m.rest):Ey (ask P m):=by
 unfold ask
 split
 ·rename_i hw
  split
  ·trivial
  ·have hl:=te (P:=P) (gs:=m.gs) (rest:=m.rest) (w:=‹World›) (.inr hw)
   split
   ·rename_i heq
    rw[heq]at hl
    exact mQ hl
   ·exact hl
  ·exact mQ h
 ·exact mQ h
theorem B2{m:Machine}(h:j0 m.gs m.rest):Ey (move P m):=by
 unfold move
 split
 ·split
  ·exact h
  ·trivial
 ·split
  ·split
   ·exact dV (λh=>h) h
   ·exact wb (dV (λh=>h) h)
  ·exact wb h
theorem vk{m m1:Machine}{op:TimerOp}{v:Value}(h:timerOp m op= .ok (v,m1)):m1.rest.watch=m.rest.watch:=by
 have hn:∀(m0:Machine) var when' (per:Timer->Nat),m0.rest.watch=m.rest.watch->timerOp.named m var (λk t=>retime m0 k t when' (per t))= .ok (v,m1)->m1.rest.watch=m.rest.watch:=by
  intro m0 var when' per h0 h
  unfold timerOp.named at h
  split at h
  ·simp only[retime,Except.ok.injEq,Prod.mk.injEq]at h
   obtain⟨_,rfl⟩:=h
   exact h0
  ·cases h
 unfold timerOp at h
 split at h
 ·split at h
  ·cases h
   rfl
  ·split at h
   ·split at h
    ·cases h
    ·cases h
     rfl
   ·cases h
 ·exact hn m _ 0 (λt=>t.period) rfl h
 ·split at h
  ·rename_i m2 ho
   refine hn m2 _ _ (λ_=>_) ?_ h
   unfold timerOp.opened at ho
   split at ho
   ·split at ho
    ·cases ho
     rfl
    ·cases ho
   ·cases ho
    rfl
  ·cases h
 ·cases h
  rfl
theorem ku(h k:Nat)(v:Value):(finishPartner P gs h k v).size=gs.size:=by
 unfold finishPartner
 simp
def Kt(gs:Array Goroutine)(i:Nat)(rest:Rest)(one:Prop):Prop:=∀gs1:Array Goroutine,gs1.size=gs.size->∀g1:Goroutine,(one->g1.dying≠none)->j0 (gs1.setIfInBounds i g1) rest
theorem DT{i:Nat}(h:2<=gs.size\/rest.watch=true):Kt gs i rest False:=λgs1 h1 g1 _=>h.elim (λh=> .inl (by simp[h1,h])) λh=> .inr (.inl h)
theorem G0(x:Goroutine):Kt #[x] 0 rest True:=λgs1 h1 g1 h2=>by
 obtain⟨y,rfl⟩:=Array.size_eq_one_iff.1 (show gs1.size=1 from h1)
 exact .inr (.inr ⟨g1,by simp,h2 trivial⟩)
theorem DO{i:Nat}{one:Prop}(hf:Kt gs i rest one){g:Goroutine}(hg:one->g.dying≠none)(cases:Array CommCase)(blocking:Bool)(shape:CommShape):mt (communicate P rest gs i g cases blocking shape w).1:=by
 have put:∀(g1:Goroutine) (gs1:Array Goroutine) (w1:World) (ops:Array MemOp),gs1.size=gs.size->g1.dying=g.dying->mt ((.next {world:=w1,gs:=gs1.setIfInBounds i g1,rest},ops):Stepped×Array MemOp).1:=λg1 gs1 w1 ops h1 h2=>hf gs1 h1 g1 (by rw[h2];exact hg)
 unfold communicate
 dsimp only
 split
 ·trivial
 split
 ·split
  ·split
   ·exact put _ _ _ #[] rfl rfl
   ·trivial
  ·exact put _ _ _ #[] rfl rfl
 split
 ·trivial
 split
 ·split
  ·exact put _ _ _ #[] rfl rfl
  ·trivial
 ·exact put _ _ _ #[] rfl rfl
 ·exact put _ _ _ #[] rfl rfl
 ·split
  ·exact put _ _ _ #[] rfl rfl
  ·split
   ·exact put _ _ _ #[] (ku _ _ _) rfl
   ·trivial
 ·exact put _ _ _ #[] (ku _ _ _) rfl
 ·exact put _ _ _ #[] (ku _ _ _) rfl
 ·trivial
theorem qw(fr:Frame)(m:String):∃g w' es,endThrow fr m w= .go g w' es/\g.dying≠none:=by
 unfold endThrow dieOf
 exact⟨_,_,_,rfl,by simp⟩
theorem zJ{m:Machine}{i:Nat}{one:Prop}{g:Goroutine}(hsw:m.gs.swapAt! i {(default:Goroutine)with status:= .finished}=(g,gs))(hf:Kt gs i m.rest one)(hs:one->du (stepG P (i==0) g m.world))(hc:∀g' w' es,stepG P (i==0) g m.world= .collect g' w' es->mt (look P (gs.setIfInBounds i g') m.rest w')):mt (runT P m i).1:=by
 unfold runT
 simp only[hsw]
 generalize hst:stepG P (i==0) g m.world=s at hs hc
 cases s with
 |go g' w' es=>
  refine dV (rest:=m.rest) (λh=>by dsimp only;split<;>exact h) ?_
  dsimp only
  split
  ·exact hf _ (by simp) _ hs
  ·exact hf _ rfl _ hs
 |comm g' cases blocking shape w' es=>exact DO hf hs _ _ _
 |spawn g' child w' es=>exact oe _ (hf _ rfl _ hs)
 |count g' w' es=>
  dsimp only
  split
  ·trivial
  ·exact hf _ rfl _ hs
 |timer g' op w' es=>
  dsimp only
  split
  ·rename_i v m1 ht
   exact dV (rest:=m.rest) (λh=>by rw[vk ht];exact h) (hf _ rfl _ hs)
  ·rename_i msg ht
   obtain⟨g1,w1,es1,e,h1⟩:=qw (w:=w') g'.frame msg
   rw[e]
   exact hf _ rfl _ λ_=>h1
  ·trivial
  ·trivial
 |alone g' on w' es=>exact dV (rest:=m.rest) (λh=>h) (hf _ rfl _ hs)
 |newcoro g' c d w' es=>exact oe _ (hf _ rfl _ hs)
 |coroswitch g' c exit w' es=>
  dsimp only
  split
  ·exact vZ _ _ (λ_=>rfl) (hf _ rfl _ λh=>by split<;>exact hs h)
  ·obtain⟨g1,w1,es1,e,h1⟩:=qw (w:=w') g'.frame "coroswitch on exited coro"
   rw[e]
   exact hf _ rfl _ λ_=>h1
  ·trivial
 |collect g' w' es=>exact hc g' w' es rfl
 |watch g' w' es=>exact dV (rest:=m.rest) (λh=>by simp[h]) (hf _ rfl _ hs)
 |ended o w' es=>trivial
theorem Dm(hI:P.inits=#[]){m:Machine}(i:Nat)(h:j0 m.gs m.rest):mt (runT P m i).1:=by
 by_cases hm:2<=m.gs.size\/m.rest.watch=true
 ·rcases hsw:m.gs.swapAt! i {(default:Goroutine)with status:= .finished}with⟨g,gs⟩
  have hsz:gs.size=m.gs.size:=by
   unfold Array.swapAt! at hsw
   split at hsw
   ·have:=congrArg (λx=>x.2.size) hsw
    simpa using this.symm
   ·have:=congrArg (λx=>x.2.size) hsw
    simpa using this.symm
  refine zJ hsw (one:=False) (DT (by rw[hsz];exact hm)) (λh=>h.elim) λg' w' es _=>te (by simpa[hsz]using hm)
 ·obtain⟨g,hg,hd⟩:=(h.resolve_left λh=>hm (.inl h)).resolve_left λh=>hm (.inr h)
  cases i with
  |zero=>
   have hsw:m.gs.swapAt! 0 {(default:Goroutine)with status:= .finished}=(g,#[{(default:Goroutine)with status:= .finished}]):=by rw[hg];rfl
   refine zJ hsw (one:=True) (G0 _) (λ_=>tB hI hd) λg' w' es e=> ?_
   have:=tB (w:=m.world) hI hd
   have e':stepG P true g m.world= .collect g' w' es:=e
   rw[e']at this
   exact Dn this.1 this.2
  |succ i=>
   have hsw:m.gs.swapAt! (i+1) {(default:Goroutine)with status:= .finished}=({(default:Goroutine)with status:= .finished},m.gs):=by
    rw[hg]
    unfold Array.swapAt!
    rw[dif_neg (by simp)]
    rfl
   have hfit:∀gs1:Array Goroutine,gs1.size=1->∀g1,gs1.setIfInBounds (i+1) g1=gs1:=λgs1 h1 g1=>by
    unfold Array.setIfInBounds
    rw[dif_neg (by omega)]
   unfold runT
   simp only[hsw]
   have hst:∃g' w' es,stepG P ((i+1)==0) {(default:Goroutine)with status:= .finished} m.world= .go g' w' es:=⟨_,_,_,rfl⟩
   obtain⟨g',w',es,hst⟩:=hst
   rw[hst]
   refine dV (rest:=m.rest) (λh=>by dsimp only;split<;>exact h) ?_
   dsimp only
   split
   ·rw[hfit _ (by simp[hg])]
    exact wa _ (pQ _) h
   ·rw[hfit _ (by simp[hg])]
    exact h
theorem B1(hI:P.inits=#[]){m:Machine}(h:j0 m.gs m.rest):mt (step P m):=by
 have hm:=B2 (P:=P) h
 unfold step stepT
 split
 ·rename_i m' i heq
  rw[heq]at hm
  exact Dm hI i hm
 ·rename_i s ops heq
  rw[heq]at hm
  exact hm
theorem yh(hI:P.inits=#[]){I:Machine->Prop}{m m':Machine}(h:StepsIn I P m m'):j0 m.gs m.rest->j0 m'.gs m'.rest:=by
 induction h with
 |refl=>exact id
 |head _ hs _ ih=>
  intro h
  have:=B1 hI h
  rw[hs]at this
  exact ih this
theorem td{fr:Frame}{cs:List Frame}:¬j0 (lone fr cs w).gs (lone fr cs w).rest:=by
 rintro(h|h|⟨g,h,hd⟩)
 ·simp[lone]at h
 ·simp[lone]at h
 ·have e:({frame:=fr,callers:=cs,status:= .running,dying:=none}:Goroutine)=g:=by simpa[lone]using h
  rw[←e]at hd
  exact hd rfl
def Ez(m:Machine):Prop:=¬j0 m.gs m.rest
theorem pu:xx Ez:=λm hm g hg=>by
 refine Classical.byContradiction λhd=>hm ?_
 by_cases h2:2<=m.gs.size
 ·exact .inl h2
 ·refine .inr (.inr ⟨g, ?_,hd⟩)
  have hpos:0<m.gs.size:=Array.size_pos_of_mem hg
  obtain⟨y,hy⟩:=Array.size_eq_one_iff.1 (show m.gs.size=1 by omega)
  rw[hy]at hg⊢
  rw[show g=y by simpa using hg]
theorem pr(hI:P.inits=#[]){I:Machine->Prop}{m mE:Machine}(h:StepsIn I P m mE)(hE:Ez mE):StepsIn Ez P m mE:=by
 induction h with
 |refl=>exact .refl _
 |head hi hs hrest ih=>exact .head (λhl=>hE (yh hI (.head hi hs hrest) hl)) hs (ih hE)
end
section
variable{PL:Program}{G:Nat}
theorem qT{f:FuncId}(hS:∃fn,PL.funcs[f]?=some fn/\∃c,fn.body=some c/\eM (f==aV) c=true){args:Array Value}(ha:∀v∈args,aI v=true){w:World}(hG:2<=G/\G<=w.heap.size)(htab:ib w w)(hcalm:ax w):
 iW G (λ_=>False) (ba PL f args []) w (ba PL f args []) w:=by
 obtain⟨fn,h1,h2⟩:=hS
 obtain⟨⟨D,ρ,q1,q2,_⟩,_,_⟩:=ng (X:={P:=PL,ty:=0,Wg:=0,C:=0,ety:=0,n:=0,val:=λ_=>undef,RO:=λ_=>False,mine:=λ_ _=>False}) (i:=0) (V:=λ_=>False) (base:=[]) ⟨fn,fn,h1,h1,rfl,rfl,h2⟩ ha (wL:=w) (w:=w) ⟨hG.1,hG.2,hG.2⟩ htab hcalm
 exact⟨⟨D,ρ,q1,q2,λb hb=>hb.elim⟩,htab,hcalm⟩
theorem tG{f:FuncId}{r:Nat}{Val:Value->Prop}(hplain:∀v,Val v->aI v=true)(hne:(f==aV)=false){D0:Nat->Prop}{g g':Goroutine}{w w':World}(h:iW G D0 g w g' w')(hs:lP f r Val g w):lP f r Val g' w':=by
 obtain⟨⟨D,ρ,h1,h2,_⟩,_,_⟩:=h
 obtain⟨s1,s2,s3,s4,v,s5,s6⟩:=hs
 have hfr:=h2.frame ρ h1.self
 have hcs:=h2.callers ρ h1.self
 rw[s4]at hcs
 refine⟨by rw[hfr];exact s1,by rw[hfr];exact s2,by rw[hfr];show g.frame.defers.map _=[];rw[s3];rfl,by simpa using hcs,v, ?_,s6⟩
 rw[hfr]
 show(iY ρ g.frame.fn g.frame.tmps)[r]?=_
 rw[ek ρ _ _ r (by rw[s1,hne];rfl),s5]
 simp[cE ρ v (hplain v s6)]
theorem rP(E:j4 PL PL G)(hB:∀f (fn:Func) c,PL.funcs[f]?=some fn->fn.body=some c->eM (f==aV) c=true){f:FuncId}{fn:Func}{c:Code}{r:Nat}(hf:PL.funcs[f]?=some fn)(hb:fn.body=some c)(hr:fn.results=#[.tmp r])(hne:(f==aV)=false){args:Array Value}(ha:∀v∈args,aI v=true){w:World}(hG:2<=G/\G<=w.heap.size)(htab:ib w w)(hcalm:ax w){v:Value}(hv:aI v=true)(hu:v≠undef)
 (hC:∀τ,Calls PL f args (jJ w τ 0) λe _=>e= .returned v):fc PL (lP f r (· =v)) (ba PL f args []) w:=by
 refine nh E hB (D0:=λ_=>False) pu (qT ⟨fn,hf,c,hb,hB f fn c hf hb⟩ ha hG htab hcalm) ⟨rfl,λ_ e=>FrameMode.noConfusion e,rfl⟩ (λτ=> ?_) λg w g' w' hp hs=>tG (λv' e=>by rw[e];exact hv) hne hp hs
 obtain⟨e,w',fr,rfl,hcm,hfn,hlv⟩:=hC τ []
 obtain⟨l1,l2,l3,fn2,l4,l5⟩:=hlv
 refine⟨fr,w',l1,pr E.inits (StepsIn.of_steps hcm) td,hfn,l1,l2,rfl,v, ?_,rfl⟩
 rw[hfn,hf]at l4
 cases l4
 rw[results_tmp hr]at l5
 have e:fr.tmps.getD r undef=v:=by simpa using l5
 rw[Array.getD_eq_getD_getElem?]at e
 cases ht:fr.tmps[r]? with
 |none=>rw[ht]at e;exact absurd e.symm hu
 |some x=>rw[ht]at e;exact congrArg some e
end
section
variable{PL:Program}{Stop:Goroutine->World->Prop}{G:Nat}
theorem D5(E:j4 PL PL G)(hB:∀f (fn:Func) c,PL.funcs[f]?=some fn->fn.body=some c->eM (f==aV) c=true)(hstop:∀g w,Stop g w->∀τ d,∃o w1 es,stepG PL true g (jJ w τ d)= .ended o w1 es){D0:Nat->Prop}{g:Goroutine}{w:World}(ht:fc PL Stop g w):
 fa g->∀g' w',iW G D0 g w g' w'->∀g2 w2,StepsIn (λ_=>True) PL (solo g w) (solo g2 w2)->∃g2' w2',iW G D0 g2 w2 g2' w2':=by
 induction ht with
 | @stop g w hs=>
   intro hw g' w' hp g2 w2 hst
   generalize hm:solo g w=m at hst
   generalize hm2:solo g2 w2=m2 at hst
   cases hst with
   |refl=>
    obtain⟨rfl,rfl⟩:=fl (hm.trans hm2.symm)
    exact⟨g',w',hp⟩
   |head _ hstep _=>
    exfalso
    subst hm
    obtain⟨o,w1,es,e⟩:=hstop g w hs w.tape w.drawn
    have e':stepG PL true g w= .ended o w1 es:=e
    rw[step,stepT_solo hw.1]at hstep
    simp[runT,solo,Array.swapAt!,Array.swapAt,e']at hstep
 | @go g w n hn hwn htn ih=>
   intro hw g' w' hp g2 w2 hst
   generalize hm:solo g w=m at hst
   generalize hm2:solo g2 w2=m2 at hst
   cases hst with
   |refl=>
    obtain⟨rfl,rfl⟩:=fl (hm.trans hm2.symm)
    exact⟨g',w',hp⟩
   | @head _ m1 _ _ hstep hrest=>
     subst hm hm2
     obtain⟨es',e'⟩:=hn w.tape w.drawn
     have e2:stepG PL true g w= .go (n w.tape w.drawn).1 (n w.tape w.drawn).2 es':=e'
     rw[step,stepT_solo hw.1,runT_solo_go e2]at hstep
     simp only[Stepped.next.injEq]at hstep
     subst hstep
     have hp':iW G D0 g w g' (jJ w' w.tape w.drawn):=hp.re rfl rfl
     obtain⟨g1',w1',_,_,_,hp1,_⟩:=hp'.step E hB e2 (hwn _ _) λi _=>rfl
     exact ih w.tape w.drawn (hwn _ _) g1' w1' hp1 g2 w2 hrest
variable{Q:Prop}{g0:Goroutine}{w0:World}{b:Frame}{a:Act}{k:List Item}{cs:List Frame}{w:World}{ops:Array Oper}{n:Nat}{rest:List Nat}{o:Oper}
theorem Tk.dead(hS:∀g w,Stop g w->g.frame.mode= .returning/\g.callers=[])(ho:ops[n]?=some o)(hw:Region.wanted o (yielded ops a.tmps)=true)(hnd:∀c,o.op≠ .defer c){x:Halt}{w':World}(hr:(execOp a.eval o).run PL w= .halt x w')(hx:eb x):
 Tk PL Stop Q g0 w0 (b.atR a (.inRegion ops (n::rest)::k)) cs w:=
 Tk.exec hS rfl λg1 w1 es e hwl _ _=>by
  exfalso
  rw[cK rfl ho hw hnd]at e
  unfold stepG.apply at e
  rw[Frame.eval_atR,if_pos rfl,Sem.runT_eq,hr]at e
  cases x with
  |panic v=>
   simp only[GStep.after,GStep.go.injEq]at e
   obtain⟨rfl,_,_⟩:=e
   obtain⟨c,hc⟩:=iC (b.atR a (.inRegion ops (n::rest)::k)) [{v,recovered:=false}] (.inl rfl)
   exact hwl.2.1 c hc
  |exit c=>simp[GStep.after]at e
  |fatal m=>
   dsimp only at e
   cases hf:endFatal PL (b.atR a (.inRegion ops (n::rest)::k)) cs none m w' with
   |go g w2 es2=>
    rw[hf]at e
    simp only[GStep.after,GStep.go.injEq]at e
    obtain⟨rfl,_,_⟩:=e
    exact pD hf hwl.2.2
   |_=>rw[hf]at e;simp[GStep.after]at e
  |throw m=>
   dsimp only at e
   obtain⟨g,w2,es2,hf,hd⟩:=qw (w:=w') (b.atR a (.inRegion ops (n::rest)::k)) m
   rw[hf]at e
   simp only[GStep.after,GStep.go.injEq]at e
   obtain⟨rfl,_,_⟩:=e
   exact hd hwl.2.2
  |unsupported u=>
   cases u with
   |initOrder k=>exact hx
   |_=>simp[GStep.after]at e
  |stuck s=>simp[GStep.after]at e
  |blocked=>exact hx
  |waiting=>exact hx
  |goexit=>exact hx
theorem Tk.calm{fr:Frame}(hq:∀g2 w2,StepsIn (λ_=>True) PL (solo g0 w0) (solo g2 w2)->ax w2)(h:ax w->Tk PL Stop Q g0 w0 fr cs w):Tk PL Stop Q g0 w0 fr cs w:=λht hst=>h (hq _ _ hst) ht hst
end
end Go.Proofs.YtkmoglhgkcnalaaDoor
namespace Go.Proofs.YtkmoglhgkcnalaaDoor
open Go Go.Conc
open Go.ConcN (WgLive)
open Go.ConcR (KK WgAt stA smA rd wr mk DC0)
open Go.ConcN.Gen Go.RowKit Go.Conc.Lib Go.ConcR.Gen
section
variable{L:WgLink}
structure l8 (X:ap) (V:Nat->Prop) (w00 w:World):Prop where
 live:WgLive X.ty X.Wg w
 since:di (λb=>V b\/X.RO b) w00 w
 ne:¬(V X.Wg\/X.RO X.Wg)
theorem Lm{X:ap}{V:Nat->Prop}{w00 w w₁:World}(h:l8 X V w00 w)(r:aR X V w w₁):l8 X V w00 w₁:=⟨r.live h.live,h.since.trans r.own,h.ne⟩
theorem l8.set{X:ap}{V:Nat->Prop}{w00 w:World}{a:Addr}{v:Value}(h:l8 X V w00 w)(ha:a.block=X.Wg)(hl:WgLive X.ty X.Wg (w.setCell a v)):l8 X V w00 (w.setCell a v):=
 ⟨hl,⟨λb hb=>(by simp only[World.setCell];exact jm λe=>h.ne (by rw[←ha,←e];exact hb):(w.setCell a v).heap[b]?=w.heap[b]?).trans (h.since.keep b hb),by simpa[World.setCell]using h.since.size,h.since.os,h.since.output,h.since.tape⟩,h.ne⟩
theorem cB{X:ap}{V:Nat->Prop}{St:(Nat->Prop)->Goroutine->World->Prop}{m:Nat}{g:Goroutine}{w:World}(h:Goes X.P true (aR X V) DC0 (St V) m g w):bD X St m V g w:=
 (bD.of_goes h).mono λ_ _ _ ⟨e,hs⟩=>e▸hs
theorem m7{X:ap}{V:Nat->Prop}{St:(Nat->Prop)->Goroutine->World->Prop}{m k:Nat}{g:Goroutine}{w:World}(h:Goes X.P true (aR X V) DC0 (λg w=>bD X St k V g w) m g w):bD X St (m+k) V g w:=
 (cB (St:=λV g w=>bD X St k V g w) h).trans λ_ _ _ h=>h
theorem GI(X:ap)(H:WgLib X.P L){i:Nat}{Next:(Nat->Prop)->Goroutine->World->Prop}{V:Nat->Prop}{b₀:Frame}{a₀:Act}{ops₀:Array Oper}{i₀:Nat}{rest₀:List Nat}{k₀:List Item}{cs:List Frame}{mT:Nat}
 {w00:World} (hT:∀w,l8 X V w00 w->bD X (Jf X i Next) mT V (G (b₀.at (a₀.put ((ops₀[i₀]?).bind (·.dst)) (.tuple #[])) (.inRegion ops₀ rest₀::k₀)) cs) w) (w:World) (hK:l8 X V w00 w):
 Goes X.P true (aR X V) DC0 (xw X i Next V) 200 (G ((base L.add).at ⟨#[.pointer (some ⟨X.Wg,0,none⟩), .int .i64 1]++Array.replicate 115 undef,[]⟩ [.code (body_add L)]) (b₀.at a₀ (.inRegion ops₀ (i₀::rest₀)::k₀)::cs)) w:=by
 lib_facts
 simp only[body_add,addFn,Option.getD_some]
 simp only[Array.replicate_succ,Array.replicate_zero,List.push_toArray,List.nil_append,List.cons_append,List.append_toArray]
 repeat (first
  |u_c stepG_seq Lm hK
  |u_c stepG_region_end Lm hK
  |u_reg Lm hK
  |u_c stepG_skip Lm hK
  |u_cond true Lm hK
  |u_cond false Lm hK
  |u_skip Lm hK
  |u_defer Lm hK
  |u_bub Lm hK
  |u_c stepG_ret' Lm hK
  |u_call H.f_uAdd (nm_uAdd L) uAddFn Lm hK
  |u_leave1 H.f_uAdd Lm hK
  |u_op Lm hK)
 refine Goes.stop (λw₁ h₁=> ?_)
 replace hK:=Lm hK h₁
 clear h₁
 refine⟨rfl,_,stepG_mark0 .disable (by simp) rfl rfl (by k_ne) rfl H.f_disable (x_disable_n L) (x_disable_b L) (x_disable_x L) (x_disable_f L),200,cB ?_⟩
 walk_nrm
 repeat (first
  |u_c stepG_seq Lm hK
  |u_c stepG_region_end Lm hK
  |u_reg Lm hK
  |u_c stepG_skip Lm hK
  |u_cond true Lm hK
  |u_cond false Lm hK
  |u_skip Lm hK
  |u_defer Lm hK
  |u_bub Lm hK
  |u_c stepG_ret' Lm hK
  |u_call H.f_uAdd (nm_uAdd L) uAddFn Lm hK
  |u_leave1 H.f_uAdd Lm hK
  |u_op Lm hK)
 refine Goes.stop (λw₂ h₂=> ?_)
 replace hK:=Lm hK h₂
 clear h₂
 refine⟨rfl,λv hv hw=> ?_⟩
 rcases Nat.eq_zero_or_pos v with rfl|hvp
 ·have hw0:WgAt X.ty X.Wg w₂ 0 0:=by simpa using hw
  have z:(((0:Nat):Int)+1)*KK=KK:=by simp
  rw[z]
  have e0:IntKind.u64.wrap (0+4294967296)=KK:=by decide
  refine⟨_,(stepG_add_atomic rfl rfl (by k_ne) rfl H.f_addU64 (x_addU64_n L) (x_addU64_b L) (x_addU64_x L) .u64 (x_addU64_f L) rfl rfl hw0.cellSt (hw0.thaw 0)).trans (by rw[e0];rfl),λ_=>⟨200,cB ?_⟩,λh=>absurd rfl h⟩
  replace hK:l8 X V w00 (w₂.setCell (stA X.Wg) (.int .u64 KK)):=hK.set rfl ⟨_,_,hw0.setSt _⟩
  clear hw hw0
  simp only[KK]at hK⊢
  walk_nrm
  repeat (first
   |u_c stepG_seq Lm hK
   |u_c stepG_region_end Lm hK
   |u_reg Lm hK
   |u_c stepG_skip Lm hK
   |u_cond true Lm hK
   |u_cond false Lm hK
   |u_skip Lm hK
   |u_defer Lm hK
   |u_bub Lm hK
   |u_c stepG_ret' Lm hK
   |u_call H.f_uAdd (nm_uAdd L) uAddFn Lm hK
   |u_leave1 H.f_uAdd Lm hK
   |u_op Lm hK)
  u_in Lm hK
  refine goes_oper_k rfl rfl (by k_ne) (λKx hKx=> ?_)
  have hcv:=run_convert_to_unsafe (P:=X.P) H.underlying_tPU32 H.underlying_tUP H.room_tU32 (Go.ConcN.Gen.WgLive.cell1 hK.live).choose_spec
  have hce:=λes=>events_convert_to_unsafe (P:=X.P) H.underlying_tPU32 H.underlying_tUP H.room_tU32 (Go.ConcN.Gen.WgLive.cell1 hK.live).choose_spec es
  go_simp
  refine hKx _ _ ⟨?_, ?_⟩
  ·u_none
   intro ex hex
   have hmx:=mem_listed hex
   simp[go_sem,hce]at hmx
  clear hKx Kx hcv hce
  refine Goes.stop (λw₃ h₃=> ?_)
  replace hK:=Lm hK h₃
  clear h₃
  refine⟨rfl,_,stepG_markAt .read (by simp) rfl rfl (by k_ne) rfl H.f_raceRead (x_raceRead_n L) (x_raceRead_b L) (x_raceRead_x L) (x_raceRead_f L) (ad:=⟨X.Wg,1,none⟩) (by simp[Act.eval]),200,cB ?_⟩
  walk_nrm
  iterate 39 (first
   |u_c stepG_seq Lm hK
   |u_c stepG_region_end Lm hK
   |u_reg Lm hK
   |u_c stepG_skip Lm hK
   |u_cond true Lm hK
   |u_cond false Lm hK
   |u_skip Lm hK
   |u_defer Lm hK
   |u_bub Lm hK
   |u_c stepG_ret' Lm hK
   |u_call H.f_uAdd (nm_uAdd L) uAddFn Lm hK
   |u_leave1 H.f_uAdd Lm hK
   |u_op Lm hK)
  refine Goes.stop (λw₄ h₄=> ?_)
  replace hK:=Lm hK h₄
  clear h₄
  refine⟨rfl,_,stepG_unwind_entry (v:= .tuple #[]) (evs:=#[mk .enable]) rfl H.f_enable (x_enable_n L) (x_enable_b L) (x_enable_x L) (x_enable_f L) (by simp[Extern.Race.none_]) (by simp[mk]) (by simp[mk]),1+mT,m7 ?_⟩
  u_leave0 H.f_add Lm hK
  exact λw₅ h₅=>hT _ (Lm hK h₅)
 ·obtain⟨z,hz⟩:∃z:Int,z=(v:Int)+1:=⟨_,rfl⟩
  obtain⟨s,hs⟩:∃s:Int,s=z*KK:=⟨_,rfl⟩
  have es:IntKind.u64.wrap ((v:Int)*KK+4294967296)=s:=by rw[IntKind.wrap_u64,hs,hz];simp only[KK];omega
  rw[←hz,←hs]
  have n1:s/4294967296=z:=by rw[hs];simp only[KK];omega
  have n2:bits .and .u64 s 2147483648=0:=by rw[hs,hz];have:=Go.ConcN.st_flag (v+1) 0 (by omega) (by omega);simpa[KK]using this
  have n3:bits .and .u64 s 2147483647=0:=by rw[hs,hz];have:=Go.ConcN.st_waiters (v+1) 0 (by omega) (by omega);simpa[KK]using this
  have n4:IntKind.i32.wrap z=z:=by rw[IntKind.wrap_i32];omega
  have n5:1<z:=by omega
  have n6:z<2147483648:=by omega
  have n7:(z==1)=false:=by simp;omega
  have n8:decide (z=1)=false:=decide_eq_false (by omega)
  have n9:decide (z<0)=false:=decide_eq_false (by omega)
  have m1:decide (0<z)=true:=decide_eq_true (by omega)
  have m2:(z==0)=false:=by simp;omega
  have m3:decide (z=0)=false:=decide_eq_false (by omega)
  refine⟨_,(stepG_add_atomic rfl rfl (by k_ne) rfl H.f_addU64 (x_addU64_n L) (x_addU64_b L) (x_addU64_x L) .u64 (x_addU64_f L) rfl rfl hw.cellSt (hw.thaw 0)).trans (by rw[es];rfl),λh=>by omega,λ_=>⟨200,cB ?_⟩⟩
  replace hK:l8 X V w00 (w₂.setCell (stA X.Wg) (.int .u64 s)):=hK.set rfl ⟨_,_,hw.setSt _⟩
  clear hw hs hz es
  walk_nrm
  u_op Lm hK
  u_c stepG_region_end Lm hK
  u_c stepG_ret' Lm hK
  u_leave1 H.f_uAdd Lm hK
  iterate 82 (first
   |u_c stepG_seq Lm hK
   |u_c stepG_region_end Lm hK
   |u_reg Lm hK
   |u_c stepG_skip Lm hK
   |u_cnd true Lm hK
   |u_cnd false Lm hK
   |u_skip Lm hK
   |u_op Lm hK)
  u_c stepG_ret' Lm hK
  refine Goes.stop (λw₃ h₃=> ?_)
  replace hK:=Lm hK h₃
  clear h₃
  refine⟨rfl,_,stepG_unwind_entry (v:= .tuple #[]) (evs:=#[mk .enable]) rfl H.f_enable (x_enable_n L) (x_enable_b L) (x_enable_x L) (x_enable_f L) (by simp[Extern.Race.none_]) (by simp[mk]) (by simp[mk]),1+mT,m7 ?_⟩
  u_leave0 H.f_add Lm hK
  exact λw₄ h₄=>hT _ (Lm hK h₄)
end
section
variable{L:WgLink}
def A3(X:ap)(L:WgLink)(w00:World)(c:Frame)(cs:List Frame)(V:Nat->Prop)(g:Goroutine)(w:World):Prop:=
 ∃T:Array Value,g=G ((base L.wait).at ⟨T,[]⟩ [.code (L7 L), .inLoop (L7 L), .inBlock 0]) (c::cs)/\T.size=84/\T[0]?=some (.pointer (some ⟨X.Wg,0,none⟩))/\l8 X V w00 w
theorem Jo(X:ap)(H:WgLib X.P L){Fin:(Nat->Prop)->Goroutine->World->Prop}{V:Nat->Prop}{b₀:Frame}{a₀:Act}{ops₀:Array Oper}{i₀:Nat}{rest₀:List Nat}{k₀:List Item}{cs:List Frame}{mT:Nat}
 {w00:World} (hT:∀w,l8 X V w00 w->bD X Fin mT V (G (b₀.at (a₀.put ((ops₀[i₀]?).bind (·.dst)) (.tuple #[])) (.inRegion ops₀ rest₀::k₀)) cs) w)
 (g:Goroutine) (w:World) (h:A3 X L w00 (b₀.at a₀ (.inRegion ops₀ (i₀::rest₀)::k₀)) cs V g w):
 Goes X.P true (aR X V) DC0 (qa X Fin (A3 X L w00 (b₀.at a₀ (.inRegion ops₀ (i₀::rest₀)::k₀)) cs) V) 30 g w:=by
 lib_facts
 obtain⟨T,rfl,hS,t0,hK⟩:=h
 obtain⟨v0,v1,v2,v3,v4,v5,v6,v7,v8,v9,v10,v11,v12,v13,v14,v15,v16,v17,v18,v19,v20,v21,v22,v23,v24,v25,v26,v27,v28,v29,v30,v31,v32,v33,v34,v35,v36,v37,v38,v39,v40,v41,v42,v43,v44,v45,v46,v47,v48,v49,v50,v51,v52,v53,v54,v55,v56,v57,v58,v59,v60,v61,v62,v63,v64,v65,v66,v67,v68,v69,v70,v71,v72,v73,v74,v75,v76,v77,v78,v79,v80,v81,v82,v83,rfl⟩:=array84 T hS
 simp only[List.getElem?_toArray,List.getElem?_cons_zero,Option.some.injEq]at t0
 subst t0
 simp only[L7,body_wait,waitFn,Option.getD_some]
 iterate 16 (first
  |u_c stepG_seq Lm hK
  |u_c stepG_region_end Lm hK
  |u_reg Lm hK
  |u_c stepG_ret' Lm hK
  |u_leave1 H.f_uLoad Lm hK
  |u_leave1 H.f_uCas Lm hK
  |u_c stepG_block Lm hK
  |u_c stepG_inBlock Lm hK
  |u_c stepG_inLoop Lm hK
  |u_c stepG_loop Lm hK
  |u_c stepG_skip Lm hK
  |u_cnd true Lm hK
  |u_cnd false Lm hK
  |u_skip Lm hK
  |u_bub Lm hK
  |u_call H.f_uLoad (nm_uLoad L) uLoadFn Lm hK
  |u_call H.f_uCas (nm_uCas L) uCasFn Lm hK
  |u_op Lm hK)
 refine Goes.stop (λw1 h1=> ?_)
 replace hK:=Lm hK h1
 clear h1
 refine⟨rfl,λv hv hw=> ?_⟩
 rcases Nat.eq_zero_or_pos v with rfl|hvp
 ·have hw0:WgAt X.ty X.Wg w1 0 0:=by simpa using hw
  refine⟨_,stepG_load_atomic (v:=0) rfl rfl (by k_ne) rfl H.f_loadU64 (x_loadU64_n L) (x_loadU64_b L) (x_loadU64_x L) .u64 (x_loadU64_f L) rfl hw0.cellSt,λ_=>⟨50,cB ?_⟩,λh=>absurd rfl h⟩
  clear hw hw0
  walk_nrm
  iterate 31 (first
   |u_c stepG_seq Lm hK
   |u_c stepG_region_end Lm hK
   |u_reg Lm hK
   |u_c stepG_ret' Lm hK
   |u_leave1 H.f_uLoad Lm hK
   |u_leave1 H.f_uCas Lm hK
   |u_c stepG_block Lm hK
   |u_c stepG_inBlock Lm hK
   |u_c stepG_inLoop Lm hK
   |u_c stepG_loop Lm hK
   |u_c stepG_skip Lm hK
   |u_cnd true Lm hK
   |u_cnd false Lm hK
   |u_skip Lm hK
   |u_bub Lm hK
   |u_call H.f_uLoad (nm_uLoad L) uLoadFn Lm hK
   |u_call H.f_uCas (nm_uCas L) uCasFn Lm hK
   |u_op Lm hK)
  refine Goes.stop (λw2 h2=> ?_)
  replace hK:=Lm hK h2
  clear h2
  refine⟨rfl,_,stepG_mark0 .enable (by simp) rfl rfl (by k_ne) rfl H.f_enable (x_enable_n L) (x_enable_b L) (x_enable_x L) (x_enable_f L),12,cB ?_⟩
  walk_nrm
  iterate 3 (first
   |u_c stepG_seq Lm hK
   |u_c stepG_region_end Lm hK
   |u_reg Lm hK
   |u_c stepG_ret' Lm hK
   |u_leave1 H.f_uLoad Lm hK
   |u_leave1 H.f_uCas Lm hK
   |u_c stepG_block Lm hK
   |u_c stepG_inBlock Lm hK
   |u_c stepG_inLoop Lm hK
   |u_c stepG_loop Lm hK
   |u_c stepG_skip Lm hK
   |u_cnd true Lm hK
   |u_cnd false Lm hK
   |u_skip Lm hK
   |u_bub Lm hK
   |u_call H.f_uLoad (nm_uLoad L) uLoadFn Lm hK
   |u_call H.f_uCas (nm_uCas L) uCasFn Lm hK
   |u_op Lm hK)
  u_in Lm hK
  refine goes_oper_k rfl rfl (by k_ne) (λKx hKx=> ?_)
  have hcv:=run_convert_to_unsafe (P:=X.P) H.underlying_tWgP H.underlying_tUP H.room_tWg (Go.ConcN.Gen.WgLive.cell0 hK.live).choose_spec
  have hce:=λes=>events_convert_to_unsafe (P:=X.P) H.underlying_tWgP H.underlying_tUP H.room_tWg (Go.ConcN.Gen.WgLive.cell0 hK.live).choose_spec es
  go_simp
  refine hKx _ _ ⟨?_, ?_⟩
  ·u_none
   intro ex hex
   have hmx:=mem_listed hex
   simp[go_sem,hce]at hmx
  clear hKx Kx hcv hce
  refine Goes.stop (λw3 h3=> ?_)
  replace hK:=Lm hK h3
  clear h3
  refine⟨rfl,_,stepG_markAt .acquire (by simp) rfl rfl (by k_ne) rfl H.f_acquire (x_acquire_n L) (x_acquire_b L) (x_acquire_x L) (x_acquire_f L) (by simp[Act.eval,stA]),60+mT,m7 ?_⟩
  walk_nrm
  iterate 19 (first
   |u_c stepG_seq Lm hK
   |u_c stepG_region_end Lm hK
   |u_reg Lm hK
   |u_c stepG_ret' Lm hK
   |u_leave1 H.f_uLoad Lm hK
   |u_leave1 H.f_uCas Lm hK
   |u_c stepG_block Lm hK
   |u_c stepG_inBlock Lm hK
   |u_c stepG_inLoop Lm hK
   |u_c stepG_loop Lm hK
   |u_c stepG_skip Lm hK
   |u_cnd true Lm hK
   |u_cnd false Lm hK
   |u_skip Lm hK
   |u_bub Lm hK
   |u_call H.f_uLoad (nm_uLoad L) uLoadFn Lm hK
   |u_call H.f_uCas (nm_uCas L) uCasFn Lm hK
   |u_op Lm hK)
  u_leave0 H.f_wait Lm hK
  exact Goes.stop λw9 h9=>hT _ (Lm hK h9)
 ·obtain⟨s,hs⟩:∃s:Int,(v:Int)*KK=s:=⟨_,rfl⟩
  have n1:s/4294967296=(v:Int):=by rw[←hs];simp only[KK];omega
  have n2:bits .and .u64 s 2147483648=0:=by rw[←hs];have:=Go.ConcN.st_flag v 0 (by omega) (by omega);simpa[KK]using this
  have n3:bits .and .u64 s 2147483647=0:=by rw[←hs];have:=Go.ConcN.st_waiters v 0 (by omega) (by omega);simpa[KK]using this
  have n4:IntKind.i32.wrap (v:Int)=(v:Int):=by rw[IntKind.wrap_i32];omega
  have n5:IntKind.u64.wrap (s+1)=s+1:=by rw[IntKind.wrap_u64,←hs];simp only[KK];omega
  have n6:decide ((v:Int)<0)=false:=decide_eq_false (by omega)
  have n7:decide (0<(v:Int))=true:=decide_eq_true (by omega)
  have n8:((v:Int)==0)=false:=by simp;omega
  have n9:decide ((v:Int)=0)=false:=decide_eq_false (by omega)
  rw[hs]at hw
  refine⟨_,stepG_load_atomic (v:=s) rfl rfl (by k_ne) rfl H.f_loadU64 (x_loadU64_n L) (x_loadU64_b L) (x_loadU64_x L) .u64 (x_loadU64_f L) rfl hw.cellSt,λh0=>absurd h0 (by omega),λ_=>⟨60,cB ?_⟩⟩
  clear hw
  walk_nrm
  iterate 48 (first
   |u_c stepG_seq Lm hK
   |u_c stepG_region_end Lm hK
   |u_reg Lm hK
   |u_c stepG_ret' Lm hK
   |u_leave1 H.f_uLoad Lm hK
   |u_leave1 H.f_uCas Lm hK
   |u_c stepG_block Lm hK
   |u_c stepG_inBlock Lm hK
   |u_c stepG_inLoop Lm hK
   |u_c stepG_loop Lm hK
   |u_c stepG_skip Lm hK
   |u_cnd true Lm hK
   |u_cnd false Lm hK
   |u_skip Lm hK
   |u_bub Lm hK
   |u_call H.f_uLoad (nm_uLoad L) uLoadFn Lm hK
   |u_call H.f_uCas (nm_uCas L) uCasFn Lm hK
   |u_op Lm hK)
  refine Goes.stop (λw2 h2=> ?_)
  replace hK:=Lm hK h2
  clear h2
  refine⟨rfl,λv' hv' hw=>⟨λe=> ?_,λe=> ?_⟩⟩
  ·subst e
   rw[hs]at hw⊢
   refine⟨_,(stepG_cas_hit (v:=s) (n:=s+1) rfl rfl (by k_ne) rfl H.f_casU64 (x_casU64_n L) (x_casU64_b L) (x_casU64_x L) .u64 (x_casU64_f L) rfl rfl rfl hw.cellSt (hw.thaw 0)).trans (by rfl),70,cB ?_⟩
   replace hK:l8 X V w00 (w2.setCell (stA X.Wg) (.int .u64 (s+1))):=hK.set rfl ⟨_,_,hw.setSt _⟩
   clear hw
   walk_nrm
   iterate 19 (first
    |u_c stepG_seq Lm hK
    |u_c stepG_region_end Lm hK
    |u_reg Lm hK
    |u_c stepG_ret' Lm hK
    |u_leave1 H.f_uLoad Lm hK
    |u_leave1 H.f_uCas Lm hK
    |u_c stepG_block Lm hK
    |u_c stepG_inBlock Lm hK
    |u_c stepG_inLoop Lm hK
    |u_c stepG_loop Lm hK
    |u_c stepG_skip Lm hK
    |u_cnd true Lm hK
    |u_cnd false Lm hK
    |u_skip Lm hK
    |u_bub Lm hK
    |u_call H.f_uLoad (nm_uLoad L) uLoadFn Lm hK
    |u_call H.f_uCas (nm_uCas L) uCasFn Lm hK
    |u_op Lm hK)
   u_in Lm hK
   refine goes_oper_k rfl rfl (by k_ne) (λKx hKx=> ?_)
   have hcv:=run_convert_to_unsafe (P:=X.P) H.underlying_tPU32 H.underlying_tUP H.room_tU32 (Go.ConcN.Gen.WgLive.cell1 hK.live).choose_spec
   have hce:=λes=>events_convert_to_unsafe (P:=X.P) H.underlying_tPU32 H.underlying_tUP H.room_tU32 (Go.ConcN.Gen.WgLive.cell1 hK.live).choose_spec es
   go_simp
   refine hKx _ _ ⟨?_, ?_⟩
   ·u_none
    intro ex hex
    have hmx:=mem_listed hex
    simp[go_sem,hce]at hmx
   clear hKx Kx hcv hce
   refine Goes.stop (λw3 h3=> ?_)
   replace hK:=Lm hK h3
   clear h3
   refine⟨rfl,_,stepG_markAt .write (by simp) rfl rfl (by k_ne) rfl H.f_raceWrite (x_raceWrite_n L) (x_raceWrite_b L) (x_raceWrite_x L) (x_raceWrite_f L) (ad:=⟨X.Wg,1,none⟩) (by simp[Act.eval]),60,cB ?_⟩
   walk_nrm
   iterate 23 (first
    |u_c stepG_seq Lm hK
    |u_c stepG_region_end Lm hK
    |u_reg Lm hK
    |u_c stepG_ret' Lm hK
    |u_leave1 H.f_uLoad Lm hK
    |u_leave1 H.f_uCas Lm hK
    |u_c stepG_block Lm hK
    |u_c stepG_inBlock Lm hK
    |u_c stepG_inLoop Lm hK
    |u_c stepG_loop Lm hK
    |u_c stepG_skip Lm hK
    |u_cnd true Lm hK
    |u_cnd false Lm hK
    |u_skip Lm hK
    |u_bub Lm hK
    |u_call H.f_uLoad (nm_uLoad L) uLoadFn Lm hK
    |u_call H.f_uCas (nm_uCas L) uCasFn Lm hK
    |u_op Lm hK)
   refine Goes.stop (λw4 h4=> ?_)
   replace hK:=Lm hK h4
   clear h4
   refine⟨rfl,rfl,λ⟨st,hw⟩=>stepG_semacquire_wait rfl rfl rfl H.f_semacquire (x_semacquire_n L) (x_semacquire_b L) (x_semacquire_x L) (x_semacquire_f L) (by simp[Act.eval,smA]) hw.cellSm,λhf=> ?_⟩
   refine⟨_,(stepG_semacquire (n:=1) rfl rfl (by k_ne) rfl H.f_semacquire (x_semacquire_n L) (x_semacquire_b L) (x_semacquire_x L) (x_semacquire_f L) (by simp[Act.eval,smA]) hf.cellSm (by k_ne) (hf.thaw 1)).trans (by rfl),30,cB ?_⟩
   replace hK:l8 X V w00 (w4.setCell (smA X.Wg) (.int .u32 0)):=hK.set rfl ⟨_,_,hf.setSm _⟩
   clear hf
   walk_nrm
   iterate 16 (first
    |u_c stepG_seq Lm hK
    |u_c stepG_region_end Lm hK
    |u_reg Lm hK
    |u_c stepG_ret' Lm hK
    |u_leave1 H.f_uLoad Lm hK
    |u_leave1 H.f_uCas Lm hK
    |u_c stepG_block Lm hK
    |u_c stepG_inBlock Lm hK
    |u_c stepG_inLoop Lm hK
    |u_c stepG_loop Lm hK
    |u_c stepG_skip Lm hK
    |u_cnd true Lm hK
    |u_cnd false Lm hK
    |u_skip Lm hK
    |u_bub Lm hK
    |u_call H.f_uLoad (nm_uLoad L) uLoadFn Lm hK
    |u_call H.f_uCas (nm_uCas L) uCasFn Lm hK
    |u_op Lm hK)
   refine Goes.stop (λw5 h5=> ?_)
   replace hK:=Lm hK h5
   clear h5
   refine⟨rfl,λhw=>⟨_,stepG_load_atomic (v:=0) rfl rfl (by k_ne) rfl H.f_loadU64 (x_loadU64_n L) (x_loadU64_b L) (x_loadU64_x L) .u64 (x_loadU64_f L) rfl hw.cellSt,30,cB ?_⟩⟩
   clear hw
   walk_nrm
   iterate 11 (first
    |u_c stepG_seq Lm hK
    |u_c stepG_region_end Lm hK
    |u_reg Lm hK
    |u_c stepG_ret' Lm hK
    |u_leave1 H.f_uLoad Lm hK
    |u_leave1 H.f_uCas Lm hK
    |u_c stepG_block Lm hK
    |u_c stepG_inBlock Lm hK
    |u_c stepG_inLoop Lm hK
    |u_c stepG_loop Lm hK
    |u_c stepG_skip Lm hK
    |u_cnd true Lm hK
    |u_cnd false Lm hK
    |u_skip Lm hK
    |u_bub Lm hK
    |u_call H.f_uLoad (nm_uLoad L) uLoadFn Lm hK
    |u_call H.f_uCas (nm_uCas L) uCasFn Lm hK
    |u_op Lm hK)
   refine Goes.stop (λw6 h6=> ?_)
   replace hK:=Lm hK h6
   clear h6
   refine⟨rfl,_,stepG_mark0 .enable (by simp) rfl rfl (by k_ne) rfl H.f_enable (x_enable_n L) (x_enable_b L) (x_enable_x L) (x_enable_f L),12,cB ?_⟩
   walk_nrm
   iterate 3 (first
    |u_c stepG_seq Lm hK
    |u_c stepG_region_end Lm hK
    |u_reg Lm hK
    |u_c stepG_ret' Lm hK
    |u_leave1 H.f_uLoad Lm hK
    |u_leave1 H.f_uCas Lm hK
    |u_c stepG_block Lm hK
    |u_c stepG_inBlock Lm hK
    |u_c stepG_inLoop Lm hK
    |u_c stepG_loop Lm hK
    |u_c stepG_skip Lm hK
    |u_cnd true Lm hK
    |u_cnd false Lm hK
    |u_skip Lm hK
    |u_bub Lm hK
    |u_call H.f_uLoad (nm_uLoad L) uLoadFn Lm hK
    |u_call H.f_uCas (nm_uCas L) uCasFn Lm hK
    |u_op Lm hK)
   u_in Lm hK
   refine goes_oper_k rfl rfl (by k_ne) (λKx hKx=> ?_)
   have hcv:=run_convert_to_unsafe (P:=X.P) H.underlying_tWgP H.underlying_tUP H.room_tWg (Go.ConcN.Gen.WgLive.cell0 hK.live).choose_spec
   have hce:=λes=>events_convert_to_unsafe (P:=X.P) H.underlying_tWgP H.underlying_tUP H.room_tWg (Go.ConcN.Gen.WgLive.cell0 hK.live).choose_spec es
   go_simp
   refine hKx _ _ ⟨?_, ?_⟩
   ·u_none
    intro ex hex
    have hmx:=mem_listed hex
    simp[go_sem,hce]at hmx
   clear hKx Kx hcv hce
   refine Goes.stop (λw7 h7=> ?_)
   replace hK:=Lm hK h7
   clear h7
   refine⟨rfl,_,stepG_markAt .acquire (by simp) rfl rfl (by k_ne) rfl H.f_acquire (x_acquire_n L) (x_acquire_b L) (x_acquire_x L) (x_acquire_f L) (by simp[Act.eval,stA]),60+mT,m7 ?_⟩
   walk_nrm
   iterate 9 (first
    |u_c stepG_seq Lm hK
    |u_c stepG_region_end Lm hK
    |u_reg Lm hK
    |u_c stepG_ret' Lm hK
    |u_leave1 H.f_uLoad Lm hK
    |u_leave1 H.f_uCas Lm hK
    |u_c stepG_block Lm hK
    |u_c stepG_inBlock Lm hK
    |u_c stepG_inLoop Lm hK
    |u_c stepG_loop Lm hK
    |u_c stepG_skip Lm hK
    |u_cnd true Lm hK
    |u_cnd false Lm hK
    |u_skip Lm hK
    |u_bub Lm hK
    |u_call H.f_uLoad (nm_uLoad L) uLoadFn Lm hK
    |u_call H.f_uCas (nm_uCas L) uCasFn Lm hK
    |u_op Lm hK)
   u_leave0 H.f_wait Lm hK
   exact Goes.stop λw9 h9=>hT _ (Lm hK h9)
  ·refine⟨_,stepG_cas_miss (v:=(v':Int)*KK) (old:=s) (n:=s+1) rfl rfl (by k_ne) rfl H.f_casU64 (x_casU64_n L) (x_casU64_b L) (x_casU64_x L) .u64 (x_casU64_f L) rfl rfl rfl hw.cellSt (hw.thaw 0) (by rw[←hs];simp only[KK];omega),20,cB ?_⟩
   clear hw
   walk_nrm
   iterate 9 (first
    |u_c stepG_seq Lm hK
    |u_c stepG_region_end Lm hK
    |u_reg Lm hK
    |u_c stepG_ret' Lm hK
    |u_leave1 H.f_uLoad Lm hK
    |u_leave1 H.f_uCas Lm hK
    |u_c stepG_block Lm hK
    |u_c stepG_inBlock Lm hK
    |u_c stepG_inLoop Lm hK
    |u_c stepG_loop Lm hK
    |u_c stepG_skip Lm hK
    |u_cnd true Lm hK
    |u_cnd false Lm hK
    |u_skip Lm hK
    |u_bub Lm hK
    |u_call H.f_uLoad (nm_uLoad L) uLoadFn Lm hK
    |u_call H.f_uCas (nm_uCas L) uCasFn Lm hK
    |u_op Lm hK)
   refine Goes.stop (λw3 h3=> ?_)
   replace hK:=Lm hK h3
   clear h3
   exact⟨_,rfl,by simp,by simp,hK⟩
end
section
variable{L:WgLink}
theorem xB(X:ap)(H:WgLib X.P L){V:Nat->Prop}{c:Frame}{cs:List Frame}{w00:World}(w:World)(hK:l8 X V w00 w):
 Goes X.P true (aR X V) DC0 (EJ X (A3 X L w00 c cs) V) 3 (G ((base L.wait).at ⟨#[.pointer (some ⟨X.Wg,0,none⟩)]++Array.replicate 83 undef,[]⟩ [.code (body_wait L)]) (c::cs)) w:=by
 lib_facts
 simp only[body_wait,waitFn,Option.getD_some]
 u_c stepG_seq Lm hK
 u_cond true Lm hK
 u_reg Lm hK
 refine Goes.stop (λw₁ h₁=> ?_)
 replace hK:=Lm hK h₁
 clear h₁
 refine⟨rfl,_,stepG_mark0 .disable (by simp) rfl rfl (by k_ne) rfl H.f_disable (x_disable_n L) (x_disable_b L) (x_disable_x L) (x_disable_f L),3,cB ?_⟩
 walk_nrm
 u_c stepG_region_end Lm hK
 u_c stepG_block Lm hK
 u_c stepG_loop Lm hK
 exact Goes.stop (λw₂ h₂=>⟨_,rfl,by simp,by simp,Lm hK h₂⟩)
end
end Go.Proofs.YtkmoglhgkcnalaaDoor
namespace Go.Proofs.YtkmoglhgkcnalaaDoor
open Go Go.Conc
open Go.ConcN (sumTo upd sumTo_upd upd_ne upd_same CT Apart PermW WgLive RelBy WD ShN OkW Ok0 norel_of)
open Go.ConcR (KK WgAt stA smA rd wr mk DC0)
section
variable{X:ap}{S:Nat->Prop}{m j:Nat}{gs:Array Goroutine}{w w':World}{t:Trace}{D:Nat->WD}{Nd:Nat->dQ}{V0:Nat->Prop}{d0:Nat}{q:Nat->Nat}
theorem eF(f:Goroutine->Goroutine)(x:Goroutine){a b:Nat}(h:a≠b):((gs.map f).setIfInBounds a x)[b]?=(gs[b]?).map f:=by
 rw[sN h,Array.getElem?_map]
theorem nQ(f:Goroutine->Goroutine)(x:Goroutine){a:Nat}(h:a<gs.size):((gs.map f).setIfInBounds a x)[a]?=some x:=by simp[h]
theorem nf{i:Nat}{dd:WD}{x:dQ}{g:Goroutine}(h:(dd.stage=7/\dd.fuel=0/\dd.deaf=0/\g=x.g/\aA X i x/\aO X i x.V x.w w)\/(dd.stage<=6/\xr X dd.stage dd.fuel dd.deaf g w))(a a':Goroutine)(v:World):woken X.P a a' v g=g:=by
 rcases h with⟨_,_,_,rfl,h,_⟩|⟨_,h⟩
 ·exact woken_run h.running
 ·exact @Go.ConcN.WSit.woken cU _ _ _ _ _ _ _ _ _ _ _ _ _ _ _ h a a' v
theorem qb{i:Nat}{dd:WD}{x:dQ}{g:Goroutine}(h:(dd.stage=7/\dd.fuel=0/\dd.deaf=0/\g=x.g/\aA X i x/\aO X i x.V x.w w)\/(dd.stage<=6/\xr X dd.stage dd.fuel dd.deaf g w))
 (hr:aO X i x.V w w') (hl:tX X.ty X.Wg w w'):(dd.stage=7/\dd.fuel=0/\dd.deaf=0/\g=x.g/\aA X i x/\aO X i x.V x.w w')\/(dd.stage<=6/\xr X dd.stage dd.fuel dd.deaf g w'):=by
 rcases h with⟨h1,h2,h3,h4,h5,h6⟩|⟨h1,h2⟩
 ·exact .inl ⟨h1,h2,h3,h4,h5,h6.trans hr⟩
 ·exact .inr ⟨h1, @Go.ConcN.WSit.rely cU _ _ _ _ _ _ _ _ _ _ _ _ _ _ _ _ h2 hl⟩
theorem qW{u:Trace}{k:Nat}(hu:∀op∈u,op.g=k)(hk:k=0\/m<k)(h:∀(i g:Nat),t.g? i=some g->g≠0->g<=m->t.counts i->∃k,t.g? k=some 0/\HappensBefore t i k):
 ∀(i g:Nat),(t++u).g? i=some g->g≠0->g<=m->(t++u).counts i->∃k,(t++u).g? k=some 0/\HappensBefore (t++u) i k:=by
 intro i g hg h0 hm hc
 rcases Nat.lt_or_ge i t.size with hlt|hge
 ·obtain⟨n,h1,h2⟩:=h i g (by rw[←g?_old (u:=u) hlt];exact hg) h0 hm ((counts_old hlt).1 hc)
  have hn:n<t.size:=by
   unfold Trace.g? at h1
   obtain⟨z,hz,_⟩:=Option.map_eq_some_iff.1 h1
   exact lt_size_of_getElem? hz
  exact⟨n,by rw[g?_old hn];exact h1,hb_app u h2⟩
 ·exfalso
  unfold Trace.g? at hg
  obtain⟨z,hz,e⟩:=Option.map_eq_some_iff.1 hg
  rcases getElem?_append_cases hz with⟨h1,_⟩|⟨_,h1⟩
  ·omega
  ·have:=hu z h1
   omega
theorem M4{Sh:Loc->Prop}{u:Trace}{k:Nat}(hu:∀op∈u,op.g=k)(hk:k=0\/m<k)(h:∀(i:Nat) (a:Touch) (g:Nat),touchAt t i=some a->t.g? i=some g->g<=m->a.loc.isMemory=true->Knows t 0 i\/(Sh a.loc/\a.kind= .atomic)):
 ∀(i:Nat) (a:Touch) (g:Nat),touchAt (t++u) i=some a->(t++u).g? i=some g->g<=m->a.loc.isMemory=true->Knows (t++u) 0 i\/(Sh a.loc/\a.kind= .atomic):=by
 intro i a g ha hg hm hmem
 obtain⟨x,hx,hxa⟩:=touch_of ha
 rcases getElem?_append_cases hx with⟨h1,hx'⟩|⟨_,h1⟩
 ·exact(h i a g (by rw[touchAt_of hx'];exact hxa) (by rw[←g?_old (u:=u) h1];exact hg) hm hmem).imp (·.app u) id
 ·have hxg:=hu x h1
  have hgx:g=x.g:=by
   unfold Trace.g? at hg
   rw[hx]at hg
   exact(Option.some.inj hg).symm
  rcases hk with hk|hk
  ·have:=knows_own hx
   rw[hxg,hk]at this
   exact .inl this
  ·omega
theorem lG{Sh:Loc->Prop}{u:Trace}(hu:∀op∈u,op.g<=m\/∀x,op.act.touch?=some x->x.kind= .atomic->Sh x.loc)(h:∀(i:Nat) (a:Touch) (g:Nat),touchAt t i=some a->t.g? i=some g->m<g->a.kind= .atomic->Sh a.loc):
 ∀(i:Nat) (a:Touch) (g:Nat),touchAt (t++u) i=some a->(t++u).g? i=some g->m<g->a.kind= .atomic->Sh a.loc:=by
 intro i a g ha hg hm hk
 obtain⟨x,hx,hxa⟩:=touch_of ha
 rcases getElem?_append_cases hx with⟨h1,hx'⟩|⟨_,h1⟩
 ·exact h i a g (by rw[touchAt_of hx'];exact hxa) (by rw[←g?_old (u:=u) h1];exact hg) hm hk
 ·have hgx:g=x.g:=by
   unfold Trace.g? at hg
   rw[hx]at hg
   exact(Option.some.inj hg).symm
  rcases hu x h1 with h2|h2
  ·omega
  ·exact h2 a hxa hk
theorem ie.work(h:ie X S m j gs w t D Nd V0 d0 q){i:Nat}(hi:i<j){g g':Goroutine}{es:Array Event}(hg:gs[1+m+i]?=some g)(h7:(D i).stage=7)(hfd:(D i).fuel=0/\(D i).deaf=0)
 (hws:iU X i (Nd i).V w w' es) (hn:aA X i ((Nd i).next w g' w')):
 ie X S m j ((gs.map (woken X.P g g' w')).setIfInBounds (1+m+i) g') w' (t++MemOp.ofEvents (1+m+i) g.frame.fn g.frame.place es) D (upd Nd i ((Nd i).next w g' w')) V0 d0 q:=by
 obtain⟨_,hrw,hlate,hlist,hcells,hsize,_⟩:=qm h.lies h.list hi hws
 have hlt:1+m+i<gs.size:=by rw[h.size];omega
 have hL':ic X S j (upd Nd i ((Nd i).next w g' w')) V0 w':=h.lies.work hi hsize
 have hanew:CT (fN S X.Wg) (nH X m j (upd Nd i ((Nd i).next w g' w'))) (us X m) t (m+j):=by
  refine Gs h.ct (λn a ha k=> ?_) λ_ _ _ _=>Iff.rfl
  have hlow:=oU h.seen ha
  have hV:∀k,k<j->(cV (upd Nd i ((Nd i).next w g' w') k).V a.loc↔cV (Nd k).V a.loc):=by
   intro k _
   by_cases e:k=i
   ·subst e
    rw[upd_same]
    cases hl:a.loc with
    |cell b=>
     rw[hl]at hlow
     exact⟨λx=>x.elim id λy=>absurd hlow (Nat.not_lt.2 y.1), .inl⟩
    |obj b=>
     rw[hl]at hlow
     exact⟨λx=>x.elim id λy=>absurd hlow (Nat.not_lt.2 y.1), .inl⟩
    |_=>exact Iff.rfl
   ·rw[upd_ne Nd _ e]
  exact⟨λ⟨x,hx,hk,ho⟩=>⟨x,hx,hk,ho.imp (hV x hx).1 id⟩,λ⟨x,hx,hk,ho⟩=>⟨x,hx,hk,ho.imp (hV x hx).2 id⟩⟩
 have hev:∀e∈es,(∀fn pos,OkW (fN S X.Wg) (nH X m j (upd Nd i ((Nd i).next w g' w'))) (us X m) (1+m+i) {g:=1+m+i,fn,pos,act:= .ofEvent e})/\(MemAct.ofEvent e).low w'.heap.size/\e.loc≠ .mark .disable/\e.loc≠ .mark .enable/\∀a,e.loc≠ .mark (.release a):=by
  intro e he
  rcases hws with hws|⟨c,v,hc,rfl,rfl⟩
  ·have h1:=hws.ev e he
   refine⟨λfn pos=>FO (λl hl=>⟨i,hi,rfl, .inl (by rw[upd_same];exact hl)⟩) (λl hl=>⟨by omega,hl⟩) h1 fn pos,Lx (λb hb=> ?_) (λb hb=>(hL'.ro b hb).1) h1,ik h1⟩
   rcases hb with hb|hb
   ·exact Nat.lt_of_lt_of_le (h.lies.priv i hi b hb).1 hsize
   ·exact hb.2
  ·rw[Array.mem_singleton]at he
   subst he
   refine⟨λfn pos=>⟨rfl,λx hx=> ?_⟩, ?_,by simp,by simp,by simp⟩
   ·simp only[ofEvent_cell0,MemAct.touch?,Option.some.injEq]at hx
    subst hx
    exact .inr (.inl ⟨i,hi,rfl, .inr ⟨c,hc,rfl⟩⟩)
   ·show X.C<_
    exact hL'.wgl.2
 refine
  {size:=by simp[h.size]
   old:=λk h0 hk=> ?_
   wk:=λk hk=> ?_
   lies:=hL'
   tabRO:=h.tabRO
   ct:=hanew.appW hL'.apart (k:=1+m+i) (by omega) (by omega) λop hop=> ?_
   norel:=h.norel.app (norel_of λe he=>(hev e he).2.2.2.2 _)
   deaf0:=by rw[Deaf_other t (by omega) _ bA];exact h.deaf0
   deafW:=λk hk=> ?_
   rel:=λk hk hs=> ?_
   has:=λk hk hs c hc=> ?_
   list:=hlist
   seen:=λop hop=> ?_
   over:=qW bA (.inr (by omega)) h.over
   known:=M4 bA (.inr (by omega)) h.known
   atom:=lG (λop hop=> .inr λx hx hk=> ?_) h.atom}
 ·obtain⟨x,hx,hq⟩:=h.old k h0 hk
  refine⟨x,by rw[eF _ _ (by omega),hx,Option.map_some,woken_quitsD hq], ?_⟩
  rw[Deaf_other t (by omega) _ bA]
  exact hq
 ·by_cases e:k=i
  ·subst e
   exact⟨g',nQ _ _ hlt, .inl ⟨h7,hfd.1,hfd.2,by rw[upd_same];rfl,by rw[upd_same];exact hn,by rw[upd_same];exact aO.refl _ _ _ _⟩⟩
  ·obtain⟨x,hx,hs⟩:=h.wk k hk
   refine⟨x,by rw[eF _ _ (by omega),hx,Option.map_some,nf hs], ?_⟩
   rw[upd_ne Nd _ e]
   exact qb hs (hrw k hk e) (hlate h.tabRO)
 ·obtain⟨e,he,rfl⟩:=Go.Conc.mem_ofEvents hop
  exact(hev e he).1 _ _
 ·by_cases e:k=i
  ·subst e
   rw[Deaf_own,deafBehind_still λe he=>⟨(hev e he).2.2.1,(hev e he).2.2.2.1⟩]
   exact h.deafW k hk
  ·rw[Deaf_other t (by omega) _ bA]
   exact h.deafW k hk
 ·have e:k≠i:=λe=>by rw[e]at hs;omega
  obtain⟨r,hr⟩:=h.rel k hk hs
  exact⟨r,hr.appOther bA (by omega)⟩
 ·have e:k≠i:=λe=>by rw[e]at hs;omega
  rw[hcells k e c hc]
  exact h.has k hk hs c hc
 ·rcases Array.mem_append.1 hop with hop|hop
  ·exact MemAct.low_mono hsize (h.seen op hop)
  ·obtain⟨e,he,rfl⟩:=Go.Conc.mem_ofEvents hop
   exact(hev e he).2.1
 ·obtain⟨e,he,rfl⟩:=Go.Conc.mem_ofEvents hop
  rcases hws with hws|⟨c,v,hc,rfl,rfl⟩
  ·rw[AO (hws.ev e he) hx]at hk
   cases hk
  ·rw[Array.mem_singleton]at he
   subst he
   have hx':(MemAct.access ⟨.cell (X.at c),true,false⟩).touch?=some x:=hx
   simp only[MemAct.touch?,Option.some.injEq]at hx'
   subst hx'
   cases hk
end
section
variable{X:ap}{S:Nat->Prop}{m j:Nat}{gs:Array Goroutine}{w w':World}{t:Trace}{D:Nat->WD}{Nd:Nat->dQ}{V0:Nat->Prop}{d0:Nat}{q:Nat->Nat}
theorem qn(hL:ic X S j Nd V0 w)(hl:X.list w)(hT:iV (· =X.Wg) w w')(hlive:WgLive X.ty X.Wg w'):
 aR X V0 w w'/\(∀i',i'<j->aO X i' (Nd i').V w w')/\(X.RO 0->tX X.ty X.Wg w w')/\X.list w'/\(∀c,w'.cell? (X.at c)=w.cell? (X.at c)):=by
 have hC:¬X.C=X.Wg:=λe=>hL.wgc e.symm
 have hl':=hT.list hC hL.wgl.2 hl
 have hcell:∀c,w'.cell? (X.at c)=w.cell? (X.at c):=λc=>hT.cell (a:=X.at c) hC hL.wgl.2
 have hro:∀b,X.RO b->¬b=X.Wg/\b<w.heap.size:=λb hb=>⟨(hL.ro b hb).2.1,(hL.ro b hb).1⟩
 refine⟨⟨hT.kept λb hb=> ?_,λ_=>hlive⟩,λi' hi'=>⟨hT.kept λb hb=> ?_,λ_=>hlive,λ_=>hl',λc _=>hcell c⟩,λh0=> @Go.ConcN.RW.mk cU _ _ _ _ _ _ _ _ (λb hb=>absurd hb (Nat.not_lt_zero _)) (λ_=>hlive) (λ⟨cs,h1,h2⟩=>⟨cs,(hT.keep 0 (hro 0 h0).2 (hro 0 h0).1).trans h1,h2⟩) (hT.cell (hro 0 h0).1 (hro 0 h0).2),hl',hcell⟩
 ·rcases hb with hb|hb
  ·exact⟨(hL.v0 b hb).2.2.1,(hL.v0 b hb).1⟩
  ·exact hro b hb
 ·rcases hb with hb|hb
  ·exact⟨(hL.priv i' hi' b hb).2.2.1,(hL.priv i' hi' b hb).1⟩
  ·exact hro b hb
theorem vo(A:Nat->Prop)(w:World):iV A w w:=⟨λ_ _ _=>rfl,Nat.le_refl _,rfl,rfl,rfl⟩
theorem ie.stepW(h:ie X S m j gs w t D Nd V0 d0 q){i:Nat}(hi:i<j){g g':Goroutine}{es:Array Event}{s' f' dd':Nat}(hT:iV (· =X.Wg) w w')(hlive:WgLive X.ty X.Wg w')(h6:s'<=6)(hs':xr X s' f' dd' g' w')
 (hok:∀e∈es,(∀fn pos,OkW (fN S X.Wg) (nH X m j Nd) (us X m) (1+m+i) {g:=1+m+i,fn,pos,act:= .ofEvent e})/\(MemAct.ofEvent e).low w.heap.size/\e.loc≠ .mark (.release (stA X.Wg)))
 (hat:∀e∈es,∀x,(MemAct.ofEvent e).touch?=some x->fN S X.Wg x.loc) (hdeaf:deafBehind (D i).deaf es=dd') (hrel:∃r,RelBy (stA X.Wg) (t++MemOp.ofEvents (1+m+i) g.frame.fn g.frame.place es) (1+m+i) r) (hhas:∀c,X.mine i c->w.cell? (X.at c)=some (X.val c)):
 ie X S m j ((gs.map (woken X.P g g' w')).setIfInBounds (1+m+i) g') w' (t++MemOp.ofEvents (1+m+i) g.frame.fn g.frame.place es) (upd D i ⟨s',f',dd'⟩) Nd V0 d0 q:=by
 obtain⟨_,hrw,hlate,hlist,hcells⟩:=qn h.lies h.list hT hlive
 have hlt:1+m+i<gs.size:=by rw[h.size];omega
 refine
  {size:=by simp[h.size]
   old:=λk h0 hk=> ?_
   wk:=λk hk=> ?_
   lies:=h.lies.grow hT.size
   tabRO:=h.tabRO
   ct:=h.ct.appW h.lies.apart (k:=1+m+i) (by omega) (by omega) λop hop=> ?_
   norel:=h.norel.app (norel_of λe he=>(hok e he).2.2)
   deaf0:=by rw[Deaf_other t (by omega) _ bA];exact h.deaf0
   deafW:=λk hk=> ?_
   rel:=λk hk hs=> ?_
   has:=λk hk hs c hc=> ?_
   list:=hlist
   seen:=λop hop=> ?_
   over:=qW bA (.inr (by omega)) h.over
   known:=M4 bA (.inr (by omega)) h.known
   atom:=lG (λop hop=> .inr λx hx _=>by obtain⟨e,he,rfl⟩:=Go.Conc.mem_ofEvents hop;exact hat e he x hx) h.atom}
 ·obtain⟨x,hx,hq⟩:=h.old k h0 hk
  refine⟨x,by rw[eF _ _ (by omega),hx,Option.map_some,woken_quitsD hq], ?_⟩
  rw[Deaf_other t (by omega) _ bA]
  exact hq
 ·by_cases e:k=i
  ·subst e
   exact⟨g',nQ _ _ hlt, .inr (by rw[upd_same];exact⟨h6,hs'⟩)⟩
  ·obtain⟨x,hx,hs⟩:=h.wk k hk
   refine⟨x,by rw[eF _ _ (by omega),hx,Option.map_some,nf hs], ?_⟩
   rw[upd_ne D _ e]
   exact qb hs (hrw k hk) (hlate h.tabRO)
 ·obtain⟨e,he,rfl⟩:=Go.Conc.mem_ofEvents hop
  exact(hok e he).1 _ _
 ·by_cases e:k=i
  ·subst e
   rw[Deaf_own,h.deafW k hk,upd_same]
   exact hdeaf
  ·rw[Deaf_other t (by omega) _ bA,upd_ne D _ e]
   exact h.deafW k hk
 ·by_cases e:k=i
  ·subst e
   exact hrel
  ·rw[upd_ne D _ e]at hs
   obtain⟨r,hr⟩:=h.rel k hk hs
   exact⟨r,hr.appOther bA (by omega)⟩
 ·rw[hcells]
  by_cases e:k=i
  ·subst e
   exact hhas c hc
  ·rw[upd_ne D _ e]at hs
   exact h.has k hk hs c hc
 ·rcases Array.mem_append.1 hop with hop|hop
  ·exact MemAct.low_mono hT.size (h.seen op hop)
  ·obtain⟨e,he,rfl⟩:=Go.Conc.mem_ofEvents hop
   exact MemAct.low_mono hT.size (hok e he).2.1
structure K0 (X:ap) (j:Nat) (Nd:Nat->dQ) (w w':World):Prop where
 wk:∀i',i'<j->aO X i' (Nd i').V w w'
 late:X.RO 0->tX X.ty X.Wg w w'
 list:X.list w'
 cells:∀c,w'.cell? (X.at c)=w.cell? (X.at c)
 size:w.heap.size<=w'.heap.size
theorem ie.step0(h:ie X S m j gs w t D Nd V0 d0 q){V0':Nat->Prop}{a a':Goroutine}{es:Array Event}(hS:K0 X j Nd w w')(hL:ic X S j Nd V0' w')
 (hok:∀e∈es,(∀fn pos,Ok0 (fN S X.Wg) (nH X m j Nd) (us X m) (m+j) {g:=0,fn,pos,act:= .ofEvent e})/\(MemAct.ofEvent e).low w'.heap.size/\e.loc≠ .mark (.release (stA X.Wg))):
 ie X S m j ((gs.map (woken X.P a a' w')).setIfInBounds 0 a') w' (t++MemOp.ofEvents 0 a.frame.fn a.frame.place es) D Nd V0' (deafBehind d0 es) q:=by
 refine
  {size:=by simp[h.size]
   old:=λk h0 hk=> ?_
   wk:=λk hk=> ?_
   lies:=hL
   tabRO:=h.tabRO
   ct:=h.ct.app0 hL.apart λop hop=> ?_
   norel:=h.norel.app (norel_of λe he=>(hok e he).2.2)
   deaf0:=by rw[Deaf_own,h.deaf0]
   deafW:=λk hk=>by rw[Deaf_other t (by omega) _ bA];exact h.deafW k hk
   rel:=λk hk hs=> ?_
   has:=λk hk hs c hc=>by rw[hS.cells];exact h.has k hk hs c hc
   list:=hS.list
   seen:=λop hop=> ?_
   over:=qW bA (.inl rfl) h.over
   known:=M4 bA (.inl rfl) h.known
   atom:=lG (λop hop=> .inl (by rw[bA op hop];exact Nat.zero_le _)) h.atom}
 ·obtain⟨x,hx,hq⟩:=h.old k h0 hk
  refine⟨x,by rw[eF _ _ (by omega),hx,Option.map_some,woken_quitsD hq], ?_⟩
  rw[Deaf_other t (by omega) _ bA]
  exact hq
 ·obtain⟨x,hx,hs⟩:=h.wk k hk
  exact⟨x,by rw[eF _ _ (by omega),hx,Option.map_some,nf hs],qb hs (hS.wk k hk) (hS.late h.tabRO)⟩
 ·obtain⟨e,he,rfl⟩:=Go.Conc.mem_ofEvents hop
  exact(hok e he).1 _ _
 ·obtain⟨r,hr⟩:=h.rel k hk hs
  exact⟨r,hr.appOther bA (by omega)⟩
 ·rcases Array.mem_append.1 hop with hop|hop
  ·exact MemAct.low_mono hS.size (h.seen op hop)
  ·obtain⟨e,he,rfl⟩:=Go.Conc.mem_ofEvents hop
   exact(hok e he).2.1
theorem D7(hL:ic X S j Nd V0 w)(hl:X.list w){es:Array Event}(h:bB V0 X.RO w w' es):K0 X j Nd w w'/\ic X S j Nd (bp V0 w w') w'/\w'.heap[X.Wg]?=w.heap[X.Wg]?:=by
 have hT:=h.turns
 have hwg:¬V0 X.Wg:=λhv=>(hL.v0 _ hv).2.2.1 rfl
 have hC:¬V0 X.C:=λhv=>(hL.v0 _ hv).2.2.2.1 rfl
 have hlive:=hT.live (ty:=X.ty) hwg hL.wgl.1
 have hro:∀b,X.RO b->¬V0 b/\b<w.heap.size:=λb hb=>⟨λhv=>(hL.v0 b hv).2.1 hb,(hL.ro b hb).1⟩
 have hcell:∀c,w'.cell? (X.at c)=w.cell? (X.at c):=λc=>hT.cell (a:=X.at c) hC hL.wgl.2
 have hl':=hT.list hC hL.wgl.2 hl
 refine⟨⟨λi' hi'=>⟨hT.kept λb hb=> ?_,hlive,λ_=>hl',λc _=>hcell c⟩,λh0=> @Go.ConcN.RW.mk cU _ _ _ _ _ _ _ _ (λb hb=>absurd hb (Nat.not_lt_zero _)) hlive (λ⟨cs,h1,h2⟩=>⟨cs,(hT.keep 0 (hro 0 h0).2 (hro 0 h0).1).trans h1,h2⟩) (hT.cell (hro 0 h0).1 (hro 0 h0).2),hl',hcell,hT.size⟩,hL.main hT.size,hT.keep _ hL.wgl.1 hwg⟩
 rcases hb with hb|hb
 ·exact⟨(hL.priv i' hi' b hb).2.2.2.2.2,(hL.priv i' hi' b hb).1⟩
 ·exact hro b hb
theorem M6(hL:ic X S j Nd (bp V0 w w') w'){e:Event}(he:eR (bp V0 w w') X.RO e)(fn:FuncId)(pos:String):Ok0 (fN S X.Wg) (nH X m j Nd) (us X m) (m+j) {g:=0,fn,pos,act:= .ofEvent e}:=by
 have key:∀l:Loc,(cV (bp V0 w w') l\/cV X.RO l)->¬fN S X.Wg l/\∀k,¬nH X m j Nd k l:=by
  intro l hl
  refine⟨λhs=> ?_,λk ⟨i,hi,_,ho⟩=> ?_⟩
  ·rcases hl with hl|hl
   ·obtain⟨b,h1,h2⟩:=uh hl hs
    exact h2.elim (hL.v0 b h1).2.2.2.2 (hL.v0 b h1).2.2.1
   ·obtain⟨b,h1,h2⟩:=uh hl hs
    exact h2.elim (λh2=>(hL.sh b h2).2.1 h1) (hL.ro b h1).2.1
  ·rcases ho with ho|⟨c,_,rfl⟩
   ·rcases hl with hl|hl
    ·obtain⟨b,h1,h2⟩:=eE hl ho
     exact(hL.priv i hi b h2).2.2.2.2.2 h1
    ·obtain⟨b,h1,h2⟩:=eE hl ho
     exact(hL.priv i hi b h2).2.1 h1
   ·rcases hl with hl|hl
    ·exact(hL.v0 _ hl).2.2.2.1 rfl
    ·exact(hL.ro _ hl).2.2 rfl
 have hrd:∀l:Loc,cV (bp V0 w w') l->∀k,¬us X m k l:=λl hl k ⟨_,hr⟩=>by
  obtain⟨b,h1,h2⟩:=eE hl hr
  exact(hL.v0 b h1).2.1 h2
 refine⟨rfl,λx hx=> ?_⟩
 obtain⟨loc,wr,sy⟩:=e
 cases loc with
 |cell a=>
  obtain⟨rfl,h⟩:=he
  have hx':(MemAct.access ⟨.cell a,wr,false⟩).touch?=some x:=hx
  simp only[MemAct.touch?,Option.some.injEq]at hx'
  subst hx'
  rcases h with h|⟨h,h2⟩
  ·exact .inr ⟨(key (.cell a) (.inl h)).1,λk _ _=>(key (.cell a) (.inl h)).2 k,λ_ k _ _=>hrd (.cell a) h k⟩
  ·have h2':wr=false:=h2
   exact .inr ⟨(key (.cell a) (.inr h)).1,λk _ _=>(key (.cell a) (.inr h)).2 k,λhw=>by rw[h2']at hw;cases hw⟩
 |obj r=>
  obtain⟨rfl,h⟩:=he
  have hx':(MemAct.ofEvent ⟨.obj r,wr,false⟩).touch?=some x:=hx
  simp only[MemAct.ofEvent,MemAct.touch?,Option.some.injEq]at hx'
  subst hx'
  exact .inr ⟨(key (.obj r) (.inl h)).1,λk _ _=>(key (.obj r) (.inl h)).2 k,λ_ k _ _=>hrd (.obj r) h k⟩
 |mark mm=>
  have hm:ep mm=true:=he
  cases mm with
  |extern f=>cases hx
  |noRoom=>cases hx
  |_=>simp[ep]at hm
 |output=>exact he.elim
 |goroutines=>exact he.elim
end
section
variable{X:ap}{S:Nat->Prop}{m j:Nat}{gs:Array Goroutine}{w w':World}{t u:Trace}{D:Nat->WD}{Nd:Nat->dQ}{V0:Nat->Prop}{d0:Nat}{q:Nat->Nat}
theorem aO.at(X:ap)(i:Nat)(V:Nat->Prop)(w:World)(d:Nat):aO X i V w (w.at d):=⟨di.at _ w d,id,id,λ_ _=>rfl⟩
theorem aR.at(X:ap)(V:Nat->Prop)(w:World)(d:Nat):aR X V w (w.at d):=⟨di.at _ w d,id⟩
theorem ie.at(h:ie X S m j gs w t D Nd V0 d0 q)(d:Nat):ie X S m j gs (w.at d) t D Nd V0 d0 q:=
 {size:=h.size
  old:=h.old
  wk:=λi hi=>let ⟨g,hg,hs⟩:=h.wk i hi;⟨g,hg,qb hs (aO.at X i _ w d) (@Go.ConcN.RW.at cU _ _ _ _ _ _ w d)⟩
  lies:=h.lies.grow (Nat.le_refl _)
  tabRO:=h.tabRO
  ct:=h.ct
  norel:=h.norel
  deaf0:=h.deaf0
  deafW:=h.deafW
  rel:=h.rel
  has:=h.has
  list:=h.list
  seen:=h.seen
  over:=h.over
  known:=h.known
  atom:=h.atom}
theorem t6(hu:∀op∈u,op.act.touch?=none)(h:∀(i g:Nat),t.g? i=some g->g≠0->g<=m->t.counts i->∃k,t.g? k=some 0/\HappensBefore t i k):
 ∀(i g:Nat),(t++u).g? i=some g->g≠0->g<=m->(t++u).counts i->∃k,(t++u).g? k=some 0/\HappensBefore (t++u) i k:=by
 intro i g hg h0 hm hc
 rcases Nat.lt_or_ge i t.size with hlt|hge
 ·obtain⟨n,h1,h2⟩:=h i g (by rw[←g?_old (u:=u) hlt];exact hg) h0 hm ((counts_old hlt).1 hc)
  have hn:n<t.size:=by
   unfold Trace.g? at h1
   obtain⟨z,hz,_⟩:=Option.map_eq_some_iff.1 h1
   exact lt_size_of_getElem? hz
  exact⟨n,by rw[g?_old hn];exact h1,hb_app u h2⟩
 ·exfalso
  obtain⟨x,hx,_⟩:=hc
  obtain⟨op,hop,hox⟩:=touch_of hx
  rcases getElem?_append_cases hop with⟨h1,_⟩|⟨_,h1⟩
  ·omega
  ·rw[hu op h1]at hox
   cases hox
theorem rj{Sh:Loc->Prop}(hu:∀op∈u,op.act.touch?=none)(h:∀(i:Nat) (a:Touch) (g:Nat),touchAt t i=some a->t.g? i=some g->g<=m->a.loc.isMemory=true->Knows t 0 i\/(Sh a.loc/\a.kind= .atomic)):
 ∀(i:Nat) (a:Touch) (g:Nat),touchAt (t++u) i=some a->(t++u).g? i=some g->g<=m->a.loc.isMemory=true->Knows (t++u) 0 i\/(Sh a.loc/\a.kind= .atomic):=by
 intro i a g ha hg hm hmem
 obtain⟨x,hx,hxa⟩:=touch_of ha
 rcases getElem?_append_cases hx with⟨h1,hx'⟩|⟨_,h1⟩
 ·exact(h i a g (by rw[touchAt_of hx'];exact hxa) (by rw[←g?_old (u:=u) h1];exact hg) hm hmem).imp (·.app u) id
 ·rw[hu x h1]at hxa
  cases hxa
theorem y8{e:Event}(h:e.mute=true)(a:Addr):e.loc≠ .mark (.release a):=by
 obtain⟨loc,wr,sy⟩:=e
 intro e1
 cases e1
 simp[Event.mute]at h
theorem ie.oldStep(h:ie X S m j gs w t D Nd V0 d0 q){i k:Nat}(h0:0<i)(hi:i<=m){g g':Goroutine}{es:Array Event}(hm:∀e∈es,e.mute=true)(hq:QuitsD X.P k (deafBehind (Deaf t i) es) g'):
 ie X S m j ((gs.map (woken X.P g g' w)).setIfInBounds i g') w (t++MemOp.ofEvents i g.frame.fn g.frame.place es) D Nd V0 d0 (upd q i k):=by
 have hlt:i<gs.size:=by rw[h.size];omega
 have hnone:∀op∈MemOp.ofEvents i g.frame.fn g.frame.place es,op.act.touch?=none:=λop hop=>by
  obtain⟨e,he,rfl⟩:=Go.Conc.mem_ofEvents hop
  exact touch_mute (hm e he)
 refine
  {size:=by simp[h.size]
   old:=λk' hk0 hk=> ?_
   wk:=λk' hk=> ?_
   lies:=h.lies
   tabRO:=h.tabRO
   ct:=h.ct.appW h.lies.apart (k:=i) h0 (by omega) λop hop=>⟨bA op hop,λx hx=>by rw[hnone op hop]at hx;cases hx⟩
   norel:=h.norel.app (norel_of λe he=>y8 (hm e he) _)
   deaf0:=by rw[Deaf_other t (by omega) _ bA];exact h.deaf0
   deafW:=λk' hk=>by rw[Deaf_other t (by omega) _ bA];exact h.deafW k' hk
   rel:=λk' hk hs=> ?_
   has:=h.has
   list:=h.list
   seen:=λop hop=> ?_
   over:=t6 hnone h.over
   known:=rj hnone h.known
   atom:=lG (λop hop=> .inr λx hx _=>by rw[hnone op hop]at hx;cases hx) h.atom}
 ·by_cases e:k'=i
  ·subst e
   refine⟨g',nQ _ _ hlt, ?_⟩
   rw[upd_same,Deaf_own]
   exact hq
  ·obtain⟨x,hx,hq'⟩:=h.old k' hk0 hk
   refine⟨x,by rw[eF _ _ (by omega),hx,Option.map_some,woken_quitsD hq'], ?_⟩
   rw[Deaf_other t (by omega) _ bA,upd_ne q _ e]
   exact hq'
 ·obtain⟨x,hx,hs⟩:=h.wk k' hk
  exact⟨x,by rw[eF _ _ (by omega),hx,Option.map_some,nf hs],hs⟩
 ·obtain⟨r,hr⟩:=h.rel k' hk hs
  exact⟨r,hr.appOther bA (by omega)⟩
 ·rcases Array.mem_append.1 hop with hop|hop
  ·exact h.seen op hop
  ·obtain⟨e,he,rfl⟩:=Go.Conc.mem_ofEvents hop
   exact low_mute (hm e he) _
theorem Gq{Sh:Loc->Prop}{Own Own' Rd:Nat->Loc->Prop}{n:Nat}(h:CT Sh Own Rd t n)(ho:∀k,k<=n->∀l,Own' k l↔Own k l):CT Sh Own' Rd t n:=
 {quiet:=h.quiet
  own:=λk k1 kj l hl=>h.own k k1 kj l ((ho k kj l).1 hl)
  rd:=h.rd
  free:=λl hs hl=>h.free l hs λk k1 kj=>⟨λx=>(hl k k1 kj).1 ((ho k kj l).2 x),(hl k k1 kj).2⟩
  mine:=λl hs hl=>h.mine l hs λk k1 kj x=>hl k k1 kj ((ho k kj l).2 x)
  nr:=h.nr
  gs:=h.gs}
theorem ic.spawn(h:ic X S j Nd V0 w){Vc:Nat->Prop}(hv:∀b,Vc b->V0 b)(g:Goroutine):ic X S (j+1) (upd Nd j ⟨Vc,g,w⟩) (λb=>V0 b/\¬Vc b) w:=by
 refine⟨h.mine,h.wgc,h.wgl,h.ro,h.sh,λb hb=>h.v0 b hb.1,λi hi b hb=> ?_,λi i' hi hi' b hb hb'=> ?_⟩
 ·by_cases e:i=j
  ·subst e
   rw[upd_same]at hb
   have hv':=h.v0 b (hv b hb)
   exact⟨hv'.1,hv'.2.1,hv'.2.2.1,hv'.2.2.2.1,hv'.2.2.2.2,λx=>x.2 hb⟩
  ·rw[upd_ne Nd _ e]at hb
   obtain⟨h1,h2,h3,h4,h5,h6⟩:=h.priv i (by omega) b hb
   exact⟨h1,h2,h3,h4,h5,λx=>h6 x.1⟩
 ·by_cases e:i=j<;>by_cases e':i'=j
  ·omega
  ·subst e
   rw[upd_same]at hb
   rw[upd_ne Nd _ e']at hb'
   exact absurd (hv b hb) (h.priv i' (by omega) b hb').2.2.2.2.2
  ·subst e'
   rw[upd_same]at hb'
   rw[upd_ne Nd _ e]at hb
   exact absurd (hv b hb') (h.priv i (by omega) b hb).2.2.2.2.2
  ·rw[upd_ne Nd _ e]at hb
   rw[upd_ne Nd _ e']at hb'
   exact h.two i i' (by omega) (by omega) b hb hb'
theorem ie.spawn(h:ie X S m j gs w t D Nd V0 0 q){a' child:Goroutine}{x y:MemOp}{Vc:Nat->Prop}(hx:x.g=0/\x.act= .go (1+m+j))(hy:y.g=1+m+j/\y.act= .start)(hv:∀b,Vc b->V0 b)(hc:aA X j ⟨Vc,child,w⟩):
 ie X S m (j+1) ((gs.setIfInBounds 0 a').push child) w (t++#[x,y]) (upd D j ⟨7,0,0⟩) (upd Nd j ⟨Vc,child,w⟩) (λb=>V0 b/\¬Vc b) 0 q:=by
 have hL:=h.lies.spawn hv child
 have hmem:∀op∈#[x,y],op=x\/op=y:=λop hop=>by simpa using hop
 have hnone:∀op∈#[x,y],op.act.touch?=none:=λop hop=>by
  rcases hmem op hop with rfl|rfl
  ·rw[hx.2];rfl
  ·rw[hy.2];rfl
 have hstill:∀op∈#[x,y],op.act≠ .mark .disable/\op.act≠ .mark .enable:=λop hop=>by
  rcases hmem op hop with rfl|rfl
  ·rw[hx.2];exact⟨(by simp),(by simp)⟩
  ·rw[hy.2];exact⟨(by simp),(by simp)⟩
 have hother:∀k,0<k->k<1+m+j->((gs.setIfInBounds 0 a').push child)[k]?=gs[k]?:=λk hk hk'=>by
  rw[Array.getElem?_push,if_neg (by simp[h.size];omega),sN (by omega)]
 have hct:CT (fN S X.Wg) (nH X m (j+1) (upd Nd j ⟨Vc,child,w⟩)) (us X m) t (m+j):=Gq h.ct λk hk l=>by
  constructor
  ·rintro⟨i,hi,rfl,ho⟩
   have hij:i≠j:=by omega
   rw[upd_ne Nd _ hij]at ho
   exact⟨i,by omega,rfl,ho⟩
  ·rintro⟨i,hi,rfl,ho⟩
   refine⟨i,by omega,rfl, ?_⟩
   rw[upd_ne Nd _ (by omega)]
   exact ho
 refine
  {size:=by simp[h.size];omega
   old:=λk hk0 hk=> ?_
   wk:=λk hk=> ?_
   lies:=hL
   tabRO:=h.tabRO
   ct:=hct.fork hL.apart (by rw[show m+j+1=1+m+j from by omega];exact hx) (by rw[show m+j+1=1+m+j from by omega];exact hy) h.deaf0
   norel:=h.norel.app λop hop=> ?_
   deaf0:=by rw[Go.ConcN.Deaf_still t 0 _ hstill];exact h.deaf0
   deafW:=λk hk=> ?_
   rel:=λk hk hs=> ?_
   has:=λk hk hs=> ?_
   list:=h.list
   seen:=λop hop=> ?_
   over:=t6 hnone h.over
   known:=rj hnone h.known
   atom:=lG (λop hop=> .inr λx hx _=>by rw[hnone op hop]at hx;cases hx) h.atom}
 ·obtain⟨g,hg,hq⟩:=h.old k hk0 hk
  refine⟨g,by rw[hother k hk0 (by omega)];exact hg, ?_⟩
  rw[Go.ConcN.Deaf_still t k _ hstill]
  exact hq
 ·by_cases e:k=j
  ·subst e
   refine⟨child, ?_, .inl ⟨by rw[upd_same],by rw[upd_same],by rw[upd_same],by rw[upd_same],by rw[upd_same];exact hc,by rw[upd_same];exact aO.refl _ _ _ _⟩⟩
   rw[Array.getElem?_push,if_pos (by simp[h.size])]
  ·obtain⟨g,hg,hs⟩:=h.wk k (by omega)
   refine⟨g,by rw[hother _ (by omega) (by omega)];exact hg, ?_⟩
   rw[upd_ne D _ e,upd_ne Nd _ e]
   exact hs
 ·rcases hmem op hop with rfl|rfl
  ·rw[hx.2];simp
  ·rw[hy.2];simp
 ·rw[Go.ConcN.Deaf_still t _ _ hstill]
  by_cases e:k=j
  ·subst e
   rw[upd_same]
   exact Go.ConcN.Deaf_absent λi op hi e1=>by have:=h.ct.gs i op hi;omega
  ·rw[upd_ne D _ e]
   exact h.deafW k (by omega)
 ·by_cases e:k=j
  ·subst e
   rw[upd_same]at hs
   exact absurd hs (by simp)
  ·rw[upd_ne D _ e]at hs
   obtain⟨r,hr⟩:=h.rel k (by omega) hs
   refine⟨r,hr.appNot λop hop=> ?_⟩
   rcases hmem op hop with rfl|rfl
   ·rw[hx.1];omega
   ·rw[hy.1];omega
 ·by_cases e:k=j
  ·subst e
   rw[upd_same]at hs
   exact absurd hs (by simp)
  ·rw[upd_ne D _ e]at hs
   exact h.has k (by omega) hs
 ·rcases Array.mem_append.1 hop with hop|hop
  ·exact h.seen op hop
  ·rcases hmem op hop with rfl|rfl
   ·rw[hx.2];trivial
   ·rw[hy.2];trivial
end
end Go.Proofs.YtkmoglhgkcnalaaDoor
namespace Go.Proofs.YtkmoglhgkcnalaaDoor
open Go Go.Conc
open Go.ConcN (sumTo upd sumTo_upd upd_ne upd_same CT Apart PermW WgLive RelBy WD ShN OkW Ok0 norel_of CTag phi Vc Ssum Fsum)
open Go.ConcR (KK WgAt stA smA rd wr mk DC0 again_blocked)
section
variable(X:ap)(Fin Anch:(Nat->Prop)->Goroutine->World->Prop)(N:Nat)
def C3:CTag->Nat->Nat->Nat->Nat->(Nat->Prop)->Goroutine->World->Prop
 | .sp r s,u,j,f,d,V,g,w=>u=0/\r<N/\j=N-(r+1)/\
   ((s=5/\d=0/\bD X (xw X j (ju X Anch N r)) f V g w)\/(s=4/\d=1/\bD X (K9 X j (ju X Anch N r)) f V g w)\/(s=3/\d=1/\bD X (K8 X j (ju X Anch N r)) f V g w)\/
     (s=2/\d=1/\bD X (EI X j (ju X Anch N r)) f V g w)\/(s=1/\d=0/\bD X (Jf X j (ju X Anch N r)) f V g w))
 | .kd,u,j,f,d,V,g,w=>u=0/\j=N/\d=0/\bD X (EJ X Anch) f V g w
 | .anch,u,j,f,d,V,g,w=>u=0/\j=N/\d=1/\bD X Anch f V g w
 | .w1,u,j,f,d,V,g,w=>u=0/\j=N/\d=1/\bD X (qa X Fin Anch) f V g w
 | .w2 vs,u,j,f,d,V,g,w=>u=0/\j=N/\d=1/\bD X (K7 X Fin Anch vs) f V g w
 | .w3,u,j,f,d,V,g,w=>j=N/\d=1/\((u=0/\∃k,f=k+1/\bD X (Jc X Fin) k V g w)\/(u=1/\bD X (K5 X Fin) f V g w))
 | .blk,u,j,f,d,V,g,w=>u=0/\j=N/\d=1/\f=0/\∃g0:Goroutine,g={g0 with status:= .blocked}/\∀w₁,aR X V w w₁->Jc X Fin V g0 w₁
 | .w4,u,j,f,d,V,g,w=>u=0/\j=N/\d=1/\bD X (K6 X Fin) f V g w
 | .ke,u,j,f,d,V,g,w=>u=0/\j=N/\d=1/\bD X (Je X Fin) f V g w
 | .acq,u,j,f,d,V,g,w=>u=0/\j=N/\d=0/\bD X (GY X Fin) f V g w
 | .ret,u,j,f,d,V,g,w=>u=0/\j=N/\d=0/\bD X Fin f V g w
end
section
variable{X:ap}{Fin Anch:(Nat->Prop)->Goroutine->World->Prop}{N:Nat}{tag:CTag}{u j f d:Nat}{V:Nat->Prop}{g:Goroutine}{w w':World}
theorem C3.rely(h:C3 X Fin Anch N tag u j f d V g w)(hr:aR X V w w'):C3 X Fin Anch N tag u j f d V g w':=by
 cases tag with
 |sp r s=>
  obtain⟨h0,h1,h2,h⟩:=h
  refine⟨h0,h1,h2, ?_⟩
  rcases h with⟨a,b,c⟩|⟨a,b,c⟩|⟨a,b,c⟩|⟨a,b,c⟩|⟨a,b,c⟩
  ·exact .inl ⟨a,b,c.rely hr⟩
  ·exact .inr (.inl ⟨a,b,c.rely hr⟩)
  ·exact .inr (.inr (.inl ⟨a,b,c.rely hr⟩))
  ·exact .inr (.inr (.inr (.inl ⟨a,b,c.rely hr⟩)))
  ·exact .inr (.inr (.inr (.inr ⟨a,b,c.rely hr⟩)))
 |w3=>
  obtain⟨h0,h1,h⟩:=h
  rcases h with⟨a,k,b,c⟩|⟨a,c⟩
  ·exact⟨h0,h1, .inl ⟨a,k,b,c.rely hr⟩⟩
  ·exact⟨h0,h1, .inr ⟨a,c.rely hr⟩⟩
 |blk=>
  obtain⟨h0,h1,h2,h3,g0,h4,h5⟩:=h
  exact⟨h0,h1,h2,h3,g0,h4,λw₁ h₁=>h5 w₁ (hr.trans h₁)⟩
 |_=>
  obtain⟨h0,h1,h2,h⟩:=h
  exact⟨h0,h1,h2,h.rely hr⟩
theorem C3.status(hF:∀V g w,Fin V g w->g.status= .running)(hA:∀V g w,Anch V g w->g.status= .running)(h:C3 X Fin Anch N tag u j f d V g w):(g.status= .running/\tag≠ .blk)\/(g.status= .blocked/\tag= .blk):=by
 cases tag with
 |sp r s=>
  obtain⟨h0,h1,h2,h⟩:=h
  rcases h with⟨a,b,c⟩|⟨a,b,c⟩|⟨a,b,c⟩|⟨a,b,c⟩|⟨a,b,c⟩<;>exact .inl ⟨c.running λ_ _ _ x=>x.1,by simp⟩
 |w3=>
  obtain⟨h0,h1,h⟩:=h
  rcases h with⟨a,k,b,c⟩|⟨a,c⟩<;>exact .inl ⟨c.running λ_ _ _ x=>x.1,by simp⟩
 |blk=>
  obtain⟨h0,h1,h2,h3,g0,rfl,h5⟩:=h
  exact .inr ⟨rfl,rfl⟩
 |anch=>exact .inl ⟨h.2.2.2.running hA,by simp⟩
 |ret=>exact .inl ⟨h.2.2.2.running hF,by simp⟩
 |_=>exact .inl ⟨h.2.2.2.running λ_ _ _ x=>x.1,by simp⟩
theorem C3.wokenBy(hF:∀V g w,Fin V g w->g.status= .running)(hA:∀V g w,Anch V g w->g.status= .running){a:Goroutine}(h:C3 X Fin Anch N tag u j f d V a w)(hr:aR X V w w')(g g':Goroutine):
 ∃tag' f',C3 X Fin Anch N tag' u j f' d V (woken X.P g g' w' a) w'/\f'<=f+1/\(tag'=tag\/(tag= .blk/\tag'= .w3))/\(mayWake X.P g=true->g'.status= .running->tag'≠ .blk):=by
 have h':=h.rely hr
 unfold Go.Conc.woken
 split
 ·rcases h'.status hF hA with⟨hs,hne⟩|⟨_,rfl⟩
  ·exact⟨tag,f,by rw[again_running _ (.inl hs)];exact h',by omega, .inl rfl,λ_ _=>hne⟩
  ·obtain⟨h0,h1,h2,h3,g0,rfl,h5⟩:=h'
   have h6:=h5 w' (aR.refl X V w')
   refine⟨.w3,0+1, ?_,by omega, .inr ⟨rfl,rfl⟩,λ_ _=>by simp⟩
   rw[again_blocked h6.1 h6.2.1]
   exact⟨h1,h2, .inl ⟨h0,0,rfl,bD.stop h5⟩⟩
 ·rename_i hc
  exact⟨tag,f,h',by omega, .inl rfl,λh1 h2=>absurd (by simp[h1,h2]) hc⟩
theorem C3.bound(h:C3 X Fin Anch N tag u j f d V g w):j+Go.ConcN.pend tag<=N:=by
 cases tag with
 |sp r s=>
  obtain⟨_,h1,h2,_⟩:=h
  simp only[Go.ConcN.pend]
  split<;>omega
 |w3=>
  have:=h.1
  simp only[Go.ConcN.pend]
  omega
 |_=>
  have:=h.2.1
  simp only[Go.ConcN.pend]
  omega
end
def uZ(X:ap)(m j:Nat)(t:Trace):Prop:=
 ∃k,t.act? k=some (.mark (.acquire (stA X.Wg)))/\t.g? k=some 0/\t.heard k/\∀i,i<j->∃r,RelBy (stA X.Wg) t (1+m+i) r/\r<k
theorem uZ.app{X:ap}{m j:Nat}{t u:Trace}(h:uZ X m j t)(hu:∀i r,i<j->RelBy (stA X.Wg) t (1+m+i) r->RelBy (stA X.Wg) (t++u) (1+m+i) r):uZ X m j (t++u):=by
 obtain⟨k,h1,h2,h3,h4⟩:=h
 have hk:=lt_of_act? h1
 exact⟨k,by rw[act?_old hk];exact h1,by rw[g?_old hk];exact h2,(heard_old hk).2 h3,λi hi=>let ⟨r,hr,hrk⟩:=h4 i hi;⟨r,hu i r hi hr,hrk⟩⟩
structure dj (X:ap) (Fin Anch:(Nat->Prop)->Goroutine->World->Prop) (N:Nat) (S:Nat->Prop) (m j:Nat) (gs:Array Goroutine) (w:World) (t:Trace) (D:Nat->WD) (Nd:Nat->dQ) (V0:Nat->Prop) (d0:Nat) (q:Nat->Nat) (tag:CTag) (u f0:Nat) (a:Goroutine) (st sm:Int):Prop where
 at0:gs[0]?=some a
 sit:C3 X Fin Anch N tag u j f0 d0 V0 a w
 crew:ie X S m j gs w t D Nd V0 d0 q
 wg:WgAt X.ty X.Wg w st sm
 mode:Go.ConcN.Mode j D tag st sm
 acq:tag= .ret->uZ X m j t
 acc:∀i,i<j->Acc (jw X i) (Nd i)
def ft(N j:Nat)(D:Nat->WD)(tag:CTag)(u:Nat):Nat:=2*phi N (Vc j D) tag+u+2*Ssum j D
def lu(m j:Nat)(D:Nat->WD)(f0:Nat)(q:Nat->Nat):Nat:=f0+2*Fsum j D+2*sumTo (m+1) q
def GU(X:ap)(j' j r1' r1:Nat)(Nd' Nd:Nat->dQ)(r3' r3:Nat):Prop:=
 r1'<r1\/(r1'=r1/\j'=j/\((∃i x,i<j/\jw X i x (Nd i)/\Nd'=upd Nd i x)\/(Nd'=Nd/\r3'<r3)))
def IW(X:ap)(Fin Anch:(Nat->Prop)->Goroutine->World->Prop)(N:Nat)(S:Nat->Prop)(m:Nat)(Post:Value->World->Prop)(j:Nat)(Nd:Nat->dQ)(r1 r3:Nat):Prop:=
 ∀j' gs' w' sl' t' D' Nd' V0' d0' q' tag' u' f' a' st' sm',dj X Fin Anch N S m j' gs' w' t' D' Nd' V0' d0' q' tag' u' f' a' st' sm'->GU X j' j (ft N j' D' tag' u') r1 Nd' Nd (lu m j' D' f' q') r3->cZ X.P Post (crowd gs' w' sl') t'
section
variable{X:ap}{Fin Anch:(Nat->Prop)->Goroutine->World->Prop}{N:Nat}{S:Nat->Prop}{m j:Nat}{gs:Array Goroutine}{w w':World}{t:Trace}{D D':Nat->WD}{Nd Nd':Nat->dQ}{V0:Nat->Prop}{d0:Nat}{q q':Nat->Nat}{tag:CTag}{u f0:Nat}{a:Goroutine}{st sm st' sm':Int}
theorem dj.at(h:dj X Fin Anch N S m j gs w t D Nd V0 d0 q tag u f0 a st sm)(d:Nat):dj X Fin Anch N S m j gs (w.at d) t D Nd V0 d0 q tag u f0 a st sm:=
 ⟨h.at0,h.sit.rely (aR.at X V0 w d),h.crew.at d,h.wg,h.mode,h.acq,h.acc⟩
theorem dj.other(hF:∀V g w,Fin V g w->g.status= .running)(hA:∀V g w,Anch V g w->g.status= .running)(h:dj X Fin Anch N S m j gs w t D Nd V0 d0 q tag u f0 a st sm){k:Nat}(hk:0<k){g g':Goroutine}{ops:Trace}
 (hcrew:ie X S m j ((gs.map (woken X.P g g' w')).setIfInBounds k g') w' (t++ops) D' Nd' V0 d0 q') (hrm:aR X V0 w w') (hwg:WgAt X.ty X.Wg w' st' sm')
 (hmode:∀tag',(tag'=tag\/(tag= .blk/\tag'= .w3))->(mayWake X.P g=true->g'.status= .running->tag'≠ .blk)->Go.ConcN.Mode j D' tag' st' sm')
 (hacq:tag= .ret->uZ X m j (t++ops)) (hacc:∀i,i<j->Acc (jw X i) (Nd' i)):
 ∃tag' f' a',dj X Fin Anch N S m j ((gs.map (woken X.P g g' w')).setIfInBounds k g') w' (t++ops) D' Nd' V0 d0 q' tag' u f' a' st' sm'/\f'<=f0+1/\∀v,phi N v tag'=phi N v tag:=by
 obtain⟨tag',f',hs,hf,ht,hw⟩:=h.sit.wokenBy hF hA hrm g g'
 refine⟨tag',f',woken X.P g g' w' a,⟨by rw[eF _ _ (by omega),h.at0];rfl,hs,hcrew,hwg,hmode tag' ht hw,λe=> ?_,hacc⟩,hf,λv=>Go.ConcN.phi_retag N v ht⟩
 rcases ht with rfl|⟨_,rfl⟩
 ·exact hacq e
 ·cases e
end
end Go.Proofs.YtkmoglhgkcnalaaDoor
