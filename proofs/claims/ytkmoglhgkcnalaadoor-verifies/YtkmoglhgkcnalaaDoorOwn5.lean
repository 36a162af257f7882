/- A part of what the last text of the claim imports: texts laid together, and made small, by a program. -/
import Derived.Conc.CompanyDraw
import Derived.AtR
import Derived.Conc.WgGenN3
import Derived.CallsIn
import Derived.Test.YtkmoglhgkcnalaaDoorOwn4
set_option maxHeartbeats 16000000
set_option maxRecDepth 100000
namespace Go.Proofs.YtkmoglhgkcnalaaDoor
open Go Go.Conc
open Go.ConcN (sumTo upd sumTo_upd upd_ne upd_same CT Apart PermW WgLive RelBy WD ShN OkW Ok0 norel_of)
open Go.ConcR (KK WgAt stA smA rd wr mk DC0)
section
variable{X:ap}{S:Nat->Prop}{m j:Nat}{gs:Array Goroutine}{w w':World}{t:Trace}{D:Nat->WD}{Nd:Nat->dQ}{V0:Nat->Prop}{d0:Nat}{q:Nat->Nat}
structure iV (A:Nat->Prop) (w w':World):Prop where
 keep:∀b,b<w.heap.size->¬A b->w'.heap[b]?=w.heap[b]?
 size:w.heap.size<=w'.heap.size
 os:w'.os=w.os
 output:w'.output=w.output
 tape:w'.tape=w.tape
theorem bB.turns{V RO:Nat->Prop}{es:Array Event}(h:bB V RO w w' es):iV V w w':=⟨h.keep,h.size,h.os,h.output,h.tape⟩
theorem sK(w:World)(a:Addr)(v:Value):iV (· =a.block) w (w.setCell a v):=
 ⟨λb _ hb=>by simp only[World.setCell];exact jm hb,by simp[World.setCell],rfl,rfl,rfl⟩
theorem iV.live{A:Nat->Prop}(h:iV A w w'){ty:TypeId}{Wg:Nat}(hw:¬A Wg)(hl:Wg<w.heap.size):WgLive ty Wg w->WgLive ty Wg w':=λ⟨st,sm,h1⟩=>⟨st,sm,(h.keep Wg hl hw).trans h1⟩
theorem iV.cell{A:Nat->Prop}(h:iV A w w'){a:Addr}(hw:¬A a.block)(hl:a.block<w.heap.size):w'.cell? a=w.cell? a:=by
 unfold World.cell?
 rw[h.keep _ hl hw]
theorem iV.list{A:Nat->Prop}(h:iV A w w')(hw:¬A X.C)(hl:X.C<w.heap.size):X.list w->X.list w':=λ⟨cs,h1,h2⟩=>⟨cs,(h.keep _ hl hw).trans h1,h2⟩
theorem iV.kept{A V:Nat->Prop}(h:iV A w w')(hv:∀b,V b->¬A b/\b<w.heap.size):di V w w':=⟨λb hb=>h.keep b (hv b hb).2 (hv b hb).1,h.size,h.os,h.output,h.tape⟩
theorem iw(c:Nat)(v:Value)(h:X.list w):X.list (w.setCell (X.at c) v):=by
 obtain⟨cs,h1,h2⟩:=h
 refine⟨cs.setIfInBounds c v, ?_,by simpa using h2⟩
 simp[World.setCell,ap.at,Array.getElem?_modify,h1]
theorem Ax{c c':Nat}(hc:c'≠c)(v:Value)(h:X.list w):(w.setCell (X.at c) v).cell? (X.at c')=w.cell? (X.at c'):=by
 obtain⟨cs,h1,h2⟩:=h
 unfold World.cell?
 simp[World.setCell,ap.at,Array.getElem?_modify,h1,sN (Ne.symm hc)]
theorem qm(hL:ic X S j Nd V0 w)(hl:X.list w){i:Nat}(hi:i<j){es:Array Event}(h:iU X i (Nd i).V w w' es):
 aR X V0 w w'/\(∀i',i'<j->i'≠i->aO X i' (Nd i').V w w')/\(X.RO 0->tX X.ty X.Wg w w')/\X.list w'/\(∀i',i'≠i->∀c,X.mine i' c->w'.cell? (X.at c)=w.cell? (X.at c))/\w.heap.size<=w'.heap.size/\w'.heap[X.Wg]?=w.heap[X.Wg]?:=by
 have key:∀A:Nat->Prop,iV A w w'->(∀b,A b->((Nd i).V b\/b=X.C))->X.list w'->(∀i',i'≠i->∀c,X.mine i' c->w'.cell? (X.at c)=w.cell? (X.at c))->
  aR X V0 w w'/\(∀i',i'<j->i'≠i->aO X i' (Nd i').V w w')/\(X.RO 0->tX X.ty X.Wg w w')/\X.list w'/\(∀i',i'≠i->∀c,X.mine i' c->w'.cell? (X.at c)=w.cell? (X.at c))/\w.heap.size<=w'.heap.size/\w'.heap[X.Wg]?=w.heap[X.Wg]?:=by
  intro A hA hsub hl' hcells
  have hwg:¬A X.Wg:=λh=>(hsub _ h).elim (λh=>(hL.priv i hi _ h).2.2.1 rfl) hL.wgc
  have hro:∀b,X.RO b->¬A b/\b<w.heap.size:=λb hb=>⟨λh=>(hsub b h).elim (λh=>(hL.priv i hi b h).2.1 hb) (hL.ro b hb).2.2,(hL.ro b hb).1⟩
  have hlive:=hA.live (ty:=X.ty) hwg hL.wgl.1
  refine⟨⟨hA.kept λb hb=> ?_,hlive⟩,λi' hi' hne=>⟨hA.kept λb hb=> ?_,hlive,λ_=>hl',hcells i' hne⟩,λh0=> @Go.ConcN.RW.mk cU _ _ _ _ _ _ _ _ (λb hb=>absurd hb (Nat.not_lt_zero _)) hlive (λ⟨cs,h1,h2⟩=>⟨cs,(hA.keep 0 (hro 0 h0).2 (hro 0 h0).1).trans h1,h2⟩) (hA.cell (hro 0 h0).1 (hro 0 h0).2),hl',hcells,hA.size,hA.keep _ hL.wgl.1 hwg⟩
  ·rcases hb with hb|hb
   ·exact⟨λh=>(hsub b h).elim (λh=>(hL.priv i hi b h).2.2.2.2.2 hb) (hL.v0 b hb).2.2.2.1,(hL.v0 b hb).1⟩
   ·exact hro b hb
  ·rcases hb with hb|hb
   ·exact⟨λh=>(hsub b h).elim (λh=>hne (hL.two i' i hi' hi b hb h)) (hL.priv i' hi' b hb).2.2.2.1,(hL.priv i' hi' b hb).1⟩
   ·exact hro b hb
 rcases h with h|⟨c,v,hc,rfl,_⟩
 ·have hC:¬(Nd i).V X.C:=λh=>(hL.priv i hi _ h).2.2.2.1 rfl
  exact key _ h.turns (λb hb=> .inl hb) (h.turns.list hC hL.wgl.2 hl) λi' _ c _=>h.turns.cell (a:=X.at c) hC hL.wgl.2
 ·exact key _ (sK w (X.at c) v) (λb hb=> .inr hb) (iw c v hl) λi' hne c' hc'=>Ax (λe=>hne (hL.mine i' i c' hc' (by rw[e];exact hc))) v hl
end
end Go.Proofs.YtkmoglhgkcnalaaDoor
namespace Go.Proofs.YtkmoglhgkcnalaaDoor
open Go Go.Conc
section
variable{PL PM:Program}{G T:Nat}{D:Nat->Prop}{ρ:Nat->Nat}{wL wM:World}{base:List Frame}
def ba(P:Program)(f:FuncId)(args:Array Value)(cs:List Frame):Goroutine:={frame:=Frame.enter P f args .normal,callers:=cs,status:= .running,dying:=none}
theorem nU(hV:∀w a b,World.farLoad PM w a b=World.farLoad PL w a b)(hS:∀w a v b,World.farStore PM w a v b=World.farStore PL w a v b)(hW:ci G T D ρ wL wM)
 {fr fr':Frame} (cs':List Frame) (hfr:∀ρ',aw G D ρ ρ'->fr'=aT ρ' fr) (ok:fJ fr)
 {s s':Sem Next} (hs:∀ρ',aw G D ρ ρ'->ag ρ' PL PM (ea ρ') s s') {f:FuncId} {args:Array Value} {wL':World} (hrun:s.run PL wL= .ok (.enter f args) wL') (hT:wL'.drawn<=T):
 ∃D' ρ' args' wM' esM,stepG.apply PM true fr' cs' none s' wM= .go (ba PM f args' (fr'::cs')) wM' esM/\(∀ρ2,aw G D' ρ' ρ2->args'=args.map (aa ρ2))/\gW G T D ρ wL wM D' ρ' wL' wM'/\∀e∈esM,gC D' ρ' e:=by
 obtain⟨D',ρ1,r',wM',es',e1,e2,e3,e4⟩:=dS hV hS ea s s' D ρ wL wM hW hs #[] _ wL' hrun rfl hT
 cases e2 with
 | @ok _ n' _ _ hn'=>
   have hfr0:=hfr ρ hW.self
   have hc':dE fr':=by
    intro d w r s k e
    rw[hfr0]at e
    have:=ok.noCall
    cases ht:fr.todo with
    |nil=>simp[aT,ht]at e
    |cons i t=>
     simp only[aT,ht,List.map_cons,List.cons.injEq]at e
     cases i<;>simp[cA]at e
     exact this _ _ _ _ _ ht
   have hn0:=hn' ρ1 e3.rel.self
   have hn1:vQ n'=true:=by rw[hn0,zv];rfl
   have hst:=cH (cs:=cs') hc' e1 hn1
   rw[hn0]at hst
   refine⟨D',ρ1,args.map (aa ρ1),wM',_,hst,λρ2 h2=> ?_,e3,λe he=> ?_⟩
   ·have:=hn0.symm.trans (hn' ρ2 h2)
    simp only[ea,Next.enter.injEq,true_and]at this
    exact this
   ·have h1:=cT _ _ _ e he
    split at h1
    ·simp at h1
    ·exact e4 e (by simpa using h1)
theorem mY{P:Program}{fr:Frame}(cs:List Frame)(ok:fJ fr){s:Sem Next}{w w':World}{f:FuncId}{args:Array Value}(hrun:s.run P w= .ok (.enter f args) w'):∃es,stepG.apply P true fr cs none s w= .go (ba P f args (fr::cs)) w' es:=by
 cases hr:s.runT P w #[]with
 |mk r es=>
  have:=Sem.runT_fst P s w #[]
  rw[hr,hrun]at this
  have hr1:r= .ok (.enter f args) w':=this
  rw[hr1]at hr
  exact⟨_,cH (cs:=cs) ok.noCall hr rfl⟩
theorem oW(E:j4 PL PM G)(hW:ci G T D ρ wL wM)(hP:ax wL){gL gM:Goroutine}(hg:eL G D ρ base gL gM){f:FuncId}{args:Array Value}{w1:World}(he:gG PL gL.frame wL f args w1)(hT:w1.drawn<=T)(mL mM:Bool):
 ∃csL esL,stepG PL mL gL wL= .go (ba PL f args csL) w1 esL/\∃D' ρ' args' csM wM' esM,stepG PM mM gM wM= .go (ba PM f args' csM) wM' esM/\(∀ρ2,aw G D' ρ' ρ2->args'=args.map (aa ρ2))/\
  (∀ρ2,aw G D' ρ' ρ2->csM=csL.map (aT ρ2)++base)/\(∀c∈csL,fJ c/\bE c)/\gW G T D ρ wL wM D' ρ' w1 wM'/\∀e∈esM,gC D' ρ' e:=by
 obtain⟨hfr,hcs,ok,oks,h1,h2,h3,h4⟩:=hg
 obtain⟨fr,cs,st,dy,off⟩:=gL
 obtain⟨fr',cs',st',dy',off'⟩:=gM
 simp only at hfr hcs ok oks h1 h2 h3 h4 he
 subst h1 h2 h3 h4
 have hfr0:=hfr ρ hW.self
 obtain⟨hm,he⟩:=he
 have hmode:fr'.mode=fr.mode:=by rw[hfr0];rfl
 have hL:stepG PL mL {frame:=fr,callers:=cs,status:= .running,dying:=none,offers:=off} wL=stepG.exec PL mL true fr cs none wL:=by
  unfold stepG
  simp only[hm]
 have hM:stepG PM mM {frame:=fr',callers:=cs',status:= .running,dying:=none,offers:=off'} wM=stepG.exec PM mM true fr' cs' none wM:=by
  unfold stepG
  simp only[hmode,hm]
 rw[hL,hM]
 rcases he with⟨ops,n,rest,k,o,ht,ho,hw,hop,hcalm,hrun⟩|⟨x,ps,a,b,k,l,mark,w0,ht,hloop,hrun⟩
 ·have ht':fr'.todo= .inRegion ops (n::rest)::k.map (cA ρ):=by rw[hfr0];show fr.todo.map (cA ρ)=_;rw[ht];rfl
  have hw':Region.wanted o (yielded ops fr'.tmps)=true:=by
   rw[hfr0]
   have:yielded ops (aT ρ fr).tmps=yielded ops fr.tmps:=funext λj=>ee ρ fr.fn ops fr.tmps j
   rw[this]
   exact hw
  have hal:∀ρ',aw G D ρ ρ'->ag ρ' PL PM (ea ρ') (execOp fr.eval o) (execOp fr'.eval o):=λρ' hA=>
   uR (z:=fr.fn==aV) E.same (E.toEnv.far hA) (E.fn ρ') (λx hx=>by rw[hfr ρ' hA];exact fC fr x hx) o hop
  have hoper:fr.oper?=some o:=by simp only[Frame.oper?,ht,ho]
  have hcalm':bE fr:=λo' d e1 e2=>by
   rw[hoper]at e1
   cases e1
   rw[e2]at hcalm
   simpa using hcalm
  obtain⟨es,e1⟩:=mY cs ok hrun
  obtain⟨D',ρ',args',wM',esM,q1,q2,q3,q4⟩:=nU E.load E.store hW cs' hfr ok hal hrun hT
  refine⟨fr::cs,es,by rw[io ht ho hw hop];exact e1,D',ρ',args',fr'::cs',wM',esM,by rw[io ht' ho hw' hop];exact q1,q2,λρ2 h2=> ?_,λc hc=> ?_,q3,q4⟩
  ·have hA:=aw.of_ran q3 h2
   rw[hfr ρ2 hA,hcs ρ2 hA]
   rfl
  ·rcases List.mem_cons.1 hc with rfl|hc
   ·exact⟨ok,hcalm'⟩
   ·exact oks c hc
 ·have hi:=ok.todo
  rw[ht]at hi
  simp only[List.all_cons,Bool.and_eq_true,kx,eM,Bool.not_eq_true']at hi
  obtain⟨⟨⟨⟨hz,hx⟩,ha⟩,hb⟩,hk⟩:=hi
  have hfn:fr.fn≠aV:=by simpa using hz
  rw[hz]at ha hb hx
  have hal:∀ρ',aw G D ρ ρ'->ag ρ' PL PM (λy=>(ρ' y.1,y.2.map (lq ρ'))) (Instr.enterLoop fr.fn fr.tmps ps a b fr.roundOf) (Instr.enterLoop fr'.fn fr'.tmps ps a b fr'.roundOf):=λρ' hA=>by
   rw[hfr ρ' hA]
   show ag ρ' PL PM _ _ (Instr.enterLoop fr.fn (iY ρ' fr.fn fr.tmps) ps a b (fr.roundOf.map ρ'))
   rw[kq ρ' hfn]
   exact kS fr.fn fr.tmps ps a b fr.roundOf ha hb hfn
  have hP1:ax w0:=cj (hal ρ hW.self) wL hP _ _ hloop
  have hmarks:cd mark=true:=lD hloop
  have hfr1:fJ (aS fr k l mark):=by
   refine⟨?_, ?_,ok.mode,ok.kind,ok.round⟩
   ·show(Item.inRangeFunc l::k).all (kx (fr.fn==aV))=true
    simp only[List.all_cons,Bool.and_eq_true,kx,Bool.not_eq_true']
    exact⟨hz,hk⟩
   ·show cd (mark++fr.defers)=true
    simp only[cd,List.all_append,Bool.and_eq_true]
    exact⟨hmarks,ok.defers⟩
  have hcalm:bE (aS fr k l mark):=λo d ho=>by cases ho
  have hs1:ag ρ PL PM (ea ρ) (bM (aS fr k l mark) x l) (bM (aT ρ (aS fr k l mark)) x (ρ l)):=gB E.same (E.fn ρ) (fC (aS fr k l mark) x (by show l9 (fr.fn==aV) x=true;rw[hz];exact hx)) l
  have hT1:w0.drawn<=T:=Nat.le_trans (pJ hs1 w0 hP1 _ _ hrun) hT
  obtain⟨D1,ρ1,r',wM1,es',e1,e2,e3,e4⟩:=dS E.load E.store (λρ' y=>(ρ' y.1,y.2.map (lq ρ'))) _ _ D ρ wL wM hW hal #[] _ w0 hloop rfl hT1
  cases e2 with
  | @ok _ y' _ _ hy'=>
    obtain⟨l1,mark1⟩:=y'
    have hag:=λρ' (h':aw G D1 ρ1 ρ')=>aw.of_ran e3 h'
    have hl1:∀ρ',aw G D1 ρ1 ρ'->l1=ρ' l/\mark1=mark.map (lq ρ'):=λρ' h'=>by
     have:=hy' ρ' h'
     simpa using this
    have ht':∀ρ',aw G D1 ρ1 ρ'->fr'.todo= .code (.rangeFunc x ps a b)::k.map (cA ρ'):=λρ' h'=>by rw[hfr ρ' (hag ρ' h')];show fr.todo.map (cA ρ')=_;rw[ht];rfl
    have hfrM:∀ρ',aw G D1 ρ1 ρ'->aS fr' (k.map (cA ρ1)) l1 mark1=aT ρ' (aS fr k l mark):=λρ' h'=>by
     have q:=(ht' ρ1 e3.rel.self).symm.trans (ht' ρ' h')
     simp only[List.cons.injEq,true_and]at q
     rw[q,(hl1 ρ' h').1,(hl1 ρ' h').2,hfr ρ' (hag ρ' h')]
     simp only[aS,aT,List.map_cons,cA,List.map_append]
    have hal2:∀ρ',aw G D1 ρ1 ρ'->ag ρ' PL PM (ea ρ') (bM (aS fr k l mark) x l) (bM (aS fr' (k.map (cA ρ1)) l1 mark1) x l1):=λρ' h'=>by
     rw[hfrM ρ' h',(hl1 ρ' h').1]
     exact gB E.same (E.fn ρ') (fC (aS fr k l mark) x (by show l9 (fr.fn==aV) x=true;rw[hz];exact hx)) l
    obtain⟨es,f0⟩:=mY cs hfr1 hrun
    obtain⟨D',ρ',args',wM',esM,q1,q2,q3,q4⟩:=nU E.load E.store e3.rel cs' hfrM hfr1 hal2 hrun hT
    have hloopT:∃esl,(Instr.enterLoop fr.fn fr.tmps ps a b fr.roundOf).runT PL wL #[]=(.ok (l,mark) w0,esl):=by
     cases hr:(Instr.enterLoop fr.fn fr.tmps ps a b fr.roundOf).runT PL wL #[]with
     |mk r esl=>
      have:=Sem.runT_fst PL (Instr.enterLoop fr.fn fr.tmps ps a b fr.roundOf) wL #[]
      rw[hr,hloop]at this
      have hr1:r= .ok (l,mark) w0:=this
      exact⟨esl,by rw[hr1]⟩
    obtain⟨esl,hlt⟩:=hloopT
    refine⟨aS fr k l mark::cs,_,by rw[eu ht hlt,f0];rfl,D',ρ',args',aS fr' (k.map (cA ρ1)) l1 mark1::cs',wM',_,by rw[eu (ht' ρ1 e3.rel.self) e1,q1];rfl,q2,λρ2 h2=> ?_,λc hc=> ?_,e3.trans q3,λe he=> ?_⟩
    ·have hA1:=aw.of_ran q3 h2
     rw[hfrM ρ2 hA1,hcs ρ2 (hag ρ2 hA1)]
     rfl
    ·rcases List.mem_cons.1 hc with rfl|hc
     ·exact⟨hfr1,hcalm⟩
     ·exact oks c hc
    ·rcases Array.mem_append.1 he with he|he
     ·exact(e4 e (by simpa using cT _ _ _ e he)).mono q3.ext
     ·exact q4 e he
end
section
variable{PL P:Program}{G T:Nat}{D:Nat->Prop}{ρ:Nat->Nat}{wL wM:World}{base:List Frame}
theorem ci.join(h:ci G T D ρ wL wM){wL2 wM2:World}{bL C:Nat}{o:Obj}(hL:∀b,D b->wL2.heap[b]?=wL.heap[b]?)(hM:∀b,D b->wM2.heap[ρ b]?=wM.heap[ρ b]?)(sL:wL.heap.size<=wL2.heap.size)(sM:wM.heap.size<=wM2.heap.size)
 (hbL:wL.heap.size<=bL) (hC:wM.heap.size<=C) (ho:wL2.heap[bL]?=some o) (hq:bQ o=true) (hoM:∀ρ',wM2.heap[C]?=some (dp ρ' o)):
 ∃ρ2,ci G 0 (λb=>D b\/b=bL) ρ2 wL2 wM2/\(∀b,D b->ρ2 b=ρ b)/\ρ2 bL=C:=by
 have hfar:=h.far
 have hglob:=h.glob bL
 have hsame:∀b,D b->jB (ρ bL) C (ρ b)=ρ b:=λb hb=>li (λe=>by have:=h.inj _ _ e;have:=h.ltL hb;omega) (by have:=h.ltM hb;omega)
 refine⟨λz=>jB (ρ bL) C (ρ z),⟨λx y e=>h.inj _ _ (nZ e),λb hb=> ?_,λi hi=>by omega,λb=>(h.glob b).trans (qx (by omega) _),⟨hfar.1,by omega,by omega⟩,λb hb=> ?_⟩,hsame,Lo _ _⟩
 ·rcases hb with hb|rfl
  ·obtain⟨o1,h1,h2,h3⟩:=h.obj b hb
   refine⟨o1,(hL b hb).trans h1,h2,λρ' hA=> ?_⟩
   rw[hsame b hb,hM b hb]
   exact h3 ρ' ⟨hA.1,λx hx=>(hA.2 x (.inl hx)).trans (hsame x hx)⟩
  ·refine⟨o,ho,hq,λρ' _=> ?_⟩
   rw[Lo]
   exact hoM ρ'
 ·rcases hb with hb|rfl
  ·exact h.out b hb
  ·omega
theorem yO{c c':Frame}{cs cs':List Frame}{v v':Value}(hcs:∀ρ',aw G D ρ ρ'->c'::cs'=(c::cs).map (aT ρ')++base)(oks:∀x∈c::cs,fJ x/\bE x)(hv:∀ρ',aw G D ρ ρ'->v'=aa ρ' v):
 eL G D ρ base {frame:=c.finish v,callers:=cs,status:= .running,dying:=none} {frame:=c'.finish v',callers:=cs',status:= .running,dying:=none}:=by
 have hsplit:∀ρ',aw G D ρ ρ'->c'=aT ρ' c/\cs'=cs.map (aT ρ')++base:=λρ' hA=>by
  have:=hcs ρ' hA
  simp only[List.map_cons,List.cons_append,List.cons.injEq]at this
  exact this
 refine⟨λρ' hA=> ?_,λρ' hA=>(hsplit ρ' hA).2,db c v (oks c List.mem_cons_self).1,λx hx=>oks x (List.mem_cons_of_mem _ hx),rfl,rfl,rfl,rfl⟩
 show c'.finish v'=aT ρ' (c.finish v)
 rw[(hsplit ρ' hA).1,hv ρ' hA,er c v (oks c List.mem_cons_self).1 (oks c List.mem_cons_self).2]
theorem aw.less{D2:Nat->Prop}{ρ2 ρ':Nat->Nat}(h:aw G D2 ρ2 ρ')(hd:∀b,D b->D2 b/\ρ2 b=ρ b):aw G D ρ ρ':=⟨h.1,λb hb=>(h.2 b (hd b hb).1).trans (hd b hb).2⟩
end
end Go.Proofs.YtkmoglhgkcnalaaDoor
namespace Go.Proofs.YtkmoglhgkcnalaaDoor
open Go Go.Conc
open Go.ConcN (WgLive)
section
variable{X:ap}{i:Nat}{PL:Program}{G:Nat}
theorem gw{P:Program}{fr c:Frame}{cs:List Frame}{fn:Func}{v:Value}{w:World}(hk:fr.kind= .normal)(hd:fr.defers=[])(hm:fr.mode= .returning)(hf:P.funcs[fr.fn]?=some fn)(hr:(results fn fr.tmps).run P w= .ok v w)(he:(results fn fr.tmps).events P w #[]=#[])
 (main:Bool) {g:Goroutine} (hg:g.frame=fr/\g.callers=c::cs/\g.status= .running/\g.dying=none):stepG P main g w= .go {frame:=c.finish v,callers:=cs,status:= .running,dying:=none} w:=by
 obtain⟨fr0,cs0,st,dy,off⟩:=g
 obtain⟨rfl,rfl,rfl,rfl⟩:=hg
 simp only at hk hd hm hf hr he
 simp[stepG,unwind,doReturn,hk,hd,hm,hf,hr,he,seen,GStep.after]
def lP(f:FuncId)(r:Nat)(Val:Value->Prop)(g:Goroutine)(_:World):Prop:=
 g.frame.fn=f/\g.frame.mode= .returning/\g.frame.defers=[]/\g.callers=[]/\∃v,g.frame.tmps[r]?=some v/\Val v
structure Ep (X:ap) (i:Nat) (G:Nat) (base:List Frame) (V0:Nat->Prop) (w0:World) (gL:Goroutine) (wL:World) (x:dQ):Prop where
 rel:∃D ρ,ci G 0 D ρ wL x.w/\eL G D ρ base gL x.g/\∀b,D b->x.V (ρ b)/\w0.heap.size<=ρ b
 tab:ib wL x.w
 calm:ax wL
 since:aO X i V0 w0 x.w
 more:∀b,V0 b->x.V b
theorem xz(E:j4 PL X.P G)(hro:X.RO dN)(hSF:∀f (fn:Func),PL.funcs[f]?=some fn->fn.body.isSome=true->jf PL X.P f){f:FuncId}{fn:Func}{r:Nat}(hf:X.P.funcs[f]?=some fn)(hne:f≠aV)
 (hres:∀(tmps:Array Value) v w,tmps[r]?=some v->(results fn tmps).run X.P w= .ok v w/\(results fn tmps).events X.P w #[]=#[]) {Val:Value->Prop} (hplain:∀v,Val v->aI v=true) {c:Frame} {cs:List Frame} {V0:Nat->Prop} {w0:World}
 (hlow:(∀b,V0 b\/X.RO b->b<w0.heap.size)/\X.Wg<w0.heap.size/\X.C<w0.heap.size)
 (hnext:∀v V w,Val v->(∀b,V0 b->V b)->aO X i V0 w0 w->aA X i ⟨V,{frame:=c.finish v,callers:=cs,status:= .running,dying:=none},w⟩)
 {gL:Goroutine} {wL:World} (ht:fc PL (lP f r Val) gL wL):∀x,Ep X i G (c::cs) V0 w0 gL wL x->aA X i x:=by
 induction ht with
 | @stop gL wL hs=>
   intro x hx
   obtain⟨⟨D,ρ,h1,h2,h3⟩,htab,hcalm,hsince,hmore⟩:=hx
   obtain⟨s1,s2,s3,s4,v,s5,s6⟩:=hs
   have hfr:=h2.frame ρ h1.self
   have hcs:=h2.callers ρ h1.self
   rw[s4]at hcs
   have hv:x.g.frame.tmps[r]?=some v:=by
    rw[hfr]
    show(iY ρ gL.frame.fn gL.frame.tmps)[r]?=_
    rw[ek ρ _ _ r (by rw[s1];simp[hne]),s5]
    simp[cE ρ v (hplain v s6)]
   refine aA.step h2.run.2.1 λw₁ hr=> ?_
   have hst:=gw (P:=X.P) (fr:=x.g.frame) (c:=c) (cs:=cs) (by rw[hfr];exact h2.ok.kind) (by rw[hfr];show gL.frame.defers.map _=[];rw[s3];rfl) (by rw[hfr];exact s2) (by rw[hfr];show X.P.funcs[gL.frame.fn]?=_;rw[s1];exact hf) (hres _ v w₁ hv).1 (hres _ v w₁ hv).2 false
    (g:=x.g) ⟨rfl,by simpa using hcs,h2.run.2.1,h2.run.2.2.2⟩
   refine⟨_,w₁,_,hst, .inl (cM _ _ _), ?_⟩
   show aA X i ⟨bp x.V w₁ w₁,_,w₁⟩
   rw[bJ]
   exact hnext v x.V w₁ s6 hmore (hsince.trans ⟨hr.own.mono λb hb=>hb.imp (hmore b) id,hr.live,hr.list,hr.cells⟩)
 | @go gL wL n hn hwn _ ih=>
   intro x hx
   obtain⟨⟨D,ρ,h1,h2,h3⟩,htab,hcalm,hsince,hmore⟩:=hx
   refine aA.step h2.run.2.1 λw₁ hr=> ?_
   have hk:di (mg D ρ) x.w w₁:=hr.own.mono λb ⟨d,hd,e⟩=> .inl (e▸(h3 d hd).1)
   have hW1:=h1.kept hk
   obtain⟨esL,hl⟩:=hn w₁.tape w₁.drawn
   generalize hg1:(n w₁.tape w₁.drawn).1=g1 at hl
   generalize hw1:(n w₁.tape w₁.drawn).2=wl1 at hl
   have hwell:fa g1:=by rw[←hg1];exact hwn _ _
   have hW:ci G wl1.drawn D ρ (jJ wL w₁.tape w₁.drawn) w₁:=ci.re (wL':=jJ wL w₁.tape w₁.drawn) (wM':=w₁) hW1 rfl rfl λi _=>rfl
   have hcalm':ax (jJ wL w₁.tape w₁.drawn):=λb o ho=>hcalm b o ho
   have htab':ib (jJ wL w₁.tape w₁.drawn) w₁:=by
    obtain⟨c,e,f,q1,q2,q3⟩:=htab
    exact⟨c,e,f,q1,q2,(hr.own.keep _ (.inr hro)).trans q3⟩
   obtain⟨D1,ρ1,gM1,wM1,es1,q1,q2,q3,q4⟩:=mD (mM:=false) E hW hcalm' htab' h2 hl (Nat.le_refl _) hwell λf args w2 he=>by
    obtain⟨fn,hf,hb⟩:=kH (E.fn ρ) he
    exact hSF f fn hf hb
   obtain⟨hos,him⟩:=xZ q3 hro q4
   have hsub:∀b,mg D ρ b->x.V b:=λb ⟨d,hd,e⟩=>e▸(h3 d hd).1
   have hbig:∀b,mg D ρ b->w0.heap.size<=b:=λb ⟨d,hd,e⟩=>e▸(h3 d hd).2
   have hr0:aO X i V0 w0 w₁:=hsince.trans ⟨hr.own.mono λb hb=>hb.imp (hmore b) id,hr.live,hr.list,hr.cells⟩
   have hsz:w0.heap.size<=w₁.heap.size:=hr0.own.size
   have hT:=hos.turns
   have hfar:∀b,b<w0.heap.size->¬mg D ρ b:=λb hb hi=>by have:=hbig b hi;omega
   have hstep:aO X i V0 w₁ wM1:=
    ⟨hT.kept λb hb=>⟨hfar b (hlow.1 b hb),by have:=hlow.1 b hb;omega⟩,hT.live (hfar _ hlow.2.1) (by have:=hlow.2.1;omega),hT.list (hfar _ hlow.2.2) (by have:=hlow.2.2;omega),λc _=>hT.cell (a:=X.at c) (hfar _ hlow.2.2) (by show X.C<_;have:=hlow.2.2;omega)⟩
   refine⟨gM1,wM1,es1,q1, .inl (hos.mono hsub), ?_⟩
   have hih:=ih w₁.tape w₁.drawn (x.next w₁ gM1 wM1)
   rw[hg1,hw1]at hih
   refine hih ⟨⟨D1,ρ1,q3.rel.re rfl rfl λi hi=>by omega,q2,λb hb=>⟨(him (ρ1 b) ⟨b,hb,rfl⟩).imp (hsub _) id, ?_⟩⟩,htab'.ran E.tab hW q3,q3.quiet hcalm',hr0.trans hstep,λb hb=> .inl (hmore b hb)⟩
   rcases him (ρ1 b) ⟨b,hb,rfl⟩with h|h
   ·exact hbig _ h
   ·omega
theorem vI{v:Value}(h:aI v=true):jQ v=false:=by
 cases v with
 |pointer p=>
  cases p with
  |none=>rfl
  |some a=>simp[aI]at h
 |_=>rfl
theorem ng{f:FuncId}(hS:∃fn fn',PL.funcs[f]?=some fn/\X.P.funcs[f]?=some fn'/\fn.ntmps=fn'.ntmps/\fn.body=fn'.body/\∃c,fn.body=some c/\eM (f==aV) c=true){args:Array Value}(ha:∀v∈args,aI v=true){base:List Frame}{V:Nat->Prop}{wL w:World}
 (hG:2<=G/\G<=wL.heap.size/\G<=w.heap.size) (htab:ib wL w) (hcalm:ax wL):Ep X i G base V w (ba PL f args []) wL ⟨V,ba X.P f args base,w⟩:=by
 obtain⟨fn,fn',q1,q2,q3,q4,c,q5,q6⟩:=hS
 refine⟨⟨λ_=>False,id,⟨λ_ _ e=>e,λb hb=>hb.elim,λi hi=>by omega,λb=>Iff.rfl,hG,λb hb=>hb.elim⟩,⟨λρ' _=> ?_,λρ' _=>rfl, ?_,λx hx=>absurd hx List.not_mem_nil,rfl,rfl,rfl,rfl⟩,λb hb=>hb.elim⟩,htab,hcalm,aO.refl X i V w,λb hb=>hb⟩
 ·have e:args=args.map (aa ρ'):=by
   apply Array.ext
   ·simp
   ·intro k h1 h2
    simp[cE ρ' _ (ha _ (Array.getElem_mem h1))]
  show Frame.enter X.P f args .normal=aT ρ' (Frame.enter PL f args .normal)
  have:=Lq (ρ:=ρ') (PL:=PL) (PM:=X.P) (f:=f) ⟨fn,fn',q1,q2,q3,q4⟩ args λv hv=>vI (ha v hv)
  rw[←e]at this
  exact this
 ·refine⟨?_,rfl, .inl rfl,rfl,λ_=>rfl⟩
  simp only[ba,Frame.enter,q1,Option.bind_some,q5,Option.getD_some,List.all_cons,List.all_nil,Bool.and_true]
  exact q6
end
end Go.Proofs.YtkmoglhgkcnalaaDoor
namespace Go.Proofs.YtkmoglhgkcnalaaDoor
open Go Go.Conc
section
variable{X:ap}{i:Nat}{V:Nat->Prop}
theorem jC{P:Program}{fr:Frame}(hm:fr.mode= .run)(main:Bool)(cs:List Frame)(w:World):stepG P main {frame:=fr,callers:=cs,status:= .running,dying:=none} w=stepG.exec P main true fr cs none w:=by
 unfold stepG
 simp only[hm]
theorem aA.exec{fr:Frame}{cs:List Frame}{w:World}(hm:fr.mode= .run)(h:∀w₁,aO X i V w w₁->∃g' w' es,stepG.exec X.P false true fr cs none w₁= .go g' w' es/\bB V X.RO w₁ w' es/\aA X i ⟨bp V w₁ w',g',w'⟩):
 aA X i ⟨V,{frame:=fr,callers:=cs,status:= .running,dying:=none},w⟩:=
 aA.own rfl λw₁ h₁=>let ⟨g',w',es,h1,h2,h3⟩:=h w₁ h₁;⟨g',w',es,(jC hm false cs w₁).trans h1,h2,h3⟩
theorem aA.plain{fr:Frame}{cs:List Frame}{w:World}{t:List Item}(hm:fr.mode= .run)(hp:aY fr=some t)(h:∀w₁,aO X i V w w₁->aA X i ⟨V,{frame:={fr with todo:=t},callers:=cs,status:= .running,dying:=none},w₁⟩):
 aA X i ⟨V,{frame:=fr,callers:=cs,status:= .running,dying:=none},w⟩:=by
 refine aA.exec hm λw₁ h₁=>⟨_,w₁,#[],iF hp,cM _ _ _, ?_⟩
 rw[bJ]
 exact h w₁ h₁
theorem bB.sub{RO:Nat->Prop}{w w':World}{es es':Array Event}(h:bB V RO w w' es)(hs:∀e∈es',e∈es):bB V RO w w' es':=⟨h.keep,h.size,h.os,h.output,h.tape,λe he=>h.ev e (hs e he)⟩
theorem kC(P:Program)(fr:Frame)(es:Array Event):∀e∈seen P fr.fn (if fr.kind== .early then #[]else es),e∈es:=λe he=>by
 have h1:=cT _ _ _ e he
 split at h1
 ·simp at h1
 ·exact h1
theorem aA.oper{fr:Frame}{cs:List Frame}{w:World}{ops:Array Oper}{n:Nat}{rest:List Nat}{k:List Item}{o:Oper}(hm:fr.mode= .run)(ht:fr.todo= .inRegion ops (n::rest)::k)(ho:ops[n]?=some o)(hw:Region.wanted o (yielded ops fr.tmps)=true)(hnd:∀c,o.op≠ .defer c)
 (h:∀w₁,aO X i V w w₁->∃nx w' es,(execOp fr.eval o).runT X.P w₁ #[]=(.ok nx w',es)/\vQ nx=true/\bB V X.RO w₁ w' es/\aA X i ⟨bp V w₁ w',fH X.P fr cs nx,w'⟩):
 aA X i ⟨V,{frame:=fr,callers:=cs,status:= .running,dying:=none},w⟩:=by
 refine aA.exec hm λw₁ h₁=> ?_
 obtain⟨nx,w',es,h1,h2,h3,h4⟩:=h w₁ h₁
 have hc:dE fr:=λd w r s k e=>by rw[ht]at e;cases e
 exact⟨_,w',_,(cK ht ho hw hnd).trans (cH (cs:=cs) hc h1 h2),h3.sub (kC _ _ _),h4⟩
end
section
variable{X:ap}{i:Nat}{V:Nat->Prop}{fr c:Frame}{cs:List Frame}{w:World}{k:List Item}{l:Nat}
theorem aA.range{f:Operand}{ps:Array Tmp}{a b:Code}(hm:fr.mode= .run)(ht:fr.todo= .code (.rangeFunc f ps a b)::k)
 (h:∀w₁,aO X i V w w₁->∃l mark w1 es0 nx w' es1,(Instr.enterLoop fr.fn fr.tmps ps a b fr.roundOf).runT X.P w₁ #[]=(.ok (l,mark) w1,es0)/\(bM (aS fr k l mark) f l).runT X.P w1 #[]=(.ok nx w',es1)/\vQ nx=true/\
   bB V X.RO w₁ w' (es0++es1)/\aA X i ⟨bp V w₁ w',fH X.P (aS fr k l mark) cs nx,w'⟩):
 aA X i ⟨V,{frame:=fr,callers:=cs,status:= .running,dying:=none},w⟩:=by
 refine aA.exec hm λw₁ h₁=> ?_
 obtain⟨l,mark,w1,es0,nx,w',es1,h1,h2,h3,h4,h5⟩:=h w₁ h₁
 have hc:dE (aS fr k l mark):=λd w r s k e=>by cases e
 refine⟨_,w',seen X.P fr.fn es0++seen X.P (aS fr k l mark).fn (if (aS fr k l mark).kind== .early then #[]else es1), ?_,h4.sub λe he=> ?_,h5⟩
 ·rw[eu ht h1,cH (cs:=cs) hc h2 h3]
  rfl
 ·rcases Array.mem_append.1 he with he|he
  ·exact Array.mem_append.2 (.inl (cT _ _ _ e he))
  ·exact Array.mem_append.2 (.inr (kC _ _ _ e he))
theorem aA.round(hm:fr.mode= .run)(ht:fr.todo= .beginRound::k)
 (h:∀w₁,aO X i V w w₁->∃nx w' es,(eY fr).runT X.P w₁ #[]=(.ok nx w',es)/\vQ nx=true/\bB V X.RO w₁ w' es/\aA X i ⟨bp V w₁ w',fH X.P fr cs nx,w'⟩):
 aA X i ⟨V,{frame:=fr,callers:=cs,status:= .running,dying:=none},w⟩:=by
 refine aA.exec hm λw₁ h₁=> ?_
 obtain⟨nx,w',es,h1,h2,h3,h4⟩:=h w₁ h₁
 have hc:dE fr:=λd w r s k e=>by rw[ht]at e;cases e
 exact⟨_,w',_,(iK ht).trans (cH (cs:=cs) hc h1 h2),h3.sub (kC _ _ _),h4⟩
theorem aA.roundEnds{j:Option Code}(hm:fr.mode= .run)(hj:fe fr j)(hl:fr.roundOf=some l)(hk:fr.kind= .normal)
 (h:∀w₁,aO X i V w w₁->∃v w' es,(Instr.endRound l j).runT X.P w₁ #[]=(.ok v w',es)/\bB V X.RO w₁ w' es/\aA X i ⟨bp V w₁ w',{frame:=c.finish v,callers:=cs,status:= .running,dying:=none},w'⟩):
 aA X i ⟨V,{frame:=fr,callers:=c::cs,status:= .running,dying:=none},w⟩:=by
 refine aA.exec hm λw₁ h₁=> ?_
 obtain⟨v,w',es,h1,h2,h3⟩:=h w₁ h₁
 exact⟨_,w',_,mU hj hl hk h1,h2.sub (cT _ _ _),h3⟩
theorem aA.rangeEnds(hm:fr.mode= .run)(ht:fr.todo= .endRangeFunc l::k)
 (h:∀w₁,aO X i V w w₁->∃jump w' es,(Instr.endLoop l).runT X.P w₁ #[]=(.ok jump w',es)/\bB V X.RO w₁ w' es/\aA X i ⟨bp V w₁ w',{frame:={fr with todo:=(jump.map Item.code).toList++k},callers:=cs,status:= .running,dying:=none},w'⟩):
 aA X i ⟨V,{frame:=fr,callers:=cs,status:= .running,dying:=none},w⟩:=by
 refine aA.exec hm λw₁ h₁=> ?_
 obtain⟨jump,w',es,h1,h2,h3⟩:=h w₁ h₁
 exact⟨_,w',_,kF ht h1,h2.sub (cT _ _ _),h3⟩
theorem aA.store{ops:Array Oper}{n:Nat}{rest:List Nat}{o:Oper}(hm:fr.mode= .run)(ht:fr.todo= .inRegion ops (n::rest)::k)(ho:ops[n]?=some o)(hw:Region.wanted o (yielded ops fr.tmps)=true)(hnd:∀c,o.op≠ .defer c)(hk:fr.kind= .normal)
 (hs:∀e:Event,(∃a,e.loc= .cell a)->seen X.P fr.fn #[e]=#[e])
 (h:∀w₁,aO X i V w w₁->∃c v,X.mine i c/\(execOp fr.eval o).runT X.P w₁ #[]=(.ok .skip (w₁.setCell (X.at c) v),#[⟨.cell (X.at c),true,false⟩])/\aA X i ⟨V,{frame:=fr.finish undef,callers:=cs,status:= .running,dying:=none},w₁.setCell (X.at c) v⟩):
 aA X i ⟨V,{frame:=fr,callers:=cs,status:= .running,dying:=none},w⟩:=by
 refine aA.put rfl λw₁ h₁=> ?_
 obtain⟨c,v,h1,h2,h3⟩:=h w₁ h₁
 have hc:dE fr:=λd w r s k e=>by rw[ht]at e;cases e
 refine⟨{frame:=fr.finish undef,callers:=cs,status:= .running,dying:=none},c,v,h1, ?_,h3⟩
 rw[jC hm,cK ht ho hw hnd,cH (cs:=cs) hc h2 rfl]
 have hk':(fr.kind==CallKind.early)=false:=by rw[hk];rfl
 simp only[hk',Bool.false_eq_true,↓reduceIte]
 rw[hs _ ⟨_,rfl⟩]
 rfl
end
section
variable(P:Program){w:World}{l:Nat}{r:Loop}
theorem sT{args:Array Value}(h:w.heap[l]?=some (.loop r))(hs:args.size=r.params.size):
 (Instr.yield l args).runT P w #[]=(.ok (.round l r.fn ((r.params.zip args).foldl (λtmps (t,a)=>tmps.setIfInBounds t a) r.tmps) r.assign r.body) w,#[⟨.obj l,false,false⟩]):=by
 simp[-Sem.runT_eq,Instr.yield,Instr.getLoop,getObj,bind,Sem.bind,Sem.runT,pure,Obj.isChan,h,hs]
theorem nv(h:w.heap[l]?=some (.loop r))(j:Option Code):
 (Instr.endRound l j).runT P w #[]=(.ok (.bool j.isNone) {w with heap:=w.heap.setIfInBounds l (.loop {r with state:=if j.isNone then .ready else .done,pending:=j})},#[⟨.obj l,false,false⟩,⟨.obj l,true,false⟩]):=by
 simp[-Sem.runT_eq,Instr.endRound,Instr.getLoop,getObj,setObj,bind,Sem.bind,Sem.runT,pure,Obj.isChan,h]
theorem pg(h:w.heap[l]?=some (.loop r))(hs:r.state= .ready):
 (Instr.endLoop l).runT P w #[]=(.ok r.pending {w with heap:=w.heap.setIfInBounds l (.loop {r with state:= .exhausted})},#[⟨.obj l,false,false⟩,⟨.obj l,true,false⟩]):=by
 simp[-Sem.runT_eq,Instr.endLoop,Instr.getLoop,getObj,setObj,bind,Sem.bind,Sem.runT,pure,Obj.isChan,h,hs]
end
section
variable(P:Program){w:World}
theorem me(fn:FuncId)(tmps:Array Value)(ps:Array Tmp)(a b:Code):
 (Instr.enterLoop fn tmps ps a b none).runT P w #[]=(.ok (w.heap.size+1,[{target:= .collected w.heap.size,args:=#[]}])
   ((w.alloc (.deferred (some []))).alloc (.loop {state:= .ready,pending:=none,fn,tmps,params:=ps,assign:=a,body:=b,defers:=w.heap.size})),#[]):=by
 simp[-Sem.runT_eq,Instr.enterLoop,newObj,bind,Sem.bind,Sem.runT,pure]
 rfl
theorem vA{l:Nat}{ds:List Deferred}(h:w.heap[l]?=some (.deferred (some ds))):
 (Instr.takeDeferred l).runT P w #[]=(.ok ds {w with heap:=w.heap.setIfInBounds l (.deferred none)},#[⟨.obj l,false,false⟩,⟨.obj l,true,false⟩]):=by
 simp[-Sem.runT_eq,Instr.takeDeferred,getObj,setObj,bind,Sem.bind,Sem.runT,pure,Obj.isChan,h]
end
section
variable{X:ap}{i:Nat}{V:Nat->Prop}
theorem aA.take{fr:Frame}{cs:List Frame}{w:World}{l:Nat}{a:Array Value}{ds rest:List Deferred}(hm:fr.mode= .returning)(hd:fr.defers={target:= .collected l,args:=a}::rest)(hV:V l)(hl:w.heap[l]?=some (.deferred (some ds)))
 (h:∀w₁,aO X i V w w₁->aA X i ⟨V,{frame:={fr with defers:=ds++rest},callers:=cs,status:= .running,dying:=none},{w₁ with heap:=w₁.heap.setIfInBounds l (.deferred none)}⟩):
 aA X i ⟨V,{frame:=fr,callers:=cs,status:= .running,dying:=none},w⟩:=by
 refine aA.own rfl λw₁ h₁=> ?_
 have hl':w₁.heap[l]?=some (.deferred (some ds)):=(h₁.own.keep l (.inl hV)).trans hl
 refine⟨{frame:={fr with defers:=ds++rest},callers:=cs,status:= .running,dying:=none},{w₁ with heap:=w₁.heap.setIfInBounds l (.deferred none)},seen X.P fr.fn #[⟨.obj l,false,false⟩,⟨.obj l,true,false⟩], ?_, ?_, ?_⟩
 ·unfold stepG
  simp only[hm,unwind,hd,vA X.P hl',GStep.after,Array.append_empty]
 ·refine bB.sub (es:=#[⟨.obj l,false,false⟩,⟨.obj l,true,false⟩]) ⟨λb _ hb=> ?_,by simp,rfl,rfl,rfl,λe he=> ?_⟩ (cT _ _ _)
  ·have hne:l≠b:=λe=>hb (e▸hV)
   exact sN hne
  ·simp only[List.mem_toArray,List.mem_cons,List.not_mem_nil,or_false]at he
   rcases he with rfl|rfl<;>exact⟨rfl, .inl hV⟩
 ·have e:bp V w₁ {w₁ with heap:=w₁.heap.setIfInBounds l (.deferred none)}=V:=by
   funext b
   apply propext
   exact⟨λh=>h.elim id λh=>absurd h.2 (by simpa using h.1), .inl⟩
  rw[e]
  exact h w₁ h₁
end
section
variable{X:ap}{i:Nat}
theorem yx{V V':Nat->Prop}(h:∀b,V b->V' b)(w w':World)(b:Nat):bp V w w' b->bp V' w w' b:=λhb=>hb.imp (h b) id
theorem aO.less{V V':Nat->Prop}(h:∀b,V b->V' b){w w₁:World}(r:aO X i V' w w₁):aO X i V w w₁:=⟨r.own.mono λb hb=>hb.imp (h b) id,r.live,r.list,r.cells⟩
theorem aA.more{x:dQ}(hx:aA X i x):∀V',(∀b,x.V b->V' b)->aA X i ⟨V',x.g,x.w⟩:=by
 refine hx (λx=>∀V',(∀b,x.V b->V' b)->aA X i ⟨V',x.g,x.w⟩) (λx hs V' hV=> ?_) λx hr hn V' hV=> ?_
 ·exact aA.stop ⟨hs.1,λw₁ h₁=>hs.2 w₁ (h₁.less hV)⟩
 ·refine aA.step hr λw₁ h₁=> ?_
  obtain⟨g',w',es,h1,h2,h3⟩:=hn w₁ (h₁.less hV)
  exact⟨g',w',es,h1,h2.imp (λh=>h.mono hV) id,h3 _ (yx hV _ _)⟩
abbrev hU(fr:Frame)(cs:List Frame):Goroutine:={frame:=fr,callers:=cs,status:= .running,dying:=none}
def Wk(X:ap)(i:Nat)(V:Nat->Prop)(fr:Frame)(cs:List Frame)(w0:World):Prop:=∀w,aO X i V w0 w->aA X i ⟨V,hU fr cs,w⟩
theorem Wk.now{V:Nat->Prop}{fr:Frame}{cs:List Frame}{w:World}(h:Wk X i V fr cs w):aA X i ⟨V,hU fr cs,w⟩:=h w (aO.refl X i V w)
variable{V:Nat->Prop}{b:Frame}{a:Act}{k:List Item}{cs:List Frame}{w0:World}
theorem Wk.plain{t:List Item}(hp:aY (b.atR a k)=some t)(h:Wk X i V (b.atR a t) cs w0):Wk X i V (b.atR a k) cs w0:=λ_ hw=>aA.plain rfl hp λw₁ h₁=>h w₁ (hw.trans h₁)
section
variable{ops:Array Oper}{n:Nat}{rest:List Nat}{o:Oper}
theorem Wk.value(v:Value)(ho:ops[n]?=some o)(hw:Region.wanted o (yielded ops a.tmps)=true)(hnd:∀c,o.op≠ .defer c)
 (hr:∀w,aO X i V w0 w->(execOp a.eval o).run X.P w= .ok (.value v) w/\∀e∈(execOp a.eval o).events X.P w #[],eR V X.RO e)
 (h:Wk X i V (b.atR (a.put o.dst v) (.inRegion ops rest::k)) cs w0):Wk X i V (b.atR a (.inRegion ops (n::rest)::k)) cs w0:=λw hw0=>by
 refine aA.oper rfl rfl ho hw hnd λw₁ h₁=> ?_
 obtain⟨h2,h3⟩:=hr w₁ (hw0.trans h₁)
 refine⟨.value v,w₁,(execOp a.eval o).events X.P w₁ #[], ?_,rfl,nG h3, ?_⟩
 ·rw[Frame.eval_atR,Sem.runT_eq,h2]
 ·rw[bJ]
  show aA X i ⟨V,hU ((b.atR a (.inRegion ops (n::rest)::k)).finish v) cs,w₁⟩
  rw[Frame.finish_atR,ho]
  exact h w₁ (hw0.trans h₁)
theorem Wk.make(ho:ops[n]?=some o)(hw:Region.wanted o (yielded ops a.tmps)=true)(hnd:∀c,o.op≠ .defer c)
 (hr:∀w,aO X i V w0 w->∃v w',(execOp a.eval o).run X.P w= .ok (.value v) w'/\bB V X.RO w w' ((execOp a.eval o).events X.P w #[])/\
   Wk X i (bp V w w') (b.atR (a.put o.dst v) (.inRegion ops rest::k)) cs w'):Wk X i V (b.atR a (.inRegion ops (n::rest)::k)) cs w0:=λw hw0=>by
 refine aA.oper rfl rfl ho hw hnd λw₁ h₁=> ?_
 obtain⟨v,w',h2,h3,h4⟩:=hr w₁ (hw0.trans h₁)
 refine⟨.value v,w',(execOp a.eval o).events X.P w₁ #[], ?_,rfl,h3, ?_⟩
 ·rw[Frame.eval_atR,Sem.runT_eq,h2]
 ·show aA X i ⟨bp V w₁ w',hU ((b.atR a (.inRegion ops (n::rest)::k)).finish v) cs,w'⟩
  rw[Frame.finish_atR,ho]
  exact h4.now
theorem Wk.enter{f:FuncId}{args:Array Value}(ho:ops[n]?=some o)(hw:Region.wanted o (yielded ops a.tmps)=true)(hnd:∀c,o.op≠ .defer c)
 (hr:∀w,aO X i V w0 w->(execOp a.eval o).run X.P w= .ok (.enter f args) w/\∀e∈(execOp a.eval o).events X.P w #[],eR V X.RO e)
 (h:Wk X i V (Frame.enter X.P f args .normal) (b.atR a (.inRegion ops (n::rest)::k)::cs) w0):Wk X i V (b.atR a (.inRegion ops (n::rest)::k)) cs w0:=λw hw0=>by
 refine aA.oper rfl rfl ho hw hnd λw₁ h₁=> ?_
 obtain⟨h2,h3⟩:=hr w₁ (hw0.trans h₁)
 refine⟨.enter f args,w₁,(execOp a.eval o).events X.P w₁ #[], ?_,rfl,nG h3, ?_⟩
 ·rw[Frame.eval_atR,Sem.runT_eq,h2]
 ·rw[bJ]
  exact h w₁ (hw0.trans h₁)
theorem Wk.yields{l:Nat}{r:Loop}{args:Array Value}(ho:ops[n]?=some o)(hw:Region.wanted o (yielded ops a.tmps)=true)(hnd:∀c,o.op≠ .defer c)(hV:V l)(hl:w0.heap[l]?=some (.loop r))(hs:args.size=r.params.size)
 (hr:∀w,(execOp a.eval o).runT X.P w #[]=(Instr.yield l args).runT X.P w #[])
 (h:Wk X i V (Frame.round l r.fn ((r.params.zip args).foldl (λtmps (t,a)=>tmps.setIfInBounds t a) r.tmps) r.assign r.body .normal) (b.atR a (.inRegion ops (n::rest)::k)::cs) w0):Wk X i V (b.atR a (.inRegion ops (n::rest)::k)) cs w0:=λw hw0=>by
 refine aA.oper rfl rfl ho hw hnd λw₁ h₁=> ?_
 have hl':w₁.heap[l]?=some (.loop r):=((hw0.trans h₁).own.keep l (.inl hV)).trans hl
 refine⟨.round l r.fn ((r.params.zip args).foldl (λtmps (t,a)=>tmps.setIfInBounds t a) r.tmps) r.assign r.body,w₁,_, ?_,rfl,nG (es:=#[⟨.obj l,false,false⟩]) ?_, ?_⟩
 ·rw[Frame.eval_atR,hr,sT X.P hl' hs]
 ·intro e he
  simp only[List.mem_toArray,List.mem_singleton]at he
  subst he
  exact⟨rfl,hV⟩
 ·rw[bJ]
  exact h w₁ (hw0.trans h₁)
end
end
section
variable{P:Program}{w:World}
theorem aE{f:FuncId}{fn:Func}(hf:P.funcs[f]?=some fn)(hname:(fn.name== "runtime.NumGoroutine")=false)(hb:fn.body.isNone=false)(args:Array Value):(callFunc f args).runT P w #[]=(.ok (.enter f args) w,#[]):=by
 have h1:¬fn.name= "runtime.NumGoroutine" :=by simpa using hname
 have h2:¬fn.body=none:=λe=>by rw[e]at hb;simp at hb
 simp[-Sem.runT_eq,callFunc,bind,Sem.bind,Sem.runT,pure,program,hf,h1,h2]
theorem nu{f:FuncId}{fn:Func}(hf:P.funcs[f]?=some fn)(hname:(fn.name== "runtime.NumGoroutine")=false)(hb:fn.body.isNone=false){fr:Frame}{x:Operand}{first cap:Array Value}(hx:fr.eval x= .func (.func f) first cap)(l:Nat):
 (bM fr x l).runT P w #[]=(.ok (.enter f (first++#[.func (.yield l) #[] #[]]++cap)) w,#[]):=by
 have e:bM fr x l=callFunc f (first++#[.func (.yield l) #[] #[]]++cap):=by
  unfold bM resolve lW Deferred.ofValue
  simp only[hx]
  simp[invoke,bind,Sem.bind,pure,Frame.eval]
 rw[e,aE hf hname hb]
end
section
variable{X:ap}{i:Nat}{V:Nat->Prop}{b:Frame}{a:Act}{k:List Item}{cs:List Frame}{w0:World}
theorem Wk.draw{id:Nat}{ops:Array Oper}(h:∀t,Wk X i V (b.atR a (.inRegion ops (Region.schedule (X.P.follows .mixedOrders) ops t)::k)) cs w0):Wk X i V (b.atR a (.code (.region id ops true)::k)) cs w0:=λw hw=>by
 refine aA.exec rfl λw₁ h₁=> ?_
 have hr:(choose (.order (b.atR a (.code (.region id ops true)::k)).fn id)).run X.P w₁= .ok (w₁.tape w₁.drawn (.order b.fn id)) {w₁ with drawn:=w₁.drawn+1}:=by
  simp[choose,Sem.run,Question.forced,Question.cut,Frame.atR]
 have hk:aO X i V w₁ {w₁ with drawn:=w₁.drawn+1}:=⟨⟨λ_ _=>rfl,Nat.le_refl _,rfl,rfl,rfl⟩,λh=>h,λh=>h,λ_ _=>rfl⟩
 refine⟨_,_,#[],jT rfl hr,⟨λ_ _ _=>rfl,Nat.le_refl _,rfl,rfl,rfl,λe he=>by simp at he⟩, ?_⟩
 have e:bp V w₁ {w₁ with drawn:=w₁.drawn+1}=V:=bJ V w₁
 rw[e]
 exact h _ _ ((hw.trans h₁).trans hk)
theorem Wk.order{md:Region.Mode}{ops:Array Oper}(Inv:Nat->Array Bool->Act->World->Prop)
 (hnone:∀listed a w,Inv 0 listed a w->Wk X i V (b.atR a (.inRegion ops []::k)) cs w)
 (hall:∀fuel listed a w,Inv (fuel+1) listed a w->Region.ready md ops listed=[]->Wk X i V (b.atR a (.inRegion ops []::k)) cs w)
 (hstep:∀fuel listed a w n rest,Inv (fuel+1) listed a w->n∈Region.ready md ops listed->(∀a' w',Inv fuel (listed.setIfInBounds n true) a' w'->Wk X i V (b.atR a' (.inRegion ops rest::k)) cs w')->
   Wk X i V (b.atR a (.inRegion ops (n::rest)::k)) cs w):
 ∀(fuel t:Nat) (listed:Array Bool) (a:Act) (w:World),Inv fuel listed a w->Wk X i V (b.atR a (.inRegion ops (Region.linearise.go md ops fuel t listed [])::k)) cs w:=by
 intro fuel
 induction fuel with
 |zero=>intro t listed a w h;simpa[Region.linearise.go]using hnone listed a w h
 |succ fuel ih=>
  intro t listed a w h
  have hgo:Region.linearise.go md ops (fuel+1) t listed []=(match (Region.ready md ops listed)[t%(Region.ready md ops listed).length]? with
   |some i=>Region.linearise.go md ops fuel (t/(Region.ready md ops listed).length) (listed.setIfInBounds i true) [i]
   |none=>[].reverse):=by
   simp only[Region.linearise.go]
   rfl
  rw[hgo]
  cases hi:(Region.ready md ops listed)[t%(Region.ready md ops listed).length]? with
  |none=>
   have hnil:Region.ready md ops listed=[]:=by
    cases hr:Region.ready md ops listed with
    |nil=>rfl
    |cons x xs=>
     rw[hr]at hi
     have hlt:t%(x::xs).length<(x::xs).length:=Nat.mod_lt _ (by simp)
     simp at hi
     simp at hlt
     omega
   exact hall fuel listed a w h hnil
  |some n=>
   show Wk X i V (b.atR a (.inRegion ops (Region.linearise.go md ops fuel (t/(Region.ready md ops listed).length) (listed.setIfInBounds n true) [n])::k)) cs w
   rw[linearise_go_acc,List.reverse_singleton,List.singleton_append]
   exact hstep fuel listed a w n _ h (mG hi) λa' w' h'=>ih _ _ a' w' h'
def jj(V:Nat->Prop)(w:World)(b:Nat):Prop:=V b\/b=w.heap.size\/b=w.heap.size+1
def cp(w:World)(r:Loop):World:=(w.alloc (.deferred (some []))).alloc (.loop r)
theorem bv(w:World)(r:Loop){b:Nat}(hb:b<w.heap.size):(cp w r).heap[b]?=w.heap[b]?:=by
 show((w.heap.push _).push _)[b]?=_
 rw[Array.getElem?_push,if_neg (by rw[Array.size_push];omega),Array.getElem?_push,if_neg (by omega)]
theorem fz(w:World)(r:Loop):(cp w r).heap[w.heap.size]?=some (.deferred (some [])):=by
 show((w.heap.push _).push _)[w.heap.size]?=_
 rw[Array.getElem?_push,if_neg (by rw[Array.size_push];omega),Array.getElem?_push,if_pos rfl]
theorem fy(w:World)(r:Loop):(cp w r).heap[w.heap.size+1]?=some (.loop r):=by
 show((w.heap.push _).push _)[w.heap.size+1]?=_
 rw[Array.getElem?_push,if_pos (by rw[Array.size_push])]
theorem fw(w:World)(r:Loop):(cp w r).heap.size=w.heap.size+2:=by
 show((w.heap.push _).push _).size=_
 rw[Array.size_push,Array.size_push]
theorem Wk.range{x:Operand}{ps:Array Tmp}{ca cb:Code}{f:FuncId}{fn:Func}{first cap:Array Value}(hb:b.roundOf=none)(hf:X.P.funcs[f]?=some fn)(hname:(fn.name== "runtime.NumGoroutine")=false)(hbd:fn.body.isNone=false)(hx:a.eval x= .func (.func f) first cap)
 (h:∀w,aO X i V w0 w->Wk X i (jj V w) (Frame.enter X.P f (first++#[.func (.yield (w.heap.size+1)) #[] #[]]++cap) .normal)
   (b.atR ⟨a.tmps,{target:= .collected w.heap.size,args:=#[]}::a.defers⟩ (.inRangeFunc (w.heap.size+1)::k)::cs)
   (cp w {state:= .ready,pending:=none,fn:=b.fn,tmps:=a.tmps,params:=ps,assign:=ca,body:=cb,defers:=w.heap.size})):
 Wk X i V (b.atR a (.code (.rangeFunc x ps ca cb)::k)) cs w0:=λw hw=>by
 refine aA.range rfl rfl λw₁ h₁=> ?_
 have e1:(Instr.enterLoop (b.atR a (.code (.rangeFunc x ps ca cb)::k)).fn (b.atR a (.code (.rangeFunc x ps ca cb)::k)).tmps ps ca cb (b.atR a (.code (.rangeFunc x ps ca cb)::k)).roundOf).runT X.P w₁ #[]=(.ok (w₁.heap.size+1,[{target:= .collected w₁.heap.size,args:=#[]}])
  (cp w₁ {state:= .ready,pending:=none,fn:=b.fn,tmps:=a.tmps,params:=ps,assign:=ca,body:=cb,defers:=w₁.heap.size}),#[]):=by
  rw[show(b.atR a (.code (.rangeFunc x ps ca cb)::k)).roundOf=none from hb]
  exact me X.P _ _ _ _ _
 have hx':(aS (b.atR a (.code (.rangeFunc x ps ca cb)::k)) k (w₁.heap.size+1) [{target:= .collected w₁.heap.size,args:=#[]}]).eval x= .func (.func f) first cap:=by
  rw[←hx,←Frame.eval_atR b a (.code (.rangeFunc x ps ca cb)::k)]
  cases x<;>rfl
 refine⟨_,_,_,_,_,_,#[],e1,nu hf hname hbd hx' _,rfl, ?_, ?_⟩
 ·refine⟨λn hn _=>bv w₁ _ hn, ?_,rfl,rfl,rfl,λe he=>by simp at he⟩
  show _<=(cp w₁ _).heap.size
  rw[fw]
  omega
 ·have eg:bp V w₁ (cp w₁ {state:= .ready,pending:=none,fn:=b.fn,tmps:=a.tmps,params:=ps,assign:=ca,body:=cb,defers:=w₁.heap.size})=jj V w₁:=by
   funext n
   apply propext
   unfold bp jj
   rw[fw]
   constructor
   ·rintro(h|h)
    ·exact .inl h
    ·exact .inr (by omega)
   ·rintro(h|h)
    ·exact .inl h
    ·exact .inr (by omega)
  show aA X i ⟨bp V w₁ (cp w₁ _),_,cp w₁ _⟩
  rw[eg]
  exact(h w₁ (hw.trans h₁)).now
def aX(w:World)(l:Nat)(r:Loop):World:={w with heap:=w.heap.setIfInBounds l (.loop r)}
theorem fR{RO:Nat->Prop}{w:World}{l:Nat}(r:Loop)(hV:V l):bB V RO w (aX w l r) #[⟨.obj l,false,false⟩,⟨.obj l,true,false⟩]:=by
 refine⟨λn _ hn=> ?_,by simp[aX],rfl,rfl,rfl,λe he=> ?_⟩
 ·have hne:l≠n:=λe=>hn (e▸hV)
  exact sN hne
 ·simp only[List.mem_toArray,List.mem_cons,List.not_mem_nil,or_false]at he
  rcases he with rfl|rfl<;>exact⟨rfl, .inl hV⟩
theorem eB(V:Nat->Prop)(w:World)(l:Nat)(r:Loop):bp V w (aX w l r)=V:=by
 funext n
 apply propext
 exact⟨λh=>h.elim id λh=>absurd h.2 (by simpa[aX]using h.1), .inl⟩
theorem Wk.rounds{l:Nat}{r:Loop}(hl:b.roundOf=some l)(hV:V l)(h0:w0.heap[l]?=some (.loop r))(hs:r.state= .ready)(h:∀w,aO X i V w0 w->Wk X i V (b.atR a k) cs (aX w l {r with state:= .busy})):Wk X i V (b.atR a (.beginRound::k)) cs w0:=λw hw=>by
 refine aA.round rfl rfl λw₁ h₁=> ?_
 have h0':w₁.heap[l]?=some (.loop r):=((hw.trans h₁).own.keep l (.inl hV)).trans h0
 have e:(eY (b.atR a (.beginRound::k))).runT X.P w₁ #[]=(.ok .skip (aX w₁ l {r with state:= .busy}),#[⟨.obj l,false,false⟩,⟨.obj l,true,false⟩]):=by
  have hro:(b.atR a (.beginRound::k)).roundOf=some l:=hl
  simp[-Sem.runT_eq,eY,hro,Instr.beginRound,Instr.getLoop,getObj,setObj,bind,Sem.bind,Sem.runT,pure,Obj.isChan,h0',hs,aX]
 refine⟨_,_,_,e,rfl,fR _ hV, ?_⟩
 rw[eB]
 exact(h w₁ (hw.trans h₁)).now
theorem Wk.through{l:Nat}{r:Loop}{c:Frame}(hl:b.roundOf=some l)(hk:b.kind= .normal)(hV:V l)(h0:w0.heap[l]?=some (.loop r))(h:∀w,aO X i V w0 w->Wk X i V (c.finish (.bool true)) cs (aX w l {r with state:= .ready,pending:=none})):Wk X i V (b.atR a []) (c::cs) w0:=λw hw=>by
 refine aA.roundEnds (j:=none) rfl (.done rfl) hl hk λw₁ h₁=> ?_
 have h0':w₁.heap[l]?=some (.loop r):=((hw.trans h₁).own.keep l (.inl hV)).trans h0
 refine⟨_,_,_,nv X.P h0' none,fR _ hV, ?_⟩
 have eg:=eB V w₁ l {r with state:= .ready,pending:=none}
 show aA X i ⟨bp V w₁ (aX w₁ l {r with state:= .ready,pending:=none}),_,aX w₁ l {r with state:= .ready,pending:=none}⟩
 rw[eg]
 exact(h w₁ (hw.trans h₁)).now
theorem Wk.rangeOver{l:Nat}{r:Loop}(hV:V l)(h0:w0.heap[l]?=some (.loop r))(hs:r.state= .ready)(hp:r.pending=none)(h:∀w,aO X i V w0 w->Wk X i V (b.atR a k) cs (aX w l {r with state:= .exhausted})):Wk X i V (b.atR a (.endRangeFunc l::k)) cs w0:=λw hw=>by
 refine aA.rangeEnds rfl rfl λw₁ h₁=> ?_
 have h0':w₁.heap[l]?=some (.loop r):=((hw.trans h₁).own.keep l (.inl hV)).trans h0
 refine⟨_,_,_,pg X.P h0' hs,fR _ hV, ?_⟩
 have eg:=eB V w₁ l {r with state:= .exhausted}
 show aA X i ⟨bp V w₁ (aX w₁ l {r with state:= .exhausted}),_,aX w₁ l {r with state:= .exhausted}⟩
 have et:(r.pending.map Item.code).toList++k=k:=by rw[hp];rfl
 rw[eg,et]
 exact(h w₁ (hw.trans h₁)).now
theorem Wk.ends(hb:b.roundOf=none)(hk:k=[]\/∃k',k= .code .ret::k')(h:Wk X i V {b.atR a k with mode:= .returning} cs w0):Wk X i V (b.atR a k) cs w0:=λw hw=>by
 refine aA.exec rfl λw₁ h₁=>⟨_,w₁,#[],jS ⟨hb,hk⟩,cM _ _ _, ?_⟩
 rw[bJ]
 exact h w₁ (hw.trans h₁)
theorem Wk.leave{fn:Func}{c:Frame}(v:Value)(hk:b.kind= .normal)(hd:a.defers=[])(hf:X.P.funcs[b.fn]?=some fn)(hr:∀w,(results fn a.tmps).run X.P w= .ok v w/\(results fn a.tmps).events X.P w #[]=#[])
 (h:Wk X i V (c.finish v) cs w0):Wk X i V {b.atR a k with mode:= .returning} (c::cs) w0:=λw hw=>by
 refine aA.own rfl λw₁ h₁=>⟨_,w₁,#[],gw (fr:={b.atR a k with mode:= .returning}) (c:=c) (cs:=cs) hk hd rfl hf (hr w₁).1 (hr w₁).2 false ⟨rfl,rfl,rfl,rfl⟩,cM _ _ _, ?_⟩
 rw[bJ]
 exact h w₁ (hw.trans h₁)
end
end Go.Proofs.YtkmoglhgkcnalaaDoor
namespace Go.Proofs.YtkmoglhgkcnalaaDoor
open Go Go.Conc
open Go.ConcN (WgLive)
open Go.ConcR (KK WgAt stA smA rd wr mk DC0)
open Go.ConcN.Gen Go.RowKit Go.Conc.Lib Go.ConcR.Gen
section
variable{L:WgLink}{i:Nat}{V:Nat->Prop}
theorem eA{X:ap}{w w₁:World}(h:WgLive X.ty X.Wg w)(r:aO X i V w w₁):WgLive X.ty X.Wg w₁:=r.live h
theorem DZ(X:ap)(H:WgLib X.P L){c:Frame}{cs:List Frame}(w:World)(hK:WgLive X.ty X.Wg w):
 Goes X.P false (aO X i V) DC0 (zi X.P false (aO X i V) (.releaseMerge (stA X.Wg))) 30 (G ((baseD L.done).at ⟨#[.pointer (some ⟨X.Wg,0,none⟩),undef,undef,undef],[]⟩ [.code (body_done L)]) (c::cs)) w:=by
 lib_facts
 simp only[body_done,doneFn,Option.getD_some]
 u_reg eA hK
 u_op eA hK
 u_call H.f_add (nm_add L) addFn eA hK
 iterate 11 (first
  |u_c stepG_seq eA hK
  |u_c stepG_region_end eA hK
  |u_reg eA hK
  |u_cond true eA hK
  |u_op eA hK)
 u_in eA hK
 refine goes_oper_k rfl rfl (by k_ne) (λKx hKx=> ?_)
 have hcv:=run_convert_to_unsafe (P:=X.P) H.underlying_tWgP H.underlying_tUP H.room_tWg (Go.ConcN.Gen.WgLive.cell0 hK).choose_spec
 have hce:=λes=>events_convert_to_unsafe (P:=X.P) H.underlying_tWgP H.underlying_tUP H.room_tWg (Go.ConcN.Gen.WgLive.cell0 hK).choose_spec es
 go_simp
 refine hKx _ _ ⟨?_, ?_⟩
 ·u_none
  intro ex hex
  have hmx:=mem_listed hex
  simp[go_sem,hce]at hmx
 clear hKx Kx hcv hce
 refine Goes.stop (λw3 h3=> ?_)
 replace hK:=eA hK h3
 clear h3
 refine⟨rfl,_,stepG_markAt .releaseMerge (by simp) rfl rfl (by k_ne) rfl H.f_relMerge (x_relMerge_n L) (x_relMerge_b L) (x_relMerge_x L) (x_relMerge_f L) (by simp[Act.eval,stA]),10, ?_⟩
 walk_nrm
 u_c stepG_region_end eA hK
 u_c stepG_seq eA hK
 u_reg eA hK
 refine Goes.stop (λw4 h4=> ?_)
 exact⟨_,stepG_mark0 .disable (by simp) rfl rfl (by k_ne) rfl H.f_disable (x_disable_n L) (x_disable_b L) (x_disable_x L) (x_disable_f L)⟩
theorem aA.of_stop{X:ap}{Stop:Goroutine->World->Prop}{I:World->Prop}(hI:∀w w₁,I w->aO X i V w w₁->I w₁)(hS:∀g w,I w->(∀w₁,aO X i V w w₁->Stop g w₁)->aA X i ⟨V,g,w⟩):
 ∀{m:Nat} {g:Goroutine} {w:World},I w->Goes X.P false (aO X i V) DC0 Stop m g w->aA X i ⟨V,g,w⟩
 |0,g,w,hw,h=>hS g w hw h
 |m+1,g,w,hw,h=>by
  rcases h with h|⟨hs,h⟩
  ·exact hS g w hw h
  ·refine aA.step hs λw₁ h₁=> ?_
   have hg:=h w₁ h₁
   cases hst:stepG X.P false g w₁ with
   |go g' w' es=>
    rw[hst,goes_go]at hg
    obtain⟨⟨h1,h2⟩,h3⟩:=hg
    subst h1 h2
    refine⟨g',w',_,rfl, .inl (cM _ _ _), ?_⟩
    have:=aA.of_stop hI hS (hI _ _ hw h₁) h3
    show aA X i ⟨bp V w' w',g',w'⟩
    rw[bJ]
    exact this
   |_=>rw[hst]at hg;exact hg.elim
theorem yG(X:ap)(H:WgLib X.P L)(hty:L.tWg=X.ty)(hro:X.RO 0){c:Frame}{cs:List Frame}{qt:Nat}(hcm:c.mode= .returning)(hT:QuitsD X.P qt 0 (G c cs)){w:World}(hK:WgLive X.ty X.Wg w){v0:Value}(h0:w.cell? ⟨0,0,none⟩=some v0)
 (hcells:∀c,X.mine i c->w.cell? (X.at c)=some (X.val c)):aA X i ⟨V,G ((baseD L.done).at ⟨#[.pointer (some ⟨X.Wg,0,none⟩),undef,undef,undef],[]⟩ [.code (body_done L)]) (c::cs),w⟩:=by
 letI:Go.ConcR.Payload:=cU
 have lib:= @Go.ConcN.Gen.doneN cU L X.P H (λ_ _=>False) (λ_ _=>False) X.Wg 0 0 0 1 v0 c cs qt hcm hT w ⟨by rw[hty];exact hK,h0⟩
 rw[hty]at lib
 have mine:=DZ (i:=i) (V:=V) X H (c:=c) (cs:=cs) w hK
 have hsub:∀a b,aO X i V a b-> @Go.ConcN.RW cU X.ty X.Wg 0 0 0 (1- 1) a b:=λa b r=>
  @Go.ConcN.RW.mk cU _ _ _ _ _ _ _ _ (λb hb=>absurd hb (Nat.not_lt_zero _)) r.live (λ⟨cs,h1,h2⟩=>⟨cs,(r.own.keep 0 (.inr hro)).trans h1,h2⟩) (by unfold World.cell?;rw[show(⟨0,1- 1,none⟩:Addr).block=0 from rfl,r.own.keep 0 (.inr hro)])
 have both:=yN (rel:= .releaseMerge (stA X.Wg)) (by simp) (λw=>aO.refl X i V w) (λw=> @Go.ConcN.RW.refl cU _ _ _ _ _ _ w) hsub (λ_ _ _ h1 h2=> @Go.ConcN.RW.trans cU _ _ _ _ _ _ _ _ _ h1 h2)
  (λg w hs=>let ⟨g',h1,_⟩:=hs.2.2;⟨g',h1⟩) (λa b hd=>(hd.2 (Go.ConcR.mk .disable) (by simp)).2.1 rfl) _ _ _ _ mine lib
 refine aA.of_stop (I:=λw=>∀c,X.mine i c->w.cell? (X.at c)=some (X.val c)) (λa b h r c hc=>(r.cells c hc).trans (h c hc)) (λg w hw hs=> ?_) hcells both
 refine aA.stop ⟨(hs w (aO.refl X i V w)).1,λw₁ h₁=>⟨λc hc=>(h₁.cells c hc).trans (hw c hc), ?_⟩⟩
 exact(hs w₁ h₁).2.2
end
end Go.Proofs.YtkmoglhgkcnalaaDoor
namespace Go.Proofs.YtkmoglhgkcnalaaDoor
open Go Go.Conc
open Go.ConcN (WgLive)
section
variable{X:ap}{i:Nat}{V:Nat->Prop}{b:Frame}{a:Act}{k:List Item}{cs:List Frame}{w0:World}
theorem Wk.store{ops:Array Oper}{n:Nat}{rest:List Nat}{o:Oper}{c:Nat}{v:Value}(ho:ops[n]?=some o)(hw:Region.wanted o (yielded ops a.tmps)=true)(hnd:∀c,o.op≠ .defer c)(hk:b.kind= .normal)(hq:(X.P.funcs[b.fn]?).any (·.norace)=false)(hmine:X.mine i c)
 (hr:∀w,aO X i V w0 w->(execOp a.eval o).run X.P w= .ok .skip (w.setCell (X.at c) v)/\(execOp a.eval o).events X.P w #[]=#[⟨.cell (X.at c),true,false⟩])
 (h:∀w,aO X i V w0 w->Wk X i V (b.atR (a.put o.dst undef) (.inRegion ops rest::k)) cs (w.setCell (X.at c) v)):Wk X i V (b.atR a (.inRegion ops (n::rest)::k)) cs w0:=λw hw0=>by
 refine aA.store rfl rfl ho hw hnd hk (λe ⟨x,hx⟩=>seen_eq hq λe' he' f hf=> ?_) λw₁ h₁=> ?_
 ·simp only[List.mem_toArray,List.mem_singleton]at he'
  subst he'
  rw[hx]at hf
  cases hf
 ·obtain⟨h2,h3⟩:=hr w₁ (hw0.trans h₁)
  refine⟨c,v,hmine, ?_, ?_⟩
  ·rw[Frame.eval_atR,Sem.runT_eq,h2,h3]
  ·rw[Frame.finish_atR,ho]
   exact(h w₁ (hw0.trans h₁)).now
theorem Wk.call{ops:Array Oper}{n:Nat}{rest:List Nat}{o:Oper}{f:FuncId}{args:Array Value}{fn:Func}{PL:Program}{G r:Nat}{Val:Value->Prop}(E:j4 PL X.P G)(hro:X.RO dN)(hSF:∀f (fn:Func),PL.funcs[f]?=some fn->fn.body.isSome=true->jf PL X.P f)
 (hf:X.P.funcs[f]?=some fn) (hne:f≠aV) (hres:∀(tmps:Array Value) v w,tmps[r]?=some v->(results fn tmps).run X.P w= .ok v w/\(results fn tmps).events X.P w #[]=#[]) (hplain:∀v,Val v->aI v=true)
 (hS:∃fn fn',PL.funcs[f]?=some fn/\X.P.funcs[f]?=some fn'/\fn.ntmps=fn'.ntmps/\fn.body=fn'.body/\∃c,fn.body=some c/\eM (f==aV) c=true) (ha:∀v∈args,aI v=true)
 {wL:World} (hcalm:ax wL) (ht:fc PL (lP f r Val) (ba PL f args []) wL)
 (hG:∀w,aO X i V w0 w->2<=G/\G<=wL.heap.size/\G<=w.heap.size) (htab:∀w,aO X i V w0 w->ib wL w) (hlow:(∀b,V b\/X.RO b->b<w0.heap.size)/\X.Wg<w0.heap.size/\X.C<w0.heap.size)
 (ho:ops[n]?=some o) (hw:Region.wanted o (yielded ops a.tmps)=true) (hnd:∀c,o.op≠ .defer c) (hr:∀w,(execOp a.eval o).run X.P w= .ok (.enter f args) w/\(execOp a.eval o).events X.P w #[]=#[])
 (h:∀v,Val v->Wk X i V (b.atR (a.put o.dst v) (.inRegion ops rest::k)) cs w0):Wk X i V (b.atR a (.inRegion ops (n::rest)::k)) cs w0:=by
 refine Wk.enter ho hw hnd (λw _=>⟨(hr w).1,λe he=>by rw[(hr w).2]at he;simp at he⟩) λw hw0=> ?_
 have hsz:=hw0.own.size
 refine xz (V0:=V) (w0:=w) E hro hSF hf hne hres hplain ⟨λb hb=>Nat.lt_of_lt_of_le (hlow.1 b hb) hsz,Nat.lt_of_lt_of_le hlow.2.1 hsz,Nat.lt_of_lt_of_le hlow.2.2 hsz⟩ (λv V' w' hv hV' hr'=> ?_) ht _
  (ng (base:=b.atR a (.inRegion ops (n::rest)::k)::cs) hS ha (hG w hw0) (htab w hw0) hcalm)
 rw[Frame.finish_atR,ho]
 exact(h v hv w' (hw0.trans hr')).more V' hV'
def rQ(P:Program):Frame:={(default:Frame)with fn:=P.funcs.size,defers:=[],mode:= .panicking [goexitEntry]}
theorem BQ{P:Program}{f:FuncId}{fn:Func}{cap args:Array Value}(hf:P.funcs[f]?=some fn)(hname:(fn.name== "runtime.NumGoroutine")=false)(hb:fn.body.isNone=false)(w:World):
 stepG P false (born P {target:= .fn (.func f) cap,args:=args}) w= .go (hU (Frame.enter P f (args++cap) .deferred) [rQ P]) w #[]:=by
 have h1:¬fn.name= "runtime.NumGoroutine" :=by simpa using hname
 have h2:¬fn.body=none:=λe=>by rw[e]at hb;simp at hb
 simp[born,stepG,unwind,callDeferred,invoke,callFunc,hf,h1,h2,GStep.after,seen_none,rQ]
theorem Wk.born{f:FuncId}{fn:Func}{cap args:Array Value}(hf:X.P.funcs[f]?=some fn)(hname:(fn.name== "runtime.NumGoroutine")=false)(hb:fn.body.isNone=false){w:World}(h:Wk X i V (Frame.enter X.P f (args++cap) .deferred) [rQ X.P] w):aA X i ⟨V,Go.Conc.born X.P {target:= .fn (.func f) cap,args:=args},w⟩:=by
 refine aA.own rfl λw₁ h₁=>⟨_,w₁,#[],BQ hf hname hb w₁,cM _ _ _, ?_⟩
 rw[bJ]
 exact h w₁ h₁
theorem Wk.defer{ops:Array Oper}{n:Nat}{rest:List Nat}{o:Oper}{f:FuncId}{as:Array Operand}{ats:Array TypeId}(ho:ops[n]?=some o)(hw:Region.wanted o (yielded ops a.tmps)=true)(hk:b.kind≠ .early)(hb:b.roundOf=none)(hop:o.op= .defer {callee:= .value (.func f),args:=as,argTypes:=ats})
 (h:Wk X i V (b.atR (Act.put ⟨a.tmps,dcall f (as.map a.eval)::a.defers⟩ o.dst undef) (.inRegion ops rest::k)) cs w0):Wk X i V (b.atR a (.inRegion ops (n::rest)::k)) cs w0:=λw hw0=>by
 rw[Frame.atR_of_none hb]
 rw[Frame.atR_of_none hb]at h
 refine aA.own rfl λw₁ h₁=>⟨_,w₁,#[],stepG_defer ho hw hk hop,cM _ _ _, ?_⟩
 rw[bJ]
 exact h w₁ (hw0.trans h₁)
theorem Wk.take{l:Nat}{ds:List Deferred}(hd:a.defers={target:= .collected l,args:=#[]}::ds)(hV:V l)(hl:w0.heap[l]?=some (.deferred (some [])))
 (h:∀w,aO X i V w0 w->Wk X i V {b.atR ⟨a.tmps,ds⟩ k with mode:= .returning} cs {w with heap:=w.heap.setIfInBounds l (.deferred none)}):Wk X i V {b.atR a k with mode:= .returning} cs w0:=λw hw0=>by
 refine aA.take (fr:={b.atR a k with mode:= .returning}) rfl hd hV ((hw0.own.keep l (.inl hV)).trans hl) λw₁ h₁=> ?_
 exact(h w₁ (hw0.trans h₁)).now
theorem xH{P:Program}{f:FuncId}{fn:Func}(hf:P.funcs[f]?=some fn)(hr:fn.results=#[])(T:Array Value)(k:List Item):QuitsD P 2 0 (G {(baseD f).at ⟨T,[]⟩ k with mode:= .returning} [rQ P]):=by
 refine QuitsD.ctl (g':=G (rQ P) []) rfl (λw=> ?_) ?_
 ·simp[G,stepG,unwind,doReturn,results,Frame.at,baseD,rQ,hf,hr,seen,GStep.after,goexitEntry]
 refine QuitsD.ctl (g':={G (rQ P) []with status:= .finished}) rfl (λw=> ?_) ⟨rfl,rfl⟩
 simp[G,stepG,unwind,rQ,goexitEntry,Frame.catches]
 rfl
theorem Wk.done{L:Go.Conc.Lib.WgLink}(H:Go.Conc.Lib.WgLib X.P L)(hty:L.tWg=X.ty)(hro:X.RO 0){f:FuncId}{fn:Func}(hf:X.P.funcs[f]?=some fn)(hr:fn.results=#[]){T:Array Value}
 {v0:Value} (h0:w0.cell? ⟨0,0,none⟩=some v0) (hK:WgLive X.ty X.Wg w0) (hcells:∀c,X.mine i c->w0.cell? (X.at c)=some (X.val c)):
 Wk X i V {(baseD f).atR ⟨T,[dcall L.done #[.pointer (some ⟨X.Wg,0,none⟩)]]⟩ k with mode:= .returning} [rQ X.P] w0:=λw hw0=>by
 refine aA.own rfl λw₁ h₁=> ?_
 have hs:=hw0.trans h₁
 refine⟨_,w₁,#[],stepG_unwind_enter (b:=baseD f) (a:=⟨T,[dcall L.done #[.pointer (some ⟨X.Wg,0,none⟩)]]⟩) (todo:=k) (ds:=[]) rfl H.f_done (Go.ConcR.Gen.nm_done L) rfl,cM _ _ _, ?_⟩
 rw[bJ]
 have h0':w₁.cell? ⟨0,0,none⟩=some v0:=by
  rw[←h0]
  unfold World.cell?
  rw[hs.own.keep 0 (.inr hro)]
 exact yG X H hty hro rfl (xH hf hr T k) (hs.live hK) h0' λc hc=>(hs.cells c hc).trans (hcells c hc)
end
end Go.Proofs.YtkmoglhgkcnalaaDoor
namespace Go.Proofs.YtkmoglhgkcnalaaDoor
open Go Go.Conc
section
def gJ(listed:Array Bool):Nat:=listed.toList.count false
theorem mz{listed:Array Bool}(h:gJ listed=0)(k:Nat)(hk:k<listed.size):listed[k]?=some true:=by
 have h1:false∉listed.toList:=List.count_eq_zero.1 h
 rw[Array.getElem?_eq_getElem hk]
 cases e:listed[k]with
 |true=>rfl
 |false=>exact absurd (by rw[←e];exact Array.mem_toList_iff.2 (Array.getElem_mem hk)) h1
theorem lh{listed:Array Bool}{f:Nat}(h:gJ listed=f+1):∃k,k<listed.size/\listed[k]?=some false/\∀j,j<k->listed[j]?=some true:=by
 have h1:false∈listed.toList:=by
  apply List.count_pos_iff.1
  unfold gJ at h
  omega
 have h2:∃k:Nat,listed[k]?=some false:=by
  obtain⟨k,hk,e⟩:=Array.getElem_of_mem (Array.mem_toList_iff.1 h1)
  exact⟨k,by rw[Array.getElem?_eq_getElem hk,e]⟩
 obtain⟨k,hk⟩:=h2
 induction k using Nat.strongRecOn with
 |ind k ih=>
  have hlt:k<listed.size:=(gA hk).1
  by_cases hj:∃j:Nat,j<k/\listed[j]?=some false
  ·obtain⟨j,h3,h4⟩:=hj
   exact ih j h3 h4
  ·refine⟨k,hlt,hk,λj hj1=> ?_⟩
   have hn:¬listed[j]?=some false:=λe=>hj ⟨j,hj1,e⟩
   rw[Array.getElem?_eq_getElem (by omega)]at hn⊢
   cases e:listed[j]'(by omega)with
   |true=>rfl
   |false=>rw[e]at hn;exact absurd rfl hn
theorem my{listed:Array Bool}{f n:Nat}(h:gJ listed=f+1)(hn:listed[n]?=some false):gJ (listed.setIfInBounds n true)=f:=by
 obtain⟨hlt,e⟩:=gA hn
 unfold gJ at h⊢
 rw[Array.toList_setIfInBounds]
 have hl:n<listed.toList.length:=by simpa using hlt
 have:=List.count_set (l:=listed.toList) (i:=n) (a:=true) (b:=false) hl
 have e':listed.toList[n]=false:=by simpa using e
 rw[this,e',h]
 rfl
variable{X:ap}{i:Nat}{V:Nat->Prop}{b:Frame}{k:List Item}{cs:List Frame}
theorem Wk.ordered{md:Region.Mode}{ops:Array Oper}(hdep:∀(n:Nat) (o:Oper),ops[n]?=some o->∀e∈o.after,e.on<n)(Inv:Array Bool->Act->World->Prop)
 (hend:∀listed a w,(∀n,n<ops.size->listed[n]?=some true)->Inv listed a w->Wk X i V (b.atR a (.inRegion ops []::k)) cs w)
 (hstep:∀listed a w n o rest,listed.size=ops.size->ops[n]?=some o->listed[n]?=some false->(∀e∈o.after,Region.binds md e=true->listed[e.on]?=some true)->Inv listed a w->
   (∀a' w',Inv (listed.setIfInBounds n true) a' w'->Wk X i V (b.atR a' (.inRegion ops rest::k)) cs w')->Wk X i V (b.atR a (.inRegion ops (n::rest)::k)) cs w)
 (t:Nat) (a:Act) (w:World) (h0:Inv (Array.replicate ops.size false) a w):Wk X i V (b.atR a (.inRegion ops (Region.linearise md ops t)::k)) cs w:=by
 unfold Region.linearise
 refine Wk.order (md:=md) (λfuel listed a w=>listed.size=ops.size/\gJ listed=fuel/\Inv listed a w) (λlisted a w h=> ?_) (λfuel listed a w h hr=> ?_) (λfuel listed a w n rest h hn hnext=> ?_) ops.size t _ a w ⟨by simp, ?_,h0⟩
 ·exact hend listed a w (λn hn=>mz h.2.1 n (by rw[h.1];exact hn)) h.2.2
 ·exfalso
  obtain⟨n,h1,h2,h3⟩:=lh h.2.1
  have hlt:n<ops.size:=by rw[←h.1];exact h1
  have hm:n∈Region.ready md ops listed:=by
   unfold Region.ready
   rw[List.mem_filter]
   refine⟨List.mem_range.2 hlt, ?_⟩
   rw[Array.getElem?_eq_getElem hlt]
   have e1:listed.getD n true=false:=by simp[Array.getD_eq_getD_getElem?,h2]
   rw[e1]
   simp only[Bool.not_false,Option.map_some,Option.getD_some,Bool.true_and]
   rw[Array.all_eq_true']
   intro e he
   have:=hdep n _ (Array.getElem?_eq_getElem hlt) e he
   simp[Array.getD_eq_getD_getElem?,h3 _ this]
  rw[hr]at hm
  simp at hm
 ·unfold Region.ready at hn
  rw[List.mem_filter]at hn
  obtain⟨hn1,hn2⟩:=hn
  have hlt:=List.mem_range.1 hn1
  rw[Array.getElem?_eq_getElem hlt]at hn2
  simp only[Option.map_some,Option.getD_some,Bool.and_eq_true,Bool.not_eq_true']at hn2
  have hl:n<listed.size:=by rw[h.1];exact hlt
  have hf:listed[n]?=some false:=by
   have:=hn2.1
   rw[Array.getD_eq_getD_getElem?,Array.getElem?_eq_getElem hl]at this
   rw[Array.getElem?_eq_getElem hl]
   simpa using this
  refine hstep listed a w n _ rest h.1 (Array.getElem?_eq_getElem hlt) hf (λe he hb=> ?_) h.2.2 λa' w' h'=>hnext a' w' ⟨by simp[h.1],my h.2.1 hf,h'⟩
  have:=Array.all_eq_true'.1 hn2.2 e he
  rw[hb]at this
  simp only[Bool.not_true,Bool.false_or]at this
  rw[Array.getD_eq_getD_getElem?]at this
  cases e3:listed[e.on]? with
  |none=>rw[e3]at this;simp at this
  |some q=>rw[e3]at this;simp at this;rw[this]
 ·simp[gJ]
end
end Go.Proofs.YtkmoglhgkcnalaaDoor
namespace Go.Proofs.YtkmoglhgkcnalaaDoor
open Go Go.Conc
open Go.ConcN (WgLive)
def A1(X:ap)(Pap:World->Prop):Prop:=∀w w':World,(∀b,X.RO b->w'.heap[b]?=w.heap[b]?)->w.heap.size<=w'.heap.size->Pap w->Pap w'
structure pY (X:ap) (i:Nat) (Pap:World->Prop) (V:Nat->Prop) (done:Nat->Prop) (w:World):Prop where
 pap:Pap w
 live:WgLive X.ty X.Wg w
 list:X.list w
 cells:∀c,X.mine i c->done c->w.cell? (X.at c)=some (X.val c)
 low:(∀b,V b\/X.RO b->b<w.heap.size)/\X.Wg<w.heap.size/\X.C<w.heap.size
 sep:(∀b,V b->¬X.RO b/\b≠X.C/\b≠X.Wg)/\¬X.RO X.C/\X.C≠X.Wg
section
variable{X:ap}{i:Nat}{Pap:World->Prop}{V done:Nat->Prop}{w w':World}
theorem pY.rely(hP:A1 X Pap)(h:pY X i Pap V done w)(r:aO X i V w w'):pY X i Pap V done w':=
 ⟨hP w w' (λb hb=>r.own.keep b (.inr hb)) r.own.size h.pap,r.live h.live,r.list h.list,λc hc hd=>(r.cells c hc).trans (h.cells c hc hd),
  ⟨λb hb=>Nat.lt_of_lt_of_le (h.low.1 b hb) r.own.size,Nat.lt_of_lt_of_le h.low.2.1 r.own.size,Nat.lt_of_lt_of_le h.low.2.2 r.own.size⟩,h.sep⟩
theorem pY.own(hP:A1 X Pap)(h:pY X i Pap V done w){es:Array Event}(o:bB V X.RO w w' es):pY X i Pap (bp V w w') done w':=by
 have hT:=o.turns
 have h1:¬V X.Wg:=λhv=>(h.sep.1 _ hv).2.2 rfl
 have h2:¬V X.C:=λhv=>(h.sep.1 _ hv).2.1 rfl
 refine⟨hP w w' (λb hb=>o.keep b (h.low.1 b (.inr hb)) λhv=>(h.sep.1 b hv).1 hb) o.size h.pap,hT.live h1 h.low.2.1 h.live,hT.list h2 h.low.2.2 h.list,
  λc hc hd=>(hT.cell (a:=X.at c) h2 h.low.2.2).trans (h.cells c hc hd),⟨λb hb=> ?_,Nat.lt_of_lt_of_le h.low.2.1 o.size,Nat.lt_of_lt_of_le h.low.2.2 o.size⟩,⟨λb hb=> ?_,h.sep.2⟩⟩
 ·rcases hb with(hb|hb)|hb
  ·exact Nat.lt_of_lt_of_le (h.low.1 b (.inl hb)) o.size
  ·exact hb.2
  ·exact Nat.lt_of_lt_of_le (h.low.1 b (.inr hb)) o.size
 ·rcases hb with hb|hb
  ·exact h.sep.1 b hb
  ·refine⟨λhr=> ?_,λe=> ?_,λe=> ?_⟩
   ·have:=h.low.1 b (.inr hr);omega
   ·have:=h.low.2.2;omega
   ·have:=h.low.2.1;omega
theorem pY.put(hP:A1 X Pap)(h:pY X i Pap V done w){c:Nat}(hc:c<X.n):pY X i Pap V (λd=>done d\/d=c) (w.setCell (X.at c) (X.val c)):=by
 have hT:=sK w (X.at c) (X.val c)
 refine⟨hP w _ (λb hb=> ?_) hT.size h.pap,hT.live (λe=>h.sep.2.2 (show X.Wg=X.C from e).symm) h.low.2.1 h.live,iw c _ h.list,λd hd hdn=> ?_,⟨λb hb=>Nat.lt_of_lt_of_le (h.low.1 b hb) hT.size,Nat.lt_of_lt_of_le h.low.2.1 hT.size,Nat.lt_of_lt_of_le h.low.2.2 hT.size⟩,h.sep⟩
 ·exact hT.keep b (h.low.1 b (.inr hb)) λe=>h.sep.2.1 (by have e':b=X.C:=e;rw[←e'];exact hb)
 ·obtain⟨cs,h1,h2⟩:=h.list
  have hh:(w.setCell (X.at c) (X.val c)).heap[X.C]?=some (.cells (cs.setIfInBounds c (X.val c)) X.ety):=by
   obtain⟨hlt,he⟩:=gA h1
   simp only[World.setCell,ap.at]
   rw[Array.getElem?_modify,h1]
   simp
  have hd':(w.setCell (X.at c) (X.val c)).cell? (X.at d)=(cs.setIfInBounds c (X.val c))[d]?:=by
   unfold ap.at at hh
   unfold World.cell? ap.at
   simp[hh]
  rw[hd']
  by_cases hdc:d=c
  ·subst hdc
   rw[Array.getElem?_setIfInBounds_self_of_lt (by omega)]
  ·rw[sN (Ne.symm hdc)]
   have:=h.cells d hd (hdn.resolve_right hdc)
   rw[←this]
   unfold World.cell? ap.at
   simp[h1]
theorem pY.mono{done':Nat->Prop}(h:pY X i Pap V done w)(hd:∀c,X.mine i c->done' c->done c):pY X i Pap V done' w:=⟨h.pap,h.live,h.list,λc hc hd'=>h.cells c hc (hd c hc hd'),h.low,h.sep⟩
end
end Go.Proofs.YtkmoglhgkcnalaaDoor
namespace Go.Proofs.YtkmoglhgkcnalaaDoor
open Go Go.Conc
def zM(ops:Array Oper):Bool:=(List.range ops.size).all λn=>((ops[n]?).map λo=>o.after.all λe=>decide (e.on<n)).getD true
theorem yJ{ops:Array Oper}(h:zM ops=true)(n:Nat)(o:Oper)(ho:ops[n]?=some o):∀e∈o.after,e.on<n:=by
 intro e he
 have hn:n<ops.size:=(gA ho).1
 have:=List.all_eq_true.1 h n (List.mem_range.2 hn)
 rw[ho]at this
 simpa using Array.all_eq_true'.1 this e he
def jN(ops:Array Oper)(n k:Nat):Bool:=((ops[n]?).map λo=>o.after.any λe=>e.on==k&&Region.binds .any e).getD false
theorem aZ{ops:Array Oper}{n k:Nat}{o:Oper}{listed:Array Bool}(h:jN ops n k=true)(ho:ops[n]?=some o)(hd:∀e∈o.after,Region.binds .any e=true->listed[e.on]?=some true):listed[k]?=some true:=by
 unfold jN at h
 rw[ho]at h
 simp only[Option.map_some,Option.getD_some]at h
 obtain⟨j,hj,he⟩:=Array.any_eq_true.1 h
 simp only[Bool.and_eq_true,beq_iff_eq]at he
 rw[←he.1]
 exact hd _ (Array.getElem_mem hj) he.2
theorem aJ{ops:Array Oper}{n:Nat}{o:Oper}{d:Option Tmp}{p:Op}(ho:ops[n]?=some o)(h:(ops[n]?).map (λo=>(o.dst,o.op,o.guard))=some (d,p,none)):o.dst=d/\o.op=p/\∀y,Region.wanted o y=true:=by
 rw[ho]at h
 simp only[Option.map_some,Option.some.injEq,Prod.mk.injEq]at h
 refine⟨h.1,h.2.1,λy=> ?_⟩
 unfold Region.wanted
 rw[h.2.2]
structure eQ (fx:List (Nat×Value)) (tb:List (Nat×Nat×Value)) (N:Nat) (listed:Array Bool) (a:Act):Prop where
 defers:a.defers=[]
 size:N<=a.tmps.size
 fixed:∀p∈fx,a.tmps[p.1]?=some p.2
 come:∀p∈tb,listed[p.1]?=some true->a.tmps[p.2.1]?=some p.2.2
theorem aP{ops:Array Oper}{n:Nat}{o:Oper}(ho:ops[n]?=some o)(d:Tmp)(p:Op)(h:(ops[n]?).map (λo=>(o.dst,o.op,o.guard))=some (some d,p,none):=by kernel_rfl):o.op=p:=(aJ ho h).2.1
section
variable{fx:List (Nat×Value)}{tb:List (Nat×Nat×Value)}{N:Nat}{listed:Array Bool}{a:Act}
theorem C5{d:Nat}{v:Value}(h:a.tmps[d]?=some v):a.eval (.tmp d)=v:=by
 show a.tmps.getD d undef=v
 rw[Array.getD_eq_getD_getElem?,h]
 rfl
theorem eQ.put(h:eQ fx tb N listed a){n d:Nat}{v:Value}(hd:d<N)(h1:∀p∈fx,p.1≠d)(h2:∀p∈tb,p.2.1=d\/p.1=n->p=(n,d,v)):eQ fx tb N (listed.setIfInBounds n true) (a.put (some d) v):=by
 refine⟨h.defers,by simpa[Act.put]using h.size,λp hp=> ?_,λp hp hl=> ?_⟩
 ·show(a.tmps.setIfInBounds d v)[p.1]?=_
  rw[sN (Ne.symm (h1 p hp))]
  exact h.fixed p hp
 ·show(a.tmps.setIfInBounds d v)[p.2.1]?=_
  by_cases e:p.2.1=d\/p.1=n
  ·have:=h2 p hp e
   subst this
   exact Array.getElem?_setIfInBounds_self_of_lt (Nat.lt_of_lt_of_le hd h.size)
  ·have e1:d≠p.2.1:=λx=>e (.inl x.symm)
   have e2:n≠p.1:=λx=>e (.inr x.symm)
   rw[sN e1]
   rw[sN e2]at hl
   exact h.come p hp hl
theorem eQ.pass(h:eQ fx tb N listed a){n:Nat}(h2:∀p∈tb,p.1≠n)(v:Value):eQ fx tb N (listed.setIfInBounds n true) (a.put none v):=by
 refine⟨h.defers,h.size,h.fixed,λp hp hl=> ?_⟩
 rw[sN (Ne.symm (h2 p hp))]at hl
 exact h.come p hp hl
end
section
variable{X:ap}{Next:(Nat->Prop)->Goroutine->World->Prop}{m:Nat}
def Ik(X:ap)(Next:(Nat->Prop)->Goroutine->World->Prop)(m:Nat)(V:Nat->Prop)(fr:Frame)(cs:List Frame)(w0:World):Prop:=∀w,aR X V w0 w->bD X Next m V (hU fr cs) w
theorem Ik.now{V:Nat->Prop}{fr:Frame}{cs:List Frame}{w:World}(h:Ik X Next m V fr cs w):bD X Next m V (hU fr cs) w:=h w (aR.refl X V w)
theorem Ik.stop{V:Nat->Prop}{fr:Frame}{cs:List Frame}{w:World}(h:∀w₁,aR X V w w₁->Next V (hU fr cs) w₁):Ik X Next m V fr cs w:=λ_ h₁=>bD.stop λw₂ h₂=>h w₂ (h₁.trans h₂)
variable{V:Nat->Prop}{b:Frame}{a:Act}{k:List Item}{cs:List Frame}{w0:World}
theorem Ik.exec{fr:Frame}(hm:fr.mode= .run)(h:∀w,aR X V w0 w->∃g' w' es,stepG.exec X.P true true fr cs none w= .go g' w' es/\bB V X.RO w w' es/\bD X Next m (bp V w w') g' w'):Ik X Next (m+1) V fr cs w0:=λ_ hw=>
 bD.step rfl λw₁ h₁=>let ⟨g',w',es,h1,h2,h3⟩:=h w₁ (hw.trans h₁);⟨g',w',es,(jC hm true cs w₁).trans h1,h2,h3⟩
theorem Ik.plain{t:List Item}(hp:aY (b.atR a k)=some t)(h:Ik X Next m V (b.atR a t) cs w0):Ik X Next (m+1) V (b.atR a k) cs w0:=
 Ik.exec rfl λw hw=>⟨_,w,#[],iF hp,cM _ _ _,by rw[bJ];exact h w hw⟩
section
variable{ops:Array Oper}{n:Nat}{rest:List Nat}{o:Oper}
theorem Ik.oper(ho:ops[n]?=some o)(hw:Region.wanted o (yielded ops a.tmps)=true)(hnd:∀c,o.op≠ .defer c)
 (h:∀w,aR X V w0 w->∃nx w',(execOp a.eval o).run X.P w= .ok nx w'/\vQ nx=true/\bB V X.RO w w' ((execOp a.eval o).events X.P w #[])/\bD X Next m (bp V w w') (fH X.P (b.atR a (.inRegion ops (n::rest)::k)) cs nx) w'):
 Ik X Next (m+1) V (b.atR a (.inRegion ops (n::rest)::k)) cs w0:=by
 refine Ik.exec rfl λw hw0=> ?_
 obtain⟨nx,w',h1,h2,h3,h4⟩:=h w hw0
 have hc:dE (b.atR a (.inRegion ops (n::rest)::k)):=λd w r s k e=>by cases e
 have hr:(execOp (b.atR a (.inRegion ops (n::rest)::k)).eval o).runT X.P w #[]=(.ok nx w',(execOp a.eval o).events X.P w #[]):=by rw[Frame.eval_atR,Sem.runT_eq,h1]
 exact⟨_,w',_,(cK rfl ho hw hnd).trans (cH (cs:=cs) hc hr h2),h3.sub (kC _ _ _),h4⟩
theorem Ik.value(v:Value)(ho:ops[n]?=some o)(hw:Region.wanted o (yielded ops a.tmps)=true)(hnd:∀c,o.op≠ .defer c)
 (hr:∀w,aR X V w0 w->(execOp a.eval o).run X.P w= .ok (.value v) w/\∀e∈(execOp a.eval o).events X.P w #[],eR V X.RO e)
 (h:Ik X Next m V (b.atR (a.put o.dst v) (.inRegion ops rest::k)) cs w0):Ik X Next (m+1) V (b.atR a (.inRegion ops (n::rest)::k)) cs w0:=by
 refine Ik.oper ho hw hnd λw hw0=>⟨.value v,w,(hr w hw0).1,rfl,nG (hr w hw0).2, ?_⟩
 rw[bJ]
 show bD X Next m V (hU ((b.atR a (.inRegion ops (n::rest)::k)).finish v) cs) w
 rw[Frame.finish_atR,ho]
 exact h w hw0
theorem Ik.make(ho:ops[n]?=some o)(hw:Region.wanted o (yielded ops a.tmps)=true)(hnd:∀c,o.op≠ .defer c)
 (hr:∀w,aR X V w0 w->∃v w',(execOp a.eval o).run X.P w= .ok (.value v) w'/\bB V X.RO w w' ((execOp a.eval o).events X.P w #[])/\
   Ik X Next m (bp V w w') (b.atR (a.put o.dst v) (.inRegion ops rest::k)) cs w'):Ik X Next (m+1) V (b.atR a (.inRegion ops (n::rest)::k)) cs w0:=by
 refine Ik.oper ho hw hnd λw hw0=> ?_
 obtain⟨v,w',h1,h2,h3⟩:=hr w hw0
 refine⟨.value v,w',h1,rfl,h2, ?_⟩
 show bD X Next m (bp V w w') (hU ((b.atR a (.inRegion ops (n::rest)::k)).finish v) cs) w'
 rw[Frame.finish_atR,ho]
 exact h3.now
theorem Ik.makes(ho:ops[n]?=some o)(hw:Region.wanted o (yielded ops a.tmps)=true)(hnd:∀c,o.op≠ .defer c)
 (hr:∀w,aR X V w0 w->∃w',(execOp a.eval o).run X.P w= .ok .skip w'/\bB V X.RO w w' ((execOp a.eval o).events X.P w #[])/\
   Ik X Next m (bp V w w') (b.atR (a.put o.dst undef) (.inRegion ops rest::k)) cs w'):Ik X Next (m+1) V (b.atR a (.inRegion ops (n::rest)::k)) cs w0:=by
 refine Ik.oper ho hw hnd λw hw0=> ?_
 obtain⟨w',h1,h2,h3⟩:=hr w hw0
 refine⟨.skip,w',h1,rfl,h2, ?_⟩
 show bD X Next m (bp V w w') (hU ((b.atR a (.inRegion ops (n::rest)::k)).finish undef) cs) w'
 rw[Frame.finish_atR,ho]
 exact h3.now
theorem Ik.enter{f:FuncId}{args:Array Value}(ho:ops[n]?=some o)(hw:Region.wanted o (yielded ops a.tmps)=true)(hnd:∀c,o.op≠ .defer c)
 (hr:∀w,(execOp a.eval o).run X.P w= .ok (.enter f args) w/\(execOp a.eval o).events X.P w #[]=#[])
 (h:Ik X Next m V (Frame.enter X.P f args .normal) (b.atR a (.inRegion ops (n::rest)::k)::cs) w0):Ik X Next (m+1) V (b.atR a (.inRegion ops (n::rest)::k)) cs w0:=by
 refine Ik.oper ho hw hnd λw hw0=>⟨.enter f args,w,(hr w).1,rfl, ?_, ?_⟩
 ·rw[(hr w).2]
  exact cM _ _ _
 ·rw[bJ]
  exact h w hw0
end
theorem Ik.ends(hb:b.roundOf=none)(hk:k=[]\/∃k',k= .code .ret::k')(h:Ik X Next m V {b.atR a k with mode:= .returning} cs w0):Ik X Next (m+1) V (b.atR a k) cs w0:=
 Ik.exec rfl λw hw=>⟨_,w,#[],jS ⟨hb,hk⟩,cM _ _ _,by rw[bJ];exact h w hw⟩
theorem Ik.leave{fn:Func}{c:Frame}(v:Value)(hk:b.kind= .normal)(hd:a.defers=[])(hf:X.P.funcs[b.fn]?=some fn)(hr:∀w,(results fn a.tmps).run X.P w= .ok v w/\(results fn a.tmps).events X.P w #[]=#[])
 (h:Ik X Next m V (c.finish v) cs w0):Ik X Next (m+1) V {b.atR a k with mode:= .returning} (c::cs) w0:=λw hw=>by
 refine bD.step rfl λw₁ h₁=>⟨_,w₁,#[],gw (fr:={b.atR a k with mode:= .returning}) (c:=c) (cs:=cs) hk hd rfl hf (hr w₁).1 (hr w₁).2 true ⟨rfl,rfl,rfl,rfl⟩,cM _ _ _, ?_⟩
 rw[bJ]
 exact h w₁ (hw.trans h₁)
end
structure aM (F:List (Nat×Value)) (N:Nat) (ds:List Deferred) (a:Act):Prop where
 defers:a.defers=ds
 size:N<=a.tmps.size
 slot:∀d v,F.lookup d=some v->a.tmps[d]?=some v
section
variable{F:List (Nat×Value)}{N:Nat}{ds:List Deferred}{a:Act}
theorem aM.get(h:aM F N ds a){d:Nat}{v:Value}(hd:F.lookup d=some v):a.eval (.tmp d)=v:=C5 (h.slot d v hd)
theorem aM.put(h:aM F N ds a){d:Nat}(hd:d<N)(v:Value):aM ((d,v)::F) N ds (a.put (some d) v):=by
 refine⟨h.defers,by simpa[Act.put]using h.size,λe u he=> ?_⟩
 show(a.tmps.setIfInBounds d v)[e]?=some u
 by_cases hed:e=d
 ·subst hed
  simp only[List.lookup,beq_self_eq_true,Option.some.injEq]at he
  subst he
  exact Array.getElem?_setIfInBounds_self_of_lt (Nat.lt_of_lt_of_le hd h.size)
 ·rw[sN (Ne.symm hed)]
  have hb:(e==d)=false:=by simpa using hed
  simp only[List.lookup,hb]at he
  exact h.slot e u he
theorem aM.sub{F':List (Nat×Value)}(h:aM F N ds a)(hs:∀d v,F'.lookup d=some v->F.lookup d=some v):aM F' N ds a:=⟨h.defers,h.size,λd v hd=>h.slot d v (hs d v hd)⟩
def iH(k:Nat):List Value->List (Nat×Value)
 |[]=>[]
 |v::L=>(k,v)::iH (k+1) L
theorem po:∀(L:List Value) (k d:Nat) (v:Value),(iH k L).lookup d=some v->k<=d/\L[d- k]?=some v
 |[],_,_,_,h=>by simp[iH]at h
 |u::L,k,d,v,h=>by
  by_cases hd:d=k
  ·subst hd
   simp only[iH,List.lookup,beq_self_eq_true,Option.some.injEq]at h
   subst h
   simp
  ·have hb:(d==k)=false:=by simpa using hd
   simp only[iH,List.lookup,hb]at h
   obtain⟨h1,h2⟩:=po L (k+1) d v h
   refine⟨by omega, ?_⟩
   rw[show d- k=(d-(k+1))+1 from by omega]
   simpa using h2
theorem bm(L:List Value)(N:Nat)(h:L.length<=N):aM (iH 0 L) N [] ⟨L.toArray++Array.replicate (N- L.toArray.size) undef,[]⟩:=by
 refine⟨rfl,by simp;omega,λd v hd=> ?_⟩
 obtain⟨_,h2⟩:=po L 0 d v hd
 rw[Nat.sub_zero]at h2
 have hlt:d<L.length:=(List.getElem?_eq_some_iff.1 h2).1
 show(L.toArray++_)[d]?=_
 rw[Array.getElem?_append_left (by simpa using hlt)]
 simpa using h2
end
section
variable{X:ap}{i:Nat}{V:Nat->Prop}{b:Frame}{a:Act}{k:List Item}{cs:List Frame}{w0:World}{ops:Array Oper}{m:Nat}{rest:List Nat}{F:List (Nat×Value)}{N:Nat}{ds:List Deferred}
theorem Wk.region{id:Nat}{L:List Nat}(hL:List.range ops.size=L)(h:Wk X i V (b.atR a (.inRegion ops L::k)) cs w0):Wk X i V (b.atR a (.code (.region id ops false)::k)) cs w0:=Wk.plain rfl (by rw[hL];exact h)
theorem Wk.op(hF:aM F N ds a)(d:Tmp)(p:Op)(v:Value)(hd:d<N)(h:(ops[m]?).map (λo=>(o.dst,o.op,o.guard))=some (some d,p,none))(hnd:∀c,p≠ .defer c)
 (hy:∀o:Oper,o.op=p->∀w,aO X i V w0 w->(execOp a.eval o).run X.P w= .ok (.value v) w/\∀e∈(execOp a.eval o).events X.P w #[],eR V X.RO e)
 (next:∀a',aM ((d,v)::F) N ds a'->Wk X i V (b.atR a' (.inRegion ops rest::k)) cs w0):Wk X i V (b.atR a (.inRegion ops (m::rest)::k)) cs w0:=by
 cases ho:ops[m]? with
 |none=>rw[ho]at h;simp at h
 |some o=>
  obtain⟨e1,e2,e3⟩:=aJ ho h
  refine Wk.value v ho (e3 _) (λc=>by rw[e2];exact hnd c) (hy o e2) ?_
  rw[e1]
  exact next _ (hF.put hd v)
theorem Wk.mk(hF:aM F N ds a)(d:Tmp)(p:Op)(cells:Array Value)(t:TypeId)(hd:d<N)(h:(ops[m]?).map (λo=>(o.dst,o.op,o.guard))=some (some d,p,none))(hnd:∀c,p≠ .defer c)
 (hy:∀o:Oper,o.op=p->∀w,(execOp a.eval o).run X.P w= .ok (.value (.pointer (some ⟨w.heap.size,0,none⟩))) (w.alloc (.cells cells t))/\(execOp a.eval o).events X.P w #[]=#[])
 (next:∀a' w,aO X i V w0 w->aM ((d, .pointer (some ⟨w.heap.size,0,none⟩))::F) N ds a'->Wk X i (bp V w (w.alloc (.cells cells t))) (b.atR a' (.inRegion ops rest::k)) cs (w.alloc (.cells cells t))):Wk X i V (b.atR a (.inRegion ops (m::rest)::k)) cs w0:=by
 cases ho:ops[m]? with
 |none=>rw[ho]at h;simp at h
 |some o=>
  obtain⟨e1,e2,e3⟩:=aJ ho h
  refine Wk.make ho (e3 _) (λc=>by rw[e2];exact hnd c) λw hw=>⟨_,_,(hy o e2 w).1, ?_, ?_⟩
  ·rw[(hy o e2 w).2]
   exact lX _ _ _ _
  ·rw[e1]
   exact next _ w hw (hF.put hd _)
theorem Ik.region{Next:(Nat->Prop)->Goroutine->World->Prop}{n id:Nat}{L:List Nat}(hL:List.range ops.size=L)(h:Ik X Next n V (b.atR a (.inRegion ops L::k)) cs w0):Ik X Next (n+1) V (b.atR a (.code (.region id ops false)::k)) cs w0:=Ik.plain rfl (by rw[hL];exact h)
theorem Ik.op{Next:(Nat->Prop)->Goroutine->World->Prop}{n:Nat}(hF:aM F N ds a)(d:Tmp)(p:Op)(v:Value)(hd:d<N)(h:(ops[m]?).map (λo=>(o.dst,o.op,o.guard))=some (some d,p,none))(hnd:∀c,p≠ .defer c)
 (hy:∀o:Oper,o.op=p->∀w,aR X V w0 w->(execOp a.eval o).run X.P w= .ok (.value v) w/\∀e∈(execOp a.eval o).events X.P w #[],eR V X.RO e)
 (next:∀a',aM ((d,v)::F) N ds a'->Ik X Next n V (b.atR a' (.inRegion ops rest::k)) cs w0):Ik X Next (n+1) V (b.atR a (.inRegion ops (m::rest)::k)) cs w0:=by
 cases ho:ops[m]? with
 |none=>rw[ho]at h;simp at h
 |some o=>
  obtain⟨e1,e2,e3⟩:=aJ ho h
  refine Ik.value v ho (e3 _) (λc=>by rw[e2];exact hnd c) (hy o e2) ?_
  rw[e1]
  exact next _ (hF.put hd v)
theorem Ik.mk{Next:(Nat->Prop)->Goroutine->World->Prop}{n:Nat}(hF:aM F N ds a)(d:Tmp)(p:Op)(v:World->Value)(ob:World->Obj)(hd:d<N)(h:(ops[m]?).map (λo=>(o.dst,o.op,o.guard))=some (some d,p,none))(hnd:∀c,p≠ .defer c)
 (hy:∀o:Oper,o.op=p->∀w,aR X V w0 w->(execOp a.eval o).run X.P w= .ok (.value (v w)) (w.alloc (ob w))/\∀e∈(execOp a.eval o).events X.P w #[],eR (bp V w (w.alloc (ob w))) X.RO e)
 (next:∀a' w,aR X V w0 w->aM ((d,v w)::F) N ds a'->Ik X Next n (bp V w (w.alloc (ob w))) (b.atR a' (.inRegion ops rest::k)) cs (w.alloc (ob w))):Ik X Next (n+1) V (b.atR a (.inRegion ops (m::rest)::k)) cs w0:=by
 cases ho:ops[m]? with
 |none=>rw[ho]at h;simp at h
 |some o=>
  obtain⟨e1,e2,e3⟩:=aJ ho h
  refine Ik.make ho (e3 _) (λc=>by rw[e2];exact hnd c) λw hw=>⟨_,_,(hy o e2 w hw).1, ?_, ?_⟩
  ·have q:=lX V X.RO w (ob w)
   exact⟨q.keep,q.size,q.os,q.output,q.tape,(hy o e2 w hw).2⟩
  ·rw[e1]
   exact next _ w hw (hF.put hd _)
end
section
variable{PL:Program}{Stop:Goroutine->World->Prop}
theorem Cj(hstop:∀g w,Stop g w->∀τ d,∃o w1 es,stepG PL true g (jJ w τ d)= .ended o w1 es){g:Goroutine}{w:World}(ht:fc PL Stop g w):fa g->∀g2 w2,StepsIn (λ_=>True) PL (solo g w) (solo g2 w2)->fc PL Stop g2 w2/\fa g2:=by
 induction ht with
 | @stop g w hs=>
   intro hw g2 w2 hst
   generalize hm:solo g w=m at hst
   generalize hm2:solo g2 w2=m2 at hst
   cases hst with
   |refl=>
    obtain⟨rfl,rfl⟩:=fl (hm.trans hm2.symm)
    exact⟨.stop hs,hw⟩
   |head _ hstep _=>
    exfalso
    subst hm
    obtain⟨o,w1,es,e⟩:=hstop g w hs w.tape w.drawn
    have e':stepG PL true g w= .ended o w1 es:=e
    rw[step,stepT_solo hw.1]at hstep
    simp[runT,solo,Array.swapAt!,Array.swapAt,e']at hstep
 | @go g w n hn hwn htn ih=>
   intro hw g2 w2 hst
   generalize hm:solo g w=m at hst
   generalize hm2:solo g2 w2=m2 at hst
   cases hst with
   |refl=>
    obtain⟨rfl,rfl⟩:=fl (hm.trans hm2.symm)
    exact⟨.go n hn hwn htn,hw⟩
   | @head _ m1 _ _ hstep hrest=>
     subst hm hm2
     obtain⟨es',e'⟩:=hn w.tape w.drawn
     have e2:stepG PL true g w= .go (n w.tape w.drawn).1 (n w.tape w.drawn).2 es':=e'
     rw[step,stepT_solo hw.1,runT_solo_go e2]at hstep
     simp only[Stepped.next.injEq]at hstep
     subst hstep
     exact ih w.tape w.drawn (hwn _ _) g2 w2 hrest
theorem o7{g g':Goroutine}{w w':World}{es:Array Event}(hr:g.status= .running)(h:stepG PL true g w= .go g' w' es):StepsIn (λ_=>True) PL (solo g w) (solo g' w'):=
 StepsIn.one trivial (by rw[step,stepT_solo hr,runT_solo_go h])
def Tk(PL:Program)(Stop:Goroutine->World->Prop)(Q:Prop)(g0:Goroutine)(w0:World)(fr:Frame)(cs:List Frame)(w:World):Prop:=
 fc PL Stop (hU fr cs) w->StepsIn (λ_=>True) PL (solo g0 w0) (solo (hU fr cs) w)->Q
variable{Q:Prop}{g0:Goroutine}{w0:World}{b:Frame}{a:Act}{k:List Item}{cs:List Frame}{w:World}
theorem sH(hS:∀g w,Stop g w->g.frame.mode= .returning/\g.callers=[]){fr:Frame}(hm:fr.mode= .run\/cs≠[])(ht:fc PL Stop (hU fr cs) w):∃g' w' es,stepG PL true (hU fr cs) w= .go g' w' es/\fa g'/\fc PL Stop g' w':=by
 cases ht with
 |stop hs=>
  exfalso
  rcases hm with hm|hm
  ·have:=(hS _ _ hs).1
   rw[show(hU fr cs).frame.mode=fr.mode from rfl,hm]at this
   cases this
  ·exact hm (hS _ _ hs).2
 |go n hn hw ht=>
  obtain⟨es,e⟩:=hn w.tape w.drawn
  exact⟨_,_,es,e,hw _ _,ht _ _⟩
theorem Tk.exec(hS:∀g w,Stop g w->g.frame.mode= .returning/\g.callers=[]){fr:Frame}(hm:fr.mode= .run)(h:∀g' w' es,stepG.exec PL true true fr cs none w= .go g' w' es->fa g'->fc PL Stop g' w'->StepsIn (λ_=>True) PL (solo g0 w0) (solo g' w')->Q):
 Tk PL Stop Q g0 w0 fr cs w:=λht hst=>by
 obtain⟨g',w',es,e,hw,ht'⟩:=sH hS (.inl hm) ht
 exact h g' w' es (by rw[←jC hm true cs w];exact e) hw ht' (hst.trans (o7 rfl e))
theorem Tk.plain(hS:∀g w,Stop g w->g.frame.mode= .returning/\g.callers=[]){t:List Item}(hp:aY (b.atR a k)=some t)(h:Tk PL Stop Q g0 w0 (b.atR a t) cs w):Tk PL Stop Q g0 w0 (b.atR a k) cs w:=
 Tk.exec hS rfl λg' w' es e _ ht hst=>by
  rw[iF hp]at e
  cases e
  exact h ht hst
section
variable{ops:Array Oper}{n:Nat}{rest:List Nat}{o:Oper}
theorem Tk.ran(hS:∀g w,Stop g w->g.frame.mode= .returning/\g.callers=[])(ho:ops[n]?=some o)(hw:Region.wanted o (yielded ops a.tmps)=true)(hnd:∀c,o.op≠ .defer c){v:Value}{w':World}(hr:(execOp a.eval o).run PL w= .ok (.value v) w')
 (h:Tk PL Stop Q g0 w0 (b.atR (a.put o.dst v) (.inRegion ops rest::k)) cs w'):Tk PL Stop Q g0 w0 (b.atR a (.inRegion ops (n::rest)::k)) cs w:=
 Tk.exec hS rfl λg1 w1 es e _ ht hst=>by
  have hc:dE (b.atR a (.inRegion ops (n::rest)::k)):=λd w r s k e=>by cases e
  have hrT:(execOp (b.atR a (.inRegion ops (n::rest)::k)).eval o).runT PL w #[]=(.ok (.value v) w',(execOp a.eval o).events PL w #[]):=by rw[Frame.eval_atR,Sem.runT_eq,hr]
  rw[cK rfl ho hw hnd,cH (cs:=cs) hc hrT rfl]at e
  cases e
  have hfin:(b.atR a (.inRegion ops (n::rest)::k)).finish v=b.atR (a.put o.dst v) (.inRegion ops rest::k):=by rw[Frame.finish_atR,ho];rfl
  have ht':fc PL Stop (hU ((b.atR a (.inRegion ops (n::rest)::k)).finish v) cs) w':=ht
  have hst':StepsIn (λ_=>True) PL (solo g0 w0) (solo (hU ((b.atR a (.inRegion ops (n::rest)::k)).finish v) cs) w'):=hst
  rw[hfin]at ht' hst'
  exact h ht' hst'
theorem Tk.did(hS:∀g w,Stop g w->g.frame.mode= .returning/\g.callers=[])(ho:ops[n]?=some o)(hw:Region.wanted o (yielded ops a.tmps)=true)(hnd:∀c,o.op≠ .defer c){w':World}(hr:(execOp a.eval o).run PL w= .ok .skip w')
 (h:Tk PL Stop Q g0 w0 (b.atR (a.put o.dst undef) (.inRegion ops rest::k)) cs w'):Tk PL Stop Q g0 w0 (b.atR a (.inRegion ops (n::rest)::k)) cs w:=
 Tk.exec hS rfl λg1 w1 es e _ ht hst=>by
  have hc:dE (b.atR a (.inRegion ops (n::rest)::k)):=λd w r s k e=>by cases e
  have hrT:(execOp (b.atR a (.inRegion ops (n::rest)::k)).eval o).runT PL w #[]=(.ok .skip w',(execOp a.eval o).events PL w #[]):=by rw[Frame.eval_atR,Sem.runT_eq,hr]
  rw[cK rfl ho hw hnd,cH (cs:=cs) hc hrT rfl]at e
  cases e
  have hfin:(b.atR a (.inRegion ops (n::rest)::k)).finish undef=b.atR (a.put o.dst undef) (.inRegion ops rest::k):=by rw[Frame.finish_atR,ho];rfl
  have ht':fc PL Stop (hU ((b.atR a (.inRegion ops (n::rest)::k)).finish undef) cs) w':=ht
  have hst':StepsIn (λ_=>True) PL (solo g0 w0) (solo (hU ((b.atR a (.inRegion ops (n::rest)::k)).finish undef) cs) w'):=hst
  rw[hfin]at ht' hst'
  exact h ht' hst'
theorem Tk.stuck(hS:∀g w,Stop g w->g.frame.mode= .returning/\g.callers=[])(ho:ops[n]?=some o)(hw:Region.wanted o (yielded ops a.tmps)=true)(hnd:∀c,o.op≠ .defer c){x:Halt}{w':World}(hr:(execOp a.eval o).run PL w= .halt x w')(hx:(∃s,x= .stuck s)\/(∃v,x= .panic v)\/x= .unsupported .addressObserved):
 Tk PL Stop Q g0 w0 (b.atR a (.inRegion ops (n::rest)::k)) cs w:=
 Tk.exec hS rfl λg1 w1 es e hwl _ _=>by
  exfalso
  rw[cK rfl ho hw hnd]at e
  unfold stepG.apply at e
  rw[Frame.eval_atR,if_pos rfl,Sem.runT_eq,hr]at e
  rcases hx with⟨s,rfl⟩|⟨v,rfl⟩|rfl
  ·simp[GStep.after]at e
  ·simp only[GStep.after,GStep.go.injEq]at e
   obtain⟨rfl,_,_⟩:=e
   obtain⟨c,hc⟩:=iC (b.atR a (.inRegion ops (n::rest)::k)) [{v,recovered:=false}] (.inl rfl)
   exact hwl.2.1 c hc
  ·simp[GStep.after]at e
theorem Tk.call(hstop:∀g w,Stop g w->∀τ d,∃o w1 es,stepG PL true g (jJ w τ d)= .ended o w1 es)(hS:∀g w,Stop g w->g.frame.mode= .returning/\g.callers=[])(ho:ops[n]?=some o)(hw:Region.wanted o (yielded ops a.tmps)=true)(hnd:∀c,o.op≠ .defer c){f:FuncId}{args:Array Value}
 (hr:(execOp a.eval o).run PL w= .ok (.enter f args) w) {R:Value->World->Prop} (hC:Calls PL f args w λe w'=>∃v,e= .returned v/\R v w')
 (h:∀v w',R v w'->Tk PL Stop Q g0 w0 (b.atR (a.put o.dst v) (.inRegion ops rest::k)) cs w'):Tk PL Stop Q g0 w0 (b.atR a (.inRegion ops (n::rest)::k)) cs w:=
 Tk.exec hS rfl λg1 w1 es e hwl ht hst=>by
  have hc:dE (b.atR a (.inRegion ops (n::rest)::k)):=λd w r s k e=>by cases e
  have hrT:(execOp (b.atR a (.inRegion ops (n::rest)::k)).eval o).runT PL w #[]=(.ok (.enter f args) w,(execOp a.eval o).events PL w #[]):=by rw[Frame.eval_atR,Sem.runT_eq,hr]
  rw[cK rfl ho hw hnd,cH (cs:=cs) hc hrT rfl]at e
  cases e
  obtain⟨en,w',fr,⟨v,rfl,hR⟩,hcm,_,hlv⟩:=hC (b.atR a (.inRegion ops (n::rest)::k)::cs)
  have hcm':Steps PL (lone (Frame.enter PL f args .normal) (b.atR a (.inRegion ops (n::rest)::k)::cs) w) (lone fr (b.atR a (.inRegion ops (n::rest)::k)::cs) w'):=hcm
  have hlast:=step_leave_returned (c:=b.atR a (.inRegion ops (n::rest)::k)) (cs:=cs) hlv
  have hall:StepsIn (λ_=>True) PL (solo (fH PL (b.atR a (.inRegion ops (n::rest)::k)) cs (.enter f args)) w) (solo (hU ((b.atR a (.inRegion ops (n::rest)::k)).finish v) cs) w'):=
   (StepsIn.of_steps hcm').trans (StepsIn.one trivial hlast)
  have hfin:(b.atR a (.inRegion ops (n::rest)::k)).finish v=b.atR (a.put o.dst v) (.inRegion ops rest::k):=by rw[Frame.finish_atR,ho];rfl
  rw[hfin]at hall
  exact h v w' hR (Cj hstop ht hwl _ _ hall).1 (hst.trans hall)
end
theorem Tk.refuse(hS:∀g w,Stop g w->g.frame.mode= .returning/\g.callers=[]){s:String}:Tk PL Stop Q g0 w0 (b.atR a (.code (.refuse s)::k)) cs w:=
 Tk.exec hS rfl λg' w' es e _ _ _=>by
  exfalso
  unfold stepG.exec at e
  simp[Frame.atR]at e
theorem Tk.cond(hS:∀g w,Stop g w->g.frame.mode= .returning/\g.callers=[]){x:Operand}{A B:Code}(q:Bool)(hq:a.eval x= .bool q)(h:Tk PL Stop Q g0 w0 (b.atR a (.code (if q then A else B)::k)) cs w):Tk PL Stop Q g0 w0 (b.atR a (.code (.cond x A B)::k)) cs w:=by
 refine Tk.plain hS (t:= .code (if q then A else B)::k) ?_ h
 have e:(b.atR a (.code (.cond x A B)::k)).eval x= .bool q:=by rw[Frame.eval_atR];exact hq
 show(match (b.atR a (.code (.cond x A B)::k)).eval x with| .bool q=>some (Item.code (if q then A else B)::k)|_=>none)=_
 rw[e]
theorem Tk.region(hS:∀g w,Stop g w->g.frame.mode= .returning/\g.callers=[]){id:Nat}{ops:Array Oper}{L:List Nat}(hL:List.range ops.size=L)(h:Tk PL Stop Q g0 w0 (b.atR a (.inRegion ops L::k)) cs w):Tk PL Stop Q g0 w0 (b.atR a (.code (.region id ops false)::k)) cs w:=Tk.plain hS rfl (by rw[hL];exact h)
theorem Tk.ends(hS:∀g w,Stop g w->g.frame.mode= .returning/\g.callers=[])(hb:b.roundOf=none)(hk:k=[]\/∃k',k= .code .ret::k')(h:Tk PL Stop Q g0 w0 {b.atR a k with mode:= .returning} cs w):Tk PL Stop Q g0 w0 (b.atR a k) cs w:=
 Tk.exec hS rfl λg' w' es e _ ht hst=>by
  rw[jS (fr:=b.atR a k) ⟨hb,hk⟩]at e
  cases e
  exact h ht hst
theorem Tk.leave(hS:∀g w,Stop g w->g.frame.mode= .returning/\g.callers=[]){fn:Func}{c:Frame}(v:Value)(hk:b.kind= .normal)(hd:a.defers=[])(hf:PL.funcs[b.fn]?=some fn)(hr:(results fn a.tmps).run PL w= .ok v w)(he:(results fn a.tmps).events PL w #[]=#[])
 (h:Tk PL Stop Q g0 w0 (c.finish v) cs w):Tk PL Stop Q g0 w0 {b.atR a k with mode:= .returning} (c::cs) w:=λht hst=>by
 obtain⟨g',w',es,e,hw,ht'⟩:=sH hS (.inr (by simp)) ht
 have e2:=gw (fr:={b.atR a k with mode:= .returning}) (c:=c) (cs:=cs) hk hd rfl hf hr he true (g:=hU {b.atR a k with mode:= .returning} (c::cs)) ⟨rfl,rfl,rfl,rfl⟩
 rw[e2]at e
 cases e
 exact h ht' (hst.trans (o7 rfl e2))
theorem Tk.op{F:List (Nat×Value)}{N:Nat}{ds:List Deferred}{ops:Array Oper}{m:Nat}{rest:List Nat}(hS:∀g w,Stop g w->g.frame.mode= .returning/\g.callers=[])(hF:aM F N ds a)(d:Tmp)(p:Op){v:Value}{w':World}(hd:d<N)(h:(ops[m]?).map (λo=>(o.dst,o.op,o.guard))=some (some d,p,none))(hnd:∀c,p≠ .defer c)
 (hy:∀o:Oper,o.op=p->(execOp a.eval o).run PL w= .ok (.value v) w')
 (next:∀a',aM ((d,v)::F) N ds a'->Tk PL Stop Q g0 w0 (b.atR a' (.inRegion ops rest::k)) cs w'):Tk PL Stop Q g0 w0 (b.atR a (.inRegion ops (m::rest)::k)) cs w:=by
 cases ho:ops[m]? with
 |none=>rw[ho]at h;simp at h
 |some o=>
  obtain⟨e1,e2,e3⟩:=aJ ho h
  refine Tk.ran hS ho (e3 _) (λc=>by rw[e2];exact hnd c) (hy o e2) ?_
  rw[e1]
  exact next _ (hF.put hd v)
end
end Go.Proofs.YtkmoglhgkcnalaaDoor
