/- A part of what the last text of the claim imports: texts laid together, and made small, by a program. -/
import Derived.Conc.CrowdRun
import Derived.Test.YtkmoglhgkcnalaaDoorOwn6
set_option maxHeartbeats 16000000
set_option maxRecDepth 100000
namespace Go.Proofs.YtkmoglhgkcnalaaDoor
open Go Go.Conc
open Go.ConcN (sumTo upd sumTo_upd upd_ne upd_same CT Apart PermW WgLive RelBy WD ShN OkW Ok0 norel_of CTag phi Vc Ssum Fsum cnt pend isOpen isW3 OpenSt AllQuit Vc_upd Vc_le others_uncounted le_sumTo bk_cell)
open Go.ConcR (KK WgAt stA smA rd wr mk DC0 Bk bk_of_mute ofEvent_loc_mark)
section
variable{X:ap}{Fin Anch:(Nat->Prop)->Goroutine->World->Prop}{N:Nat}{S:Nat->Prop}{m j:Nat}{gs:Array Goroutine}{w w':World}{t:Trace}{D D':Nat->WD}{Nd Nd':Nat->dQ}{V0:Nat->Prop}{d0:Nat}{q q':Nat->Nat}{tag:CTag}{u f0:Nat}{a:Goroutine}{st sm st' sm':Int}{Post:Value->World->Prop}{sl:Option (Nat×Nat)}
theorem lH{b:Nat}(h:Aside b w w'):iV (· =b) w w':=⟨λk _ hk=>h.block k hk,by rw[h.size];exact Nat.le_refl _,h.os,h.output,h.tape⟩
theorem II{Own Rd:Nat->Loc->Prop}{k:Nat}{e:Event}(h:Bk X.Wg e)(fn:FuncId)(pos:String):OkW (fN S X.Wg) Own Rd k {g:=k,fn,pos,act:= .ofEvent e}:=by
 refine⟨rfl,λx hx=> ?_⟩
 rcases h with h1|h1|⟨a,wr,rfl,ha⟩
 ·simp only[ofEvent_loc_mark h1]at hx;cases hx
 ·simp only[ofEvent_loc_mark h1]at hx;cases hx
 ·have hx':(MemAct.access ⟨.cell a,wr,true⟩).touch?=some x:=hx
  simp only[MemAct.touch?,Option.some.injEq]at hx'
  subst hx'
  exact .inl ⟨.inl (.inr ha),by simp,by simp⟩
theorem IJ{Own Rd:Nat->Loc->Prop}{k:Nat}{e:Event}(h:Bk X.Wg e)(fn:FuncId)(pos:String):Ok0 (fN S X.Wg) Own Rd k {g:=0,fn,pos,act:= .ofEvent e}:=by
 refine⟨rfl,λx hx=> ?_⟩
 rcases h with h1|h1|⟨a,wr,rfl,ha⟩
 ·simp only[ofEvent_loc_mark h1]at hx;cases hx
 ·simp only[ofEvent_loc_mark h1]at hx;cases hx
 ·have hx':(MemAct.access ⟨.cell a,wr,true⟩).touch?=some x:=hx
  simp only[MemAct.touch?,Option.some.injEq]at hx'
  subst hx'
  exact .inl ⟨.inl (.inr ha),by simp⟩
theorem JY{e:Event}(h:Bk X.Wg e){x:Touch}(hx:(MemAct.ofEvent e).touch?=some x):fN S X.Wg x.loc:=by
 rcases h with h1|h1|⟨a,wr,rfl,ha⟩
 ·rw[ofEvent_loc_mark h1]at hx;cases hx
 ·rw[ofEvent_loc_mark h1]at hx;cases hx
 ·have hx':(MemAct.access ⟨.cell a,wr,true⟩).touch?=some x:=hx
  simp only[MemAct.touch?,Option.some.injEq]at hx'
  subst hx'
  exact .inl (.inr ha)
theorem E2{B:Nat}(hB:X.Wg<B){e:Event}(h:Bk X.Wg e):(MemAct.ofEvent e).low B:=by
 rcases h with h1|h1|⟨a,wr,rfl,ha⟩
 ·rw[ofEvent_loc_mark h1];trivial
 ·rw[ofEvent_loc_mark h1];trivial
 ·show a.block<B
  omega
theorem wS{e:Event}(h:Bk X.Wg e)(b:Addr):e.loc≠ .mark (.release b):=by
 rcases h with h1|h1|⟨a,wr,rfl,ha⟩
 ·rw[h1];simp
 ·rw[h1];simp
 ·simp
theorem dj.worker(hF:∀V g w,Fin V g w->g.status= .running)(hA:∀V g w,Anch V g w->g.status= .running)(hN:N<2147483648)(h:dj X Fin Anch N S m j gs w t D Nd V0 d0 q tag u f0 a st sm)
 (hope:IW X Fin Anch N S m Post j Nd (ft N j D tag u) (lu m j D f0 q)) {i:Nat} (hi:i<j) {g:Goroutine} (hg:gs[1+m+i]?=some g) (hrun:g.status= .running):
 ∃m₁ ops,runT X.P (crowd gs w sl) (1+m+i)=(.next m₁,ops)/\cZ X.P Post m₁ (t++ops):=by
 letI:Go.ConcR.Payload:=cU
 have hb:=h.sit.bound
 have hVj:=Vc_le j D
 have hib:(1+m+i==0)=false:=by simp
 have hmode:=h.mode
 have hwg:=h.wg
 have fin:∀{g':Goroutine} {w':World} {es:Array Event} {D':Nat->WD} {Nd':Nat->dQ} {st' sm':Int},stepG X.P false g w= .go g' w' es->
  ie X S m j ((gs.map (woken X.P g g' w')).setIfInBounds (1+m+i) g') w' (t++MemOp.ofEvents (1+m+i) g.frame.fn g.frame.place es) D' Nd' V0 d0 q->aR X V0 w w'->WgAt X.ty X.Wg w' st' sm'->
  (∀tag',(tag'=tag\/(tag= .blk/\tag'= .w3))->(mayWake X.P g=true->g'.status= .running->tag'≠ .blk)->Go.ConcN.Mode j D' tag' st' sm')->(tag= .ret->uZ X m j (t++MemOp.ofEvents (1+m+i) g.frame.fn g.frame.place es))->
  (∀i,i<j->Acc (jw X i) (Nd' i))->(∀f',f'<=f0+1->GU X j j (ft N j D' tag u) (ft N j D tag u) Nd' Nd (lu m j D' f' q) (lu m j D f0 q))->∃m₁ ops,runT X.P (crowd gs w sl) (1+m+i)=(.next m₁,ops)/\cZ X.P Post m₁ (t++ops):=by
  intro g' w' es D' Nd' st' sm' hgo hc hrm hw hm hq hacc hlow
  obtain⟨tag',f',a',hS,hf,hphi⟩:=h.other hF hA (k:=1+m+i) (by omega) hc hrm hw hm hq hacc
  refine⟨_,_,runT_crowd_go (P:=X.P) (sl:=sl) (i:=1+m+i) hg (by rw[hib];exact hgo),hope _ _ _ _ _ _ _ _ _ _ _ _ _ _ _ _ hS ?_⟩
  have:=hlow f' hf
  unfold ft at this⊢
  rw[hphi]
  exact this
 obtain⟨g₁,hg₁,hs⟩:=h.crew.wk i hi
 obtain rfl:g=g₁:=by rw[hg]at hg₁;exact Option.some.inj hg₁
 rcases hs with⟨h7,hfu,hde,hgn,hW,hR⟩|⟨h6,hs⟩
 ·
  have nr:tag≠ .ret:=hmode.not_ret hi (by omega)
  by_cases hRel:uc X i (Nd i)
  ·obtain⟨_,hrel⟩:=hRel
   obtain⟨hhas,g',hgo,k,hk⟩:=hrel w hR
   rw[←hgn]at hgo
   have hdk:Deaf t (1+m+i)=0:=by rw[h.crew.deafW i hi,hde]
   have e1:=sumTo_upd D (⟨6,k,0⟩:WD) cnt hi
   have e2:=sumTo_upd D (⟨6,k,0⟩:WD) WD.stage hi
   have c1:cnt (D i)=1:=by simp[cnt,h7]
   have c2:cnt (⟨6,k,0⟩:WD)=1:=by simp[cnt]
   refine fin (D':=upd D i ⟨6,k,0⟩) (Nd':=Nd) hgo ?_ (aR.refl X V0 w) hwg (λ_ ht _=>(hmode.counted hi (by omega) (.inl rfl) _ _).retag ht) (λe=>absurd e nr) h.acc λf' _=> .inl ?_
   ·refine h.crew.stepW hi (vo _ w) ⟨_,_,hwg⟩ (by omega) (Go.ConcN.WSit.k1 hk) (λe he=> ?_) (λe he x hx=>by simp only[List.mem_toArray,List.mem_singleton]at he;subst he;cases hx) (by rw[hde];rfl) ⟨t.size,RelBy.new hdk _ _⟩ hhas
    simp only[List.mem_toArray,List.mem_singleton]at he
    subst he
    refine⟨λfn pos=>⟨rfl,λx hx=>by cases hx⟩, ?_,by simp[Go.ConcR.mk]⟩
    show X.Wg<_
    exact h.crew.lies.wgl.1
   ·have:=Go.ConcN.phi_mono N (v':=Vc j (upd D i ⟨6,k,0⟩)) (v:=Vc j D) (by simp only[Vc]at*;omega) tag
    simp only[ft,Vc,Ssum]at*
    omega
  ·obtain⟨_,hstep⟩:=hW.cases.resolve_left hRel
   obtain⟨g',w',es,hgo,hws,hn⟩:=hstep w hR
   have hgo':=hgo
   rw[←hgn]at hgo'
   obtain⟨hrm,_,_,_,_,_,hblk⟩:=qm h.crew.lies h.crew.list hi hws
   have hbel:jw X i ((Nd i).next w g' w') (Nd i):=⟨hRel,w,g',w',es,hR,hgo,rfl⟩
   refine fin (D':=D) (Nd':=upd Nd i ((Nd i).next w g' w')) hgo' (h.crew.work hi hg h7 ⟨hfu,hde⟩ hws hn) hrm (hwg.of_block hblk) (λ_ ht _=>hmode.retag ht) (λe=>absurd e nr) (λk hk=> ?_) λf' _=> .inr ⟨rfl,rfl, .inl ⟨i,_,hi,hbel,rfl⟩⟩
   by_cases e:k=i
   ·subst e
    rw[upd_same]
    exact(h.acc k hk).inv hbel
   ·rw[upd_ne Nd _ e]
    exact h.acc k hk
 ·generalize hst:(D i).stage=s at hs h6
  generalize hfu:(D i).fuel=fu at hs
  generalize hde:(D i).deaf=dd at hs
  have hdk:Deaf t (1+m+i)=dd:=by rw[h.crew.deafW i hi,hde]
  have nr:s≠1->tag≠ .ret:=λh=>hmode.not_ret hi (by omega)
  have bookG:∀{g':Goroutine} {w':World} {es:Array Event} {s' m' dd':Nat} {st' sm':Int},stepG X.P false g w= .go g' w' es->Aside X.Wg w w'->WgAt X.ty X.Wg w' st' sm'->(∀e∈es,Bk X.Wg e)->
   (∀jx e,es[jx]?=some e->(MemAct.ofEvent e).touch?=none\/0<deafBehind dd (es.extract 0 jx))->xr X s' m' dd' g' w'->s'<=6->deafBehind dd es=dd'->
   (∀tag',(tag'=tag\/(tag= .blk/\tag'= .w3))->(mayWake X.P g=true->g'.status= .running->tag'≠ .blk)->Go.ConcN.Mode j (upd D i ⟨s',m',dd'⟩) tag' st' sm')->(tag= .ret->uZ X m j (t++MemOp.ofEvents (1+m+i) g.frame.fn g.frame.place es))->
   ((s'<s/\cnt ⟨s',m',dd'⟩<=cnt (D i))\/(s'=s/\m'+1=fu))->∃m₁ ops,runT X.P (crowd gs w sl) (1+m+i)=(.next m₁,ops)/\cZ X.P Post m₁ (t++ops):=by
   intro g' w' es s' m' dd' st' sm' hgo hAs hwg' hbk hd hs' h6' hdd hmode' hacq' hlt
   have e1:=sumTo_upd D (⟨s',m',dd'⟩:WD) cnt hi
   have e2:=sumTo_upd D (⟨s',m',dd'⟩:WD) WD.stage hi
   have e3:=sumTo_upd D (⟨s',m',dd'⟩:WD) WD.fuel hi
   obtain⟨r,hr⟩:=h.crew.rel i hi (by omega)
   refine fin (D':=upd D i ⟨s',m',dd'⟩) (Nd':=Nd) hgo (h.crew.stepW hi (lH hAs) ⟨_,_,hwg'⟩ h6' hs' (λe he=>⟨λfn pos=>II (hbk e he) fn pos,E2 h.crew.lies.wgl.1 (hbk e he),wS (hbk e he) _⟩) (λe he x hx=>JY (hbk e he) hx) (by rw[hde];exact hdd) ⟨r,hr.book hdk _ _ hbk hd⟩ (h.crew.has i hi (by omega)))
    (qn h.crew.lies h.crew.list (lH hAs) ⟨_,_,hwg'⟩).1 hwg' hmode' hacq' h.acc λf' hf=> ?_
   rcases hlt with⟨h1,h2⟩|⟨h1,h2⟩
   ·refine .inl ?_
    have:=Go.ConcN.phi_mono N (v':=Vc j (upd D i ⟨s',m',dd'⟩)) (v:=Vc j D) (by simp only[Vc]at*;omega) tag
    simp only[ft,Vc,Ssum]at*
    omega
   ·have ec:cnt (⟨s',m',dd'⟩:WD)=cnt (D i):=by simp only[cnt,h1,hst]
    have ev:Vc j (upd D i ⟨s',m',dd'⟩)=Vc j D:=by simp only[Vc]at*;omega
    refine .inr ⟨?_,rfl, .inr ⟨rfl, ?_⟩⟩
    ·simp only[ft,ev,Ssum]at*
     omega
    ·simp only[lu,Fsum]at*
     omega
  have book:∀{g':Goroutine} {w':World} {es:Array Event} {s' m' dd':Nat} {st' sm':Int},stepG X.P false g w= .go g' w' es->Aside X.Wg w w'->WgAt X.ty X.Wg w' st' sm'->(∀e∈es,Bk X.Wg e)->
   (∀jx e,es[jx]?=some e->(MemAct.ofEvent e).touch?=none\/0<deafBehind dd (es.extract 0 jx))->xr X s' m' dd' g' w'->s'<=6->deafBehind dd es=dd'->
   Go.ConcN.Mode j (upd D i ⟨s',m',dd'⟩) tag st' sm'->(tag= .ret->uZ X m j (t++MemOp.ofEvents (1+m+i) g.frame.fn g.frame.place es))->
   ((s'<s/\cnt ⟨s',m',dd'⟩<=cnt (D i))\/(s'=s/\m'+1=fu))->∃m₁ ops,runT X.P (crowd gs w sl) (1+m+i)=(.next m₁,ops)/\cZ X.P Post m₁ (t++ops):=
   λhgo hAs hwg' hbk hd hs' h6' hdd hmode' hacq' hlt=>bookG hgo hAs hwg' hbk hd hs' h6' hdd (λ_ ht _=>hmode'.retag ht) hacq' hlt
  have idle:∀{g':Goroutine} {m':Nat},stepG X.P false g w= .go g' w #[]->xr X s m' dd g' w->m'+1=fu->s≠1->∃m₁ ops,runT X.P (crowd gs w sl) (1+m+i)=(.next m₁,ops)/\cZ X.P Post m₁ (t++ops):=by
   intro g' m' hgo hs' hm h1
   exact book hgo (.refl X.Wg w) hwg (by simp) (by simp) hs' h6 rfl (by have:=hmode.same (i:=i) m' dd;rwa [hst]at this) (λe=>absurd e (nr h1)) (.inr ⟨rfl,hm⟩)
  cases hs with
  |r0 _=>exact absurd h6 (by decide)
  |k1 h=>
   rcases Goes.cases h with hstop|⟨m',rfl,hstep⟩
   ·obtain⟨_,g',hgo,m₂,hk⟩:=hstop w (@Go.ConcN.RW.refl cU _ _ _ _ _ _ w)
    exact book hgo (.refl X.Wg w) hwg (by intro e he;simp at he;subst he;exact .inl rfl) (by intro jx e he;exact .inl (by have:=Array.mem_of_getElem? he;simp at this;subst this;rfl)) (.d1 hk) (by omega) rfl
     (hmode.counted hi (by omega) (.inr rfl) _ _) (λe=>absurd e (nr (by omega))) (.inl ⟨by omega,by simp[cnt,hst]⟩)
   ·obtain⟨g',w',es,hgo,⟨rfl,rfl⟩,hg'⟩:=hstep w (@Go.ConcN.RW.refl cU _ _ _ _ _ _ w)
    exact idle hgo (.k1 hg') rfl (by omega)
  |d1 h=>
   rcases Goes.cases h with hstop|⟨m',rfl,hstep⟩
   ·obtain⟨_,hall⟩:=hstop w (@Go.ConcN.RW.refl cU _ _ _ _ _ _ w)
    have hc1:cnt (D i)=1:=by simp[cnt,hst]
    have hV1:1<=Vc j D:=by have:=le_sumTo (f:=λx=>cnt (D x)) hi;simp only[Vc];omega
    have bk2:∀e∈#[rd (stA X.Wg),wr (stA X.Wg)],Bk X.Wg e:=by intro e he;simp at he;rcases he with rfl|rfl<;>exact bk_cell _ _ rfl
    have df2:∀jx e,(#[rd (stA X.Wg),wr (stA X.Wg)]:Array Event)[jx]?=some e->(MemAct.ofEvent e).touch?=none\/0<deafBehind 1 ((#[rd (stA X.Wg),wr (stA X.Wg)]:Array Event).extract 0 jx):=by
     intro jx e he
     match jx,he with
     |0,_=>exact .inr (by simp[deafBehind])
     |1,_=>exact .inr (by simp[deafBehind,rd])
     |jx+2,he=>simp at he
    have hq0:∀q,cnt (⟨1,q,1⟩:WD)=0:=λ_=>rfl
    have opq:∀q,OpenSt j D->OpenSt j (upd D i ⟨1,q,1⟩):=λq h a ha=>by
     by_cases e:a=i
     ·subst e;rw[upd_same];simp
     ·rw[upd_ne D _ e];exact h a ha
    cases hmode with
    |opn h1 h2 h3=>
     obtain⟨v,hv⟩:∃v,Vc j D+pend tag=v+1:=⟨Vc j D+pend tag- 1,by omega⟩
     rw[hv]at hwg
     have hw1:WgAt X.ty X.Wg w (((v:Nat)+1)*KK+((0:Nat):Int)) 0:=by simpa using hwg
     obtain⟨g',hgo,_,hq⟩:=hall v 0 (by omega) (by omega) hw1
     obtain⟨q,hq⟩:=hq (by omega)
     have hv':Vc j (upd D i ⟨1,q,1⟩)+pend tag=v:=by have:=Vc_upd D (⟨1,q,1⟩:WD) hi;have:=hq0 q;omega
     refine book hgo (aside_setCell w (stA X.Wg) _) (hwg.setSt _) bk2 df2 (.quit hq) (by omega) rfl ?_ (λe=>absurd e (nr (by omega))) (.inl ⟨by omega,by simp[cnt]⟩)
     have e:((v:Nat):Int)*KK+((0:Nat):Int)=((Vc j (upd D i ⟨1,q,1⟩)+pend tag:Nat):Int)*KK:=by rw[hv'];simp
     rw[e]
     exact .opn h1 (opq q h2) (λvs ev=>by have:=h3 vs ev;omega)
    |reg h1 h2 h3=>
     obtain⟨v,hv⟩:∃v,Vc j D=v+1:=⟨Vc j D- 1,by omega⟩
     rw[hv]at hwg
     have hp:pend tag=0:=by cases tag<;>first|rfl|exact h1.elim
     have hw1:WgAt X.ty X.Wg w (((v:Nat)+1)*KK+((1:Nat):Int)) 0:=by simpa using hwg
     obtain⟨g',hgo,hl,hq⟩:=hall v 1 (by omega) (by omega) hw1
     by_cases hv0:v=0
     ·subst hv0
      obtain⟨m₂,hk⟩:=hl ⟨rfl,rfl⟩
      refine book hgo (aside_setCell w (stA X.Wg) _) (hwg.setSt _) bk2 df2 (.d2 hk) (by omega) rfl ?_ (λe=>absurd e (nr (by omega))) (.inl ⟨by omega,by simp[cnt]⟩)
      have hoth:∀a,a<j->a≠i->(D a).stage=1:=λa ha e=>by
         have c0:=others_uncounted hi hv hc1 a ha e
         have:=h2 a ha
         simp only[cnt]at c0
         split at c0<;>omega
      have:=Go.ConcN.Mode.last (j:=j) (D:=upd D i ⟨4,m₂,1⟩) (tag:=tag) i h1 hi (by rw[upd_same];simp) (λa ha e=>by rw[upd_ne D _ e];exact hoth a ha e)
      rw[upd_same]at this
      simpa using this
     ·obtain⟨q,hq⟩:=hq (by omega)
      have hv':Vc j (upd D i ⟨1,q,1⟩)=v:=by have:=Vc_upd D (⟨1,q,1⟩:WD) hi;have:=hq0 q;omega
      refine book hgo (aside_setCell w (stA X.Wg) _) (hwg.setSt _) bk2 df2 (.quit hq) (by omega) rfl ?_ (λe=>absurd e (nr (by omega))) (.inl ⟨by omega,by simp[cnt]⟩)
      have e:((v:Nat):Int)*KK+((1:Nat):Int)=((Vc j (upd D i ⟨1,q,1⟩):Nat):Int)*KK+1:=by rw[hv'];simp
      rw[e]
      exact .reg h1 (opq q h2) (by omega)
    |last L _ h2 h3 h4=>
     by_cases e:i=L
     ·subst e;omega
     ·have:=h4 i hi e;omega
    |sema h2=>have:=h2 i hi;omega
    |fin _ h2=>have:=h2 i hi;omega
   ·obtain⟨g',w',es,hgo,⟨rfl,rfl⟩,hg'⟩:=hstep w (@Go.ConcN.RW.refl cU _ _ _ _ _ _ w)
    exact idle hgo (.d1 hg') rfl (by omega)
  |d2 h=>
   rcases Goes.cases h with hstop|⟨m',rfl,hstep⟩
   ·obtain⟨_,hx⟩:=hstop w (@Go.ConcN.RW.refl cU _ _ _ _ _ _ w)
    obtain⟨hW3,hoth,rfl,rfl⟩:=hmode.isLast hi (by omega)
    simp only[hst]at hwg
    obtain⟨g',hgo,m₂,hk⟩:=hx (by simpa using hwg)
    refine book hgo (.refl X.Wg w) hwg (by intro e he;simp at he;subst he;exact bk_cell _ _ rfl) (by intro jx e he;match jx,he with|0,_=>exact .inr (by simp[deafBehind])|jx+1,he=>simp at he) (.d3 hk) (by omega) rfl ?_ (λe=>absurd e (nr (by omega))) (.inl ⟨by omega,by simp[cnt]⟩)
    have:=Go.ConcN.Mode.last (j:=j) (D:=upd D i ⟨3,m₂,1⟩) (tag:=tag) i hW3 hi (by rw[upd_same];simp) (λa ha e=>by rw[upd_ne D _ e];exact hoth a ha e)
    rw[upd_same]at this
    simpa using this
   ·obtain⟨g',w',es,hgo,⟨rfl,rfl⟩,hg'⟩:=hstep w (@Go.ConcN.RW.refl cU _ _ _ _ _ _ w)
    exact idle hgo (.d2 hg') rfl (by omega)
  |d3 h=>
   rcases Goes.cases h with hstop|⟨m',rfl,hstep⟩
   ·obtain⟨_,hx⟩:=hstop w (@Go.ConcN.RW.refl cU _ _ _ _ _ _ w)
    obtain⟨hW3,hoth,rfl,rfl⟩:=hmode.isLast hi (by omega)
    simp only[hst]at hwg
    obtain⟨g',hgo,m₂,hk⟩:=hx (by simpa using hwg)
    refine book hgo (aside_setCell w (stA X.Wg) _) (hwg.setSt 0) (by intro e he;simp at he;subst he;exact bk_cell _ _ rfl) (by intro jx e he;match jx,he with|0,_=>exact .inr (by simp[deafBehind])|jx+1,he=>simp at he) (.d4 hk) (by omega) rfl ?_ (λe=>absurd e (nr (by omega))) (.inl ⟨by omega,by simp[cnt]⟩)
    have:=Go.ConcN.Mode.last (j:=j) (D:=upd D i ⟨2,m₂,1⟩) (tag:=tag) i hW3 hi (by rw[upd_same];simp) (λa ha e=>by rw[upd_ne D _ e];exact hoth a ha e)
    rw[upd_same]at this
    simpa using this
   ·obtain⟨g',w',es,hgo,⟨rfl,rfl⟩,hg'⟩:=hstep w (@Go.ConcN.RW.refl cU _ _ _ _ _ _ w)
    exact idle hgo (.d3 hg') rfl (by omega)
  |d4 h=>
   rcases Goes.cases h with hstop|⟨m',rfl,hstep⟩
   ·obtain⟨_,hmw,hx⟩:=hstop w (@Go.ConcN.RW.refl cU _ _ _ _ _ _ w)
    obtain⟨hW3,hoth,rfl,rfl⟩:=hmode.isLast hi (by omega)
    simp only[hst]at hwg
    obtain⟨g',hgo,q,hq⟩:=hx (by simpa using hwg)
    have hrun':g'.status= .running:=by
     cases q with
     |zero=>exact absurd hq.2 (by decide)
     |succ q=>exact hq.elim (λx=>absurd x.2 (by decide)) (λx=>x.1)
    refine bookG hgo (aside_setCell w (smA X.Wg) _) (hwg.setSm 1) (es:=semEvents (smA X.Wg)) ?_ ?_ (.quit hq) (by omega) (by simp[deafBehind,semEvents]) ?_ (λe=>absurd e (nr (by omega))) (.inl ⟨by omega,by simp[cnt]⟩)
    ·exact Go.ConcN.bk_sem
    ·intro jx e he
     match jx,he with
     |0,he=>simp[semEvents]at he;subst he;exact .inl rfl
     |1,_=>exact .inr (by simp[deafBehind,semEvents])
     |2,_=>exact .inr (by simp[deafBehind,semEvents])
     |3,he=>simp[semEvents]at he;subst he;exact .inl rfl
     |jx+4,he=>simp[semEvents]at he
    ·intro tag' ht hw
     have hnb:=hw hmw hrun'
     have e3:tag'= .w3:=by
      rcases ht with rfl|⟨_,rfl⟩
      ·cases tag'<;>first|rfl|exact hW3.elim|exact absurd rfl hnb
      ·rfl
     subst e3
     simp only[if_true]
     exact .sema λa ha=>by
      by_cases e:a=i
      ·subst e;rw[upd_same]
      ·rw[upd_ne D _ e];exact hoth a ha e
   ·obtain⟨g',w',es,hgo,⟨rfl,rfl⟩,hg'⟩:=hstep w (@Go.ConcN.RW.refl cU _ _ _ _ _ _ w)
    exact idle hgo (.d4 hg') rfl (by omega)
  |quit hqq=>
   cases fu with
   |zero=>rw[hqq.1]at hrun;cases hrun
   |succ k=>
    rcases hqq with⟨hf,_⟩|⟨_,g',es,hmute,hstep,hq⟩
    ·rw[hf]at hrun;cases hrun
    ·have hbk:∀e∈es,Bk X.Wg e:=λe he=>bk_of_mute (hmute e he)
     have hno:∀jx e,es[jx]?=some e->(MemAct.ofEvent e).touch?=none\/0<deafBehind dd (es.extract 0 jx):=λjx e he=> .inl (touch_mute (hmute e (Array.mem_of_getElem? he)))
     refine book (hstep w) (.refl X.Wg w) hwg hbk hno (.quit hq) (by omega) rfl (by have:=hmode.same (i:=i) k (deafBehind dd es);rwa [hst]at this) (λe=>(h.acq e).app λi' r hi' hr=> ?_) (.inr ⟨rfl,rfl⟩)
     by_cases e':i'=i
     ·subst e';exact hr.book hdk _ _ hbk hno
     ·exact hr.appOther bA (by omega)
end
end Go.Proofs.YtkmoglhgkcnalaaDoor
namespace Go.Proofs.YtkmoglhgkcnalaaDoor
open Go Go.Conc
open Go.ConcN (sumTo upd sumTo_upd upd_ne upd_same sumTo_upd_out CT Apart PermW WgLive RelBy WD ShN OkW Ok0 norel_of CTag phi Vc Ssum Fsum cnt pend isOpen isW3 OpenSt AllQuit Vc_upd Vc_le bk_cell bk_dis bk_en bk_rd bk_rw bk_sem allQuit_of)
open Go.ConcR (KK WgAt stA smA rd wr DC0 Bk bk_of_mute ofEvent_loc_mark)
section
variable{X:ap}{Fin Anch:(Nat->Prop)->Goroutine->World->Prop}{N:Nat}{S:Nat->Prop}{m j:Nat}{gs:Array Goroutine}{w w':World}{t:Trace}{D D':Nat->WD}{Nd Nd':Nat->dQ}{V V0:Nat->Prop}{d0:Nat}{q q':Nat->Nat}{tag:CTag}{u f0:Nat}{a:Goroutine}{st sm st' sm':Int}{Post:Value->World->Prop}{sl:Option (Nat×Nat)}
theorem bD.cases{Next:(Nat->Prop)->Goroutine->World->Prop}{f:Nat}{g:Goroutine}(h:bD X Next f V g w):
 (∀w₁,aR X V w w₁->Next V g w₁)\/∃f',f=f'+1/\∃g' w' es,stepG X.P true g w= .go g' w' es/\bB V X.RO w w' es/\bD X Next f' (bp V w w') g' w':=by
 cases f with
 |zero=>exact .inl h
 |succ f=>exact h.imp id λ⟨_,h⟩=>⟨f,rfl,h w (aR.refl X V w)⟩
def IQ(X:ap)(e:Event):Prop:=Bk X.Wg e\/e=Go.ConcR.mk (.acquire (stA X.Wg))\/e=Go.ConcR.mk (.read (smA X.Wg))\/e=Go.ConcR.mk (.write (smA X.Wg))
theorem EQ{Own Rd:Nat->Loc->Prop}{k:Nat}{e:Event}(h:IQ X e)(fn:FuncId)(pos:String):Ok0 (fN S X.Wg) Own Rd k {g:=0,fn,pos,act:= .ofEvent e}:=by
 rcases h with h|rfl|rfl|rfl
 ·exact IJ h fn pos
 ·exact⟨rfl,λx hx=>by cases hx⟩
 ·refine⟨rfl,λx hx=> ?_⟩
  have hx':(MemAct.mark (.read (smA X.Wg))).touch?=some x:=hx
  simp only[MemAct.touch?,Option.some.injEq]at hx'
  subst hx'
  exact .inl ⟨.inl (.inr rfl),by simp⟩
 ·refine⟨rfl,λx hx=> ?_⟩
  have hx':(MemAct.mark (.write (smA X.Wg))).touch?=some x:=hx
  simp only[MemAct.touch?,Option.some.injEq]at hx'
  subst hx'
  exact .inl ⟨.inl (.inr rfl),by simp⟩
theorem H5{B:Nat}(hB:X.Wg<B){e:Event}(h:IQ X e):(MemAct.ofEvent e).low B:=by
 rcases h with h|rfl|rfl|rfl
 ·exact E2 hB h
 ·exact hB
 ·exact hB
 ·exact hB
theorem Cc{e:Event}(h:IQ X e)(b:Addr):e.loc≠ .mark (.release b):=by
 rcases h with h|rfl|rfl|rfl
 ·exact wS h b
 ·simp[Go.ConcR.mk]
 ·simp[Go.ConcR.mk]
 ·simp[Go.ConcR.mk]
theorem xA{e:Event}(h:IQ X e):∀x∈#[e],IQ X x:=λx hx=>by
 simp only[List.mem_toArray,List.mem_singleton]at hx
 subst hx
 exact h
theorem dj.starter(hAn:∀V g w,Anch V g w->∃k,bD X (qa X Fin Anch) k V g w)(hN:N<2147483648)(h:dj X Fin Anch N S m j gs w t D Nd V0 d0 q tag u f0 a st sm)
 (hope:IW X Fin Anch N S m Post j Nd (ft N j D tag u) (lu m j D f0 q)) (hrun:a.status= .running):
 (∃m₁ ops,runT X.P (crowd gs w sl) 0=(.next m₁,ops)/\cZ X.P Post m₁ (t++ops))\/(tag= .ret/\∀w₁,aR X V0 w w₁->Fin V0 a w₁):=by
 have hb:=h.sit.bound
 have hVj:=Vc_le j D
 have hmode:=h.mode
 have hwg:=h.wg
 have hsit:=h.sit
 have hlt0:0<gs.size:=by rw[h.crew.size];omega
 have own:∀{a':Goroutine} {w':World} {es:Array Event} {tag':CTag} {u' f':Nat},stepG X.P true a w= .go a' w' es->bB V0 X.RO w w' es->C3 X Fin Anch N tag' u' j f' d0 (bp V0 w w') a' w'->Go.ConcN.Mode j D tag' st sm->(tag'= .ret->tag= .ret)->
  (2*phi N (Vc j D) tag'+u'<2*phi N (Vc j D) tag+u\/(2*phi N (Vc j D) tag'+u'=2*phi N (Vc j D) tag+u/\f'<f0))->∃m₁ ops,runT X.P (crowd gs w sl) 0=(.next m₁,ops)/\cZ X.P Post m₁ (t++ops):=by
  intro a' w' es tag' u' f' hgo hos hs' hm' hret hlt
  obtain⟨hsees,hlies,hblk⟩:=D7 h.crew.lies h.crew.list hos
  have hdf:deafBehind d0 es=d0:=deafBehind_still (λe he=>⟨(ik (hos.ev e he)).1,(ik (hos.ev e he)).2.1⟩) d0
  have hc:=h.crew.step0 (a:=a) (a':=a') (es:=es) hsees hlies λe he=>⟨λfn pos=>M6 hlies (hos.ev e he) fn pos,Lx (λb hb=>(hlies.v0 b hb).1) (λb hb=>(hlies.ro b hb).1) (hos.ev e he),(ik (hos.ev e he)).2.2 _⟩
  rw[hdf]at hc
  refine⟨_,_,runT_crowd_go (P:=X.P) (sl:=sl) (i:=0) h.at0 (show stepG X.P (0==0) a w=_ from hgo),hope _ _ _ _ _ _ _ _ _ _ _ _ _ _ _ _ ⟨nQ _ _ hlt0,hs',hc,hwg.of_block hblk,hm',λe=>(h.acq (hret e)).app λi r _ hr=>hr.appOther bA (by omega),h.acc⟩ ?_⟩
  rcases hlt with hlt|⟨h1,h2⟩
  ·exact .inl (by simp only[ft];omega)
  ·exact .inr ⟨by simp only[ft];omega,rfl, .inr ⟨rfl,by simp only[lu];omega⟩⟩
 have book:∀{a':Goroutine} {w':World} {es:Array Event} {tag':CTag} {u' f':Nat} {st' sm':Int},stepG X.P true a w= .go a' w' es->Aside X.Wg w w'->WgAt X.ty X.Wg w' st' sm'->(∀e∈es,IQ X e)->C3 X Fin Anch N tag' u' j f' (deafBehind d0 es) V0 a' w'->Go.ConcN.Mode j D tag' st' sm'->
  (tag'= .ret->uZ X m j (t++MemOp.ofEvents 0 a.frame.fn a.frame.place es))->
  (2*phi N (Vc j D) tag'+u'<2*phi N (Vc j D) tag+u\/(2*phi N (Vc j D) tag'+u'=2*phi N (Vc j D) tag+u/\f'<f0))->∃m₁ ops,runT X.P (crowd gs w sl) 0=(.next m₁,ops)/\cZ X.P Post m₁ (t++ops):=by
  intro a' w' es tag' u' f' st' sm' hgo hAs hwg' hwd hs' hm' hacq hlt
  obtain⟨_,h1,h2,h3,h4⟩:=qn h.crew.lies h.crew.list (lH hAs) ⟨_,_,hwg'⟩
  have hsz:w.heap.size<=w'.heap.size:=by rw[hAs.size];exact Nat.le_refl _
  have hlies:=h.crew.lies.grow hsz
  have hc:=h.crew.step0 (a:=a) (a':=a') (es:=es) ⟨h1,h2,h3,h4,hsz⟩ hlies λe he=>⟨λfn pos=>EQ (hwd e he) fn pos,H5 hlies.wgl.1 (hwd e he),Cc (hwd e he) _⟩
  refine⟨_,_,runT_crowd_go (P:=X.P) (sl:=sl) (i:=0) h.at0 (show stepG X.P (0==0) a w=_ from hgo),hope _ _ _ _ _ _ _ _ _ _ _ _ _ _ _ _ ⟨nQ _ _ hlt0,hs',hc,hwg',hm',hacq,h.acc⟩ ?_⟩
  rcases hlt with hlt|⟨h1,h2⟩
  ·exact .inl (by simp only[ft];omega)
  ·exact .inr ⟨by simp only[ft];omega,rfl, .inr ⟨rfl,by simp only[lu];omega⟩⟩
 have wdb:∀{es:Array Event},(∀e∈es,Bk X.Wg e)->∀e∈es,IQ X e:=λh e he=> .inl (h e he)
 have load:∀f1,bD X (qa X Fin Anch) f1 V0 a w->j=N->d0=1->u=0->Go.ConcN.Mode j D .w1 st sm->(tag= .anch\/(tag= .w1/\f1=f0))->∃m₁ ops,runT X.P (crowd gs w sl) 0=(.next m₁,ops)/\cZ X.P Post m₁ (t++ops):=by
  intro f1 hi hj hd hu hm hle
  subst hd hu
  have hphi:2*phi N (Vc j D) .w1+0<2*phi N (Vc j D) tag+0\/(2*phi N (Vc j D) .w1+0=2*phi N (Vc j D) tag+0/\f1=f0):=by
   rcases hle with rfl|⟨rfl,rfl⟩
   ·exact .inl (by simp only[phi];omega)
   ·exact .inr ⟨rfl,rfl⟩
  rcases hi.cases with hstop|⟨f',rfl,a',w',es,hgo,hos,hi'⟩
  ·obtain⟨_,hall⟩:=hstop w (aR.refl X V0 w)
   obtain⟨ho,rfl,rfl,_⟩:=hm.open_inv trivial
   obtain⟨a',hgo,h0,hne⟩:=hall (Vc j D) (by omega) (by simpa[pend]using hwg)
   by_cases hv:Vc j D=0
   ·obtain⟨k,hk⟩:=h0 hv
    refine book hgo (.refl X.Wg w) hwg (wdb bk_rd) (tag':= .ke) (u':=0) (f':=k) ⟨rfl,hj,rfl,hk⟩ ?_ (by simp) (.inl (by simp only[phi]at hphi⊢;omega))
    have e:((Vc j D+pend .w1:Nat):Int)*KK=0:=by rw[hv];simp[pend]
    rw[e]
    exact .fin trivial (allQuit_of ho hv)
   ·obtain⟨k,hk⟩:=hne hv
    exact book hgo (.refl X.Wg w) hwg (wdb bk_rd) (tag':= .w2 (Vc j D)) (u':=0) (f':=k) ⟨rfl,hj,rfl,hk⟩ (hm.reopen trivial trivial rfl (λvs e=>by cases e;omega)) (by simp) (.inl (by simp only[phi]at hphi⊢;omega))
  ·exact own hgo hos (tag':= .w1) (u':=0) (f':=f') ⟨rfl,hj,rfl,hi'⟩ hm (by simp) (by rcases hphi with hphi|⟨h1,h2⟩<;>omega)
 cases tag with
 |sp r s=>
  obtain⟨rfl,hr,hj,hs⟩:=hsit
  rcases hs with⟨rfl,rfl,hi⟩|⟨rfl,rfl,hi⟩|⟨rfl,rfl,hi⟩|⟨rfl,rfl,hi⟩|⟨rfl,rfl,hi⟩
  ·rcases hi.cases with hstop|⟨f',rfl,a',w',es,hgo,hos,hi'⟩
   ·obtain⟨_,a',hgo,k,hk⟩:=hstop w (aR.refl X V0 w)
    exact .inl (book hgo (.refl X.Wg w) hwg (wdb bk_dis) (tag':= .sp r 4) (u':=0) (f':=k) ⟨rfl,hr,hj, .inr (.inl ⟨rfl,rfl,hk⟩)⟩ (hmode.reopen trivial trivial rfl (by simp)) (by simp) (.inl (by simp only[phi];omega)))
   ·exact .inl (own hgo hos (tag':= .sp r 5) (u':=0) (f':=f') ⟨rfl,hr,hj, .inl ⟨rfl,rfl,hi'⟩⟩ hmode (by simp) (.inr ⟨rfl,by omega⟩))
  ·rcases hi.cases with hstop|⟨f',rfl,a',w',es,hgo,hos,hi'⟩
   ·obtain⟨_,hall⟩:=hstop w (aR.refl X V0 w)
    obtain⟨ho,rfl,rfl,_⟩:=hmode.open_inv trivial
    obtain⟨a',hgo,h0,hne⟩:=hall (Vc j D) (by omega) (by simpa[pend]using hwg)
    have e3:(((Vc j D:Nat):Int)+1)*KK=((Vc j D+pend (.sp r 3):Nat):Int)*KK:=by simp[pend]
    have e2:(((Vc j D:Nat):Int)+1)*KK=((Vc j D+pend (.sp r 2):Nat):Int)*KK:=by simp[pend]
    by_cases hv:Vc j D=0
    ·obtain⟨k,hk⟩:=h0 hv
     refine .inl (book hgo (aside_setCell w (stA X.Wg) _) (hwg.setSt _) (wdb bk_rw) (tag':= .sp r 3) (u':=0) (f':=k) ⟨rfl,hr,hj, .inr (.inr (.inl ⟨rfl,rfl,hk⟩))⟩ ?_ (by simp) (.inl (by simp only[phi];omega)))
     rw[e3]
     exact .opn trivial ho (by simp)
    ·obtain⟨k,hk⟩:=hne hv
     refine .inl (book hgo (aside_setCell w (stA X.Wg) _) (hwg.setSt _) (wdb bk_rw) (tag':= .sp r 2) (u':=0) (f':=k) ⟨rfl,hr,hj, .inr (.inr (.inr (.inl ⟨rfl,rfl,hk⟩)))⟩ ?_ (by simp) (.inl (by simp only[phi];omega)))
     rw[e2]
     exact .opn trivial ho (by simp)
   ·exact .inl (own hgo hos (tag':= .sp r 4) (u':=0) (f':=f') ⟨rfl,hr,hj, .inr (.inl ⟨rfl,rfl,hi'⟩)⟩ hmode (by simp) (.inr ⟨rfl,by omega⟩))
  ·rcases hi.cases with hstop|⟨f',rfl,a',w',es,hgo,hos,hi'⟩
   ·obtain⟨_,a',hgo,k,hk⟩:=hstop w (aR.refl X V0 w)
    exact .inl (book hgo (.refl X.Wg w) hwg (xA (.inr (.inr (.inl rfl)))) (tag':= .sp r 2) (u':=0) (f':=k) ⟨rfl,hr,hj, .inr (.inr (.inr (.inl ⟨rfl,rfl,hk⟩)))⟩ (hmode.reopen trivial trivial rfl (by simp)) (by simp) (.inl (by simp only[phi];omega)))
   ·exact .inl (own hgo hos (tag':= .sp r 3) (u':=0) (f':=f') ⟨rfl,hr,hj, .inr (.inr (.inl ⟨rfl,rfl,hi'⟩))⟩ hmode (by simp) (.inr ⟨rfl,by omega⟩))
  ·rcases hi.cases with hstop|⟨f',rfl,a',w',es,hgo,hos,hi'⟩
   ·obtain⟨_,a',hgo,k,hk⟩:=hstop w (aR.refl X V0 w)
    exact .inl (book hgo (.refl X.Wg w) hwg (wdb bk_en) (tag':= .sp r 1) (u':=0) (f':=k) ⟨rfl,hr,hj, .inr (.inr (.inr (.inr ⟨rfl,rfl,hk⟩)))⟩ (hmode.reopen trivial trivial rfl (by simp)) (by simp) (.inl (by simp only[phi];omega)))
   ·exact .inl (own hgo hos (tag':= .sp r 2) (u':=0) (f':=f') ⟨rfl,hr,hj, .inr (.inr (.inr (.inl ⟨rfl,rfl,hi'⟩)))⟩ hmode (by simp) (.inr ⟨rfl,by omega⟩))
  ·rcases hi.cases with hstop|⟨f',rfl,a',w',es,hgo,hos,hi'⟩
   ·obtain⟨_,a',child,Vch,hsp,hsub,hwk,hnext⟩:=hstop w (aR.refl X V0 w)
    obtain⟨ho,rfl,rfl,_⟩:=hmode.open_inv trivial
    have hwork:=hwk h.crew.list λb hb=>(h.crew.lies.v0 b (hsub b hb)).1
    have hrun':=runT_crowd_spawn (P:=X.P) (sl:=sl) (i:=0) h.at0 (show stepG X.P (0==0) a w=_ from hsp)
    rw[h.crew.size]at hrun'
    have hc:=h.crew.spawn (a':=a') (x:={g:=0,fn:=a.frame.fn,pos:=a.frame.place,act:= .go (1+m+j)}) (y:={g:=1+m+j,fn:=child.frame.fn,pos:=a.frame.place,act:= .start}) ⟨rfl,rfl⟩ ⟨rfl,rfl⟩ hsub hwork
    have eV:Vc (j+1) (upd D j ⟨7,0,0⟩)=Vc j D+1:=by
     simp only[Vc,sumTo,upd_same]
     rw[sumTo_upd_out D _ cnt (Nat.le_refl _)];rfl
    have eS:Ssum (j+1) (upd D j ⟨7,0,0⟩)=Ssum j D+7:=by
     simp only[Ssum,sumTo,upd_same]
     rw[sumTo_upd_out D _ WD.stage (Nat.le_refl _)]
    have ho':OpenSt (j+1) (upd D j ⟨7,0,0⟩):=λi hi=>by
     by_cases e:i=j
     ·subst e;rw[upd_same];simp
     ·rw[upd_ne D _ e];exact ho i (by omega)
    have hacc':∀i,i<j+1->Acc (jw X i) (upd Nd j ⟨Vch,child,w⟩ i):=λi hi=>by
     by_cases e:i=j
     ·subst e;rw[upd_same];exact hwork.acc
     ·rw[upd_ne Nd _ e];exact h.acc i (by omega)
    have ha':((gs.setIfInBounds 0 a').push child)[0]?=some a':=by
     rw[Array.getElem?_push,if_neg (by simp only[Array.size_setIfInBounds];omega)]
     simp[hlt0]
    have est:∀tag',pend tag'=0->((Vc j D+pend (.sp r 1):Nat):Int)*KK=((Vc (j+1) (upd D j ⟨7,0,0⟩)+pend tag':Nat):Int)*KK:=λtag' hp=>by rw[eV,hp];simp[pend]
    cases r with
    |zero=>
     obtain⟨k,hk⟩:=hnext
     refine .inl ⟨_,_,hrun',hope (j+1) _ _ _ _ _ _ _ _ _ .kd 0 k a' _ _ ⟨ha',⟨rfl,by omega,rfl,hk⟩,hc,hwg, ?_,by simp,hacc'⟩ (.inl ?_)⟩
     ·rw[est .kd rfl]
      exact .opn trivial ho' (by simp)
     ·simp only[ft,phi,eS]
      omega
    |succ r'=>
     obtain⟨k,hk⟩:=hnext
     have ej:N-(r'+1)=j+1:=by omega
     rw[ej]at hk
     refine .inl ⟨_,_,hrun',hope (j+1) _ _ _ _ _ _ _ _ _ (.sp r' 5) 0 k a' _ _ ⟨ha',⟨rfl,by omega,by omega, .inl ⟨rfl,rfl,hk⟩⟩,hc,hwg, ?_,by simp,hacc'⟩ (.inl ?_)⟩
     ·rw[est (.sp r' 5) rfl]
      exact .opn trivial ho' (by simp)
     ·simp only[ft,phi,eS]
      omega
   ·exact .inl (own hgo hos (tag':= .sp r 1) (u':=0) (f':=f') ⟨rfl,hr,hj, .inr (.inr (.inr (.inr ⟨rfl,rfl,hi'⟩)))⟩ hmode (by simp) (.inr ⟨rfl,by omega⟩))
 |kd=>
  obtain⟨rfl,hj,rfl,hi⟩:=hsit
  rcases hi.cases with hstop|⟨f',rfl,a',w',es,hgo,hos,hi'⟩
  ·obtain⟨_,a',hgo,k,hk⟩:=hstop w (aR.refl X V0 w)
   exact .inl (book hgo (.refl X.Wg w) hwg (wdb bk_dis) (tag':= .anch) (u':=0) (f':=k) ⟨rfl,hj,rfl,hk⟩ (hmode.reopen trivial trivial rfl (by simp)) (by simp) (.inl (by simp only[phi];omega)))
  ·exact .inl (own hgo hos (tag':= .kd) (u':=0) (f':=f') ⟨rfl,hj,rfl,hi'⟩ hmode (by simp) (.inr ⟨rfl,by omega⟩))
 |anch=>
  obtain⟨rfl,hj,rfl,hi⟩:=hsit
  rcases hi.cases with hstop|⟨f',rfl,a',w',es,hgo,hos,hi'⟩
  ·obtain⟨k,hk⟩:=hAn _ _ _ (hstop w (aR.refl X V0 w))
   exact .inl (load k hk hj rfl rfl (hmode.reopen trivial trivial rfl (by simp)) (.inl rfl))
  ·exact .inl (own hgo hos (tag':= .anch) (u':=0) (f':=f') ⟨rfl,hj,rfl,hi'⟩ hmode (by simp) (.inr ⟨rfl,by omega⟩))
 |w1=>
  obtain⟨rfl,hj,rfl,hi⟩:=hsit
  exact .inl (load f0 hi hj rfl rfl hmode (.inr ⟨rfl,rfl⟩))
 |w2 vs=>
  obtain⟨rfl,hj,rfl,hi⟩:=hsit
  rcases hi.cases with hstop|⟨f',rfl,a',w',es,hgo,hos,hi'⟩
  ·obtain⟨_,hall⟩:=hstop w (aR.refl X V0 w)
   obtain⟨ho,rfl,rfl,hw2⟩:=hmode.open_inv trivial
   obtain⟨hle,h1⟩:=hw2 vs rfl
   obtain⟨hhit,hmiss⟩:=hall (Vc j D) (by omega) (by simpa[pend]using hwg)
   by_cases e:Vc j D=vs
   ·obtain⟨a',hgo,k,hk⟩:=hhit e
    exact .inl (book hgo (aside_setCell w (stA X.Wg) _) (hwg.setSt _) (wdb bk_rw) (tag':= .w3) (u':=1) (f':=k) ⟨hj,rfl, .inr ⟨rfl,hk⟩⟩ (.reg trivial ho (by omega)) (by simp) (.inl (by simp only[phi];omega)))
   ·obtain⟨a',hgo,k,hk⟩:=hmiss e
    exact .inl (book hgo (.refl X.Wg w) hwg (wdb bk_rd) (tag':= .anch) (u':=0) (f':=k) ⟨rfl,hj,rfl,hk⟩ (hmode.reopen trivial trivial rfl (by simp)) (by simp) (.inl (by simp only[phi];omega)))
  ·exact .inl (own hgo hos (tag':= .w2 vs) (u':=0) (f':=f') ⟨rfl,hj,rfl,hi'⟩ hmode (by simp) (.inr ⟨rfl,by omega⟩))
 |w3=>
  obtain⟨hj,rfl,hs⟩:=hsit
  rcases hs with⟨rfl,k0,rfl,hi⟩|⟨rfl,hi⟩
  ·rcases hi.cases with hstop|⟨f',rfl,a',w',es,hgo,hos,hi'⟩
   ·obtain⟨_,hoff,hblk,htake⟩:=hstop w (aR.refl X V0 w)
    cases hmode with
    |opn h1 _ _=>exact h1.elim
    |reg h1 h2 h3=>exact .inl (book (hblk ⟨_,hwg⟩) (.refl X.Wg w) hwg (by simp) (tag':= .blk) (u':=0) (f':=0) ⟨rfl,hj,rfl,rfl,a,rfl,hstop⟩ (.reg trivial h2 h3) (by simp) (.inr ⟨rfl,by omega⟩))
    |last L h1 h2 h3 h4=>exact .inl (book (hblk ⟨_,hwg⟩) (.refl X.Wg w) hwg (by simp) (tag':= .blk) (u':=0) (f':=0) ⟨rfl,hj,rfl,rfl,a,rfl,hstop⟩ (.last L trivial h2 h3 h4) (by simp) (.inr ⟨rfl,by omega⟩))
    |sema h2=>
     obtain⟨a',hgo,k,hk⟩:=htake hwg
     exact .inl (book hgo (aside_setCell w (smA X.Wg) _) (hwg.setSm 0) (wdb bk_sem) (tag':= .w4) (u':=0) (f':=k) ⟨rfl,hj,by simp[deafBehind,semEvents],hk⟩ (.fin trivial h2) (by simp) (.inl (by simp only[phi];omega)))
    |fin h1 _=>exact h1.elim
   ·exact .inl (own hgo hos (tag':= .w3) (u':=0) (f':=f'+1) ⟨hj,rfl, .inl ⟨rfl,f',rfl,hi'⟩⟩ hmode (by simp) (.inr ⟨rfl,by omega⟩))
  ·rcases hi.cases with hstop|⟨f',rfl,a',w',es,hgo,hos,hi'⟩
   ·obtain⟨_,a',hgo,k,hk⟩:=hstop w (aR.refl X V0 w)
    exact .inl (book hgo (.refl X.Wg w) hwg (xA (.inr (.inr (.inr rfl)))) (tag':= .w3) (u':=0) (f':=k+1) ⟨hj,rfl, .inl ⟨rfl,k,rfl,hk⟩⟩ hmode (by simp) (.inl (by omega)))
   ·exact .inl (own hgo hos (tag':= .w3) (u':=1) (f':=f') ⟨hj,rfl, .inr ⟨rfl,hi'⟩⟩ hmode (by simp) (.inr ⟨rfl,by omega⟩))
 |blk=>
  obtain⟨_,_,_,_,g0,rfl,_⟩:=hsit
  cases hrun
 |w4=>
  obtain⟨rfl,hj,rfl,hi⟩:=hsit
  rcases hi.cases with hstop|⟨f',rfl,a',w',es,hgo,hos,hi'⟩
  ·obtain⟨_,hx⟩:=hstop w (aR.refl X V0 w)
   obtain⟨hq,rfl,rfl⟩:=hmode.fin_inv trivial
   obtain⟨a',hgo,k,hk⟩:=hx hwg
   exact .inl (book hgo (.refl X.Wg w) hwg (wdb bk_rd) (tag':= .ke) (u':=0) (f':=k) ⟨rfl,hj,rfl,hk⟩ (.fin trivial hq) (by simp) (.inl (by simp only[phi];omega)))
  ·exact .inl (own hgo hos (tag':= .w4) (u':=0) (f':=f') ⟨rfl,hj,rfl,hi'⟩ hmode (by simp) (.inr ⟨rfl,by omega⟩))
 |ke=>
  obtain⟨rfl,hj,rfl,hi⟩:=hsit
  rcases hi.cases with hstop|⟨f',rfl,a',w',es,hgo,hos,hi'⟩
  ·obtain⟨_,a',hgo,k,hk⟩:=hstop w (aR.refl X V0 w)
   obtain⟨hq,rfl,rfl⟩:=hmode.fin_inv trivial
   exact .inl (book hgo (.refl X.Wg w) hwg (wdb bk_en) (tag':= .acq) (u':=0) (f':=k) ⟨rfl,hj,rfl,hk⟩ (.fin trivial hq) (by simp) (.inl (by simp only[phi];omega)))
  ·exact .inl (own hgo hos (tag':= .ke) (u':=0) (f':=f') ⟨rfl,hj,rfl,hi'⟩ hmode (by simp) (.inr ⟨rfl,by omega⟩))
 |acq=>
  obtain⟨rfl,hj,rfl,hi⟩:=hsit
  rcases hi.cases with hstop|⟨f',rfl,a',w',es,hgo,hos,hi'⟩
  ·obtain⟨_,a',hgo,k,hk⟩:=hstop w (aR.refl X V0 w)
   obtain⟨hq,rfl,rfl⟩:=hmode.fin_inv trivial
   refine .inl (book hgo (.refl X.Wg w) hwg (xA (.inr (.inl rfl))) (tag':= .ret) (u':=0) (f':=k) ⟨rfl,hj,rfl,hk⟩ (.fin trivial hq) (λ_=> ?_) (.inl (by simp only[phi];omega)))
   have e1:MemOp.ofEvents 0 a.frame.fn a.frame.place #[Go.ConcR.mk (.acquire (stA X.Wg))]=#[{g:=0,fn:=a.frame.fn,pos:=a.frame.place,act:= .mark (.acquire (stA X.Wg))}]:=by rw[ofEvents_eq];simp[Go.ConcR.ofEvent_mk]
   have hy:(t++#[({g:=0,fn:=a.frame.fn,pos:=a.frame.place,act:= .mark (.acquire (stA X.Wg))}:MemOp)])[t.size]?=some {g:=0,fn:=a.frame.fn,pos:=a.frame.place,act:= .mark (.acquire (stA X.Wg))}:=by simp
   refine⟨t.size,by rw[e1,act?_of hy],by rw[e1];simp[Trace.g?],by rw[e1];exact⟨0,by simp[Trace.g?],by rw[deaf_old (Nat.le_refl _)];exact h.crew.deaf0⟩,λi hi=> ?_⟩
   obtain⟨r,hr⟩:=h.crew.rel i hi (by rw[hq i hi];omega)
   exact⟨r,hr.appOther bA (by omega),lt_of_act? hr.act⟩
  ·exact .inl (own hgo hos (tag':= .acq) (u':=0) (f':=f') ⟨rfl,hj,rfl,hi'⟩ hmode (by simp) (.inr ⟨rfl,by omega⟩))
 |ret=>
  obtain⟨rfl,hj,rfl,hi⟩:=hsit
  rcases hi.cases with hstop|⟨f',rfl,a',w',es,hgo,hos,hi'⟩
  ·exact .inr ⟨rfl,hstop⟩
  ·exact .inl (own hgo hos (tag':= .ret) (u':=0) (f':=f') ⟨rfl,hj,rfl,hi'⟩ hmode (by simp) (.inr ⟨rfl,by omega⟩))
end
end Go.Proofs.YtkmoglhgkcnalaaDoor
namespace Go.Proofs.YtkmoglhgkcnalaaDoor
open Go Go.Conc
open Go.ConcN (sumTo upd sumTo_upd upd_ne upd_same sumTo_upd_out CT Apart PermW WgLive RelBy WD ShN OkW Ok0 norel_of CTag phi Vc Ssum Fsum cnt pend isOpen isW3 OpenSt AllQuit Vc_upd Vc_le)
open Go.ConcR (KK WgAt stA smA rd wr DC0 Bk)
section
variable{X:ap}{Fin Anch:(Nat->Prop)->Goroutine->World->Prop}{N:Nat}{S:Nat->Prop}{m j:Nat}{gs:Array Goroutine}{w w':World}{t:Trace}{D D':Nat->WD}{Nd Nd':Nat->dQ}{V V0:Nat->Prop}{d0:Nat}{q q':Nat->Nat}{tag:CTag}{u f0:Nat}{a:Goroutine}{st sm st' sm':Int}{Post:Value->World->Prop}{sl:Option (Nat×Nat)}
theorem ie.status(h:ie X S m j gs w t D Nd V0 d0 q){i:Nat}(hi:i<j):∃g,gs[1+m+i]?=some g/\(g.status= .running\/(g.status= .finished/\(D i).stage=1)):=by
 letI:Go.ConcR.Payload:=cU
 obtain⟨g,hg,hs⟩:=h.wk i hi
 refine⟨g,hg, ?_⟩
 rcases hs with⟨_,_,_,rfl,hW,_⟩|⟨_,hs⟩
 ·exact .inl hW.running
 ·by_cases h1:(D i).stage=1
  ·exact(Go.ConcN.WSit.status hs).imp id λx=>⟨x,h1⟩
  ·exact .inl (Go.ConcN.WSit.running_of hs h1)
theorem dj.someone(hF:∀V g w,Fin V g w->g.status= .running)(hA:∀V g w,Anch V g w->g.status= .running)(h:dj X Fin Anch N S m j gs w t D Nd V0 d0 q tag u f0 a st sm):∃(i:Nat) (g:Goroutine),gs[i]?=some g/\g.status= .running:=by
 letI:Go.ConcR.Payload:=cU
 rcases h.sit.status hF hA with⟨hs,_⟩|⟨_,rfl⟩
 ·exact⟨0,a,h.at0,hs⟩
 ·cases h.mode with
  |opn h1 _ _=>exact h1.elim
  |reg _ _ h3=>
   obtain⟨i,hi,h5⟩:=Go.ConcN.exists_counted h3
   obtain⟨g,hg,hs⟩:=h.crew.status hi
   exact⟨_,g,hg,hs.resolve_right λx=>by omega⟩
  |last L _ h2 h3 _=>
   obtain⟨g,hg,hs⟩:=h.crew.status h2
   exact⟨_,g,hg,hs.resolve_right λx=>by omega⟩
  |fin h1 _=>exact h1.elim
theorem dj.awake(hF:∀V g w,Fin V g w->g.status= .running)(hA:∀V g w,Anch V g w->g.status= .running)(h:dj X Fin Anch N S m j gs w t D Nd V0 d0 q tag u f0 a st sm):∀g∈gs,Conc.awake g:=by
 intro g hg
 obtain⟨i,hi⟩:=Array.mem_iff_getElem?.1 hg
 have hlt:i<1+m+j:=by have:=(gA hi).1;rw[h.crew.size]at this;exact this
 by_cases h0:i=0
 ·subst h0
  rw[h.at0]at hi
  cases hi
  rcases h.sit.status hF hA with⟨hs,_⟩|⟨hs,_⟩
  ·exact awake_of (.inl hs)
  ·exact awake_of (.inr (.inl hs))
 ·by_cases hm:i<=m
  ·obtain⟨x,hx,hq⟩:=h.crew.old i (by omega) hm
   rw[hi]at hx
   cases hx
   exact awake_of (hq.status.elim .inl λx=> .inr (.inr x))
  ·obtain⟨k,rfl⟩:∃k,i=1+m+k:=⟨i-(1+m),by omega⟩
   obtain⟨x,hx,hs⟩:=h.crew.status (i:=k) (by omega)
   rw[hi]at hx
   cases hx
   exact awake_of (hs.elim .inl λx=> .inr (.inr x.1))
theorem dj.step(hF:∀V g w,Fin V g w->g.status= .running)(hA:∀V g w,Anch V g w->g.status= .running)(hAn:∀V g w,Anch V g w->∃k,bD X (qa X Fin Anch) k V g w)(hN:N<2147483648)
 (hfin:∀gs w sl t D Nd V0 q f0 a,dj X Fin Anch N S m N gs w t D Nd V0 0 q .ret 0 f0 a 0 0->(∀w₁,aR X V0 w w₁->Fin V0 a w₁)->cZ X.P Post (crowd gs w sl) t)
 (h:dj X Fin Anch N S m j gs w t D Nd V0 d0 q tag u f0 a st sm) (hope:IW X Fin Anch N S m Post j Nd (ft N j D tag u) (lu m j D f0 q)):cZ X.P Post (crowd gs w sl) t:=by
 obtain⟨i,g,d,sl',hi,hrun,hst⟩:=crowd_pick (P:=X.P) (w:=w) (sl:=sl) (h.awake hF hA) (h.someone hF hA)
 have hlt:i<1+m+j:=by have:=(gA hi).1;rw[h.crew.size]at this;exact this
 have hd:=h.at d
 by_cases h0:i=0
 ·subst h0
  rw[h.at0]at hi
  cases hi
  rcases hd.starter (sl:=sl') hAn hN hope hrun with⟨m₁,ops,h1,h2⟩|⟨rfl,hstop⟩
  ·exact cZ.next (hst.trans h1) h2
  ·obtain⟨rfl,hj,rfl,_⟩:=h.sit
   obtain⟨_,rfl,rfl⟩:=h.mode.fin_inv trivial
   subst hj
   exact hfin _ _ _ _ _ _ _ _ _ _ h λw₁ h₁=>hstop w₁ ⟨⟨h₁.own.keep,h₁.own.size,h₁.own.os,h₁.own.output,h₁.own.tape⟩,h₁.live⟩
 ·by_cases hm:i<=m
  ·obtain⟨x,hx,hq⟩:=hd.crew.old i (by omega) hm
   rw[hi]at hx
   cases hx
   have hib:(i==0)=false:=by simpa using h0
   cases hqi:q i with
   |zero=>rw[hqi]at hq;rw[hq.1]at hrun;cases hrun
   |succ k=>
    rw[hqi]at hq
    rcases hq with⟨hf,_⟩|⟨_,g',es,hmu,hstp,hq'⟩
    ·rw[hf]at hrun;cases hrun
    ·have hrunT:=runT_crowd_go (P:=X.P) (sl:=sl') (i:=i) hi (by rw[hib];exact hstp (w.at d))
     have hc:=hd.crew.oldStep (i:=i) (k:=k) (by omega) hm (g:=g) hmu hq'
     obtain⟨tag',f',a',hS,hf',hphi⟩:=hd.other hF hA (k:=i) (by omega) hc (aR.refl X V0 _) hd.wg (λ_ ht _=>hd.mode.retag ht) (λe=>(hd.acq e).app λi' r _ hr=>hr.appOther bA (by omega)) hd.acc
     refine cZ.next (hst.trans hrunT) (hope _ _ _ _ _ _ _ _ _ _ _ _ _ _ _ _ hS (.inr ⟨by simp only[ft,hphi],rfl, .inr ⟨rfl, ?_⟩⟩))
     have hs:sumTo (m+1) (upd q i k)+q i=sumTo (m+1) q+k:=sumTo_upd q k id (by omega)
     simp only[lu]
     omega
  ·obtain⟨k,rfl⟩:∃k,i=1+m+k:=⟨i-(1+m),by omega⟩
   obtain⟨m₁,ops,h1,h2⟩:=hd.worker (sl:=sl') hF hA hN hope (i:=k) (by omega) hi hrun
   exact cZ.next (hst.trans h1) h2
def EH(X:ap)(y x:Nat×dQ):Prop:=y.1=x.1/\jw X x.1 y.2 x.2
theorem zc{i:Nat}{x:dQ}(h:Acc (jw X i) x):Acc (EH X) (i,x):=by
 induction h with
 |intro x _ ih=>
  refine⟨_,λy hy=> ?_⟩
  obtain⟨k,y⟩:=y
  obtain⟨h1,h2⟩:=hy
  have h1':k=i:=h1
  subst h1'
  exact ih y h2
theorem BL(hF:∀V g w,Fin V g w->g.status= .running)(hA:∀V g w,Anch V g w->g.status= .running)(hAn:∀V g w,Anch V g w->∃k,bD X (qa X Fin Anch) k V g w)(hN:N<2147483648)
 (hfin:∀gs w sl t D Nd V0 q f0 a,dj X Fin Anch N S m N gs w t D Nd V0 0 q .ret 0 f0 a 0 0->(∀w₁,aR X V0 w w₁->Fin V0 a w₁)->cZ X.P Post (crowd gs w sl) t):
 ∀(r1 j:Nat) (gs:Array Goroutine) (w:World) (sl:Option (Nat×Nat)) (t:Trace) (D:Nat->WD) (Nd:Nat->dQ) (V0:Nat->Prop) (d0:Nat) (q:Nat->Nat) (tag:CTag) (u f0:Nat) (a:Goroutine) (st sm:Int),
  ft N j D tag u=r1->dj X Fin Anch N S m j gs w t D Nd V0 d0 q tag u f0 a st sm->cZ X.P Post (crowd gs w sl) t:=by
 intro r1
 induction r1 using Nat.strongRecOn with
 |ind r1 ih1=>
  have key:∀(j:Nat) (F:Nat->Nat×dQ),Acc (zu (EH X) j) F->∀(r3:Nat) (gs:Array Goroutine) (w:World) (sl:Option (Nat×Nat)) (t:Trace) (D:Nat->WD) (Nd:Nat->dQ) (V0:Nat->Prop) (d0:Nat) (q:Nat->Nat) (tag:CTag) (u f0:Nat) (a:Goroutine) (st sm:Int),
   F=(λi=>(i,Nd i))->ft N j D tag u=r1->lu m j D f0 q=r3->dj X Fin Anch N S m j gs w t D Nd V0 d0 q tag u f0 a st sm->cZ X.P Post (crowd gs w sl) t:=by
   intro j F hacc
   induction hacc with
   |intro F _ ih2=>
    intro r3
    induction r3 using Nat.strongRecOn with
    |ind r3 ih3=>
     intro gs w sl t D Nd V0 d0 q tag u f0 a st sm hF' e1 e3 h
     refine h.step hF hA hAn hN hfin λj' gs' w' sl' t' D' Nd' V0' d0' q' tag' u' f' a' st' sm' h' hlow=> ?_
     rcases hlow with hlow|⟨h1,rfl,hlow⟩
     ·exact ih1 _ (by omega) _ _ _ _ _ _ _ _ _ _ _ _ _ _ _ _ rfl h'
     ·rcases hlow with⟨i,x,hi,hx,rfl⟩|⟨rfl,hlow⟩
      ·refine ih2 (λk=>(k,upd Nd i x k)) ⟨i,(i,x),hi, ?_, ?_⟩ _ _ _ _ _ _ _ _ _ _ _ _ _ _ _ _ rfl (h1.trans e1) rfl h'
       ·rw[hF']
        exact⟨rfl,hx⟩
       ·rw[hF']
        funext k
        by_cases e:k=i
        ·subst e;rw[upd_same,upd_same]
        ·rw[upd_ne _ _ e,upd_ne _ _ e]
      ·exact ih3 _ (by omega) _ _ _ _ _ _ _ _ _ _ _ _ _ _ _ hF' (h1.trans e1) rfl h'
  intro j gs w sl t D Nd V0 d0 q tag u f0 a st sm e1 h
  exact key j (λi=>(i,Nd i)) (oK j _ λi hi=>zc (h.acc i hi)) _ _ _ _ _ _ _ _ _ _ _ _ _ _ _ _ rfl e1 rfl h
end
end Go.Proofs.YtkmoglhgkcnalaaDoor
namespace Go.Proofs.YtkmoglhgkcnalaaDoor
open Go Go.Conc
open Go.ConcN (sumTo upd sumTo_upd upd_ne upd_same CT Apart PermW WgLive RelBy WD CTag AllQuit)
open Go.ConcR (KK WgAt stA smA rd wr DC0 Bk)
section
variable{X:ap}{Fin Anch:(Nat->Prop)->Goroutine->World->Prop}{N:Nat}{S:Nat->Prop}{m:Nat}{gs:Array Goroutine}{w:World}{t:Trace}{D:Nat->WD}{Nd:Nat->dQ}{V0:Nat->Prop}{q:Nat->Nat}{f0:Nat}{a:Goroutine}
def Fa(S:Nat->Prop)(Wg b:Nat):Prop:=S b\/b=Wg
def leaving(m:Nat)(D:Nat->WD)(q:Nat->Nat)(i:Nat):Nat:=if i<=m then q i else(D (i-(1+m))).fuel
theorem dj.over(h:dj X Fin Anch N S m N gs w t D Nd V0 0 q .ret 0 f0 a 0 0):t.HandedOver:=by
 obtain⟨k,h1,h2,h3,h4⟩:=h.acq rfl
 intro i g hg hne hc
 by_cases hm:g<=m
 ·exact h.crew.over i g hg hne hm hc
 ·have hle:g<=m+N:=by
   unfold Trace.g? at hg
   obtain⟨op,ho,rfl⟩:=Option.map_eq_some_iff.1 hg
   exact h.crew.ct.gs i op ho
  obtain⟨r,hr,hrk⟩:=h4 (g-(1+m)) (by omega)
  rw[show 1+m+(g-(1+m))=g from by omega]at hr
  have edge:HappensBefore t r k:= .single (.inr ⟨.marked hrk (.inr hr.act) h1 (λk _ _=>h.crew.norel k),hr.heard,h3⟩)
  have hle:i<=r:=Nat.le_of_not_lt λhlt=>hr.after i hlt hg hc
  rcases Nat.lt_or_ge i r with hlt|hge
  ·exact⟨k,h2, .trans (.single (.inl ⟨hlt,g,hg,hr.g⟩)) edge⟩
  ·obtain rfl:i=r:=by omega
   exact⟨k,h2,edge⟩
theorem dj.past(h:dj X Fin Anch N S m N gs w t D Nd V0 0 q .ret 0 f0 a 0 0):Past (eh (Fa S X.Wg)) w.heap.size t:=by
 refine⟨h.crew.ct.nr,λi x hx hmem=> ?_,h.over,h.crew.deaf0,h.crew.seen⟩
 obtain⟨op,ho,hox⟩:=touch_of hx
 have hg:t.g? i=some op.g:=by unfold Trace.g?;rw[ho];rfl
 by_cases hm:op.g<=m
 ·exact h.crew.known i x op.g hx hg hm hmem
 ·by_cases hc:t.counts i
  ·obtain⟨k,h1,h2⟩:=h.over i op.g hg (by omega) hc
   unfold Trace.g? at h1
   obtain⟨y,hy,hy0⟩:=Option.map_eq_some_iff.1 h1
   exact .inl ⟨k,y,hy,hy0, .inr h2⟩
  ·have hat:x.kind= .atomic:=by
    cases hk:x.kind with
    |atomic=>rfl
    |plain=>exact absurd ⟨x,hx,hmem, .inl (by rw[hk];simp)⟩ hc
    |said=>exact absurd ⟨x,hx,hmem, .inl (by rw[hk];simp)⟩ hc
   exact .inr ⟨h.crew.atom i x op.g hx hg (by omega) hat,hat⟩
theorem dj.leavers(h:dj X Fin Anch N S m N gs w t D Nd V0 0 q .ret 0 f0 a 0 0):Leavers X.P t gs (leaving m D q):=by
 letI:Go.ConcR.Payload:=cU
 obtain⟨hq,_,_⟩:=h.mode.fin_inv trivial
 refine⟨λi g hi hg=> ?_,λj hj=> ?_⟩
 ·have hlt:i<1+m+N:=by have:=(gA hg).1;rw[h.crew.size]at this;exact this
  unfold leaving
  by_cases hm:i<=m
  ·rw[if_pos hm]
   obtain⟨x,hx,hqx⟩:=h.crew.old i hi hm
   rw[hg]at hx
   cases hx
   exact hqx
  ·rw[if_neg hm]
   obtain⟨k,rfl⟩:∃k,i=1+m+k:=⟨i-(1+m),by omega⟩
   have hk:k<N:=by omega
   rw[show 1+m+k-(1+m)=k from by omega,h.crew.deafW k hk]
   obtain⟨x,hx,hs⟩:=h.crew.wk k hk
   rw[hg]at hx
   cases hx
   have h1:=hq k hk
   rcases hs with⟨h7,_⟩|⟨_,hs⟩
   ·omega
   ·exact Go.ConcN.WSit.quits hs h1
 ·rw[h.crew.size]at hj
  exact Go.ConcN.Deaf_absent λi op hi e=>by have:=h.crew.ct.gs i op hi;omega
end
section
variable{X:ap}{S:Nat->Prop}{Next:(Nat->Prop)->Goroutine->World->Prop}{Post:Value->World->Prop}
theorem FK{V RO:Nat->Prop}{B:Nat}(hv:∀b,V b->b<B/\¬S b)(hr:∀b,RO b->b<B/\¬S b){e:Event}(he:eR V RO e):EvL (eh S) B e:=by
 refine⟨λx hx hs=> ?_,(ik he).1,(ik he).2.1,Lx (λb hb=>(hv b hb).1) (λb hb=>(hr b hb).1) he⟩
 exfalso
 obtain⟨loc,wr,sy⟩:=e
 cases loc with
 |cell a=>
  obtain⟨rfl,h⟩:=he
  have hx':(MemAct.access ⟨.cell a,wr,false⟩).touch?=some x:=hx
  simp only[MemAct.touch?,Option.some.injEq]at hx'
  subst hx'
  have hs':S a.block:=hs.elim id λh=>by cases h
  rcases h with h|⟨h,_⟩
  ·exact(hv _ h).2 hs'
  ·exact(hr _ h).2 hs'
 |obj r=>
  obtain⟨rfl,h⟩:=he
  simp only[MemAct.ofEvent,MemAct.touch?,Option.some.injEq]at hx
  subst hx
  have hs':S r:=hs.elim id λh=>by cases h
  exact(hv _ h).2 hs'
 |mark mm=>
  have hm:ep mm=true:=he
  cases mm with
  |extern f=>cases hx
  |noRoom=>cases hx
  |_=>simp[ep]at hm
 |output=>exact he.elim
 |goroutines=>exact he.elim
structure nc (P:Program) (S V RO:Nat->Prop) (gs:Array Goroutine) (w:World) (t:Trace) (q:Nat->Nat) (a:Goroutine):Prop where
 at0:gs[0]?=some a
 leave:Leavers P t gs q
 past:Past (eh S) w.heap.size t
 quiet:Quiet (eh S) t
 who:∀op∈t,op.g<gs.size
 low:∀b,S b->b<w.heap.size
 own:∀b,V b->b<w.heap.size/\¬S b
 ro:∀b,RO b->b<w.heap.size/\¬S b
theorem Bc(hN:∀V g w,Next V g w->g.status= .running)
 (hnext:∀V gs w sl t q a,nc X.P S V X.RO gs w t q a->(∀w₁,aR X V w w₁->Next V a w₁)->cZ X.P Post (crowd gs w sl) t):
 ∀(k:Nat) (V:Nat->Prop) (gs:Array Goroutine) (w:World) (sl:Option (Nat×Nat)) (t:Trace) (q:Nat->Nat) (a:Goroutine),nc X.P S V X.RO gs w t q a->bD X Next k V a w->cZ X.P Post (crowd gs w sl) t:=by
 intro k
 induction k with
 |zero=>exact λV gs w sl t q a hB hI=>hnext V gs w sl t q a hB hI
 |succ k ih=>
  intro V gs w sl t q a hB hI
  have hrun:=hI.running hN
  rcases hI with hI|⟨_,hI⟩
  ·exact hnext V gs w sl t q a hB hI
  ·refine He hrun w _ gs w.drawn sl t q (Nat.le_refl _) hB.at0 hB.leave hB.past hB.quiet hB.who ?_
   intro gs' d0 sl0 d sl' t' q' h0 hL hP hQ hW hst
   have hlt:0<gs'.size:=(gA h0).1
   obtain⟨g',w',es,hgo,hos,hI'⟩:=hI (w.at d) (aR.at X V w d)
   have hsz:w.heap.size<=w'.heap.size:=hos.size
   have hown:∀b,bp V (w.at d) w' b->b<w'.heap.size/\¬S b:=λb hb=>by
    rcases hb with hb|hb
    ·exact⟨Nat.lt_of_lt_of_le (hB.own b hb).1 hsz,(hB.own b hb).2⟩
    ·refine⟨hb.2,λhs=> ?_⟩
     have h1:=hB.low b hs
     have h2:w.heap.size<=b:=hb.1
     omega
   have hro:∀b,X.RO b->b<w'.heap.size/\¬S b:=λb hb=>⟨Nat.lt_of_lt_of_le (hB.ro b hb).1 hsz,(hB.ro b hb).2⟩
   have hevs:∀e∈es,EvL (eh S) w'.heap.size e:=λe he=>FK hown hro (hos.ev e he)
   have hrunT:=runT_crowd_go (P:=X.P) (sl:=sl') (i:=0) h0 (show stepG X.P (0==0) a (w.at d)=_ from hgo)
   refine cZ.next (hst.trans hrunT) (ih (bp V (w.at d) w') _ w' sl' _ q' g' ?_ hI')
   exact
    {at0:=by simp[hlt]
     leave:=nO hL a g' w' _ _ es hlt
     past:=(hP.mono hsz).own hevs
     quiet:=hQ.app λop hop x hx hs=>by
        obtain⟨e,he,rfl⟩:=Go.Conc.mem_ofEvents hop
        exact⟨(hevs e he).1 x hx hs,λ_=>rfl⟩
     who:=λop hop=>by
        rw[Array.size_setIfInBounds,Array.size_map]
        rcases Array.mem_append.1 hop with hop|hop
        ·exact hW op hop
        ·rw[bA op hop]
         exact hlt
     low:=λb hb=>Nat.lt_of_lt_of_le (hB.low b hb) hsz
     own:=hown
     ro:=hro}
theorem nc.crew{V:Nat->Prop}{m:Nat}{gs:Array Goroutine}{w:World}{t:Trace}{q:Nat->Nat}{a:Goroutine}{Nd:Nat->dQ}{D:Nat->WD}{V0:Nat->Prop}(hB:nc X.P S V (λ_=>False) gs w t q a)(hm:gs.size=1+m)(hL:ic X S 0 Nd V0 w)
 (hnew:∀op∈t,op.act.low X.Wg) (htab:X.RO 0) (hlist:X.list w):ie X S m 0 gs w t D Nd V0 0 q:=by
 have hknown:∀i x,touchAt t i=some x->¬fN S X.Wg x.loc->Knows t 0 i:=λi x hx hs=>by
  have hmem:x.loc.isMemory=true:=by
   cases h:x.loc.isMemory with
   |true=>rfl
   |false=>exact absurd (.inr h) hs
  rcases hB.past.known i x hx hmem with h|⟨h,_⟩
  ·exact h
  ·refine absurd ?_ hs
   rcases h with h|h
   ·left
    cases hl:x.loc with
    |cell a=>rw[hl]at h;exact Or.inl h
    |obj r=>rw[hl]at h;exact Or.inl h
    |_=>rw[hl]at h;exact h.elim
   ·exact .inr h
 have hsub:∀l,eh S l->fN S X.Wg l:=λl h=>by
  rcases h with h|h
  ·left
   cases l with
   |cell a=>exact Or.inl h
   |obj r=>exact Or.inl h
   |_=>exact h.elim
  ·exact .inr h
 exact
  {size:=by rw[hm];omega
   old:=λi h0 hi=>by
    have hlt:i<gs.size:=by omega
    exact⟨gs[i],Array.getElem?_eq_getElem hlt,hB.leave.old i _ h0 (Array.getElem?_eq_getElem hlt)⟩
   wk:=λi hi=>absurd hi (Nat.not_lt_zero i)
   lies:=hL
   tabRO:=htab
   ct:=
    {quiet:=λi op x hi hx hs=>by
       have hlow:=oU hnew (i:=i) (a:=x) (by rw[touchAt_of hi];exact hx)
       rcases hs with hs|hs
       ·have:cV S x.loc:=by
         cases hl:x.loc with
         |cell a=>
          rw[hl]at hs hlow
          rcases hs with hs|hs
          ·exact hs
          ·have:a.block<X.Wg:=hlow
           omega
         |obj r=>
          rw[hl]at hs hlow
          rcases hs with hs|hs
          ·exact hs
          ·have:r<X.Wg:=hlow
           omega
         |_=>rw[hl]at hs;exact hs.elim
        exact hB.quiet i op x hi hx (.inl this)
       ·exact hB.quiet i op x hi hx (.inr hs)
     own:=λk _ _ l ⟨i,hi,_⟩=>absurd hi (Nat.not_lt_zero i)
     rd:=λk _ hk l ⟨h1,_⟩=>absurd h1 (by omega)
     free:=λl hs _ i x hx e=>hknown i x hx (by rw[e];exact hs)
     mine:=λl hs _ i x hx e _=>hknown i x hx (by rw[e];exact hs)
     nr:=hB.past.clean
     gs:=λi op hi=>by
       have:=hB.who op (Array.mem_of_getElem? hi)
       omega}
   norel:=λi hi=>by
    unfold Trace.act? at hi
    obtain⟨op,ho,hoa⟩:=Option.map_eq_some_iff.1 hi
    have:=hnew op (Array.mem_of_getElem? ho)
    rw[hoa]at this
    exact absurd this (Nat.lt_irrefl _)
   deaf0:=hB.past.hears
   deafW:=λi hi=>absurd hi (Nat.not_lt_zero i)
   rel:=λi hi=>absurd hi (Nat.not_lt_zero i)
   has:=λi hi=>absurd hi (Nat.not_lt_zero i)
   list:=hlist
   seen:=hB.past.seen
   over:=λi g hg h0 _ hc=>hB.past.over i g hg h0 hc
   known:=λi x g hx _ _ hmem=>(hB.past.known i x hx hmem).imp id λh=>⟨hsub _ h.1,h.2⟩
   atom:=λi x g hx hg hm'=>by
    unfold Trace.g? at hg
    obtain⟨op,ho,rfl⟩:=Option.map_eq_some_iff.1 hg
    have:=hB.who op (Array.mem_of_getElem? ho)
    omega}
end
section
variable{X:ap}{S:Nat->Prop}{Fin Anch:(Nat->Prop)->Goroutine->World->Prop}{N:Nat}{Post:Value->World->Prop}
theorem xT(hF:∀V g w,Fin V g w->g.status= .running)(hA:∀V g w,Anch V g w->g.status= .running)(hAn:∀V g w,Anch V g w->∃k,bD X (qa X Fin Anch) k V g w)(hN:N<2147483648)(hN0:0<N)
 (hfin:∀m gs w sl t D Nd V0 q f0 a,dj X Fin Anch N S m N gs w t D Nd V0 0 q .ret 0 f0 a 0 0->(∀w₁,aR X V0 w w₁->Fin V0 a w₁)->cZ X.P Post (crowd gs w sl) t)
 {V V0:Nat->Prop} {gs:Array Goroutine} {w w':World} {sl:Option (Nat×Nat)} {t:Trace} {q:Nat->Nat} {a a':Goroutine} (hB:nc X.P S V (λ_=>False) gs w t q a) (hrun:a.status= .running) (hWg:X.Wg=w.heap.size)
 (hgo:∀d,stepG X.P true a (w.at d)= .go a' (w'.at d) #[]) (hsz:w.heap.size<=w'.heap.size) (hL:ic X S 0 (λ_=>⟨λ_=>False,a,w⟩) V0 w') (hwg:WgAt X.ty X.Wg w' 0 0) (htab:X.RO 0) (hlist:X.list w') (hsp:ju X Anch N N V0 a' w'):
 cZ X.P Post (crowd gs w sl) t:=by
 refine He hrun w _ gs w.drawn sl t q (Nat.le_refl _) hB.at0 hB.leave hB.past hB.quiet hB.who ?_
 intro gs' d0 sl0 d sl' t' q' h0 hLv hP hQ hW hst
 have hlt:0<gs'.size:=(gA h0).1
 have hrunT:=runT_crowd_go (P:=X.P) (sl:=sl') (i:=0) h0 (show stepG X.P (0==0) a (w.at d)=_ from hgo d)
 have e0:MemOp.ofEvents 0 a.frame.fn a.frame.place #[]=#[]:=by rw[ofEvents_eq];simp
 rw[e0]at hrunT
 have hlv:=nO hLv a a' (w'.at d) a.frame.fn a.frame.place #[] hlt
 rw[e0]at hlv
 refine cZ.next (hst.trans hrunT) ?_
 have et:t'++(#[]:Trace)=t':=Array.append_empty
 rw[et]
 rw[et]at hlv
 have hB':nc X.P S (λ_=>False) (λ_=>False) ((gs'.map (woken X.P a a' (w'.at d))).setIfInBounds 0 a') (w'.at d) t' q' a':=
  {at0:=by simp[hlt]
   leave:=hlv
   past:=hP.mono hsz
   quiet:=hQ
   who:=λop hop=>by
    rw[Array.size_setIfInBounds,Array.size_map]
    exact hW op hop
   low:=λb hb=>Nat.lt_of_lt_of_le (hB.low b hb) hsz
   own:=λb hb=>hb.elim
   ro:=λb hb=>hb.elim}
 obtain⟨m,hm⟩:∃m,((gs'.map (woken X.P a a' (w'.at d))).setIfInBounds 0 a').size=1+m:=⟨gs'.size- 1,by simp;omega⟩
 have hc:=hB'.crew (D:=λ_=>⟨7,0,0⟩) hm (hL.grow (w':=w'.at d) (Nat.le_refl _)) (by rw[hWg];exact hP.seen) htab hlist
 obtain⟨r,rfl⟩:∃r,N=r+1:=⟨N- 1,by omega⟩
 obtain⟨k,hk⟩:=hsp
 refine BL (Fin:=Fin) (Anch:=Anch) (N:=r+1) (S:=S) (m:=m) hF hA hAn hN (hfin m) _ 0 _ _ _ _ (λ_=>⟨7,0,0⟩) _ _ 0 _ (.sp r 5) 0 k a' 0 0 rfl ⟨hB'.at0,⟨rfl,by omega,by omega, .inl ⟨rfl,rfl, ?_⟩⟩,hc,hwg, ?_,by simp,λi hi=>absurd hi (Nat.not_lt_zero i)⟩
 ·have:=hk.rely (aR.at X V0 w' d)
  rw[show r+1-(r+1)=0 from by omega]at this
  exact this
 ·have:=Go.ConcN.Mode.opn (j:=0) (D:=λ_=>(⟨7,0,0⟩:WD)) (tag:= .sp r 5) trivial (λi hi=>absurd hi (Nat.not_lt_zero i)) (by simp)
  simpa[Go.ConcN.Vc,sumTo,Go.ConcN.pend]using this
end
end Go.Proofs.YtkmoglhgkcnalaaDoor
namespace Go.Proofs.YtkmoglhgkcnalaaDoor
open Go Go.Conc
open Go.ConcN (sumTo upd sumTo_upd upd_ne upd_same)
structure Kr (D0:Nat->Prop) (W wM:World) (D:Nat->Prop) (ρ:Nat->Nat) (S:Nat->Prop):Prop where
 size:W.heap.size<=wM.heap.size
 keep:∀r,r<W.heap.size->¬D0 r->wM.heap[r]?=W.heap[r]?
 fresh:∀b,D b->D0 b\/W.heap.size<=ρ b
 shun:∀r,S r->W.heap.size<=r
theorem Kr.step{G T:Nat}{D0 D D' S:Nat->Prop}{ρ ρ':Nat->Nat}{W wL wM wL' wM':World}{d:Nat}(h:Kr D0 W wM D ρ S)(hf:∀b,D0 b->D b/\ρ b=b)(q:gW G T D ρ wL (wM.at d) D' ρ' wL' wM'):Kr D0 W wM' D' ρ' S where
 size:=Nat.le_trans h.size q.size
 keep:=λr hr hd=>by
  have hs:=h.size
  refine(q.keep r (show r<wM.heap.size by omega) λb hb e=> ?_).trans (h.keep r hr hd)
  rcases h.fresh b hb with h0|h0
  ·rw[(hf b h0).2]at e
   exact hd (e▸h0)
  ·omega
 fresh:=λb hb=>by
  rcases q.new b hb with h1|⟨_,h2⟩
  ·rw[(q.ext b h1).2]
   exact h.fresh b h1
  ·have h3:wM.heap.size<=ρ' b:=h2
   have:=h.size
   exact .inr (by omega)
 shun:=h.shun
def tY(P:Program)(G:Nat)(D0:Nat->Prop)(W:World)(gL:Goroutine)(wL:World)(gs:Array Goroutine)(wM:World)(t:Trace)(D:Nat->Prop)(ρ:Nat->Nat)(S:Nat->Prop)(gM:Goroutine)(q:Nat->Nat):Prop:=K2 P G D0 W gL wL gs wM t D ρ S gM q/\Kr D0 W wM D ρ S
def Eu(P PL:Program)(K:FuncId)(G:Nat)(D0:Nat->Prop)(W:World)(Stop:Goroutine->World->Prop)(Post:Value->World->Prop):Prop:=
 ∀gL wL gs wM sl sl' t D ρ S gM q d d0 args w1,tY P G D0 W gL wL gs wM t D ρ S gM q->fc PL Stop gL wL->fa gL->gG PL gL.frame (jJ wL wM.tape d) K args w1->stepT P (crowd gs (wM.at d0) sl)=runT P (crowd gs (wM.at d) sl') 0->
  (∀g2 w2 gs2 wM2 sl2 t2 D2 ρ2 S2 gM2 q2,GT PL gL wL g2 w2->tY P G D0 W g2 w2 gs2 wM2 t2 D2 ρ2 S2 gM2 q2->cZ P Post (crowd gs2 wM2 sl2) t2)->cZ P Post (crowd gs (wM.at d0) sl) t
section
variable{P PL:Program}{K:FuncId}{Post:Value->World->Prop}{Stop:Goroutine->World->Prop}{G:Nat}{D0:Nat->Prop}{W:World}
theorem ye(E:j4 PL P G)(hSF:∀f (fn:Func),PL.funcs[f]?=some fn->fn.body.isSome=true->f≠K->jf PL P f)
 (hstop:∀g w,Stop g w->∀τ d,∃o w1 es,stepG PL true g (jJ w τ d)= .ended o w1 es)
 (hfin:∀gL wL gs wM t D ρ S gM q,tY P G D0 W gL wL gs wM t D ρ S gM q->Stop gL wL->∀d,∃v es,stepG P true gM (wM.at d)= .ended (.done v) (wM.at d) es/\(∀e∈es,EvL (eh S) wM.heap.size e)/\Post v (wM.at d))
 (hK:Eu P PL K G D0 W Stop Post) {gL:Goroutine} {wL:World} (ht:fc PL Stop gL wL) (hw:fa gL):
 ∀gs wM sl t D ρ S gM q,tY P G D0 W gL wL gs wM t D ρ S gM q->cZ P Post (crowd gs wM sl) t:=by
 refine vh (C:=λgL wL=>∀gs wM sl t D ρ S gM q,tY P G D0 W gL wL gs wM t D ρ S gM q->cZ P Post (crowd gs wM sl) t) hstop ?_ ht hw
 intro g w ht hw ih gs wM sl t D ρ S gM q hm
 have hrun:gM.status= .running:=hm.1.grel.run.2.1
 refine He hrun wM _ gs wM.drawn sl t q (Nat.le_refl _) hm.1.at0 hm.1.leave hm.1.past hm.1.quiet hm.1.who ?_
 intro gs' d0 sl0 d sl' t' q' h0 hL hP hQ hWho hst
 by_cases hAt:∃args w1,gG PL g.frame (jJ w wM.tape d) K args w1
 ·obtain⟨args,w1,he⟩:=hAt
  exact hK g w gs' wM sl0 sl' t' D ρ S gM q' d d0 args w1 ⟨{hm.1 with at0:=h0,past:=hP,quiet:=hQ,who:=hWho,leave:=hL},hm.2⟩ ht hw he hst λg2 w2 gs2 wM2 sl2 t2 D2 ρ2 S2 gM2 q2 hr hm2=>ih g2 w2 hr gs2 wM2 sl2 t2 D2 ρ2 S2 gM2 q2 hm2
 ·have hsf:∀f args w',gG PL g.frame (jJ w wM.tape d) f args w'->jf PL P f:=λf args w' he=>by
   obtain⟨fn,hf,hb⟩:=kH (E.fn ρ) he
   exact hSF f fn hf hb λhfk=>hAt ⟨args,w',hfk▸he⟩
  have hlt:0<gs'.size:=(gA h0).1
  cases ht with
  |stop hs=>
   obtain⟨v,es,he,hev,hpost⟩:=hfin g w gs wM t D ρ S gM q hm hs d
   have hrunT:=runT_many_ended (P:=P) (sl:=sl') (i:=0) h0 (show stepG P (0==0) gM (wM.at d)=_ from he)
   have hP':=hP.own (fn:=gM.frame.fn) (pos:=gM.frame.place) hev
   refine cZ.now (hst.trans hrunT) ⟨v,rfl,hpost,hP'.clean,hP'.over,⟨λx hx=> ?_,rfl⟩,λj x hx hj=> ?_⟩
   ·obtain⟨j,hj⟩:=List.mem_iff_getElem?.1 hx
    rw[List.getElem?_drop]at hj
    exact⟨_,(hL.old (1+j) x (by omega) (by simpa[crowd]using hj)).leaves⟩
   ·refine⟨q' j, ?_⟩
    have hd:(t'++MemOp.ofEvents 0 gM.frame.fn gM.frame.place es).deaf j (t'++MemOp.ofEvents 0 gM.frame.fn gM.frame.place es).size=Deaf t' j:=Deaf_other t' (g:=j) (g':=0) (by omega) _ bA
    rw[hd]
    exact(hL.old j x (by omega) hx).hears _
  |go n hn hwn htn=>
   obtain⟨esL,hl⟩:=hn wM.tape d
   generalize hg1:(n wM.tape d).1=g1 at hl
   generalize hw1:(n wM.tape d).2=w1 at hl
   have hwell:fa g1:=by rw[←hg1];exact hwn _ _
   have hW:ci G w1.drawn D ρ (jJ w wM.tape d) (wM.at d):=ci.re (wL':=jJ w wM.tape d) (wM':=wM.at d) hm.1.rel rfl rfl λi _=>rfl
   have hcalm:ax (jJ w wM.tape d):=λb o ho=>hm.1.calm b o ho
   have htab:ib (jJ w wM.tape d) (wM.at d):=hm.1.tab
   obtain⟨D1,ρ1,gM1,wM1,es1,q1,q2,q3,q4⟩:=mD (mM:=true) E hW hcalm htab hm.1.grel hl (Nat.le_refl _) hwell hsf
   have hsz:wM.heap.size<=wM1.heap.size:=q3.size
   have hshun:∀b,D1 b->¬S (ρ1 b):=λb hb hs=>by
    rcases q3.new b hb with h1|⟨_,h2⟩
    ·rw[(q3.ext b h1).2]at hs
     exact hm.1.shun b h1 hs
    ·have h3:wM.heap.size<=ρ1 b:=h2
     have:=(hm.1.shunLow _ hs).2
     omega
   have hevs:∀e∈es1,EvL (eh S) wM1.heap.size e:=λe he=>DW q3.rel E.tab hshun (λr hs=>(hm.1.shunLow r hs).1) (q4 e he)
   have hrunT:=runT_crowd_go (P:=P) (sl:=sl') (i:=0) h0 (show stepG P (0==0) gM (wM.at d)=_ from q1)
   refine cZ.next (hst.trans hrunT) (ih g1 w1 ⟨_,_,_,_,_,hl, .refl _⟩ _ wM1 sl' _ D1 ρ1 S gM1 q' ?_)
   refine⟨?_,hm.2.step hm.1.first q3⟩
   exact
    {rel:=q3.rel.re rfl rfl λi hi=>by omega
     grel:=q2
     at0:=by simp[hlt]
     first:=λb hb=>⟨(q3.ext b (hm.1.first b hb).1).1,(q3.ext b (hm.1.first b hb).1).2.trans (hm.1.first b hb).2⟩
     shun:=hshun
     shunLow:=λr hs=>⟨(hm.1.shunLow r hs).1,by have:=(hm.1.shunLow r hs).2;omega⟩
     past:=(hP.mono hsz).own hevs
     quiet:=hQ.app λop hop x hx hs=>by
      obtain⟨e,he,rfl⟩:=Go.Conc.mem_ofEvents hop
      exact⟨(hevs e he).1 x hx hs,λ_=>rfl⟩
     who:=λop hop=>by
      rw[Array.size_setIfInBounds,Array.size_map]
      rcases Array.mem_append.1 hop with hop|hop
      ·exact hWho op hop
      ·rw[bA op hop]
       exact hlt
     tab:=htab.ran E.tab hW q3
     calm:=q3.quiet hcalm
     leave:=nO hL gM gM1 wM1 _ _ es1 hlt
     same:=⟨q3.os.trans hm.1.same.1,q3.output.trans hm.1.same.2.1,q3.tape.trans hm.1.same.2.2⟩
     tabW:=by
      obtain⟨c,e,f,h1,h2,h3⟩:=htab
      exact(q3.keep dN (bY h3) λb hb e=>by have:=hW.out _ hb;have:=hW.glob b;have:=E.tab;omega).trans hm.1.tabW}
end
section
variable{PL P:Program}{G T:Nat}{D:Nat->Prop}{ρ:Nat->Nat}{wL wM:World}{base:List Frame}
theorem yg{D0:Nat->Prop}{W:World}{S:Nat->Prop}{wL2 wM2:World}{bL C Wg:Nat}{o:Obj}{c c':Frame}{cs cs':List Frame}{v v':Value}{gs:Array Goroutine}{t:Trace}{q:Nat->Nat}(hW:ci G T D ρ wL wM)
 (hfirst:∀b,D0 b->D b/\ρ b=b) (hshun:∀b,D b->¬S (ρ b)) (hlow:∀r,S r->G<=r/\r<wM.heap.size) (hcs:∀ρ',aw G D ρ ρ'->c'::cs'=(c::cs).map (aT ρ')++[]) (oks:∀x∈c::cs,fJ x/\bE x)
 (hL:∀b,D b->wL2.heap[b]?=wL.heap[b]?) (hM:∀b,D b->wM2.heap[ρ b]?=wM.heap[ρ b]?) (sL:wL.heap.size<=wL2.heap.size) (sM:wM.heap.size<=wM2.heap.size) (hbL:wL.heap.size<=bL) (hC:wM.heap.size<=C)
 (ho:wL2.heap[bL]?=some o) (hq:bQ o=true) (hoM:∀ρ',wM2.heap[C]?=some (dp ρ' o)) (hWg:wM.heap.size<=Wg/\Wg<wM2.heap.size/\Wg≠C) (hv:∀ρ',ρ' bL=C->v'=aa ρ' v)
 (htab:ib wL2 wM2) (hcalm:ax wL2) (hsame:wM2.os=W.os/\wM2.output=W.output/\wM2.tape=W.tape) (htW:wM2.heap[dN]?=W.heap[dN]?) (at0:gs[0]?=some {frame:=c'.finish v',callers:=cs',status:= .running,dying:=none})
 (hpast:Past (eh λb=>S b\/b=Wg) wM2.heap.size t) (hquiet:Quiet (eh λb=>S b\/b=Wg) t) (hwho:∀op∈t,op.g<gs.size) (hlv:Leavers P t gs q):
 ∃ρ2,K2 P G D0 W {frame:=c.finish v,callers:=cs,status:= .running,dying:=none} wL2 gs wM2 t (λb=>D b\/b=bL) ρ2 (λb=>S b\/b=Wg) {frame:=c'.finish v',callers:=cs',status:= .running,dying:=none} q/\(∀b,D b->ρ2 b=ρ b)/\ρ2 bL=C:=by
 obtain⟨ρ2,h1,h2,h3⟩:=hW.join hL hM sL sM hbL hC ho hq hoM
 have hfar:=hW.far
 have hext:∀b,D b->(D b\/b=bL)/\ρ2 b=ρ b:=λb hb=>⟨.inl hb,h2 b hb⟩
 refine⟨ρ2, ?_,h2,h3⟩
 exact
  {rel:=h1
   grel:=yO (λρ' hA=>hcs ρ' (hA.less hext)) oks λρ' hA=>hv ρ' ((hA.2 bL (.inr rfl)).trans h3)
   at0:=at0
   first:=λb hb=>⟨.inl (hfirst b hb).1,(h2 b (hfirst b hb).1).trans (hfirst b hb).2⟩
   shun:=λb hb=>by
    rcases hb with hb|rfl
    ·rw[h2 b hb]
     rintro(hs|hs)
     ·exact hshun b hb hs
     ·have:=hW.ltM hb
      omega
    ·rw[h3]
     rintro(hs|hs)
     ·have:=(hlow _ hs).2
      omega
     ·exact hWg.2.2 hs.symm
   shunLow:=λr hr=>by
    rcases hr with hr|rfl
    ·exact⟨(hlow r hr).1,by have:=(hlow r hr).2;omega⟩
    ·exact⟨by omega,hWg.2.1⟩
   past:=hpast
   quiet:=hquiet
   who:=hwho
   tab:=htab
   calm:=hcalm
   leave:=hlv
   same:=hsame
   tabW:=htW}
end
end Go.Proofs.YtkmoglhgkcnalaaDoor
namespace Go.Proofs.YtkmoglhgkcnalaaDoor
open Go.RowKit
theorem fQ(op:BinOp)(x y:Int):0<=bits op .u32 x y/\bits op .u32 x y<4294967296:=by
 unfold bits;simp only[IntKind.wrap_u32];omega
theorem jz(x:Int):0<=IntKind.u32.wrap x/\IntKind.u32.wrap x<4294967296:=by
 rw[IntKind.wrap_u32];omega
theorem il(a:Nat)(ha:a<9223372036854775808):(BitVec.ofInt 64 (a:Int)).toNat=a:=by
 rw[BitVec.ofInt_natCast,BitVec.toNat_ofNat];exact Nat.mod_eq_of_lt (by omega)
theorem pz(a b:Nat)(ha:a<9223372036854775808)(hb:b<9223372036854775808):bits .and .i64 (a:Int) (b:Int)=((a&&&b:Nat):Int):=by
 have hx:a&&&b<2^63:=Nat.and_lt_two_pow _ (by omega)
 show IntKind.i64.wrap ((BitVec.ofInt 64 (a:Int)&&&BitVec.ofInt 64 (b:Int)).toNat:Int)=_
 rw[BitVec.toNat_and,il a ha,il b hb,IntKind.wrap_i64]
 omega
theorem kD(a b:Nat)(ha:a<9223372036854775808)(hb:b<9223372036854775808):bits .or .i64 (a:Int) (b:Int)=((a|||b:Nat):Int):=by
 have hx:a|||b<2^63:=Nat.or_lt_two_pow (by omega) (by omega)
 show IntKind.i64.wrap ((BitVec.ofInt 64 (a:Int)|||BitVec.ofInt 64 (b:Int)).toNat:Int)=_
 rw[BitVec.toNat_or,il a ha,il b hb,IntKind.wrap_i64]
 omega
theorem wt(a b:Nat)(ha:a<9223372036854775808)(hb:b<9223372036854775808):bits .xor .i64 (a:Int) (b:Int)=((a^^^b:Nat):Int):=by
 have hx:a^^^b<2^63:=Nat.xor_lt_two_pow (by omega) (by omega)
 show IntKind.i64.wrap ((BitVec.ofInt 64 (a:Int)^^^BitVec.ofInt 64 (b:Int)).toNat:Int)=_
 rw[BitVec.toNat_xor,il a ha,il b hb,IntKind.wrap_i64]
 omega
def Wd(x:Int):Prop:=0<=x/\x<4294967296
theorem qj{x y:Int}(hx:Wd x)(hy:Wd y):bits .xor .i64 x y=bits .xor .u32 x y:=by
 obtain⟨a,rfl⟩:=Int.eq_ofNat_of_zero_le hx.1
 obtain⟨b,rfl⟩:=Int.eq_ofNat_of_zero_le hy.1
 have:=hx.2;have:=hy.2
 rw[wt _ _ (by omega) (by omega),u32_xor_nat _ _ (by omega) (by omega)]
theorem xc{x y:Int}(hx:Wd x)(hy:Wd y):bits .and .i64 x y=bits .and .u32 x y:=by
 obtain⟨a,rfl⟩:=Int.eq_ofNat_of_zero_le hx.1
 obtain⟨b,rfl⟩:=Int.eq_ofNat_of_zero_le hy.1
 have:=hx.2;have:=hy.2
 rw[pz _ _ (by omega) (by omega),u32_and_nat _ _ (by omega) (by omega)]
theorem od{x:Int}(h0:0<=x)(h1:x<9223372036854775808):bits .and .i64 x 4294967295=x%4294967296:=by
 obtain⟨a,rfl⟩:=Int.eq_ofNat_of_zero_le h0
 have e:=pz a 4294967295 (by omega) (by omega)
 rw[show((4294967295:Nat):Int)=4294967295 from rfl]at e
 rw[e,show(4294967295:Nat)=2^32- 1 from rfl,Nat.and_two_pow_sub_one_eq_mod]
 omega
theorem JK{x:Int}(hx:Wd x):bits .xor .u32 4294967295 x=4294967295- x:=by
 obtain⟨a,rfl⟩:=Int.eq_ofNat_of_zero_le hx.1
 have h2:=hx.2
 have e:=u32_xor_nat 4294967295 a (by omega) (by omega)
 rw[show((4294967295:Nat):Int)=4294967295 from rfl]at e
 rw[e]
 have e2:4294967295^^^a=4294967295- a:=by
  apply Nat.eq_of_testBit_eq
  intro i
  rw[Nat.testBit_xor,show 4294967295- a=2^32-(a+1)from by omega,Nat.testBit_two_pow_sub_succ (by omega),show(4294967295:Nat)=2^32- 1 from rfl,Nat.testBit_two_pow_sub_one]
  by_cases h:i<32
  ·simp[h]
  ·have:a.testBit i=false:=Nat.testBit_lt_two_pow (Nat.lt_of_lt_of_le (show a<2^32 by omega) (Nat.pow_le_pow_right (by decide) (by omega)))
   simp[h,this]
 rw[e2]
 omega
theorem Hw{x:Int}(hx:Wd x):Wd (4294967295- x):=⟨by have:=hx.2;omega,by have:=hx.1;omega⟩
theorem Fp(x k:Nat)(hx:x<4294967296)(h1:1<=k)(h2:k<=31):qM (x:Int) (-(k:Int))=(((x*2^(32- k))%4294967296|||x/2^k:Nat):Int):=by
 have ew:IntKind.u64.wrap (-(k:Int))=((18446744073709551616- k:Nat):Int):=by rw[IntKind.wrap_u64];omega
 have e1:bits .and .u64 (IntKind.u64.wrap (-(k:Int))) 31=((32- k:Nat):Int):=by
  rw[ew]
  have e:=u64_and_nat (18446744073709551616- k) 31 (by omega) (by omega)
  rw[show((31:Nat):Int)=31 from rfl]at e
  rw[e,show(31:Nat)=2^5- 1 from rfl,Nat.and_two_pow_sub_one_eq_mod]
  omega
 have e2:IntKind.u64.wrap (32-((32- k:Nat):Int))=(k:Int):=by rw[IntKind.wrap_u64];omega
 have hp:2^(32- k)*2^k=4294967296:=by rw[←Nat.pow_add,show 32- k+k=32 from by omega]
 unfold qM
 rw[e1,e2,Int.toNat_natCast,Int.toNat_natCast,show min (32- k) 32=32- k from by omega,show min k 32=k from by omega]
 have a1:IntKind.u32.wrap ((x:Int)*2^(32- k))=((x*2^(32- k)%4294967296:Nat):Int):=by
  rw[IntKind.wrap_u32,Int.natCast_emod,Int.natCast_mul,Int.natCast_pow];rfl
 have a2:(x:Int)/2^k=((x/2^k:Nat):Int):=by rw[Int.natCast_ediv,Int.natCast_pow];rfl
 rw[a1,a2,u32_or_nat _ _ (Nat.mod_lt _ (by decide)) (Nat.lt_of_le_of_lt (Nat.div_le_self _ _) hx)]
theorem AG(x k:Nat)(hx:x<4294967296):(x/2^k|||x*2^(32- k))%4294967296=((x*2^(32- k))%4294967296|||x/2^k):=by
 rw[show(4294967296:Nat)=2^32 from rfl,Nat.or_mod_two_pow,Nat.mod_eq_of_lt (a:=x/2^k) (Nat.lt_of_le_of_lt (Nat.div_le_self _ _) hx),Nat.or_comm]
theorem Ft(x:Int)(k:Nat)(hx:Wd x)(h1:2<=k)(h2:k<=31):bits .and .i64 (bits .or .i64 (x/2^k) (x*2^(32- k))) 4294967295=qM x (-(k:Int)):=by
 obtain⟨a,rfl⟩:=Int.eq_ofNat_of_zero_le hx.1
 have hx2:=hx.2
 have a2:(a:Int)/2^k=((a/2^k:Nat):Int):=by rw[Int.natCast_ediv,Int.natCast_pow];rfl
 have a1:(a:Int)*2^(32- k)=((a*2^(32- k):Nat):Int):=by rw[Int.natCast_mul,Int.natCast_pow];rfl
 have b1:a*2^(32- k)<4611686018427387904:=by
  have hp:2^(32- k)<=2^30:=Nat.pow_le_pow_right (by decide) (by omega)
  calc a*2^(32- k)<=a*2^30:=Nat.mul_le_mul_left _ hp
   _<4611686018427387904:=by omega
 have b2:a/2^k<4294967296:=Nat.lt_of_le_of_lt (Nat.div_le_self _ _) (by omega)
 have hx:a/2^k|||a*2^(32- k)<2^63:=Nat.or_lt_two_pow (by omega) (by omega)
 rw[Fp a k (by omega) (by omega) h2,a1,a2,kD _ _ (by omega) (by omega),od (by omega) (by omega),←AG a k (by omega)]
 rfl
theorem Jz(x:Int)(k:Nat)(hx:Wd x)(h1:2<=k):wrap64 (x*2^(32- k))=x*2^(32- k):=by
 obtain⟨a,rfl⟩:=Int.eq_ofNat_of_zero_le hx.1
 have hx2:=hx.2
 have a1:(a:Int)*2^(32- k)=((a*2^(32- k):Nat):Int):=by rw[Int.natCast_mul,Int.natCast_pow];rfl
 have b1:a*2^(32- k)<4611686018427387904:=by
  have hp:2^(32- k)<=2^30:=Nat.pow_le_pow_right (by decide) (by omega)
  calc a*2^(32- k)<=a*2^30:=Nat.mul_le_mul_left _ hp
   _<4611686018427387904:=by omega
 rw[a1]
 generalize a*2^(32- k)=q at b1
 unfold wrap64;omega
theorem qL(x k:Int):Wd (qM x k):=fQ _ _ _
theorem sG(x a b c:Int):Wd (cL x a b c):=fQ _ _ _
theorem qD(x a b c:Int):Wd (fo x a b c):=fQ _ _ _
theorem Ig{x:Int}(hx:Wd x)(k:Nat):Wd (x/2^k):=by
 obtain⟨a,rfl⟩:=Int.eq_ofNat_of_zero_le hx.1
 have hx2:=hx.2
 have a2:(a:Int)/2^k=((a/2^k:Nat):Int):=by rw[Int.natCast_ediv,Int.natCast_pow];rfl
 have b2:a/2^k<=a:=Nat.div_le_self _ _
 rw[a2]
 generalize a/2^k=q at b2
 exact⟨by omega,by omega⟩
def l7(L:List Int):Prop:=∀i:Nat,Wd (L.getD i 0)
theorem Jh:Wd 0:=⟨by decide,by decide⟩
theorem Cb{L:List Int}{x:Int}(h:l7 L)(hx:Wd x):l7 (L++[x]):=by
 intro i
 by_cases h1:i<L.length
 ·have:=h i
  rw[List.getD_eq_getElem?_getD]at this⊢
  rwa [List.getElem?_append_left h1]
 ·rw[List.getD_eq_getElem?_getD,List.getElem?_append_right (by omega)]
  by_cases h2:i- L.length=0
  ·rw[h2];exact hx
  ·rw[List.getElem?_eq_none (by simp;omega)];exact Jh
theorem ig(B:List UInt8):∀k,l7 (aU B k)
 |0=>λi=>by rw[aU];exact Jh
 |k+1=>by
  rw[aU]
  refine Cb (ig B k) ?_
  split
  ·exact jz _
  ·exact jz _
structure St.Wd (s:St):Prop where
 a:Go.Proofs.YtkmoglhgkcnalaaDoor.Wd s.a
 b:Go.Proofs.YtkmoglhgkcnalaaDoor.Wd s.b
 c:Go.Proofs.YtkmoglhgkcnalaaDoor.Wd s.c
 d:Go.Proofs.YtkmoglhgkcnalaaDoor.Wd s.d
 e:Go.Proofs.YtkmoglhgkcnalaaDoor.Wd s.e
 f:Go.Proofs.YtkmoglhgkcnalaaDoor.Wd s.f
 g:Go.Proofs.YtkmoglhgkcnalaaDoor.Wd s.g
 h:Go.Proofs.YtkmoglhgkcnalaaDoor.Wd s.h
theorem ER{s:St}(h:s.Wd)(k w:Int):(s.next k w).Wd:=⟨jz _,h.a,h.b,h.c,jz _,h.e,h.f,h.g⟩
theorem Jn{H:List Int}(h:l7 H):(St.of H).Wd:=⟨h 0,h 1,h 2,h 3,h 4,h 5,h 6,h 7⟩
theorem ud(K W:List Int){H:List Int}(h:l7 H):∀i,(bG K W H i).Wd
 |0=>Jn h
 |i+1=>ER (ud K W h i) _ _
theorem Ab(H G:List Int)(h:l7 H)(k:Nat):l7 (dr H G k):=by
 intro i
 rw[dr]
 by_cases h1:i<8
 ·rw[List.getD_eq_getElem?_getD,List.getElem?_map,List.getElem?_range h1]
  simp only[Option.map_some,Option.getD_some]
  split
  ·exact jz _
  ·exact h i
 ·rw[List.getD_eq_getElem?_getD,List.getElem?_eq_none (by simp;omega)];exact Jh
theorem H4:l7 H0:=by
 intro i
 by_cases h:i<8
 ·have:i=0\/i=1\/i=2\/i=3\/i=4\/i=5\/i=6\/i=7:=by omega
  rcases this with rfl|rfl|rfl|rfl|rfl|rfl|rfl|rfl<;>exact⟨by decide,by decide⟩
 ·rw[List.getD_eq_getElem?_getD,List.getElem?_eq_none (by simp[H0];omega)];exact Jh
theorem qo(KS:List Int)(L:List UInt8):∀n,l7 (bu KS L n)
 |0=>H4
 |n+1=>by rw[bu,kA];exact Ab _ _ (qo KS L n) _
theorem JG(s:St)(hs:s.Wd)(k w:Int):(s.h+cL s.e 6 11 25+bits .xor .u32 (bits .and .u32 s.e s.f) (bits .and .u32 (4294967295- s.e) s.g)+k+w)%4294967296=s.t k w:=by
 rw[St.t,JK hs.e]
 simp only[IntKind.wrap_u32]
 omega
theorem H3(x0 x1 x2 x3:UInt8):bits .or .i64 (bits .or .i64 (bits .or .i64 ((x0.toNat:Int)*16777216) ((x1.toNat:Int)*65536)) ((x2.toNat:Int)*256)) (x3.toNat:Int)=fL [x0,x1,x2,x3]:=by
 have h0:=x0.toNat_lt
 have h1:=x1.toNat_lt
 have h2:=x2.toNat_lt
 have h3:=x3.toNat_lt
 have e0:(x0.toNat:Int)*16777216=((x0.toNat*16777216:Nat):Int):=by omega
 have e1:(x1.toNat:Int)*65536=((x1.toNat*65536:Nat):Int):=by omega
 have e2:(x2.toNat:Int)*256=((x2.toNat*256:Nat):Int):=by omega
 rw[e0,e1,e2,kD _ _ (by omega) (by omega),nat_join 24 (x0.toNat*16777216) (x1.toNat*65536) (by omega) (by omega),kD _ _ (by omega) (by omega),
  nat_join 16 (x0.toNat*16777216+x1.toNat*65536) (x2.toNat*256) (by omega) (by omega),kD _ _ (by omega) (by omega),nat_join 8 _ x3.toNat (by omega) (by omega)]
 simp only[fL,List.foldl]
 omega
theorem vS(k:Nat):∀n i,i<k->(cg n k)[i]?=some (UInt8.ofNat (n/256^(k- 1- i))):=by
 induction k with
 |zero=>intro n i h;omega
 |succ k ih=>
  intro n i h
  rw[t7]
  cases i with
  |zero=>simp
  |succ i=>rw[List.getElem?_cons_succ,ih n i (by omega),show k+1- 1-(i+1)=k- 1- i from by omega]
theorem nt{P:Program}(w:World)(b o:Nat)(ty:TypeId)(v:Value)(hv:v.cells=#[v])(h1:v.oneCell'=true)(hc:(w.cell? ⟨b,o,none⟩).isSome=true)(hf:w.frozen? ⟨b,o,none⟩=false)(hi:(P.info? ty).map (·.size)=some 1):
 (storeVar ty ⟨b,o,none⟩ v).run P w= .ok () (w.setCell ⟨b,o,none⟩ v):=by
 have:=run_storeCells_cells (P:=P) b o [v] 0 w (λj hj=>by have h0:j=0:=(by simpa using hj);subst h0;simpa using hc) (λj hj=>by have h0:j=0:=(by simpa using hj);subst h0;simpa using hf)
  (λu hu=>by rw[List.mem_singleton]at hu;subst hu;exact h1)
 cases hq:P.info? ty with
 |none=>simp[hq]at hi
 |some i=>
  have hs:i.size=1:=by simpa[hq]using hi
  simp only[Nat.add_zero]at this
  simp[storeVar,sizeOf,typeInfo,hq,hv,hs,this]
  rfl
theorem rO{P:Program}{op:Oper}{a:Act}{w:World}{K:Act->World->Prop}{Q:Exit->Act->World->Prop}(ty:TypeId)(x y:Operand)(ho:op.op= .store ty x y)
 (b o:Nat) (v:Value) (hx:a.eval x= .pointer (some ⟨b,o,none⟩)) (hy:a.eval y=v) (hv:v.cells=#[v]) (h1:v.oneCell'=true)
 (hc:(w.cell? ⟨b,o,none⟩).isSome=true) (hf:w.frozen? ⟨b,o,none⟩=false) (hi:(P.info? ty).map (·.size)=some 1)
 (h:K (a.put op.dst undef) (w.setCell ⟨b,o,none⟩ v)):op.wp P a w K Q:=by
 unfold Oper.wp execOp
 simp only[ho,hx,hy,Instr.storeAt,Instr.sureAddr,Sem.run_bind,Sem.run_pure,Result.andThen_ok,nt w b o ty v hv h1 hc hf hi]
 exact h
theorem gI{P:Program}{ops:Array Oper}{Q:Exit->Act->World->Prop}{i:Nat}{o:Oper}{K:Act->World->Prop}{a:Act}{w:World}(hi:ops[i]?=some o)(hg:o.guard=none)(ty:TypeId)(x y:Operand)(ho:o.op= .store ty x y)
 (b p:Nat) (v:Value) (hx:a.eval x= .pointer (some ⟨b,p,none⟩)) (hy:a.eval y=v) (hv:v.cells=#[v]) (h1:v.oneCell'=true) (hc:(w.cell? ⟨b,p,none⟩).isSome=true) (hf:w.frozen? ⟨b,p,none⟩=false)
 (hs:(P.info? ty).map (·.size)=some 1) (hd:o.dst=none) (h:K a (w.setCell ⟨b,p,none⟩ v)):wpOp P ops Q i K a w:=
 qk hi hg (rO ty x y ho b p v hx hy hv h1 hc hf hs (by rw[hd];exact h))
end Go.Proofs.YtkmoglhgkcnalaaDoor
namespace Go.Proofs.YtkmoglhgkcnalaaDoor
open Go Go.Conc Go.RowKit
def uY(P:Program)(a:Act)(o:Oper)(w:World)(R:Value->World->Prop):Prop:=
 (∃v w',(execOp a.eval o).run P w= .ok (.value v) w'/\R v w')\/∃f args,(execOp a.eval o).run P w= .ok (.enter f args) w/\Calls P f args w λe w'=>∃v,e= .returned v/\R v w'
structure tZ (df:List Deferred) (fx:List (Nat×Value)) (ds:List Nat) (G:Nat->Value->World->Prop) (N:Nat) (w0:World) (a:Act) (w:World) (L:Nat->Prop):Prop where
 defers:a.defers=df
 size:N<=a.tmps.size
 fixed:∀p∈fx,a.tmps[p.1]?=some p.2
 old:Below w0.heap.size w0 w
 come:∀n d,ds[n]?=some d->L n->∃v,a.tmps[d]?=some v/\G n v w
def qY:Op->Bool
 | .defer _=>false
 |_=>true
def zq(ops:Array Oper):Nat->Nat->Nat->Bool
 |0,_,_=>false
 |fuel+1,n,k=>jN ops n k||(List.range n).any λm=>jN ops n m&&zq ops fuel m k
def kX(ops:Array Oper)(listed:Array Bool):Prop:=∀(n:Nat) (o:Oper),ops[n]?=some o->listed[n]?=some true->∀e∈o.after,Region.binds .any e=true->listed[e.on]?=some true
theorem kX.reach{ops:Array Oper}{listed:Array Bool}(h:kX ops listed):∀(fuel n k:Nat) (o:Oper),ops[n]?=some o->(∀e∈o.after,Region.binds .any e=true->listed[e.on]?=some true)->zq ops fuel n k=true->listed[k]?=some true
 |0,_,_,_,_,_,hr=>by cases hr
 |fuel+1,n,k,o,ho,hdep,hr=>by
  simp only[Go.Proofs.YtkmoglhgkcnalaaDoor.zq,Bool.or_eq_true,List.any_eq_true,List.mem_range,Bool.and_eq_true]at hr
  rcases hr with h1|⟨m,hm,h1,h2⟩
  ·exact aZ h1 ho hdep
  ·have hl:=aZ h1 ho hdep
   cases hm2:ops[m]? with
   |none=>
    exfalso
    cases fuel with
    |zero=>cases h2
    |succ f=>
     have hz:∀k,jN ops m k=false:=λk=>by unfold jN;rw[hm2];rfl
     simp[Go.Proofs.YtkmoglhgkcnalaaDoor.zq,hz]at h2
   |some om=>exact h.reach fuel m k om hm2 (h m om hm2 hl) h2
theorem kX.set{ops:Array Oper}{listed:Array Bool}(h:kX ops listed){m:Nat}{o:Oper}(ho:ops[m]?=some o)(hdep:∀e∈o.after,Region.binds .any e=true->listed[e.on]?=some true):kX ops (listed.setIfInBounds m true):=by
 have up:∀k,listed[k]?=some true->(listed.setIfInBounds m true)[k]?=some true:=λk hk=>by
  by_cases e:m=k
  ·subst e
   exact Array.getElem?_setIfInBounds_self_of_lt (gA hk).1
  ·rw[sN e]
   exact hk
 intro n on hn hl e he hb
 by_cases q:m=n
 ·subst q
  rw[ho]at hn
  cases hn
  exact up _ (hdep e he hb)
 ·rw[sN q]at hl
  exact up _ (h n on hn hl e he hb)
def uM(ops:Array Oper):Bool:=(List.range ops.size).all λn=>((ops[n]?).map λo=>o.after.all λe=> !Region.binds .any e||decide (e.on<n)).getD true
theorem ou{ops:Array Oper}(h:uM ops=true)(n:Nat)(o:Oper)(ho:ops[n]?=some o):∀e∈o.after,Region.binds .any e=true->e.on<n:=by
 intro e he hb
 have hn:n<ops.size:=(gA ho).1
 have:=List.all_eq_true.1 h n (List.mem_range.2 hn)
 rw[ho]at this
 simp only[Option.map_some,Option.getD_some]at this
 have:=Array.all_eq_true'.1 this e he
 rw[hb]at this
 simpa using this
def Dv(ops:Array Oper)(ds:List Nat)(fx:List Nat)(N:Nat):Bool:=
 uM ops&&decide (ds.length<=ops.size)&&((List.range ds.length).all λn=>((ops[n]?).map λo=>o.dst==ds[n]?&&o.guard.isNone&&qY o.op).getD false)&&decide ds.Nodup&&(ds.all λd=>decide (d<N)&& !fx.contains d)&&
 ((List.range ops.size).all λn=>decide (n<ds.length)||((List.range n).all λk=>zq ops ops.size n k))
section
variable{P:Program}{Goal:Goroutine->World->Prop}{b:Frame}{k:List Item}{cs:List Frame}
theorem Rn.orderly{md:Region.Mode}{ops:Array Oper}(hdep:∀(n:Nat) (o:Oper),ops[n]?=some o->∀e∈o.after,Region.binds md e=true->e.on<n)(Inv:Array Bool->Act->World->Prop)
 (hend:∀listed a w,(∀n,n<ops.size->listed[n]?=some true)->Inv listed a w->Rn P Goal (b.atR a (.inRegion ops []::k)) cs w)
 (hstep:∀listed a w n o rest,listed.size=ops.size->ops[n]?=some o->listed[n]?=some false->(∀e∈o.after,Region.binds md e=true->listed[e.on]?=some true)->Inv listed a w->
   (∀a' w',Inv (listed.setIfInBounds n true) a' w'->Rn P Goal (b.atR a' (.inRegion ops rest::k)) cs w')->Rn P Goal (b.atR a (.inRegion ops (n::rest)::k)) cs w)
 (t:Nat) (a:Act) (w:World) (h0:Inv (Array.replicate ops.size false) a w):Rn P Goal (b.atR a (.inRegion ops (Region.linearise md ops t)::k)) cs w:=by
 unfold Region.linearise
 refine Rn.order (md:=md) (λfuel listed a w=>listed.size=ops.size/\gJ listed=fuel/\Inv listed a w) (λlisted a w h=> ?_) (λfuel listed a w h hr=> ?_) (λfuel listed a w n rest h hn hnext=> ?_) ops.size t _ a w ⟨by simp, ?_,h0⟩
 ·exact hend listed a w (λn hn=>mz h.2.1 n (by rw[h.1];exact hn)) h.2.2
 ·exfalso
  obtain⟨n,h1,h2,h3⟩:=lh h.2.1
  have hlt:n<ops.size:=by rw[←h.1];exact h1
  have hm:n∈Region.ready md ops listed:=by
   unfold Region.ready
   rw[List.mem_filter]
   refine⟨List.mem_range.2 hlt, ?_⟩
   rw[Array.getElem?_eq_getElem hlt]
   have e1:listed.getD n true=false:=by simp[Array.getD_eq_getD_getElem?,h2]
   rw[e1]
   simp only[Bool.not_false,Option.map_some,Option.getD_some,Bool.true_and]
   rw[Array.all_eq_true']
   intro e he
   cases hb:Region.binds md e with
   |false=>rfl
   |true=>
    have:=hdep n _ (Array.getElem?_eq_getElem hlt) e he hb
    simp[Array.getD_eq_getD_getElem?,h3 _ this]
  rw[hr]at hm
  simp at hm
 ·unfold Region.ready at hn
  rw[List.mem_filter]at hn
  obtain⟨hn1,hn2⟩:=hn
  have hlt:=List.mem_range.1 hn1
  rw[Array.getElem?_eq_getElem hlt]at hn2
  simp only[Option.map_some,Option.getD_some,Bool.and_eq_true,Bool.not_eq_true']at hn2
  have hl:n<listed.size:=by rw[h.1];exact hlt
  have hf:listed[n]?=some false:=by
   have:=hn2.1
   rw[Array.getD_eq_getD_getElem?,Array.getElem?_eq_getElem hl]at this
   rw[Array.getElem?_eq_getElem hl]
   simpa using this
  refine hstep listed a w n _ rest h.1 (Array.getElem?_eq_getElem hlt) hf (λe he hb=> ?_) h.2.2 λa' w' h'=>hnext a' w' ⟨by simp[h.1],my h.2.1 hf,h'⟩
  have:=Array.all_eq_true'.1 hn2.2 e he
  rw[hb]at this
  simp only[Bool.not_true,Bool.false_or]at this
  rw[Array.getD_eq_getD_getElem?]at this
  cases e3:listed[e.on]? with
  |none=>rw[e3]at this;simp at this
  |some q=>rw[e3]at this;simp at this;rw[this]
 ·simp[gJ]
theorem Rn.does{a:Act}{w:World}{ops:Array Oper}{n:Nat}{rest:List Nat}{o:Oper}{R:Value->World->Prop}(ho:ops[n]?=some o)(hw:Region.wanted o (yielded ops a.tmps)=true)(hnd:∀c,o.op≠ .defer c)(h:uY P a o w R)(next:∀v w',R v w'->Rn P Goal (b.atR (a.put o.dst v) (.inRegion ops rest::k)) cs w'):Rn P Goal (b.atR a (.inRegion ops (n::rest)::k)) cs w:=by
 rcases h with⟨v,w',h1,h2⟩|⟨f,args,h1,h2⟩
 ·exact Rn.ran ho hw hnd h1 (next v w' h2)
 ·exact Rn.call ho hw hnd h1 h2 next
theorem Rn.grows{id:Nat}{ops:Array Oper}{df:List Deferred}{fx:List (Nat×Value)}{ds:List Nat}{G:Nat->Value->World->Prop}{N:Nat}{w:World}{a:Act}(hmix:P.follows .mixedOrders=true)(hchk:Dv ops ds (fx.map (·.1)) N=true)(hmono:∀n v w w',G n v w->Below w.heap.size w w'->G n v w')
 (hop:∀n o a w',n<ds.length->ops[n]?=some o->Below w.heap.size w w'->(∀p∈fx,a.tmps[p.1]?=some p.2)->(∀m d,ds[m]?=some d->jN ops n m=true->∃v,a.tmps[d]?=some v/\G m v w')->uY P a o w' λv w''=>G n v w''/\Below w'.heap.size w' w'')
 (Stage:Nat->Act->World->Prop) (hs0:∀a w',tZ df fx ds G N w a w' (λ_=>True)->Stage ds.length a w')
 (hst:∀n o a w' rest,ds.length<=n->ops[n]?=some o->Stage n a w'->(∀a' w'',Stage (n+1) a' w''->Rn P Goal (b.atR a' (.inRegion ops rest::k)) cs w'')->Rn P Goal (b.atR a (.inRegion ops (n::rest)::k)) cs w')
 (hend:∀a w',Stage ops.size a w'->Rn P Goal (b.atR a k) cs w') (hdf:a.defers=df) (hN:N<=a.tmps.size) (hfx:∀p∈fx,a.tmps[p.1]?=some p.2):Rn P Goal (b.atR a (.code (.region id ops true)::k)) cs w:=by
 simp only[Dv,Bool.and_eq_true,decide_eq_true_eq,List.all_eq_true,List.mem_range,Bool.or_eq_true]at hchk
 obtain⟨⟨⟨⟨⟨c1,c3⟩,c4⟩,c5⟩,c6⟩,c7⟩:=hchk
 refine Rn.draw λt=> ?_
 have hsch:Region.schedule (P.follows .mixedOrders) ops t=Region.linearise .any ops t:=by
  unfold Region.schedule
  rw[hmix]
  simp
 rw[hsch]
 have tail:∀{listed:Array Bool} {m:Nat} {o:Oper},kX ops listed->ds.length<=m->ops[m]?=some o->(∀e∈o.after,Region.binds .any e=true->listed[e.on]?=some true)->∀n,n<m->listed[n]?=some true:=λ{listed m o} hcl hm ho hdep n hn=>by
  have hlt:m<ops.size:=(gA ho).1
  exact hcl.reach ops.size m n o ho hdep (((c7 m hlt).resolve_left (by omega)) n hn)
 refine Rn.orderly (ou c1) (λlisted a w'=>kX ops listed/\(((∀n,ds.length<=n->n<ops.size->listed[n]?=some false)/\tZ df fx ds G N w a w' λn=>listed[n]?=some true)\/∃j,ds.length<j/\j<=ops.size/\(∀n,n<j->listed[n]?=some true)/\(∀n,j<=n->n<ops.size->listed[n]?=some false)/\Stage j a w'))
  (λlisted a w' hall h=> ?_) (λlisted a w' m o rest hsz ho hm hdep h hgo=> ?_) t a _ ⟨λn o _ hl=> ?_, .inl ⟨λn _ hn=>by simp[hn],hdf,hN,hfx,iM w,λn d hd hl=> ?_⟩⟩
 ·refine Rn.p rfl (hend a w' ?_)
  obtain⟨hcl,h⟩:=h
  rcases h with⟨h1,h2⟩|⟨j,h1,h2,h3,h4,h5⟩
  ·have hK:ds.length=ops.size:=by
    refine Nat.le_antisymm c3 (Nat.le_of_not_lt λhlt=> ?_)
    have:=h1 ds.length (Nat.le_refl _) hlt
    rw[hall _ hlt]at this
    cases this
   rw[←hK]
   exact hs0 a w' ⟨h2.defers,h2.size,h2.fixed,h2.old,λn d hd _=>h2.come n d hd (hall n (by have:=(List.getElem?_eq_some_iff.1 hd).1;omega))⟩
  ·have hj:j=ops.size:=by
    refine Nat.le_antisymm h2 (Nat.le_of_not_lt λhlt=> ?_)
    have:=h4 j (Nat.le_refl _) hlt
    rw[hall _ hlt]at this
    cases this
   rw[←hj]
   exact h5
 ·have hmlt:m<ops.size:=(gA ho).1
  obtain⟨hcl,h⟩:=h
  have hgo:=λa' w'' x=>hgo a' w'' ⟨hcl.set ho hdep,x⟩
  by_cases hmK:m<ds.length
  ·rcases h with⟨h1,h2⟩|⟨j,h1,h2,h3,h4,h5⟩
   ·have hc:=c4 m hmK
    rw[ho]at hc
    simp only[Option.map_some,Option.getD_some,Bool.and_eq_true,beq_iff_eq]at hc
    obtain⟨⟨e1,e2⟩,e3⟩:=hc
    have hdm:ds[m]?=some ds[m]:=List.getElem?_eq_getElem hmK
    refine Rn.does ho (by unfold Region.wanted;rw[Option.isNone_iff_eq_none.1 e2]) (λc e=>by rw[e]at e3;cases e3) (hop m o a w' hmK ho h2.old h2.fixed λn d hd hn=>h2.come n d hd (aZ hn ho hdep)) λv w'' hv=> ?_
    rw[e1,hdm]
    have hd6:=c6 ds[m] (List.getElem_mem hmK)
    refine hgo _ _ (.inl ⟨λn hn hlt=> ?_,h2.defers,by simpa[Act.put]using h2.size,λp hp=> ?_,ah h2.old h2.old.size hv.2,λn d hd hl=> ?_⟩)
    ·rw[sN (by omega)]
     exact h1 n hn hlt
    ·show(a.tmps.setIfInBounds ds[m] v)[p.1]?=_
     rw[sN (λe=>by
      have h6:ds[m]∉fx.map (·.1):=by simpa using hd6.2
      exact h6 (by rw[e];exact List.mem_map_of_mem hp))]
     exact h2.fixed p hp
    ·by_cases hnm:n=m
     ·subst hnm
      rw[hdm]at hd
      cases hd
      refine⟨v, ?_,hv.1⟩
      show(a.tmps.setIfInBounds ds[n] v)[ds[n]]?=_
      exact Array.getElem?_setIfInBounds_self_of_lt (Nat.lt_of_lt_of_le hd6.1 h2.size)
     ·rw[sN (Ne.symm hnm)]at hl
      obtain⟨u,hu1,hu2⟩:=h2.come n d hd hl
      refine⟨u, ?_,hmono n u w' w'' hu2 hv.2⟩
      show(a.tmps.setIfInBounds ds[m] v)[d]?=_
      rw[sN (λe=>by
       obtain⟨hn,rfl⟩:=List.getElem?_eq_some_iff.1 hd
       exact hnm ((List.getElem_inj c5).1 e).symm)]
      exact hu1
   ·have:=h3 m (by omega)
    rw[hm]at this
    cases this
  ·have hprev:=tail hcl (by omega) ho hdep
   have hset:∀n,n<m+1->(listed.setIfInBounds m true)[n]?=some true:=λn hn=>by
    by_cases e:m=n
    ·subst e
     exact Array.getElem?_setIfInBounds_self_of_lt (by omega)
    ·rw[sN e]
     exact hprev n (by omega)
   rcases h with⟨h1,h2⟩|⟨j,h1,h2,h3,h4,h5⟩
   ·have hmK2:m=ds.length:=by
     refine Nat.le_antisymm (Nat.le_of_not_lt λhlt=> ?_) (by omega)
     have:=h1 ds.length (Nat.le_refl _) (by omega)
     rw[hprev _ hlt]at this
     cases this
    have hS:Stage m a w':=by
     rw[hmK2]
     exact hs0 a w' ⟨h2.defers,h2.size,h2.fixed,h2.old,λn d hd _=>h2.come n d hd (hprev n (by have:=(List.getElem?_eq_some_iff.1 hd).1;omega))⟩
    refine hst m o a w' rest (by omega) ho hS λa' w'' hS'=>hgo a' w'' (.inr ⟨m+1,by omega,by omega,hset,λn hn hlt=> ?_,hS'⟩)
    rw[sN (by omega)]
    exact h1 n (by omega) hlt
   ·have hmj:m=j:=by
     refine Nat.le_antisymm (Nat.le_of_not_lt λhlt=> ?_) (Nat.le_of_not_lt λhlt=> ?_)
     ·have:=h4 j (Nat.le_refl _) (by omega)
      rw[hprev _ hlt]at this
      cases this
     ·have:=h3 m hlt
      rw[hm]at this
      cases this
    subst hmj
    refine hst m o a w' rest (by omega) ho h5 λa' w'' hS'=>hgo a' w'' (.inr ⟨m+1,by omega,by omega,hset,λn hn hlt=> ?_,hS'⟩)
    rw[sN (by omega)]
    exact h4 n (by omega) hlt
 ·rw[Array.getElem?_replicate]at hl
  split at hl
  ·cases hl
  ·cases hl
 ·rw[Array.getElem?_replicate]at hl
  split at hl
  ·cases hl
  ·cases hl
end
def Et:List (Nat×Value)->List (Nat×Value)->Prop
 |[],_=>True
 |p::r,F=>F.lookup p.1=some p.2/\Et r F
theorem Et.get{F:List (Nat×Value)}:∀{G:List (Nat×Value)},Et G F->∀d v,G.lookup d=some v->F.lookup d=some v
 |[],_,_,_,h=>by cases h
 |p::r,h,d,v,hd=>by
  by_cases e:d=p.1
  ·subst e
   have e2:(p::r).lookup p.1=some p.2:=by simp[List.lookup]
   rw[e2]at hd
   cases hd
   exact h.1
  ·have e2:(p::r).lookup d=r.lookup d:=by simp[List.lookup,show(d==p.1)=false from by simpa using e]
   rw[e2]at hd
   exact Et.get h.2 d v hd
theorem aM.only{F G:List (Nat×Value)}{N:Nat}{ds:List Deferred}{a:Act}(hF:aM F N ds a)(h:Et G F):aM G N ds a:=hF.sub λd v hd=>h.get d v hd
section
variable{P:Program}{Goal:Goroutine->World->Prop}{b:Frame}{a:Act}{k:List Item}{cs:List Frame}{w:World}{F:List (Nat×Value)}{N:Nat}{ds:List Deferred}{ops:Array Oper}{m:Nat}{rest:List Nat}
theorem bI{ev:Operand->Value}{o:Oper}{x:Operand}(hop:o.op= .move x\/o.op= .assign x):(execOp ev o).run P w= .ok (.value (ev x)) w:=by
 rcases hop with h|h<;>simp[execOp,h]
theorem Rn.mv(hF:aM F N ds a)(d x:Nat){v:Value}(hd:d<N)(hx:F.lookup x=some v)(h:(ops[m]?).map (λo=>(o.dst,o.op,o.guard))=some (some d, .move (.tmp x),none))
 (next:∀a',aM ((d,v)::F) N ds a'->Rn P Goal (b.atR a' (.inRegion ops rest::k)) cs w):Rn P Goal (b.atR a (.inRegion ops (m::rest)::k)) cs w:=
 Rn.op hF d (.move (.tmp x)) hd h (by simp) (λo ho=>by rw[bI (.inl ho),hF.get hx]) next
theorem Rn.as(hF:aM F N ds a)(d x:Nat){v:Value}(hd:d<N)(hx:F.lookup x=some v)(h:(ops[m]?).map (λo=>(o.dst,o.op,o.guard))=some (some d, .assign (.tmp x),none))
 (next:∀a',aM ((d,v)::F) N ds a'->Rn P Goal (b.atR a' (.inRegion ops rest::k)) cs w):Rn P Goal (b.atR a (.inRegion ops (m::rest)::k)) cs w:=
 Rn.op hF d (.assign (.tmp x)) hd h (by simp) (λo ho=>by rw[bI (.inr ho),hF.get hx]) next
theorem Rn.mvc(hF:aM F N ds a)(d:Nat)(v:Value)(hd:d<N)(h:(ops[m]?).map (λo=>(o.dst,o.op,o.guard))=some (some d, .move (.const v),none))
 (next:∀a',aM ((d,v)::F) N ds a'->Rn P Goal (b.atR a' (.inRegion ops rest::k)) cs w):Rn P Goal (b.atR a (.inRegion ops (m::rest)::k)) cs w:=
 Rn.op hF d (.move (.const v)) hd h (by simp) (λo ho=>by rw[bI (.inl ho)];rfl) next
theorem Rn.asc(hF:aM F N ds a)(d:Nat)(v:Value)(hd:d<N)(h:(ops[m]?).map (λo=>(o.dst,o.op,o.guard))=some (some d, .assign (.const v),none))
 (next:∀a',aM ((d,v)::F) N ds a'->Rn P Goal (b.atR a' (.inRegion ops rest::k)) cs w):Rn P Goal (b.atR a (.inRegion ops (m::rest)::k)) cs w:=
 Rn.op hF d (.assign (.const v)) hd h (by simp) (λo ho=>by rw[bI (.inr ho)];rfl) next
theorem Fe{ev:Operand->Value}{o:Oper}{x:Operand}{t:TypeId}(hop:o.op= .box t x):(execOp ev o).run P w= .ok (.value (.pointer (some ⟨w.heap.size,0,none⟩))) (w.alloc (.cells (ev x).cells t)):=by
 simp[execOp,hop,Instr.box,newVar,newRow,go_sem]
theorem Rn.boxes(hF:aM F N ds a)(d x:Nat)(t:TypeId){v:Value}(hd:d<N)(hx:F.lookup x=some v)(h:(ops[m]?).map (λo=>(o.dst,o.op,o.guard))=some (some d, .box t (.tmp x),none))
 (next:∀a',aM ((d, .pointer (some ⟨w.heap.size,0,none⟩))::F) N ds a'->Rn P Goal (b.atR a' (.inRegion ops rest::k)) cs (w.alloc (.cells v.cells t))):Rn P Goal (b.atR a (.inRegion ops (m::rest)::k)) cs w:=
 Rn.op hF d (.box t (.tmp x)) hd h (by simp) (λo ho=>by rw[Fe ho,hF.get hx]) next
theorem Rn.calls(hF:aM F N ds a)(d:Nat){f:FuncId}{fn:Func}{xs:Array Operand}{ats:Array TypeId}{args:Array Value}(hd:d<N)(h:(ops[m]?).map (λo=>(o.dst,o.op,o.guard))=some (some d, .call {callee:= .value (.func f),args:=xs,argTypes:=ats},none))(ha:xs.map a.eval=args)
 (hf:P.funcs[f]?=some fn) (hname:(fn.name== "runtime.NumGoroutine")=false) (hb:fn.body.isNone=false) {R:Value→World→Prop} (hC:Calls P f args w λe w'=>∃v,e= .returned v∧R v w')
 (next:∀v w',R v w'->∀a',aM ((d,v)::F) N ds a'->Rn P Goal (b.atR a' (.inRegion ops rest::k)) cs w'):Rn P Goal (b.atR a (.inRegion ops (m::rest)::k)) cs w:=by
 cases ho:ops[m]? with
 |none=>rw[ho]at h;simp at h
 |some o=>
  obtain⟨e1,e2,e3⟩:=aJ ho h
  refine Rn.call ho (e3 _) (by rw[e2];simp) (az (w:=w) e2 ha (aE hf hname hb _)).1 hC λv w' hv=> ?_
  rw[e1]
  exact next v w' hv _ (hF.put hd v)
theorem Rn.does0(hF:aM F N ds a)(p:Op){w':World}(h:(ops[m]?).map (λo=>(o.dst,o.op,o.guard))=some (none,p,none))(hnd:∀c,p≠ .defer c)(hy:∀o:Oper,o.op=p->(execOp a.eval o).run P w= .ok .skip w')
 (next:∀a',aM F N ds a'->Rn P Goal (b.atR a' (.inRegion ops rest::k)) cs w'):Rn P Goal (b.atR a (.inRegion ops (m::rest)::k)) cs w:=by
 cases ho:ops[m]? with
 |none=>rw[ho]at h;simp at h
 |some o=>
  obtain⟨e1,e2,e3⟩:=aJ ho h
  refine Rn.did ho (e3 _) (λc=>by rw[e2];exact hnd c) (hy o e2) ?_
  rw[e1]
  exact next a hF
theorem Rn.gives(hF:aM F N ds a)(d x:Nat){l:Nat}{r:Loop}{xs:Array Operand}{ats:Array TypeId}{args:Array Value}(h:(ops[m]?).map (λo=>(o.dst,o.op,o.guard))=some (some d, .call {callee:= .value (.tmp x),args:=xs,argTypes:=ats},none))
 (hx:F.lookup x=some (.func (.yield l) #[] #[])) (ha:xs.map a.eval=args) (hl:w.heap[l]?=some (.loop r)) (hs:args.size=r.params.size)
 (hround:(∀w',Rn P Goal ((b.atR a (.inRegion ops (m::rest)::k)).finish (.bool true)) cs w'↔Rn P Goal (b.atR (a.put (some d) (.bool true)) (.inRegion ops rest::k)) cs w')->
   Rn P Goal (Frame.round l r.fn ((r.params.zip args).foldl (λtmps (t,a)=>tmps.setIfInBounds t a) r.tmps) r.assign r.body .normal) (b.atR a (.inRegion ops (m::rest)::k)::cs) w):Rn P Goal (b.atR a (.inRegion ops (m::rest)::k)) cs w:=by
 cases ho:ops[m]? with
 |none=>rw[ho]at h;simp at h
 |some o=>
  obtain⟨e1,e2,e3⟩:=aJ ho h
  refine Rn.yields (args:=args) ho (e3 _) (by rw[e2];simp) hl hs (λw=>mH e2 (hF.get hx) ha w) (hround λw'=> ?_)
  rw[Frame.finish_atR,ho,Option.bind_some,e1]
structure pR (P:Program) (Goal:Goroutine->World->Prop) (cs:List Frame) (args:Nat->Array Value) (n l:Nat) (r:Loop) (Inv:Nat->World->Prop):Prop where
 below:∀c w w',Inv c w->Below w.heap.size w w'->Inv c w'
 loop:∀c w,Inv c w->w.heap[l]?=some (.loop r)
 size:∀c,(args c).size=r.params.size
 round:∀c w cf,c<n->Inv c w->(∀w',Inv (c+1) w'->Rn P Goal (cf.finish (.bool true)) cs w')->Rn P Goal (Frame.round l r.fn ((r.params.zip (args c)).foldl (λtmps (t,a)=>tmps.setIfInBounds t a) r.tmps) r.assign r.body .normal) (cf::cs) w
theorem Rn.given{args:Nat->Array Value}{n l c:Nat}{r:Loop}{Inv:Nat->World->Prop}(G:pR P Goal cs args n l r Inv)(hF:aM F N ds a)(d x:Nat){xs:Array Operand}{ats:Array TypeId}(hd:d<N)(h:(ops[m]?).map (λo=>(o.dst,o.op,o.guard))=some (some d, .call {callee:= .value (.tmp x),args:=xs,argTypes:=ats},none))
 (hx:F.lookup x=some (.func (.yield l) #[] #[])) (ha:xs.map a.eval=args c) (hc:c<n) (hI:Inv c w) (next:∀a' w',aM ((d, .bool true)::F) N ds a'->Inv (c+1) w'->Rn P Goal (b.atR a' (.inRegion ops rest::k)) cs w'):Rn P Goal (b.atR a (.inRegion ops (m::rest)::k)) cs w:=
 Rn.gives hF d x h hx ha (G.loop c w hI) (G.size c) λhiff=>G.round c w _ hc hI λw' hI'=>(hiff w').2 (next _ w' (hF.put hd _) hI')
theorem rf:∀{F:List (Nat×Value)} {d:Nat} {v:Value},F.lookup d=some v->(d,v)∈F
 |p::r,d,v,h=>by
  by_cases e:d=p.1
  ·subst e
   have e2:(p::r).lookup p.1=some p.2:=by simp[List.lookup]
   rw[e2]at h
   cases h
   exact List.mem_cons_self
  ·have e2:(p::r).lookup d=r.lookup d:=by simp[List.lookup,show(d==p.1)=false from by simpa using e]
   rw[e2]at h
   exact List.mem_cons_of_mem _ (rf h)
theorem aM.mem{F:List (Nat×Value)}(h1:a.defers=ds)(h2:N<=a.tmps.size)(h:∀p∈F,a.tmps[p.1]?=some p.2):aM F N ds a:=⟨h1,h2,λd v hd=>h (d,v) (rf hd)⟩
theorem aM.more{F:List (Nat×Value)}(h:aM F N ds a){d:Nat}{v:Value}(hv:a.tmps[d]?=some v):aM ((d,v)::F) N ds a:=⟨h.defers,h.size,λe u he=>by
 by_cases q:e=d
 ·subst q
  simp only[List.lookup,beq_self_eq_true,Option.some.injEq]at he
  subst he
  exact hv
 ·simp only[List.lookup,show(e==d)=false from by simpa using q]at he
  exact h.slot e u he⟩
theorem aM.all{F:List (Nat×Value)}(h:aM F N ds a)(hn:(F.map (·.1)).Nodup):∀p∈F,a.tmps[p.1]?=some p.2:=by
 intro p hp
 refine h.slot p.1 p.2 ?_
 clear h
 induction F with
 |nil=>cases hp
 |cons q r ih=>
  rw[List.map_cons,List.nodup_cons]at hn
  rcases List.mem_cons.1 hp with rfl|hp
  ·simp[List.lookup]
  ·have:p.1≠q.1:=λe=>hn.1 (by rw[←e];exact List.mem_map_of_mem hp)
   simp only[List.lookup,show(p.1==q.1)=false from by simpa using this]
   exact ih hn.2 hp
theorem tZ.base{df:List Deferred}{fx:List (Nat×Value)}{gs:List Nat}{G:Nat->Value->World->Prop}{w0:World}{L:Nat->Prop}(h:tZ df fx gs G N w0 a w L):aM fx N df a:=aM.mem h.defers h.size h.fixed
theorem af{a:Act}{o:Oper}{w w':World}{v:Value}{R:Value->World->Prop}(h:(execOp a.eval o).run P w= .ok (.value v) w')(hR:R v w'):uY P a o w R:= .inl ⟨v,w',h,hR⟩
theorem Rn.o(hF:aM F N ds a)(d:Tmp)(p:Op){v:Value}{w':World}(hy:∀o:Oper,o.op=p->(execOp a.eval o).run P w= .ok (.value v) w')
 (next:∀a',aM ((d,v)::F) N ds a'->Rn P Goal (b.atR a' (.inRegion ops rest::k)) cs w') (hd:d<N:=by decide) (h:(ops[m]?).map (λo=>(o.dst,o.op,o.guard))=some (some d,p,none):=by kernel_rfl) (hnd:∀c,p≠ .defer c:=by simp):Rn P Goal (b.atR a (.inRegion ops (m::rest)::k)) cs w:=Rn.op hF d p hd h hnd hy next
theorem Rn.y(hF:aM F N ds a)(d x:Nat){v:Value}(hx:F.lookup x=some v)(next:∀a',aM ((d,v)::F) N ds a'->Rn P Goal (b.atR a' (.inRegion ops rest::k)) cs w)(hd:d<N:=by decide)(h:(ops[m]?).map (λo=>(o.dst,o.op,o.guard))=some (some d, .move (.tmp x),none):=by kernel_rfl):Rn P Goal (b.atR a (.inRegion ops (m::rest)::k)) cs w:=Rn.mv hF d x hd hx h next
theorem Rn.s(hF:aM F N ds a)(d x:Nat){v:Value}(hx:F.lookup x=some v)(next:∀a',aM ((d,v)::F) N ds a'->Rn P Goal (b.atR a' (.inRegion ops rest::k)) cs w)(hd:d<N:=by decide)(h:(ops[m]?).map (λo=>(o.dst,o.op,o.guard))=some (some d, .assign (.tmp x),none):=by kernel_rfl):Rn P Goal (b.atR a (.inRegion ops (m::rest)::k)) cs w:=Rn.as hF d x hd hx h next
theorem Rn.c(hF:aM F N ds a)(d:Nat)(v:Value)(next:∀a',aM ((d,v)::F) N ds a'->Rn P Goal (b.atR a' (.inRegion ops rest::k)) cs w)(hd:d<N:=by decide)(h:(ops[m]?).map (λo=>(o.dst,o.op,o.guard))=some (some d, .assign (.const v),none):=by kernel_rfl):Rn P Goal (b.atR a (.inRegion ops (m::rest)::k)) cs w:=Rn.asc hF d v hd h next
theorem Rn.z(hF:aM F N ds a)(d x:Nat)(t:TypeId){v:Value}(hx:F.lookup x=some v)
 (next:∀a',aM ((d, .pointer (some ⟨w.heap.size,0,none⟩))::F) N ds a'->Rn P Goal (b.atR a' (.inRegion ops rest::k)) cs (w.alloc (.cells v.cells t))) (hd:d<N:=by decide) (h:(ops[m]?).map (λo=>(o.dst,o.op,o.guard))=some (some d, .box t (.tmp x),none):=by kernel_rfl):Rn P Goal (b.atR a (.inRegion ops (m::rest)::k)) cs w:=Rn.boxes hF d x t hd hx h next
theorem EU{a:Act}{o:Oper}{w:World}{v:Value}{x:Nat}{R:Value->World->Prop}(e:o.op= .move (.tmp x)\/o.op= .assign (.tmp x))(h:a.tmps[x]?=some v)(hR:R v w):uY P a o w R:=af (by rw[bI e,C5 h]) hR
theorem nE{n:Nat}{dl:List Nat}{G:Nat->Value->World->Prop}(hne:∀m d,dl[m]?=some d->jN ops n m=true->∃v,a.tmps[d]?=some v/\G m v w)(i d:Nat)(h1:dl[i]?=some d:=by rfl)(h2:jN ops n i=true:=by kernel_rfl):∃v,a.tmps[d]?=some v/\G i v w:=hne i d h1 h2
theorem rI{f:FuncId}{fn:Func}(hf:P.funcs[f]?=some fn)(args:Array Value)(hname:(fn.name== "runtime.NumGoroutine")=false:=by kernel_rfl)(hb:fn.body.isNone=false:=by kernel_rfl):(callFunc f args).runT P w #[]=(.ok (.enter f args) w,#[]):=aE hf hname hb args
end
end Go.Proofs.YtkmoglhgkcnalaaDoor
