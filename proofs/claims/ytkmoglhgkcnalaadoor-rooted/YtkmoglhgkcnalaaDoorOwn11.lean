/- A part of what the last text of the claim imports: texts laid together, and made small, by a program. -/
import Derived.Conc.LeavingOf
import Derived.Deep.RegionHeld3
import Derived.Great.BuildSlice
import Derived.Deep.OwnRows
import Derived.Test.YtkmoglhgkcnalaaDoorOwn10
set_option maxHeartbeats 16000000
set_option maxRecDepth 100000
namespace Go.Proofs.YtkmoglhgkcnalaaDoor
open Go Go.Conc Go.RowKit
theorem FH{D0:Nat->Prop}{W:World}{Stop:Goroutine->World->Prop}{Post:Value->World->Prop}(hstop:∀g w,Stop g w->∀τ d,∃o w1 es,stepG (ac true Tryd.prog) true g (jJ w τ d)= .ended o w1 es)(hS:∀g w,Stop g w->g.frame.mode= .returning/\g.callers=[]){KS:List Int}(hKl:KS.length=64)(hKW:W.rangeAt 0 0 (aj KS)):
 Eu Tryd.prog (ac true Tryd.prog) 68 2 D0 W Stop Post:=by
 intro gL wL gs wM sl sl' t D ρ S gM q d d0 args w1 hm2 ht hw he hst hcont
 obtain⟨hm,hold⟩:=hm2
 have hW:ci 2 w1.drawn D ρ (jJ wL wM.tape d) (wM.at d):=ci.re (wL':=jJ wL wM.tape d) (wM':=wM.at d) hm.rel rfl rfl λi _=>rfl
 have hcalm0:ax (jJ wL wM.tape d):=λb o ho=>hm.calm b o ho
 have htab0:ib (jJ wL wM.tape d) (wM.at d):=hm.tab
 obtain⟨csL,esL,hL,D1,ρ1,args1,csM,wM1,esM,hM,hargs,hcs,oks,hran,hev⟩:=oW uG hW hcalm0 hm.grel he (Nat.le_refl _) true true
 obtain⟨c,cs,rfl⟩:=wF hw hm.grel.ok he hL
 have htree:fc (ac true Tryd.prog) Stop (ba (ac true Tryd.prog) 68 args (c::cs)) w1:=by
  cases ht with
  |stop hs=>
   obtain⟨o,w2,es,e⟩:=hstop gL wL hs wM.tape d
   rw[hL]at e
   cases e
  |go n hn hwn htn=>
   obtain⟨es,e⟩:=hn wM.tape d
   have h2:=htn wM.tape d
   have e':=hL.symm.trans e
   injection e' with e1 e2
   rw[←e1,←e2]at h2
   exact h2
 have hwell:fa (ba (ac true Tryd.prog) 68 args (c::cs)):=⟨rfl,λ_ e=>FrameMode.noConfusion e,rfl⟩
 have hcalm1:ax w1:=hran.quiet hcalm0
 have htab1:ib w1 wM1:=htab0.ran uG.tab hW hran
 have hq:∀g2 w2,StepsIn (λ_=>True) (ac true Tryd.prog) (solo (ba (ac true Tryd.prog) 68 args (c::cs)) w1) (solo g2 w2)->ax w2:=by
  obtain⟨csL2,esL2,hL2,D2,ρ2,args2,csM2,wM2,esM2,hM2,hargs2,hcs2,oks2,hran2,hev2⟩:=oW qI hW hcalm0 hm.grel he (Nat.le_refl _) true true
  have e':=hL.symm.trans hL2
  injection e' with e1 e2
  have e3:c::cs=csL2:=congrArg Goroutine.callers e1
  subst e3
  have hg2:eL 2 D2 ρ2 [] (ba (ac true Tryd.prog) 68 args (c::cs)) (ba (ac true Tryd.prog) 68 args2 csM2):=
   rk hran2.rel qI.tab ⟨qC,qC,py,py,rfl,rfl,ll,rfl,uP _ _ _ py rfl⟩ hargs2 hcs2 oks2
  have hp:iW 2 (λ_=>False) (ba (ac true Tryd.prog) 68 args (c::cs)) w1 (ba (ac true Tryd.prog) 68 args2 csM2) wM2:=⟨⟨D2,ρ2,hran2.rel.re rfl rfl λi hi=>by omega,hg2,λb hb=>hb.elim⟩,htab0.ran qI.tab hW hran2,hcalm1⟩
  intro g2 w2 hs
  obtain⟨_,_,hp2⟩:=D5 qI uP hstop htree hwell _ _ hp g2 w2 hs
  exact hp2.calm
 have hglob:∀b,D b->ρ b≠dN:=λb hb e=>by have:=hW.out _ hb;have:=hW.glob b;have:=uG.tab;omega
 have htW1:wM1.heap[dN]?=W.heap[dN]?:=by
  obtain⟨c,e,f,q1,q2,q3⟩:=htab0
  exact(hran.keep dN (bY q3) hglob).trans hm.tabW
 have hL0:w1.heap[dN]?=W.heap[dN]?:=by
  obtain⟨c,e,f,q1,q2,q3⟩:=htab1
  rw[←htW1,q2,q3]
 have hK1:w1.rangeAt 0 0 (aj KS):=λj v hv=>by
  have:=hKW j v hv
  unfold World.cell? at this⊢
  have e:w1.heap[0]?=W.heap[0]?:=hL0
  rw[e]
  exact this
 have hKM:wM1.rangeAt 0 0 (aj KS):=λj v hv=>by
  have:=hKW j v hv
  unfold World.cell? at this⊢
  have e:wM1.heap[0]?=W.heap[0]?:=htW1
  rw[e]
  exact this
 have hfar:=hran.rel.far
 obtain⟨s,ex,ga,glen,gcap,dig,bL,w2,H⟩:=L1.Ji hstop hS hq hKl hK1 (by omega) htree
 have hcs1:=hcs ρ1 hran.rel.self
 obtain⟨c',cs',hcsM⟩:∃c' cs',csM=c'::cs':=⟨aT ρ1 c,cs.map (aT ρ1)++[],by rw[hcs1];rfl⟩
 subst hcsM
 have ha0:args1[0]?=some (.agg (s.cells++(ex.map (aa ρ1)).toArray)):=by
  rw[hargs ρ1 hran.rel.self,Array.getElem?_map,H.a0,Option.map_some,AK]
 have ha1:args1[1]?=some (.slice (some (au ρ1 ga)) glen gcap):=by
  rw[hargs ρ1 hran.rel.self,Array.getElem?_map,H.a1,Option.map_some,aa,Option.map_some]
 have hga:∀ρ2,aw 2 D1 ρ1 ρ2->au ρ2 ga=au ρ1 ga:=λρ2 h2=>by
  have e:=hargs ρ2 h2
  have:args1[1]?=some (.slice (some (au ρ2 ga)) glen gcap):=by rw[e,Array.getElem?_map,H.a1,Option.map_some,aa,Option.map_some]
  rw[ha1]at this
  simpa using this.symm
 have hshun:∀b,D1 b->¬S (ρ1 b):=λb hb hs=>by
  rcases hran.new b hb with h1|⟨_,h2⟩
  ·rw[(hran.ext b h1).2]at hs
   exact hm.shun b h1 hs
  ·have h3:wM.heap.size<=ρ1 b:=h2
   have:=(hm.shunLow _ hs).2
   omega
 have hsz:wM.heap.size<=wM1.heap.size:=hran.size
 have hevs:∀e∈esM,EvL (eh S) wM1.heap.size e:=λe he=>DW hran.rel uG.tab hshun (λr hs=>(hm.shunLow r hs).1) (.inl (hev e he))
 have hlt:0<gs.size:=(gA hm.at0).1
 have hrunT:=runT_crowd_go (P:=Tryd.prog) (sl:=sl') (i:=0) hm.at0 (show stepG Tryd.prog (0==0) gM (wM.at d)=_ from hM)
 refine cZ.next (hst.trans hrunT) ?_
 have hent:ba Tryd.prog 68 args1 (c'::cs')=hU ((base 68).atR ⟨args1++Array.replicate (20- args1.size) undef,[]⟩ [.code ((Tryd.f68.body).getD .skip)]) (c'::cs'):=by
  unfold ba
  rw[enter_at args1 Tryd.func68 (c:=(Tryd.f68.body).getD .skip) rfl]
  rfl
 rw[hent]
 refine Fv (N:={s:=s,ex:=(ex.map (aa ρ1)).toArray,bs:=0,bg:=0,be:=0,ga:=au ρ1 ga,glen:=glen,gcap:=gcap,dig:=dig,gr:=λr=>r<2\/∃b,D1 b/\ρ1 b=r,wL:=w1,G:=2}) (n:=s.count) (val:=Jp KS {s:=s,ex:=(ex.map (aa ρ1)).toArray,bs:=0,bg:=0,be:=0,ga:=au ρ1 ga,glen:=glen,gcap:=gcap,dig:=dig,gr:=λr=>r<2\/∃b,D1 b/\ρ1 b=r,wL:=w1,G:=2}) (S:=S) (wK:=wM1) (c:=c') (cs:=cs') (q:=q)
  (Gp rfl H.fine hK1 hKl hfar.2.1 ⟨_,_,_,htab1.choose_spec.choose_spec.choose_spec.1,htab1.choose_spec.choose_spec.choose_spec.2.1,htab1.choose_spec.choose_spec.choose_spec.2.1⟩ hcalm1 H.glen rfl H.small H.links) H.pos ?_ ⟨by omega,λh=>absurd (hm.shunLow 0 h).1 (by decide)⟩ (yH hran.rel hga H.digs) htab1 hfar.2.2 ?_ (F8 ha0 ha1) rfl ?_ ?_
 ·rintro b (hb|⟨b0,hb,rfl⟩)
  ·exact⟨by omega,λh=>absurd (hm.shunLow b h).1 (by omega)⟩
  ·exact⟨hran.rel.ltM hb,hshun b0 hb⟩
 ·obtain⟨v0,hv0⟩:∃v0,(aj KS)[0]?=some v0:=by
   cases KS with
   |nil=>simp at hKl
   |cons x L=>exact⟨_,rfl⟩
  exact⟨v0,hKM 0 v0 hv0⟩
 ·exact
   {at0:=Array.getElem?_setIfInBounds_self_of_lt (by simpa using hlt)
    leave:=nO hm.leave gM _ wM1 _ _ esM hlt
    past:=(hm.past.mono hsz).own hevs
    quiet:=hm.quiet.app λop hop x hx hs=>by
     obtain⟨e,he,rfl⟩:=Go.Conc.mem_ofEvents hop
     exact⟨(hevs e he).1 x hx hs,λ_=>rfl⟩
    who:=λop hop=>by
     rw[Array.size_setIfInBounds,Array.size_map]
     rcases Array.mem_append.1 hop with hop|hop
     ·exact hm.who op hop
     ·rw[bA op hop]
      exact hlt
    low:=λb hb=>by have:=(hm.shunLow b hb).2;omega
    own:=λb hb=>hb.elim
    ro:=λb hb=>hb}
 ·intro gs2 w3 sl2 t2 q2 Wg C hB
  obtain⟨b1,b2,b3,b4,b5,b6,b7,b8,b9,b10,b11⟩:=hB
  have keepR:∀b,D1 b->w3.heap[ρ1 b]?=wM1.heap[ρ1 b]?:=λb hb=>b2.keep (ρ1 b) ⟨hran.rel.ltM hb,hshun b hb⟩
  have z3:w3.heap[dN]?=wM1.heap[dN]?:=b2.keep 0 ⟨by omega,λh=>absurd (hm.shunLow 0 h).1 (by decide)⟩
  have z2:w2.heap[dN]?=w1.heap[dN]?:=H.keep.block 0 (by omega)
  obtain⟨ρ2,hmain,hr1,hr2⟩:=yg (P:=Tryd.prog) (D0:=D0) (W:=W) (S:=S) (wL2:=w2) (wM2:=w3) (bL:=bL) (C:=C) (Wg:=Wg) (c:=c) (c':=c') (cs:=cs) (cs':=cs') (v:= .slice (some ⟨bL,0,none⟩) s.count s.count) (v':= .slice (some ⟨C,0,none⟩) s.count s.count) (gs:=gs2) (t:=t2) (q:=q2) hran.rel
   (λb hb=>⟨(hran.ext b (hm.first b hb).1).1,(hran.ext b (hm.first b hb).1).2.trans (hm.first b hb).2⟩) hshun (λr hs=>⟨(hm.shunLow r hs).1,by have:=(hm.shunLow r hs).2;omega⟩) hcs oks (λb hb=>H.keep.block b (hran.rel.ltL hb)) keepR H.keep.size b2.size H.low b4 H.list rfl (λρ'=>by rw[CW];exact b3) ⟨b5,b6,b7⟩ (λρ' e=>by rw[aa,Option.map_some];unfold au;rw[e])
   (by obtain⟨c,e,f,q1,q2,q3⟩:=htab1;exact⟨c,e,f,q1,z2.trans q2,z3.trans q3⟩) (hq _ _ H.steps) ⟨b2.os.trans (hran.os.trans hm.same.1),b2.output.trans (hran.output.trans hm.same.2.1),b2.tape.trans (hran.tape.trans hm.same.2.2)⟩ (z3.trans htW1) b1 b8 b9 b10 b11
  have hold1:=hold.step hm.first hran
  refine hcont _ _ _ _ _ _ _ _ _ _ _ ⟨_,_,_,_,_,hL,H.steps⟩ ⟨hmain, ?_⟩
  refine⟨Nat.le_trans hold1.size b2.size,λr hr hd=> ?_, ?_,λr hr=> ?_⟩
  ·have hs:=hold1.size
   exact(b2.keep r ⟨by omega,λh=>by have:=hold1.shun r h;omega⟩).trans (hold1.keep r hr hd)
  ·rintro b (hb|rfl)
   ·rw[hr1 b hb]
    exact hold1.fresh b hb
   ·have hs:=hold1.size
    exact .inr (by rw[hr2];omega)
  ·rcases hr with hr|rfl
   ·exact hold1.shun r hr
   ·have hs:=hold1.size
    omega
def M5(f:FuncId)(r:Nat)(v:Value)(g:Goroutine)(w:World):Prop:=lP f r (· =v) g w/\g.dying=none/\g.frame.kind= .normal
theorem vi{P:Program}{f:FuncId}{fn:Func}{r:Nat}{v:Value}{g:Goroutine}{w w':World}(hf:P.funcs[f]?=some fn)(hr:fn.results=#[.tmp r])(hI:P.inits.idxOf? f=none)(h:M5 f r v g w):stepG P true g w'= .ended (.done v) w' #[]:=by
 obtain⟨⟨s1,s2,s3,s4,u,s5,rfl⟩,s6,s7⟩:=h
 obtain⟨fr,cs,st,dy,of⟩:=g
 simp only at s1 s2 s3 s4 s5 s6 s7
 subst s1 s4 s6
 obtain⟨q1,q2⟩:=nB (P:=P) hr s5 w'
 simp[stepG,unwind,doReturn,s2,s3,s7,hf,hI,q1,q2,seen,GStep.after]
theorem Ar{G:Nat}{f:FuncId}{r:Nat}{v:Value}(hv:aI v=true)(hne:(f==aV)=false){D0:Nat->Prop}{g g':Goroutine}{w w':World}(h:iW G D0 g w g' w')(hs:M5 f r v g w):M5 f r v g' w':=by
 refine⟨tG (λv' e=>by rw[e];exact hv) hne h hs.1, ?_, ?_⟩
 ·obtain⟨⟨D,ρ,h1,h2,_⟩,_,_⟩:=h
  exact h2.run.2.2.2
 ·obtain⟨⟨D,ρ,h1,h2,_⟩,_,_⟩:=h
  rw[h2.frame ρ h1.self]
  exact hs.2.2
theorem qu{PL:Program}{G:Nat}(E:j4 PL PL G)(hB:∀f (fn:Func) c,PL.funcs[f]?=some fn->fn.body=some c->eM (f==aV) c=true){f:FuncId}{fn:Func}{c:Code}{r:Nat}(hf:PL.funcs[f]?=some fn)(hb:fn.body=some c)(hr:fn.results=#[.tmp r])(hne:(f==aV)=false){args:Array Value}(ha:∀v∈args,aI v=true){w:World}(hG:2<=G/\G<=w.heap.size)(htab:ib w w)(hcalm:ax w){v:Value}(hv:aI v=true)(hu:v≠undef)
 (hC:∀τ,Calls PL f args (jJ w τ 0) λe _=>e= .returned v):fc PL (M5 f r v) (ba PL f args []) w:=by
 refine nh E hB (D0:=λ_=>False) pu (qT ⟨fn,hf,c,hb,hB f fn c hf hb⟩ ha hG htab hcalm) ⟨rfl,λ_ e=>FrameMode.noConfusion e,rfl⟩ (λτ=> ?_) λg w g' w' hp hs=>Ar hv hne hp hs
 obtain⟨e,w',fr,rfl,hcm,hfn,hlv⟩:=hC τ []
 obtain⟨l1,l2,l3,fn2,l4,l5⟩:=hlv
 refine⟨fr,w',l1,pr E.inits (StepsIn.of_steps hcm) td,⟨hfn,l1,l2,rfl,v, ?_,rfl⟩,rfl,l3⟩
 rw[hfn,hf]at l4
 cases l4
 rw[results_tmp hr]at l5
 have e:fr.tmps.getD r undef=v:=by simpa using l5
 rw[Array.getD_eq_getD_getElem?]at e
 cases ht:fr.tmps[r]? with
 |none=>rw[ht]at e;exact absurd e.symm hu
 |some x=>rw[ht]at e;exact congrArg some e
theorem yp{f:FuncId}{fn:Func}{c:Code}{r:Nat}{args:Array Value}{v:Value}{W:World}{KS:List Int}(hf:Tryd.prog.funcs[f]?=some fn)(hb:fn.body=some c)(hok:eM (f==aV) c=true)(hr:fn.results=#[.tmp r])(hne:(f==aV)=false)(hfK:f≠68)(hx:rp f=false)(hinit:Tryd.prog.inits.idxOf? f=none)
 (ha:∀v∈args,aI v=true) (hv:aI v=true) (hu:v≠undef) (hW2:2<=W.heap.size) (hK:W.rangeAt 0 0 (aj KS)) (hKl:KS.length=64) (htab:∃cl e z,(∀v∈cl,aI v=true)/\W.heap[0]?=some (.cells cl e z))
 (hC:∀w:World,w.rangeAt 0 0 (aj KS)->2<=w.heap.size->Calls (ac true Tryd.prog) f args w λe _=>e= .returned v):
 cZ Tryd.prog (λv' W'=>v'=v/\Below W.heap.size W W') (solo (G (Frame.enter Tryd.prog f args .normal) []) W) #[]:=by
 obtain⟨cl,e,z,hcl,h0⟩:=htab
 have hLf:(ac true Tryd.prog).funcs[f]?=some fn:=aB hf hfK hx hb hok
 have hinitL:(ac true Tryd.prog).inits.idxOf? f=none:=by rw[qI.inits];simp
 have hT:ib {W with heap:=#[.cells cl e z, .cells #[] 0]} W:=⟨cl,e,z,hcl,rfl,h0⟩
 have hTT:ib {W with heap:=#[.cells cl e z, .cells #[] 0]} {W with heap:=#[.cells cl e z, .cells #[] 0]}:=⟨cl,e,z,hcl,rfl,rfl⟩
 have hcalm:ax {W with heap:=#[.cells cl e z, .cells #[] 0]}:=λb o ho=>by
  match b,ho with
  |0,ho=>simp at ho;subst ho;rfl
  |1,ho=>simp at ho;subst ho;rfl
  |b+2,ho=>simp at ho
 have hKL:∀τ,(jJ {W with heap:=#[.cells cl e z, .cells #[] 0]} τ 0).rangeAt 0 0 (aj KS):=λτ j u hj=>by
  have:=hK j u hj
  unfold World.cell? at this⊢
  rw[h0]at this
  exact this
 have htree:=qu qI uP hLf hb hr hne ha (w:={W with heap:=#[.cells cl e z, .cells #[] 0]}) ⟨Nat.le_refl 2,Nat.le_refl 2⟩ hTT hcalm hv hu λτ=>hC _ (hKL τ) (Nat.le_refl 2)
 have hstop:∀g w,M5 f r v g w->∀τ d,∃o w1 es,stepG (ac true Tryd.prog) true g (jJ w τ d)= .ended o w1 es:=λg w hs τ d=>⟨_,_,_,vi hLf hr hinitL hs⟩
 have hS:∀g w,M5 f r v g w->g.frame.mode= .returning/\g.callers=[]:=λg w hs=>⟨hs.1.2.1,hs.1.2.2.2.1⟩
 have hW0:ci 2 0 (λ_=>False) id {W with heap:=#[.cells cl e z, .cells #[] 0]} W:=⟨λ_ _ e=>e,λb hb=>hb.elim,λi hi=>by omega,λb=>Iff.rfl,⟨Nat.le_refl 2,Nat.le_refl 2,hW2⟩,λb hb=>hb.elim⟩
 have hargs:∀ρ2:Nat->Nat,args=args.map (aa ρ2):=λρ2=>by
  apply Array.ext
  ·simp
  ·intro k h1 h2
   simp[cE ρ2 _ (ha _ (Array.getElem_mem h1))]
 have hmain:tY Tryd.prog 2 (λ_=>False) W (ba (ac true Tryd.prog) f args []) {W with heap:=#[.cells cl e z, .cells #[] 0]} #[ba Tryd.prog f args []] W #[] (λ_=>False) id (λ_=>False) (ba Tryd.prog f args []) (λ_=>0):=by
  refine⟨?_,Nat.le_refl _,λ_ _ _=>rfl,λb hb=>hb.elim,λb hb=>hb.elim⟩
  exact
   {rel:=hW0
    grel:=rk hW0 uG.tab ⟨fn,fn,hLf,hf,rfl,rfl,c,hb,hok⟩ (λρ2 _=>hargs ρ2) (λρ2 _=>rfl) λc hc=>absurd hc List.not_mem_nil
    at0:=rfl
    first:=λb hb=>hb.elim
    shun:=λb hb=>hb.elim
    shunLow:=λb hb=>hb.elim
    past:=⟨λsaid=>by rintro⟨i,j,_,⟨a,b,ha,_⟩,_⟩;simp[Trace.act?]at ha,λi a ha=>by simp[touchAt,Trace.act?]at ha,λi g hg=>by simp[Trace.g?]at hg,rfl,by simp⟩
    quiet:=λi op x hi=>by simp at hi
    who:=λop hop=>by simp at hop
    tab:=hT
    calm:=hcalm
    leave:=leavers_one _ _
    same:=⟨rfl,rfl,rfl⟩
    tabW:=rfl}
 have hends:=ye (Post:=λv' W'=>v'=v/\Below W.heap.size W W') uG JD hstop (λgL wL gs wM t D ρ S gM q hm hs d=> ?_) (FH hstop hS hKl hK) htree ⟨rfl,λ_ e=>FrameMode.noConfusion e,rfl⟩ #[ba Tryd.prog f args []] W none #[] _ _ _ _ _ hmain
 ·exact hends
 ·refine⟨v,#[], ?_,λe he=>by simp at he,rfl, ?_⟩
  ·have hp:M5 f r v gM wM:=by
    have hfr:=hm.1.grel.frame ρ hm.1.rel.self
    obtain⟨⟨s1,s2,s3,s4,u,s5,s6⟩,s7,s8⟩:=hs
    have hcs:=hm.1.grel.callers ρ hm.1.rel.self
    rw[s4]at hcs
    refine⟨⟨by rw[hfr];exact s1,by rw[hfr];exact s2,by rw[hfr];show gL.frame.defers.map _=[];rw[s3];rfl,by simpa using hcs,u, ?_,s6⟩,hm.1.grel.run.2.2.2,by rw[hfr];exact s8⟩
    rw[hfr]
    show(iY ρ gL.frame.fn gL.frame.tmps)[r]?=_
    rw[ek ρ _ _ r (by rw[s1,hne];rfl),s5]
    simp[cE ρ u (by rw[s6];exact hv)]
   exact vi hf hr hinit hp
  ·exact⟨hm.1.same.1,hm.1.same.2.2,hm.1.same.2.1,hm.2.size,λk hk=>hm.2.keep k hk λh=>h⟩
end Go.Proofs.YtkmoglhgkcnalaaDoor
namespace Go.Proofs.YtkmoglhgkcnalaaDoor
open Go
section
variable{q:Bool}
@[simp] theorem Lf.func15:(ac q Tryd.prog).funcs[15]?=some Tryd.f15:=aB Tryd.func15 (by decide) rfl rfl (by kernel_rfl)
@[simp] theorem Lf.func32:(ac q Tryd.prog).funcs[32]?=some Tryd.f32:=aB Tryd.func32 (by decide) rfl rfl (by kernel_rfl)
@[simp] theorem Lf.func49:(ac q Tryd.prog).funcs[49]?=some Tryd.f49:=aB Tryd.func49 (by decide) rfl rfl (by kernel_rfl)
@[simp] theorem Lf.func50:(ac q Tryd.prog).funcs[50]?=some Tryd.f50:=aB Tryd.func50 (by decide) rfl rfl (by kernel_rfl)
@[simp] theorem Lf.func51:(ac q Tryd.prog).funcs[51]?=some Tryd.f51:=aB Tryd.func51 (by decide) rfl rfl (by kernel_rfl)
@[simp] theorem Lf.func65:(ac q Tryd.prog).funcs[65]?=some Tryd.f65:=aB Tryd.func65 (by decide) rfl rfl (by kernel_rfl)
@[simp] theorem Lf.func77:(ac q Tryd.prog).funcs[77]?=some Tryd.f77:=aB Tryd.func77 (by decide) rfl rfl (by kernel_rfl)
@[simp] theorem Lf.func89:(ac q Tryd.prog).funcs[89]?=some Tryd.f89:=aB Tryd.func89 (by decide) rfl rfl (by kernel_rfl)
@[simp] theorem Lf.func79:(ac q Tryd.prog).funcs[79]?=some Tryd.f79:=aB Tryd.func79 (by decide) rfl rfl (by kernel_rfl)
@[simp] theorem Lf.func90:(ac q Tryd.prog).funcs[90]?=some Tryd.f90:=aB Tryd.func90 (by decide) rfl rfl (by kernel_rfl)
@[simp] theorem Lf.func67:(ac q Tryd.prog).funcs[67]?=some Tryd.f67:=aB Tryd.func67 (by decide) rfl rfl (by kernel_rfl)
@[simp] theorem Lf.func69:(ac q Tryd.prog).funcs[69]?=some Tryd.f69:=aB Tryd.func69 (by decide) rfl rfl (by kernel_rfl)
@[simp] theorem Lf.func86:(ac q Tryd.prog).funcs[86]?=some Tryd.f86:=aB Tryd.func86 (by decide) rfl rfl (by kernel_rfl)
@[simp] theorem Lf.func8:(ac q Tryd.prog).funcs[8]?=some Tryd.f8:=aB Tryd.func8 (by decide) rfl rfl (by kernel_rfl)
@[simp] theorem Lf.func11:(ac q Tryd.prog).funcs[11]?=some Tryd.f11:=aB Tryd.func11 (by decide) rfl rfl (by kernel_rfl)
@[simp] theorem Lf.func16:(ac q Tryd.prog).funcs[16]?=some Tryd.f16:=aB Tryd.func16 (by decide) rfl rfl (by kernel_rfl)
@[simp] theorem Lf.func18:(ac q Tryd.prog).funcs[18]?=some Tryd.f18:=aB Tryd.func18 (by decide) rfl rfl (by kernel_rfl)
@[simp] theorem Lf.func20:(ac q Tryd.prog).funcs[20]?=some Tryd.f20:=aB Tryd.func20 (by decide) rfl rfl (by kernel_rfl)
@[simp] theorem Lf.func21:(ac q Tryd.prog).funcs[21]?=some Tryd.f21:=aB Tryd.func21 (by decide) rfl rfl (by kernel_rfl)
@[simp] theorem Lf.func33:(ac q Tryd.prog).funcs[33]?=some Tryd.f33:=aB Tryd.func33 (by decide) rfl rfl (by kernel_rfl)
@[simp] theorem Lf.func34:(ac q Tryd.prog).funcs[34]?=some Tryd.f34:=aB Tryd.func34 (by decide) rfl rfl (by kernel_rfl)
@[simp] theorem Lf.func35:(ac q Tryd.prog).funcs[35]?=some Tryd.f35:=aB Tryd.func35 (by decide) rfl rfl (by kernel_rfl)
@[simp] theorem Lf.func36:(ac q Tryd.prog).funcs[36]?=some Tryd.f36:=aB Tryd.func36 (by decide) rfl rfl (by kernel_rfl)
@[simp] theorem Lf.func37:(ac q Tryd.prog).funcs[37]?=some Tryd.f37:=aB Tryd.func37 (by decide) rfl rfl (by kernel_rfl)
@[simp] theorem Lf.func38:(ac q Tryd.prog).funcs[38]?=some Tryd.f38:=aB Tryd.func38 (by decide) rfl rfl (by kernel_rfl)
@[simp] theorem Lf.func52:(ac q Tryd.prog).funcs[52]?=some Tryd.f52:=aB Tryd.func52 (by decide) rfl rfl (by kernel_rfl)
@[simp] theorem Lf.func27:(ac q Tryd.prog).funcs[27]?=some Tryd.f27:=aB Tryd.func27 (by decide) rfl rfl (by kernel_rfl)
@[simp] theorem Lf.call27(args:Array Value)(w:World):(callFunc 27 args).run (ac q Tryd.prog) w= .ok (.enter 27 args) w:=cG Lf.func27 (by kernel_rfl) rfl args w
@[simp] theorem Lf.func28:(ac q Tryd.prog).funcs[28]?=some Tryd.f28:=aB Tryd.func28 (by decide) rfl rfl (by kernel_rfl)
@[simp] theorem Lf.call28(args:Array Value)(w:World):(callFunc 28 args).run (ac q Tryd.prog) w= .ok (.enter 28 args) w:=cG Lf.func28 (by kernel_rfl) rfl args w
@[simp] theorem Lf.func44:(ac q Tryd.prog).funcs[44]?=some Tryd.f44:=aB Tryd.func44 (by decide) rfl rfl (by kernel_rfl)
@[simp] theorem Lf.call44(args:Array Value)(w:World):(callFunc 44 args).run (ac q Tryd.prog) w= .ok (.enter 44 args) w:=cG Lf.func44 (by kernel_rfl) rfl args w
@[simp] theorem Lf.func45:(ac q Tryd.prog).funcs[45]?=some Tryd.f45:=aB Tryd.func45 (by decide) rfl rfl (by kernel_rfl)
@[simp] theorem Lf.call45(args:Array Value)(w:World):(callFunc 45 args).run (ac q Tryd.prog) w= .ok (.enter 45 args) w:=cG Lf.func45 (by kernel_rfl) rfl args w
@[simp] theorem Lf.func53:(ac q Tryd.prog).funcs[53]?=some Tryd.f53:=aB Tryd.func53 (by decide) rfl rfl (by kernel_rfl)
@[simp] theorem Lf.call53(args:Array Value)(w:World):(callFunc 53 args).run (ac q Tryd.prog) w= .ok (.enter 53 args) w:=cG Lf.func53 (by kernel_rfl) rfl args w
@[simp] theorem Lf.func5:(ac q Tryd.prog).funcs[5]?=some Tryd.f5:=aB Tryd.func5 (by decide) rfl rfl (by kernel_rfl)
theorem Lf.underlying49:type_of%((bj (q:=q) (P:=Tryd.prog) 49).trans Tryd.underlying49):=(bj 49).trans Tryd.underlying49
theorem Lf.underlying24:type_of%((bj (q:=q) (P:=Tryd.prog) 24).trans Tryd.underlying24):=(bj 24).trans Tryd.underlying24
theorem Lf.underlying38:type_of%((bj (q:=q) (P:=Tryd.prog) 38).trans Tryd.underlying38):=(bj 38).trans Tryd.underlying38
theorem Lf.underlying78:type_of%((bj (q:=q) (P:=Tryd.prog) 78).trans Tryd.underlying78):=(bj 78).trans Tryd.underlying78
theorem Lf.underlying82:type_of%((bj (q:=q) (P:=Tryd.prog) 82).trans Tryd.underlying82):=(bj 82).trans Tryd.underlying82
end
end Go.Proofs.YtkmoglhgkcnalaaDoor
namespace Go.Proofs.YtkmoglhgkcnalaaDoor
open Go.RowKit
def aF(l:List Int):List Value:=l.map λx=>Value.int .i64 x
theorem dX(l:List Int):(aF l).length=l.length:=by simp[aF]
theorem mX(l:List Int):∀v∈aF l,v.oneCell'=true:=by
 intro v hv;simp only[aF,List.mem_map]at hv;obtain⟨x,_,rfl⟩:=hv;rfl
theorem KE(L:List Int)(k:Nat)(h:k<L.length):(aF L)[k]?=some (.int .i64 (L.getD k 0)):=by
 simp[aF,h]
theorem Ho{w:World}{b o:Nat}{L:List Int}(h:w.rangeAt b o (aF L))(k:Nat)(hk:k<L.length):w.cell? ⟨b,o+k,none⟩=some (.int .i64 (L.getD k 0)):=h k _ (KE L k hk)
theorem dC{w:World}{b:Nat}{L:List Int}(h:w.rangeAt b 0 (aF L))(k:Nat)(hk:k<L.length):w.cell? ⟨b,k,none⟩=some (.int .i64 (L.getD k 0)):=by
 have:=Ho h k hk;rwa [Nat.zero_add]at this
theorem JA(L:List Int)(k:Nat)(v:Int):(aF L).set k (.int .i64 v)=aF (L.set k v):=by simp[aF,List.map_set]
theorem qJ(B:List UInt8)(k:Nat)(h:k<64)(v:Int)(hv:v=if k<16 then oQ B k else pq (aU B k) k):(aF (bP B k)).set k (.int .i64 v)=aF (bP B (k+1)):=by
 subst hv
 rw[bP,bP,show 64- k=(64-(k+1))+1 from by omega,List.replicate_succ,aF,aF,aU]
 rw[List.map_append,List.set_append_right _ _ (by simp[bh])]
 simp[bh]
theorem ko(B:List UInt8)(k j:Nat)(h:j<k):(aF (bP B k))[j]?=some (.int .i64 ((aU B k).getD j 0)):=by
 rw[bP,aF,List.map_append,List.getElem?_append_left (by simp[bh];omega)]
 simp[bh,h]
theorem pd(B:List UInt8)(k:Nat)(hk:k<64):(aF (bP B k))[k]?=some (.int .i64 0):=by
 rw[bP,aF,List.map_append,List.getElem?_append_right (by simp[bh])]
 rw[List.map_replicate,List.getElem?_replicate,if_pos (by simp[bh];omega)]
theorem uj(B:List UInt8):aF (bP B 0)=List.replicate 64 (.int .i64 0):=by
 simp[bP,aU,aF]
structure GM (w M:World) (H KS:List Int) (kb cap:Nat) (hs:Value):Prop where
 size:M.heap.size=w.heap.size+1+1+1
 below:Below w.heap.size w M
 crow:M.cell? ⟨w.heap.size,1,none⟩=some (.slice (some ⟨kb,0,none⟩) 64 cap)
 hrow:M.rangeAt (w.heap.size+1) 0 (aF H)
 res:M.there (w.heap.size+1+1) 0 8
 krow:M.rangeAt kb 0 (aF KS)
 hsv:hs=hs
structure IR (w N:World) (H KS S:List Int) (kb cap:Nat):Prop where
 size:N.heap.size=w.heap.size+1+1+1+1
 below:Below w.heap.size w N
 crow:N.cell? ⟨w.heap.size,1,none⟩=some (.slice (some ⟨kb,0,none⟩) 64 cap)
 hrow:N.rangeAt (w.heap.size+1) 0 (aF H)
 res:N.there (w.heap.size+1+1) 0 8
 srow:N.rangeAt (w.heap.size+1+1+1) 0 (aF S)
 krow:N.rangeAt kb 0 (aF KS)
theorem AE{w M:World}{H KS:List Int}{kb cap:Nat}{hs:Value}(h:GM w M H KS kb cap hs)(S:List Int)(T:TypeId)(n:Nat):IR w ((M.alloc (.cells (aF S).toArray T)).drewN n) H KS S kb cap:=
 ⟨by show(M.alloc _).heap.size=_;rw[World.size_alloc,h.size],below_drewN (h.below.alloc (by rw[h.size];omega) _) n,
  by show(M.alloc _).cell? _=_;rw[World.cell?_alloc_past _ _ _ (by rw[h.size];omega)];exact h.crow,
  j9 (World.rangeAt_alloc h.hrow _),oV (World.there_alloc h.res _),j9 (dT _ _ _ _ h.size.symm),j9 (World.rangeAt_alloc h.krow _)⟩
def mP(H G:List Int)(k:Nat):List Int:=(List.range 8).map λi=>if i<k then IntKind.u32.wrap (H.getD i 0+G.getD i 0)else G.getD i 0
theorem vX(H G:List Int)(k:Nat):(mP H G k).length=8:=by simp[mP]
theorem yc(H:List Int)(G:St):mP H G.list 0=G.list:=rfl
theorem Dk(H G:List Int):mP H G 8=dr H G 8:=by
 apply List.ext_getElem
 ·simp[mP,dr]
 ·intro i h1 h2
  have h3:i<8:=by simpa[dr]using h2
  simp[mP,dr,h3]
theorem Dj(H G:List Int)(k:Nat)(h:k<8):(mP H G k).getD k 0=G.getD k 0:=by
 rw[mP,List.getD_eq_getElem?_getD,List.getElem?_map,List.getElem?_range h];simp
theorem Di(H G:List Int)(k:Nat):(aF (mP H G k)).set k (.int .i64 (IntKind.u32.wrap (H.getD k 0+G.getD k 0)))=aF (mP H G (k+1)):=by
 rw[JA]
 congr 1
 apply List.ext_getElem
 ·simp[mP]
 ·intro i h1 h2
  have hi:i<8:=by simpa[mP]using h2
  rw[List.getElem_set]
  simp only[mP,List.getElem_map,List.getElem_range]
  by_cases e:k=i
  ·subst e;simp
  ·rw[if_neg e]
   by_cases e2:i<k
   ·rw[if_pos e2,if_pos (by omega)]
   ·rw[if_neg e2,if_neg (by omega)]
theorem ES{G:St}(h:G.Wd):l7 G.list:=by
 intro i
 by_cases h8:i<8
 ·have:i=0\/i=1\/i=2\/i=3\/i=4\/i=5\/i=6\/i=7:=by omega
  rcases this with rfl|rfl|rfl|rfl|rfl|rfl|rfl|rfl
  ·exact h.a
  ·exact h.b
  ·exact h.c
  ·exact h.d
  ·exact h.e
  ·exact h.f
  ·exact h.g
  ·exact h.h
 ·rw[List.getD_eq_getElem?_getD,List.getElem?_eq_none (by simp[St.list];omega)];exact Jh
theorem BU(w:World)(H KS:List Int)(kb cap:Nat)(hs:Value)(T1 T2 T3:TypeId)(hK:w.rangeAt kb 0 (aF KS))(z8:Array Value)(h8:z8.size=8):
 GM w (((w.alloc (.cells #[hs, .slice (some ⟨kb,0,none⟩) 64 cap] T1)).alloc (.cells (aF H).toArray T2)).alloc (.cells z8 T3)) H KS kb cap hs:=by
 refine⟨by simp,(((Below.refl _ _).alloc (Nat.le_refl _) _).alloc (by simp) _).alloc (by simp;omega) _, ?_, ?_, ?_, ?_,rfl⟩
 ·rw[World.cell?_alloc_past _ _ _ (by simp;omega),World.cell?_alloc_past _ _ _ (by simp),World.cell?_alloc_at _ _ _ _ rfl];rfl
 ·exact World.rangeAt_alloc (dT _ _ _ _ (by simp)) _
 ·exact cD _ _ _ _ _ (by simp) h8
 ·exact World.rangeAt_alloc (World.rangeAt_alloc (World.rangeAt_alloc hK _) _) _
theorem bq(n:Int)(h0:0<=n)(h1:n<=9223372036854775807):IntKind.i64.wrap n=n:=by rw[IntKind.wrap_i64];omega
theorem EN(L:List UInt8)(a k:Nat)(hk:k<16)(h:a+64<=L.length):fL [L.getD (a+4*k) 0,L.getD (a+4*k+1) 0,L.getD (a+4*k+2) 0,L.getD (a+4*k+3) 0]=oQ ((L.drop a).take 64) k:=by
 have e:(((L.drop a).take 64).drop (4*k)).take 4=[L.getD (a+4*k) 0,L.getD (a+4*k+1) 0,L.getD (a+4*k+2) 0,L.getD (a+4*k+3) 0]:=by
  apply List.ext_getElem
  ·simp;omega
  ·intro i h1 h2
   have hi:i<4:=by simpa using h2
   have hg:∀j (hj:j<L.length),L.getD j 0=L[j]:=λj hj=>by rw[List.getD_eq_getElem?_getD,List.getElem?_eq_getElem hj];rfl
   have:i=0\/i=1\/i=2\/i=3:=by omega
   rcases this with rfl|rfl|rfl|rfl
   ·simp only[List.getElem_cons_zero];rw[hg _ (by omega)];simp
   ·simp only[List.getElem_cons_zero,List.getElem_cons_succ];rw[hg _ (by omega)];simp[Nat.add_assoc]
   ·simp only[List.getElem_cons_zero,List.getElem_cons_succ];rw[hg _ (by omega)];simp[Nat.add_assoc]
   ·simp only[List.getElem_cons_zero,List.getElem_cons_succ];rw[hg _ (by omega)];simp[Nat.add_assoc]
 rw[oQ,e]
 have:=lZ [L.getD (a+4*k) 0,L.getD (a+4*k+1) 0,L.getD (a+4*k+2) 0,L.getD (a+4*k+3) 0] 4 (by simp)
 rw[IntKind.wrap_u32,Int.emod_eq_of_lt this.1 (by simpa using this.2)]
theorem oM{M W0:World}{L:List Value}{n b j:Nat}{v:Value}(hM:M=(W0.alloc (.cells L.toArray 71)).drewN n)(hb:W0.heap.size=b)(h:L[j]?=some v):M.cell? ⟨b,j,none⟩=some v:=by
 subst hM;simp only[World.cell?_drewN];rw[World.cell?_alloc_at _ _ _ _ hb.symm];simpa using h
theorem xu{M W0:World}{L:List Value}{n b:Nat}(hM:M=(W0.alloc (.cells L.toArray 71)).drewN n)(hb:W0.heap.size=b)(j:Nat):M.frozen? ⟨b,j,none⟩=false:=by
 subst hM;simp only[World.frozen?_drewN];rw[World.frozen?_alloc_at _ _ _ _ hb.symm]
theorem GW{M W0:World}{L:List Value}{n b:Nat}(hM:M=(W0.alloc (.cells L.toArray 71)).drewN n)(hb:W0.heap.size=b)(a j:Nat)(v:Value):(M.drewN a).setCell ⟨b,j,none⟩ v=(W0.alloc (.cells (L.set j v).toArray 71)).drewN (n+a):=by
 subst hM
 rw[World.drewN_drewN]
 show((W0.alloc (.cells L.toArray 71)).setCell ⟨b,j,none⟩ v).drewN (n+a)=_
 rw[World.setCell_alloc_at _ _ _ _ _ hb.symm]
 simp
def dD(n:Nat):Nat:=(n+8)/64*64+64
theorem AM(n:Nat):(119- n%64)%64=dD n- n- 9:=by unfold dD;omega
theorem Lp(n:Nat):n+9<=dD n:=by unfold dD;omega
def qV(L:List UInt8)(i:Nat):List UInt8:=L++[128]++List.replicate (dD L.length- L.length- 9) 0++(cg (8*L.length) 8).take i++List.replicate (8- i) 0
theorem lv(L:List UInt8)(i:Nat)(h:i<=8):(qV L i).length=dD L.length:=by
 have:=Lp L.length
 simp[qV,bT];omega
theorem xY(L:List UInt8):(L++List.replicate (dD L.length- L.length) 0).set L.length 128=qV L 0:=by
 obtain⟨z,hz⟩:∃z,dD L.length=L.length+9+z:=⟨dD L.length- L.length- 9,by have:=Lp L.length;omega⟩
 rw[qV,hz,show L.length+9+z- L.length=(z+8)+1 from by omega,show z+8+1- 9=z from by omega,List.replicate_succ,List.set_append_right _ _ (by omega)]
 simp only[List.cons_append,Nat.sub_self,List.set_cons_zero,List.take_zero,List.append_nil,List.append_assoc,Nat.sub_zero,List.replicate_append_replicate,List.nil_append]
theorem qU(L:List UInt8):qV L 8=L++fK L:=by
 rw[qV,fK,AM,show([0]:List UInt8)=List.replicate 1 0 from rfl,Lib.repeatL_replicate,Nat.mul_one]
 simp[bT,List.take_of_length_le]
theorem D6(L:List UInt8)(i:Nat)(h:i<8)(v:UInt8)(hv:v=UInt8.ofNat (8*L.length/256^(7- i))):(qV L i).set (dD L.length- 8+i) v=qV L (i+1):=by
 subst hv
 have:=Lp L.length
 have hg:=vS 8 (8*L.length) i h
 rw[show 8- 1- i=7- i from by omega]at hg
 obtain⟨hl,hg⟩:=List.getElem?_eq_some_iff.1 hg
 rw[qV,qV,show 8- i=(8-(i+1))+1 from by omega,List.replicate_succ,List.take_succ_eq_append_getElem hl,hg]
 rw[List.set_append_right _ _ (by simp[bT];omega)]
 have e:dD L.length- 8+i-(L++[128]++List.replicate (dD L.length- L.length- 9) 0++(cg (8*L.length) 8).take i).length=0:=by simp[bT];omega
 rw[e]
 simp
theorem FI(n i:Nat)(h:i<8):8*(n:Int)/2^(56- 8*i)%256=((UInt8.ofNat (8*n/256^(7- i))).toNat:Int):=by
 have e:(2:Int)^(56- 8*i)=((256^(7- i):Nat):Int):=by
  rw[show 56- 8*i=8*(7- i)from by omega,Int.pow_mul,Int.natCast_pow];rfl
 rw[e,show 8*(n:Int)=((8*n:Nat):Int)from by omega,←Int.natCast_ediv]
 simp
theorem JS(L:List UInt8)(k:Nat)(h:k<L.length):(av L)[k]?=some (.int .u8 ((L.getD k 0).toNat:Int)):=by
 simp[av,h]
theorem JB(L:List UInt8)(k:Nat)(v:UInt8):(av L).set k (.int .u8 (v.toNat:Int))=av (L.set k v):=by simp[av,List.map_set]
theorem zr{w:World}{b:Nat}{L:List UInt8}(h:w.rangeAt b 0 (av L))(k:Nat)(hk:k<L.length):w.cell? ⟨b,k,none⟩=some (.int .u8 ((L.getD k 0).toNat:Int)):=by
 have:=h k _ (JS L k hk);rwa [Nat.zero_add]at this
structure IU (w M:World) (m:Nat) (X:List UInt8):Prop where
 size:M.heap.size=w.heap.size+1
 below:Below w.heap.size w M
 row:M.rangeAt w.heap.size 0 (av X)
 there:M.there w.heap.size 0 m
theorem AN(w:World)(L:List UInt8)(m:Nat)(T:TypeId)(h:L.length<=m):IU w ((w.alloc (.cells (madeCells #[.int .u8 0] m) T)).setCells w.heap.size 0 (av L)) m (L++List.replicate (m- L.length) 0):=by
 have hth:(w.alloc (.cells (madeCells #[.int .u8 0] m) T)).there w.heap.size 0 m:=cD _ _ _ _ _ rfl (by rw[dc];simp)
 refine⟨by rw[eN];simp,cm (Nat.le_refl _) _ _ _ _ ((Below.refl _ _).alloc (Nat.le_refl _) _),λj v hv=> ?_,World.there_setCells hth _ _ _⟩
 rw[av,List.map_append]at hv
 by_cases hj:j<L.length
 ·rw[List.getElem?_append_left (by simpa using hj)]at hv
  exact World.rangeAt_setCells_same _ _ _ (av L) (fS hth (Nat.le_refl _) (by rw[bf];omega)) j v hv
 ·rw[List.getElem?_append_right (by simpa using hj)]at hv
  rw[World.cell?_setCells_out _ _ _ _ _ (λ_ _=>Or.inr (by show 0+(av L).length<=0+j;rw[bf];omega)),World.cell?_alloc_at _ _ _ _ rfl,dc]
  simp only[List.map_replicate,List.length_map,List.getElem?_replicate]at hv
  simp only[List.getElem?_toArray,List.getElem?_replicate]
  split at hv
  ·rw[if_pos (by omega)];exact hv
  ·cases hv
def rN:List Int:=[1116352408,1899447441,3049323471,3921009573,961987163,1508970993,2453635748,2870763221,3624381080,310598401,607225278,1426881987,1925078388,2162078206,2614888103,3248222580,3835390401,4022224774,264347078,604807628,770255983,1249150122,1555081692,1996064986,2554220882,2821834349,2952996808,3210313671,3336571891,3584528711,113926993,338241895,666307205,773529912,1294757372,1396182291,1695183700,1986661051,2177026350,2456956037,2730485921,2820302411,3259730800,3345764771,3516065817,3600352804,4094571909,275423344,430227734,506948616,659060556,883997877,958139571,1322822218,1537002063,1747873779,1955562222,2024104815,2227730452,2361852424,2428436474,2756734187,3204031479,3329325298]
theorem ey:rN.length=64:=by decide+kernel
theorem xX(L:List UInt8):(L++fK L).length=64*((L++fK L).length/64):=by
 rw[←qU,lv _ _ (Nat.le_refl _)];unfold dD;omega
def jn(k:Nat):List Int:=H0.take k++List.replicate (8- k) 0
theorem rX(k:Nat)(h:k<=8):(jn k).length=8:=by simp[jn,H0];omega
theorem yv(k:Nat)(h:k<8):(jn k).set k (H0.getD k 0)=jn (k+1):=by
 have:k=0\/k=1\/k=2\/k=3\/k=4\/k=5\/k=6\/k=7:=by omega
 rcases this with rfl|rfl|rfl|rfl|rfl|rfl|rfl|rfl<;>rfl
structure mb (w M:World) (hb capH kb cap:Nat) (Hl:List Int):Prop where
 size:w.heap.size+1+1<=M.heap.size
 below:Below w.heap.size w M
 crow:M.rangeAt w.heap.size 0 [.slice (some ⟨hb,0,none⟩) 8 capH, .slice (some ⟨kb,0,none⟩) 64 cap]
 hrow:M.rangeAt (w.heap.size+1) 0 (aF Hl)
 there:M.there (w.heap.size+1) 0 8
theorem Aw(w:World)(hb capH kb cap:Nat)(T1 T2:TypeId):mb w ((w.alloc (.cells #[.slice (some ⟨hb,0,none⟩) 8 capH, .slice (some ⟨kb,0,none⟩) 64 cap] T1)).alloc (.cells (aF (jn 0)).toArray T2)) hb capH kb cap (jn 0):=
 ⟨by simp,((Below.refl _ _).alloc (Nat.le_refl _) _).alloc (by simp) _,World.rangeAt_alloc (dT w [.slice (some ⟨hb,0,none⟩) 8 capH, .slice (some ⟨kb,0,none⟩) 64 cap] T1 _ rfl) _,dT _ _ _ _ (by simp),cD _ _ _ _ _ (by simp) rfl⟩
theorem mb.below'{w M M':World}{hb capH kb cap:Nat}{Hl:List Int}(h:mb w M hb capH kb cap Hl)(hbl:Below M.heap.size M M'):mb w M' hb capH kb cap Hl:=by
 have:=h.size
 have hs:=hbl.size
 exact⟨by omega,h.below.trans (hbl.mono (by omega)),aK hbl (by omega) h.crow,aK hbl (by omega) h.hrow,ef hbl (by omega) h.there⟩
theorem mb.set{w M:World}{hb capH kb cap:Nat}{Hl:List Int}(h:mb w M hb capH kb cap Hl)(k:Nat)(v:Int):mb w (M.setCell ⟨w.heap.size+1,k,none⟩ (.int .i64 v)) hb capH kb cap (Hl.set k v):=
 ⟨by have:=h.size;simpa[World.setCell]using this,h.below.setCell (p:=⟨w.heap.size+1,k,none⟩) (by show w.heap.size<=w.heap.size+1;omega) _,World.rangeAt_setCells_apart h.crow _ k [_] (Or.inl (by omega)),by have:=ij (k:=k) h.hrow (.int .i64 v);rwa [JA]at this,eC h.there _ _ _⟩
theorem mb.put{w M:World}{hb capH kb cap:Nat}{Hl:List Int}(h:mb w M hb capH kb cap Hl)(H2:List Int)(h8:H2.length=8):mb w (M.setCells (w.heap.size+1) 0 (aF H2)) hb capH kb cap H2:=
 ⟨by rw[eN];exact h.size,cm (by omega) _ _ _ _ h.below,World.rangeAt_setCells_apart h.crow _ _ _ (Or.inl (by omega)),World.rangeAt_setCells_same _ _ _ _ (by rw[dX,h8];exact h.there),World.there_setCells h.there _ _ _⟩
theorem EP:l7 rN:=by
 intro i
 by_cases h:i<64
 ·have:∀i:Fin 64,Wd (rN.getD i.1 0):=by
   have:(List.range 64).all (λi=>decide (0<=rN.getD i 0/\rN.getD i 0<4294967296))=true:=by decide+kernel
   intro i
   have:=List.all_eq_true.1 this i.1 (by simp)
   exact(of_decide_eq_true this:0<=rN.getD i.1 0/\rN.getD i.1 0<4294967296)
  exact this ⟨i,h⟩
 ·rw[List.getD_eq_getElem?_getD,List.getElem?_eq_none (by rw[ey];omega)];exact Jh
def kJ(L:List UInt8)(a b:Nat):List UInt8:=(L.take b).drop a
theorem BK(L:List UInt8)(a i:Nat)(h:a+i<L.length):kJ L a (a+(i+1))=kJ L a (a+i)++[L.getD (a+i) 0]:=by
 rw[kJ,kJ,show a+(i+1)=a+i+1 from by omega,List.take_succ_eq_append_getElem h,List.drop_append_of_le_length (by simp;omega),List.getD_eq_getElem?_getD,List.getElem?_eq_getElem h]
 rfl
def uC(v n i:Nat):List Value:=av ((cg v n).take i)++List.replicate (n- i) (.int .u8 0)
theorem Ae(v n i:Nat)(h:i<=n):(uC v n i).length=n:=by simp[uC,av,bT];omega
theorem Ce(v n:Nat):uC v n 0=List.replicate n (.int .u8 0):=by simp[uC,av]
theorem H9(v n:Nat):uC v n n=av (cg v n):=by simp[uC,bT,List.take_of_length_le]
theorem H8(v n i:Nat)(h:i<n):(uC v n i)[i]?=some (.int .u8 0):=by
 have e:(av ((cg v n).take i)).length=i:=by simp[av,bT];omega
 rw[uC,List.getElem?_append_right (by omega),e,Nat.sub_self,List.getElem?_replicate,if_pos (by omega)]
theorem H7(v n i:Nat)(h:i<n)(x:Int)(hx:x=((v/256^(n- 1- i)%256:Nat):Int)):(uC v n i).set i (.int .u8 x)=uC v n (i+1):=by
 subst hx
 have hg:=vS n v i h
 obtain⟨hl,hg⟩:=List.getElem?_eq_some_iff.1 hg
 rw[uC,uC,show n- i=(n-(i+1))+1 from by omega,List.replicate_succ,List.take_succ_eq_append_getElem hl,hg,List.set_append_right _ _ (by simp[av,bT];omega)]
 have e:i-(av ((cg v n).take i)).length=0:=by simp[av,bT];omega
 rw[e]
 simp[av]
theorem Js(v n i:Nat):(v:Int)/2^(8*(n- 1- i))%256=((v/256^(n- 1- i)%256:Nat):Int):=by
 rw[Int.pow_mul,show((2:Int)^8)=((256:Nat):Int)from by decide,←Int.natCast_pow,←Int.natCast_ediv,←show((256:Nat):Int)=256 from rfl,←Int.natCast_emod]
theorem LJ(v:Int)(V n i:Nat)(hV:(V:Int)=v%18446744073709551616)(hn:n<=8):v/2^(8*(n- 1- i))%256=((V/256^(n- 1- i)%256:Nat):Int):=by
 rw[←Js,hV]
 have hj:n- 1- i<=7:=by omega
 generalize n- 1- i=j at hj
 rcases(by omega:j=0\/j=1\/j=2\/j=3\/j=4\/j=5\/j=6\/j=7)with rfl|rfl|rfl|rfl|rfl|rfl|rfl|rfl<;>simp<;>omega
end Go.Proofs.YtkmoglhgkcnalaaDoor
namespace Go.Proofs.YtkmoglhgkcnalaaDoor.L1
open Go.Proofs.YtkmoglhgkcnalaaDoor
open Go.RowKit
theorem jH(x:Int)(k:Nat)(w:World)(hx:Wd x)(h1:2<=k)(h2:k<=31):
 Calls (ac true Tryd.prog) 53 #[.int .i64 x, .int .i64 (k:Int)] w λe w'=>e= .returned (.int .i64 (qM x (-(k:Int))))/\∃n,w'=w.drewN n:=by
 have hr:Hid _:=Ft x k hx h1 h2
 have hs:Hid _:=Jz x k hx h1
 obtain⟨hx0,hx1⟩:=hx
 have e1:min k 64=k:=by omega
 have e2:min (32- k) 64=32- k:=by omega
 go_enter Lf.func53,Tryd.ntmps53
 go_wp2
 go_quiet (fail)
 go_wp2
 go_ret
 exact⟨qf (by rw[hs.out];exact hr.out),_,rfl⟩
theorem nC(x:Int)(a b c:Nat)(w:World)(hx:Wd x)(ha:2<=a)(ha2:a<=31)(hb:2<=b)(hb2:b<=31)(hc:2<=c)(hc2:c<=31):
 Calls (ac true Tryd.prog) 45 #[.int .i64 x, .int .i64 (a:Int), .int .i64 (b:Int), .int .i64 (c:Int)] w λe w'=>e= .returned (.int .i64 (cL x a b c))/\∃n,w'=w.drewN n:=by
 go_enter Lf.func45,Tryd.ntmps45
 go_wp2_with fail
 refine(jH x a _ hx ha ha2).mono ?_
 rintro e w1 ⟨rfl,n1,rfl⟩
 go_wp2_with fail
 refine(jH x b _ hx hb hb2).mono ?_
 rintro e w1 ⟨rfl,n2,rfl⟩
 go_wp2_with fail
 refine(jH x c _ hx hc hc2).mono ?_
 rintro e w1 ⟨rfl,n3,rfl⟩
 go_wp2
 go_ret
 refine⟨qf ?_,n1+n2+n3,rfl⟩
 rw[qj (qL _ _) (qL _ _),qj (fQ _ _ _) (qL _ _)]
 rfl
theorem nD(x:Int)(a b c:Nat)(w:World)(hx:Wd x)(ha:2<=a)(ha2:a<=31)(hb:2<=b)(hb2:b<=31)(hc2:c<=31):
 Calls (ac true Tryd.prog) 44 #[.int .i64 x, .int .i64 (a:Int), .int .i64 (b:Int), .int .i64 (c:Int)] w λe w'=>e= .returned (.int .i64 (fo x a b c))/\∃n,w'=w.drewN n:=by
 go_enter Lf.func44,Tryd.ntmps44
 go_wp2_with fail
 refine(jH x a _ hx ha ha2).mono ?_
 rintro e w1 ⟨rfl,n1,rfl⟩
 go_wp2_with fail
 refine(jH x b _ hx hb hb2).mono ?_
 rintro e w1 ⟨rfl,n2,rfl⟩
 have e1:min c 64=c:=by omega
 go_wp2
 go_ret
 refine⟨qf ?_,n1+n2,rfl⟩
 rw[qj (qL _ _) (qL _ _),qj (fQ _ _ _) (Ig hx _)]
 rfl
theorem jR(s:ByteArray)(p:Nat)(i:Int)(hi:i=(p:Int))(h:p<s.size)(W:World):(Instr.index 9 (.string s) (.int .i64 i)).run (ac true Tryd.prog) W= .ok (.int .u8 ((s.data.toList.getD p 0).toNat:Int)) W:=by
 subst hi
 have h2:s.data.toList.getD p 0=s[p]:=by
  rw[List.getD_eq_getElem?_getD,List.getElem?_eq_getElem (by simpa using h)];rfl
 rw[h2]
 simp[Instr.index,asIntOf,run_underlying Lf.underlying9,h]
theorem BS(H KS:List Int)(s:ByteArray)(at' kb cap:Nat)(hs:Value)(w:World)(hH:H.length=8)(hHw:l7 H)(hKl:KS.length=64)(hKw:l7 KS)(hK:w.rangeAt kb 0 (aF KS))
 (hat:at'+64<=s.size) (hsz:s.size<=281474976710656):
 Calls (ac true Tryd.prog) 28 #[.agg #[hs, .slice (some ⟨kb,0,none⟩) 64 cap], .agg (aF H).toArray, .string s, .int .i64 (at':Int)] w
  λe w'=>e= .returned (.agg (aF (kA KS H ((s.data.toList.drop at').take 64))).toArray)/\Below w.heap.size w w':=by
 have HK:Hid (w.rangeAt kb 0 (aF KS)):=hK
 clear hK
 go_enter Lf.func28,Tryd.ntmps28
 go_wp2
 refine xy (λM=>∃M0,GM w M0 H KS kb cap hs/\M=M0.alloc (.cells (aF (bP (((s.data.toList.drop at').take 64)) 0)).toArray 71)) ?_ ?_
 ·exact⟨_,BU w H KS kb cap hs _ _ _ HK.out _ rfl,by rw[uj];rfl⟩
 rintro _ ⟨M,hM,rfl⟩
 have HM:Hid (GM w M H KS kb cap hs):=hM
 have hMs:M.heap.size=w.heap.size+1+1+1:=hM.size
 clear hM
 generalize hB:(s.data.toList.drop at').take 64=B
 have HB:Hid ((s.data.toList.drop at').take 64=B):=hB
 clear hB
 go_loopw [10] (λi wr=>∃(k n:Nat),k<=16/\i= .int .i64 k/\wr=(M.alloc (.cells (aF (bP B k)).toArray 71)).drewN n) (λi _=>16-(intOf i).toNat)
 case atStart=>exact⟨0,0,by omega,rfl,rfl⟩
 case round=>
  obtain⟨k,n,hk,rfl,rfl⟩:=hrel
  by_cases hlt:k<16
  ·obtain⟨p,hp⟩:∃p,p=at'+4*k:=⟨_,rfl⟩
   go_wp2_with fail
   rw[show(at':Int)+4*(k:Int)=(p:Int)from by omega]
   have i0:=jR s p p rfl (by omega)
   have i1:=jR s (p+1) ((p:Int)+1) (by omega) (by omega)
   have i2:=jR s (p+2) ((p:Int)+2) (by omega) (by omega)
   have i3:=jR s (p+3) ((p:Int)+3) (by omega) (by omega)
   have hX:fL [s.data.toList.getD p 0,s.data.toList.getD (p+1) 0,s.data.toList.getD (p+2) 0,s.data.toList.getD (p+3) 0]=oQ B k:=by
    rw[hp,←HB.out];exact EN s.data.toList at' k hlt (by simpa using hat)
   generalize s.data.toList.getD p 0=x0 at i0 hX
   generalize s.data.toList.getD (p+1) 0=x1 at i1 hX
   generalize s.data.toList.getD (p+2) 0=x2 at i2 hX
   generalize s.data.toList.getD (p+3) 0=x3 at i3 hX
   have X:Hid (fL [x0,x1,x2,x3]=oQ B k):=hX
   clear hX
   have v0:=x0.toNat_lt
   have v1:=x1.toNat_lt
   have v2:=x2.toNat_lt
   have v3:=x3.toNat_lt
   obtain⟨N,hN⟩:∃N,N=(M.alloc (.cells (aF (bP B k)).toArray 71)).drewN n:=⟨_,rfl⟩
   have f16:=oM hN hMs (pd B k (by omega))
   have g16:=xu hN hMs k
   rw[←hN]
   have HN:Hid (N=(M.alloc (.cells (aF (bP B k)).toArray 71)).drewN n):=hN
   clear hN
   have b0:(k:Int)<64:=by omega
   have b1:(0:Int)<=(k:Int):=by omega
   have HP:Hid (p=at'+4*k):=hp
   have w1:=bq ((p:Int)+1) (by omega) (by omega)
   have w2:=bq ((p:Int)+2) (by omega) (by omega)
   have w3:=bq ((p:Int)+3) (by omega) (by omega)
   have u0:=bq ((x0.toNat:Nat):Int) (by omega) (by omega)
   have u1:=bq ((x1.toNat:Nat):Int) (by omega) (by omega)
   have u2:=bq ((x2.toNat:Nat):Int) (by omega) (by omega)
   have u3:=bq ((x3.toNat:Nat):Int) (by omega) (by omega)
   have t0:=bq (((x0.toNat:Nat):Int)*16777216) (by omega) (by omega)
   have t1:=bq (((x1.toNat:Nat):Int)*65536) (by omega) (by omega)
   have t2:=bq (((x2.toNat:Nat):Int)*256) (by omega) (by omega)
   clear hp
   refine wp_region_any (by kernel_rfl) ?_
   change wpAny _ _ _ _ _ _ _ (World.drew N)
   refine wT 0 (.int .i64 k) ?_
   refine wT 1 (.string s) ?_
   refine wT 2 (.int .i64 p) ?_
   refine wT 3 (.int .u8 ((x0.toNat:Nat):Int)) ?_
   refine wT 4 (.int .i64 ((x0.toNat:Nat):Int)) ?_
   refine wT 5 (.int .i64 (((x0.toNat:Nat):Int)*16777216)) ?_
   refine wT 6 (.string s) ?_
   refine wT 7 (.int .i64 p) ?_
   refine wT 8 (.int .i64 ((p:Int)+1)) ?_
   refine wT 9 (.int .u8 ((x1.toNat:Nat):Int)) ?_
   refine wT 10 (.int .i64 ((x1.toNat:Nat):Int)) ?_
   refine wT 11 (.int .i64 (((x1.toNat:Nat):Int)*65536)) ?_
   refine wT 12 (.int .i64 (bits .or .i64 (((x0.toNat:Nat):Int)*16777216) (((x1.toNat:Nat):Int)*65536))) ?_
   refine wT 13 (.string s) ?_
   refine wT 14 (.int .i64 p) ?_
   refine wT 15 (.int .i64 ((p:Int)+2)) ?_
   refine wT 16 (.int .u8 ((x2.toNat:Nat):Int)) ?_
   refine wT 17 (.int .i64 ((x2.toNat:Nat):Int)) ?_
   refine wT 18 (.int .i64 (((x2.toNat:Nat):Int)*256)) ?_
   refine wT 19 (.int .i64 (bits .or .i64 (bits .or .i64 (((x0.toNat:Nat):Int)*16777216) (((x1.toNat:Nat):Int)*65536)) (((x2.toNat:Nat):Int)*256))) ?_
   refine wT 20 (.string s) ?_
   refine wT 21 (.int .i64 p) ?_
   refine wT 22 (.int .i64 ((p:Int)+3)) ?_
   refine wT 23 (.int .u8 ((x3.toNat:Nat):Int)) ?_
   refine wT 24 (.int .i64 ((x3.toNat:Nat):Int)) ?_
   refine wT 25 (.int .i64 (bits .or .i64 (bits .or .i64 (bits .or .i64 (((x0.toNat:Nat):Int)*16777216) (((x1.toNat:Nat):Int)*65536)) (((x2.toNat:Nat):Int)*256)) ((x3.toNat:Nat):Int))) ?_
   refine wT 26 (.pointer (some ⟨w.heap.size+1+1+1,k,none⟩)) ?_
   refine wpAny_all (rs:=[27]) (by kernel_rfl) (List.cons_ne_nil _ _) (fF (gI (by rfl) (by rfl) 3 (.tmp 65) (.tmp 64) (by rfl) (w.heap.size+1+1+1) k (.int .i64 (bits .or .i64 (bits .or .i64 (bits .or .i64 (((x0.toNat:Nat):Int)*16777216) (((x1.toNat:Nat):Int)*65536)) (((x2.toNat:Nat):Int)*256)) ((x3.toNat:Nat):Int))) ?e4 ?e5 rfl rfl ?e6 ?e7 (by kernel_rfl) (by rfl) ?e8))
   case e4=>go_simp
   case e5=>go_simp
   case e6=>rw[World.cell?_drew,f16];rfl
   case e7=>rw[World.frozen?_drew];exact g16
   case e8=>
    refine wpAny_done (by kernel_rfl) ?_ _
    clear i0 i1 i2 i3 w1 w2 w3 u0 u1 u2 u3 t0 t1 t2 f16 g16
    go_wp2_with fail
    go_roundw
    case rel=>exact⟨k+1,n+1,by omega,by go_num,(GW HN.out hMs 1 _ _).trans (by rw[qJ B k (by omega) _ (by rw[if_pos hlt,H3];exact X.out)])⟩
    case measure=>simp[intOf];omega
  ·have hk16:k=16:=by omega
   subst hk16
   clear hlt hk
   go_wp2
   go_loopw [12] (λi wr=>∃(k n:Nat),16<=k/\k<=64/\i= .int .i64 k/\
    wr=(M.alloc (.cells (aF (bP B k)).toArray 71)).drewN n) (λi _=>64-(intOf i).toNat)
   case atStart=>exact⟨16,n,by omega,by omega,rfl,rfl⟩
   case round=>
    clear n
    obtain⟨k,n,hk16,hk,rfl,rfl⟩:=hrel
    by_cases hlt:k<64
    ·obtain⟨m,rfl⟩:∃m,k=m+16:=⟨k- 16,by omega⟩
     rw[show((m+16:Nat):Int)=(m:Int)+16 from by omega]
     obtain⟨N,hN⟩:∃N,N=(M.alloc (.cells (aF (bP B (m+16))).toArray 71)).drewN n:=⟨_,rfl⟩
     have f0:=oM hN hMs (ko B (m+16) m (by omega))
     have f1:=oM hN hMs (ko B (m+16) (m+1) (by omega))
     have f9:=oM hN hMs (ko B (m+16) (m+9) (by omega))
     have f14:=oM hN hMs (ko B (m+16) (m+14) (by omega))
     have f16:=oM hN hMs (pd B (m+16) (by omega))
     have g16:=xu hN hMs (m+16)
     have d0:=ig B (m+16) m
     have d1:=ig B (m+16) (m+1)
     have d9:=ig B (m+16) (m+9)
     have d14:=ig B (m+16) (m+14)
     have hX:pq (aU B (m+16)) (m+16)=_:=vV _ _
     generalize (aU B (m+16)).getD m 0=x0 at f0 d0 hX
     generalize (aU B (m+16)).getD (m+1) 0=x1 at f1 d1 hX
     generalize (aU B (m+16)).getD (m+9) 0=x9 at f9 d9 hX
     generalize (aU B (m+16)).getD (m+14) 0=x14 at f14 d14 hX
     have X:Hid _:=hX
     rw[←hN]
     have HN:Hid (N=(M.alloc (.cells (aF (bP B (m+16))).toArray 71)).drewN n):=hN
     clear hN hX
     have b0:(m:Int)<64:=by omega
     have b1:(m:Int)+1<64:=by omega
     have b9:(m:Int)+9<64:=by omega
     have b14:(m:Int)+14<64:=by omega
     have b16:(m:Int)+16<64:=by omega
     have z0:0<=(m:Int):=by omega
     have p1:0<=(m:Int)+1:=by omega
     have p9:0<=(m:Int)+9:=by omega
     have p14:0<=(m:Int)+14:=by omega
     have p16:0<=(m:Int)+16:=by omega
     have t1:((m:Int)+1).toNat=m+1:=by omega
     have t9:((m:Int)+9).toNat=m+9:=by omega
     have t14:((m:Int)+14).toNat=m+14:=by omega
     have t16:((m:Int)+16).toNat=m+16:=by omega
     have D1:Hid (Wd x1):=d1
     have D14:Hid (Wd x14):=d14
     go_wp2_with fail
     refine(nD x1 7 18 3 _ D1.out (by omega) (by omega) (by omega) (by omega) (by omega)).mono ?_
     rintro e w1 ⟨rfl,n1,rfl⟩
     go_wp2_with fail
     refine(nD x14 17 19 10 _ D14.out (by omega) (by omega) (by omega) (by omega) (by omega)).mono ?_
     rintro e w1 ⟨rfl,n2,rfl⟩
     have e1:=qD x1 7 18 3
     have e14:=qD x14 17 19 10
     have hX:=X.out
     generalize fo x1 7 18 3=q1 at e1 hX
     generalize fo x14 17 19 10=q2 at e14 hX
     have X2:Hid _:=hX
     clear hX X f1 f14 b1 b14 p1 p14 t1 t14 d1 d14 D1 D14
     obtain⟨d0a,d0b⟩:=d0
     obtain⟨d9a,d9b⟩:=d9
     obtain⟨e1a,e1b⟩:=e1
     obtain⟨e2a,e2b⟩:=e14
     have v0:=bq (m:Int) (by omega) (by omega)
     have v9:IntKind.i64.wrap ((m:Int)+16- 7)=m+9:=(bq ((m:Int)+16- 7) (by omega) (by omega)).trans (by omega)
     have s1:=bq (x0+q1) (by omega) (by omega)
     have s2:=bq (x0+q1+x9) (by omega) (by omega)
     have s3:=bq (x0+q1+x9+q2) (by omega) (by omega)
     have hV:Hid (bits .and .i64 (x0+q1+x9+q2) 4294967295=pq (aU B (m+16)) (m+16)):=by
      show bits .and .i64 (x0+q1+x9+q2) 4294967295=pq (aU B (m+16)) (m+16)
      rw[X2.out,od (by omega) (by omega)]
      simp only[IntKind.wrap_u32]
      omega
     clear X2
     go_wp2_with fail
     go_region_held3 (λw'=>w'.cell? ⟨w.heap.size+1+1+1,m,none⟩=some (.int .i64 x0)/\w'.cell? ⟨w.heap.size+1+1+1,m+9,none⟩=some (.int .i64 x9)) (first|go_keep|(refine⟨?_, ?_⟩<;>(rw[World.cell?_setCell_other _ _ _ _ (by simp)];simp only[World.cell?_drewN,f0,f9]))) (fail)
     all_goals
      clear f0 f9 f16 g16 b0 b9 v0 v9 p9 p16 t9 t16 s1 s2 s3
      go_wp2
      go_roundw
      case rel=>((repeat apply Exists.intro);exact⟨⟨m+17,_,by omega,by omega,by go_num,(GW HN.out hMs _ _ _).trans (by rw[qJ B (m+16) (by omega) _ (by rw[if_neg (by omega)];exact hV.out)])⟩,rfl⟩)
      case measure=>simp[intOf];omega
    ·have hk64:k=64:=by omega
     subst hk64
     clear hlt hk hk16
     simp only[show((64:Nat):Int)=64 from rfl,show((16:Nat):Int)=16 from rfl]
     have hSl:(aU B 64).length=64:=bh B 64
     have hSw:l7 (aU B 64):=ig B 64
     rw[pf]
     generalize hS:aU B 64=S at*
     have HS:Hid (aU B 64=S):=hS
     clear hS
     refine xy (λN=>IR w N H KS S kb cap) (AE HM.out _ _ _) ?_
     intro N hN
     have HN:Hid (IR w N H KS S kb cap):=hN
     clear hN n
     obtain⟨s0,hs0⟩:∃s,s=St.of H:=⟨_,rfl⟩
     have x0:N.cell? ⟨w.heap.size+1,0,none⟩=some (.int .i64 s0.a):=by rw[hs0];exact dC HN.out.hrow 0 (by omega)
     have x1:N.cell? ⟨w.heap.size+1,1,none⟩=some (.int .i64 s0.b):=by rw[hs0];exact dC HN.out.hrow 1 (by omega)
     have x2:N.cell? ⟨w.heap.size+1,2,none⟩=some (.int .i64 s0.c):=by rw[hs0];exact dC HN.out.hrow 2 (by omega)
     have x3:N.cell? ⟨w.heap.size+1,3,none⟩=some (.int .i64 s0.d):=by rw[hs0];exact dC HN.out.hrow 3 (by omega)
     have x4:N.cell? ⟨w.heap.size+1,4,none⟩=some (.int .i64 s0.e):=by rw[hs0];exact dC HN.out.hrow 4 (by omega)
     have x5:N.cell? ⟨w.heap.size+1,5,none⟩=some (.int .i64 s0.f):=by rw[hs0];exact dC HN.out.hrow 5 (by omega)
     have x6:N.cell? ⟨w.heap.size+1,6,none⟩=some (.int .i64 s0.g):=by rw[hs0];exact dC HN.out.hrow 6 (by omega)
     have x7:N.cell? ⟨w.heap.size+1,7,none⟩=some (.int .i64 s0.h):=by rw[hs0];exact dC HN.out.hrow 7 (by omega)
     have HH:Hid (s0=St.of H):=hs0
     have HhH:Hid (H.length=8):=hH
     have HhS:Hid (S.length=64):=hSl
     have HKl:Hid (KS.length=64):=hKl
     clear hs0 hH hSl hKl
     go_wp2
     clear x0 x1 x2 x3 x4 x5 x6 x7
     go_loopw [15,16,17,18,19,20,21,22,23] (λa b c d e f g h i wr=>∃(k n:Nat),k<=64/\i= .int .i64 k/\a= .int .i64 (bG KS S H k).a/\b= .int .i64 (bG KS S H k).b/\c= .int .i64 (bG KS S H k).c/\d= .int .i64 (bG KS S H k).d/\
      e= .int .i64 (bG KS S H k).e/\f= .int .i64 (bG KS S H k).f/\g= .int .i64 (bG KS S H k).g/\h= .int .i64 (bG KS S H k).h/\wr=N.drewN n) (λ_ _ _ _ _ _ _ _ i _=>64-(intOf i).toNat)
     case atStart=>exact⟨0,0,by omega,rfl,by rw[HH.out];rfl,by rw[HH.out];rfl,by rw[HH.out];rfl,by rw[HH.out];rfl,by rw[HH.out];rfl,by rw[HH.out];rfl,by rw[HH.out];rfl,by rw[HH.out];rfl,rfl⟩
     case round=>
      obtain⟨k,n,hk,rfl,rfl,rfl,rfl,rfl,rfl,rfl,rfl,rfl,rfl⟩:=hrel
      by_cases hlt:k<64
      ·have hsw:=ud KS S hHw k
       generalize hs':bG KS S H k=s' at hsw⊢
       have HR:Hid (bG KS S H k=s'):=hs'
       have HW:Hid s'.Wd:=hsw
       have HhH:Hid (l7 H):=hHw
       have HhK:Hid (l7 KS):=hKw
       have HhW:Hid (l7 S):=hSw
       clear hs' hsw hHw hKw hSw hMs HM HK hat hsz
       obtain⟨sa,sb,sc,sd,se,sf,sg,sh⟩:=s'
       dsimp only
       have hlt':(k:Int)<64:=by omega
       have hk0:(0:Int)<=(k:Int):=by omega
       have ya:N.cell? ⟨w.heap.size,1,none⟩=some (.slice (some ⟨kb,0,none⟩) 64 cap):=HN.out.crow
       have yk:N.cell? ⟨kb,k,none⟩=some (.int .i64 (KS.getD k 0)):=dC HN.out.krow k (by rw[HKl.out];omega)
       have yw:N.cell? ⟨w.heap.size+1+1+1,k,none⟩=some (.int .i64 (S.getD k 0)):=dC HN.out.srow k (by rw[HhS.out];omega)
       have wk:=HhK.out k
       have ww:=HhW.out k
       generalize hkk:KS.getD k 0=kk at yk wk
       generalize hww:S.getD k 0=sw at yw ww
       have HKK:Hid (KS.getD k 0=kk):=hkk
       have HWW:Hid (S.getD k 0=sw):=hww
       clear hkk hww
       go_wp2_with fail
       refine(nC se 6 11 25 _ HW.out.e (by omega) (by omega) (by omega) (by omega) (by omega) (by omega)).mono ?_
       rintro e w1 ⟨rfl,n1,rfl⟩
       have tw:=sG se 6 11 25
       generalize htp:cL se ((6:Nat):Int) ((11:Nat):Int) ((25:Nat):Int)=tp
       have htp2:cL se 6 11 25=tp:=htp
       rw[htp2]at tw
       have HTP:Hid (cL se 6 11 25=tp):=htp2
       clear htp htp2
       have c0:=bq (4294967295- se) (by have:=HW.out.e.1;have:=HW.out.e.2;simp only at*;omega) (by have:=HW.out.e.1;have:=HW.out.e.2;simp only at*;omega)
       go_wp2_with fail
       have hch:bits .xor .i64 (bits .and .i64 se sf) (bits .and .i64 (4294967295- se) sg)=bits .xor .u32 (bits .and .u32 se sf) (bits .and .u32 (4294967295- se) sg):=by
        rw[xc HW.out.e HW.out.f,xc (Hw HW.out.e) HW.out.g,qj (fQ _ _ _) (fQ _ _ _)]
       rw[hch]
       have cw:=fQ .xor (bits .and .u32 se sf) (bits .and .u32 (4294967295- se) sg)
       generalize hcc:bits .xor .u32 (bits .and .u32 se sf) (bits .and .u32 (4294967295- se) sg)=ch at cw⊢
       have HCH:Hid (bits .xor .u32 (bits .and .u32 se sf) (bits .and .u32 (4294967295- se) sg)=ch):=hcc
       clear hcc hch c0
       obtain⟨hh0,hh1⟩:0<=sh/\sh<4294967296:=HW.out.h
       obtain⟨tw0,tw1⟩:=tw
       obtain⟨cw0,cw1⟩:=cw
       obtain⟨wk0,wk1⟩:=wk
       obtain⟨ww0,ww1⟩:=ww
       have s1:=bq (sh+tp) (by omega) (by omega)
       have s2:=bq (sh+tp+ch) (by omega) (by omega)
       have s3:=bq (sh+tp+ch+kk) (by omega) (by omega)
       have s4:=bq (sh+tp+ch+kk+sw) (by omega) (by omega)
       go_quiet (fail)
       rw[od (x:=sh+tp+ch+kk+sw) (by omega) (by omega)]
       have HT:Hid ((St.mk sa sb sc sd se sf sg sh).t kk sw=(sh+tp+ch+kk+sw)%4294967296):=by
        show(St.mk sa sb sc sd se sf sg sh).t kk sw=_
        rw[←HTP.out,←HCH.out,←JG _ HW.out]
       have tt0:0<=(sh+tp+ch+kk+sw)%4294967296:=by omega
       have tt1:(sh+tp+ch+kk+sw)%4294967296<4294967296:=by omega
       generalize (sh+tp+ch+kk+sw)%4294967296=tt at HT tt0 tt1⊢
       clear s1 s2 s3 s4 ya yk yw hh0 hh1 wk0 wk1 ww0 ww1 cw0 cw1 tw0 tw1
       go_wp2_with fail
       refine(nC sa 2 13 22 _ HW.out.a (by omega) (by omega) (by omega) (by omega) (by omega) (by omega)).mono ?_
       rintro e w1 ⟨rfl,n2,rfl⟩
       have tw:=sG sa 2 13 22
       generalize htp:cL sa ((2:Nat):Int) ((13:Nat):Int) ((22:Nat):Int)=tq
       have htp2:cL sa 2 13 22=tq:=htp
       rw[htp2]at tw
       have HTQ:Hid (cL sa 2 13 22=tq):=htp2
       clear htp htp2
       obtain⟨tw0,tw1⟩:=tw
       obtain⟨hd0,hd1⟩:0<=sd/\sd<4294967296:=HW.out.d
       have HMO:Hid (bits .xor .i64 (bits .xor .i64 (bits .and .i64 sa sb) (bits .and .i64 sa sc)) (bits .and .i64 sb sc)=bits .xor .u32 (bits .xor .u32 (bits .and .u32 sa sb) (bits .and .u32 sa sc)) (bits .and .u32 sb sc)):=by
        show bits .xor .i64 _ _=_
        rw[xc HW.out.a HW.out.b,xc HW.out.a HW.out.c,xc HW.out.b HW.out.c,qj (fQ _ _ _) (fQ _ _ _),qj (fQ _ _ _) (fQ _ _ _)]
       obtain⟨mo0,mo1⟩:Wd (bits .xor .i64 (bits .xor .i64 (bits .and .i64 sa sb) (bits .and .i64 sa sc)) (bits .and .i64 sb sc)):=by rw[HMO.out];exact fQ _ _ _
       have s1:=bq (sd+tt) (by omega) (by omega)
       have s2:=bq (tt+tq) (by omega) (by omega)
       have s3:=bq (tt+tq+bits .xor .i64 (bits .xor .i64 (bits .and .i64 sa sb) (bits .and .i64 sa sc)) (bits .and .i64 sb sc)) (by omega) (by omega)
       have HE:Hid (bits .and .i64 (sd+tt) 4294967295=((St.mk sa sb sc sd se sf sg sh).next kk sw).e):=by
        show bits .and .i64 (sd+tt) 4294967295=IntKind.u32.wrap (sd+(St.mk sa sb sc sd se sf sg sh).t kk sw)
        rw[HT.out,od (by omega) (by omega),IntKind.wrap_u32]
       have HA:Hid (bits .and .i64 (tt+tq+bits .xor .i64 (bits .xor .i64 (bits .and .i64 sa sb) (bits .and .i64 sa sc)) (bits .and .i64 sb sc)) 4294967295=((St.mk sa sb sc sd se sf sg sh).next kk sw).a):=by
        show bits .and .i64 _ 4294967295=IntKind.u32.wrap ((St.mk sa sb sc sd se sf sg sh).t kk sw+(St.mk sa sb sc sd se sf sg sh).u)
        rw[od (by omega) (by omega),HMO.out,HT.out,St.u,←HTQ.out,IntKind.wrap_u32,IntKind.wrap_u32]
        dsimp only
        omega
       go_wp2_with fail
       go_roundw
       case rel=>exact⟨k+1,_,by omega,by go_num,by rw[bG,HR.out,HKK.out,HWW.out];exact congrArg (Value.int .i64) HA.out,by rw[bG,HR.out,HKK.out,HWW.out];rfl,by rw[bG,HR.out,HKK.out,HWW.out];rfl,by rw[bG,HR.out,HKK.out,HWW.out];rfl,by rw[bG,HR.out,HKK.out,HWW.out];exact congrArg (Value.int .i64) HE.out,by rw[bG,HR.out,HKK.out,HWW.out];rfl,by rw[bG,HR.out,HKK.out,HWW.out];rfl,by rw[bG,HR.out,HKK.out,HWW.out];rfl,rfl⟩
       case measure=>simp[intOf];omega
      ·have hk64:k=64:=by omega
       subst hk64
       clear hlt hk
       simp only[show((64:Nat):Int)=64 from rfl]
       have hgw:=ud KS S hHw 64
       generalize hG:bG KS S H 64=G at hgw⊢
       have HG:Hid (bG KS S H 64=G):=hG
       have HGw:Hid G.Wd:=hgw
       clear hG hgw
       have hNs:N.heap.size=w.heap.size+1+1+1+1:=HN.out.size
       have HhH':Hid (l7 H):=hHw
       clear hHw hKw hSw hMs HM HK hat hsz
       go_wp2_with (first
        |refine wpList_store_mid rfl 49 (.tmp 29) (.tmp 179) rfl (w.heap.size+1+1+1+1) 0 (aF G.list).toArray rfl rfl ?th (by kernel_rfl) (all_oneCell_toArray (mX _)) ?_)
       case th=>exact cD _ _ _ _ _ hNs.symm rfl
       have hml:∀k,(mP H G.list k).length=8:=λk=>vX _ _ _
       go_loopw [30] (λi wr=>∃(k:Nat),k<=8/\i= .int .i64 k/\Below w.heap.size w wr/\wr.rangeAt (w.heap.size+1) 0 (aF H)/\wr.rangeAt (w.heap.size+1+1+1+1) 0 (aF (mP H G.list k))/\wr.there (w.heap.size+1+1+1+1) 0 8/\wr.there (w.heap.size+1+1) 0 8) (λi _=>8-(intOf i).toNat)
       case atStart=>
        have hth:((N.drewN n).alloc (.cells (List.replicate 8 (Value.int .i64 0)).toArray 49)).there (w.heap.size+1+1+1+1) 0 8:=cD _ _ _ _ _ hNs.symm rfl
        exact⟨0,by omega,rfl,cm (by omega) _ _ _ _ ((below_drewN HN.out.below n).alloc (by show w.heap.size<=N.heap.size;omega) _),
               World.rangeAt_setCells_apart (World.rangeAt_alloc (j9 HN.out.hrow) _) _ _ _ (Or.inl (by omega)),
               by rw[yc];exact World.rangeAt_setCells_same _ _ _ _ hth,World.there_setCells hth _ _ _,World.there_setCells (World.there_alloc (oV HN.out.res) _) _ _ _⟩
       case round=>
        obtain⟨k,hk,rfl,hb,hr,hx,ht,hres⟩:=hrel
        by_cases hlt:k<8
        ·have hlt':(k:Int)<8:=by omega
         have hk0:(0:Int)<=(k:Int):=by omega
         have y0:wr.cell? ⟨w.heap.size+1,k,none⟩=some (.int .i64 (H.getD k 0)):=dC hr k (by rw[HhH.out];exact hlt)
         have y1:wr.cell? ⟨w.heap.size+1+1+1+1,k,none⟩=some (.int .i64 (G.list.getD k 0)):=by
          have:=dC hx k (by rw[hml];exact hlt)
          rwa [Dj _ _ _ hlt]at this
         have yf:wr.frozen? ⟨w.heap.size+1+1+1+1,k,none⟩=false:=by have:=(ht k hlt).2;rwa [Nat.zero_add]at this
         obtain⟨a0,a1⟩:=HhH'.out k
         obtain⟨b0,b1⟩:=ES HGw.out k
         have hset:=Di H G.list k
         generalize hxa:H.getD k 0=xa at y0 a0 a1 hset
         generalize hxb:G.list.getD k 0=xb at y1 b0 b1 hset
         have Hset:Hid _:=hset
         have s1:=bq (xa+xb) (by omega) (by omega)
         have HV:Hid (bits .and .i64 (xa+xb) 4294967295=IntKind.u32.wrap (xa+xb)):=by
          show bits .and .i64 _ _=_
          rw[od (by omega) (by omega),IntKind.wrap_u32]
         have Hr:Hid _:=hr
         have Hx:Hid _:=hx
         have Ht:Hid _:=ht
         have Hres:Hid _:=hres
         have Hb:Hid _:=hb
         clear hr hx ht hres hb hxa hxb hset hml
         go_wp2_with fail
         refine wp_region_any (by kernel_rfl) ?_
         change wpAny _ _ _ _ _ _ _ (World.drew wr)
         refine wT 0 (.int .i64 k) ?_
         refine wT 1 (.int .i64 k) ?_
         refine wT 2 (.pointer (some ⟨w.heap.size+1,k,none⟩)) ?_
         refine wT 4 (.int .i64 k) ?_
         refine wT 5 (.pointer (some ⟨w.heap.size+1+1+1+1,k,none⟩)) ?_
         refine wpAny_all (rs:=[3,6]) (by kernel_rfl) (List.cons_ne_nil _ _) (zY (YieldsIf.wpOp (S:=λw'=>w'=World.drew wr) (v:= .int .i64 xa) rfl (.inl ⟨by rfl,λw' hw'=>by subst hw';go_simp⟩) rfl ?A) (YieldsIf.wpOp (S:=λw'=>w'=World.drew wr) (v:= .int .i64 xb) rfl (.inl ⟨by rfl,λw' hw'=>by subst hw';go_simp⟩) rfl ?B))
         case A=>refine wpAny_all (rs:=[6]) (by kernel_rfl) (List.cons_ne_nil _ _) (fF (YieldsIf.wpOp (S:=λw'=>w'=World.drew wr) (v:= .int .i64 xb) rfl (.inl ⟨by rfl,λw' hw'=>by subst hw';go_simp⟩) rfl ?_))
                 refine wT 7 (.int .i64 (xa+xb)) ?_
                 refine wT 8 (.int .i64 (bits .and .i64 (xa+xb) 4294967295)) ?_
                 refine wT 9 (.pointer (some ⟨w.heap.size+1+1+1+1,k,none⟩)) ?_
                 refine wpAny_all (rs:=[10]) (by kernel_rfl) (List.cons_ne_nil _ _) (fF (gI (by rfl) (by rfl) 3 (.tmp 193) (.tmp 192) (by rfl) (w.heap.size+1+1+1+1) k (.int .i64 (bits .and .i64 (xa+xb) 4294967295)) ?e4 ?e5 rfl rfl ?e6 ?e7 (by kernel_rfl) (by rfl) ?e8))
                 case e4=>go_simp
                 case e5=>go_simp
                 case e6=>rw[World.cell?_drew,y1];rfl
                 case e7=>rw[World.frozen?_drew];exact yf
                 case e8=>
                   refine wpAny_done (by kernel_rfl) ?_ _
                   clear y0 y1 yf s1
                   go_wp2_with fail
                   go_roundw
                   case rel=>exact⟨k+1,by omega,by go_num,(Below.drew Hb.out).setCell (p:=⟨w.heap.size+1+1+1+1,k,none⟩) (by show w.heap.size<=w.heap.size+1+1+1+1;omega) _,World.rangeAt_setCells_apart (em Hr.out) _ k [_] (Or.inl (by omega)),by rw[←Hset.out,HV.out];exact ij (em Hx.out) _,eC ((World.there_drew _ _ _ _).2 Ht.out) _ _ _,eC ((World.there_drew _ _ _ _).2 Hres.out) _ _ _⟩
                   case measure=>simp[intOf];omega
         case B=>refine wpAny_all (rs:=[3]) (by kernel_rfl) (List.cons_ne_nil _ _) (fF (YieldsIf.wpOp (S:=λw'=>w'=World.drew wr) (v:= .int .i64 xa) rfl (.inl ⟨by rfl,λw' hw'=>by subst hw';go_simp⟩) rfl ?_))
                 refine wT 7 (.int .i64 (xa+xb)) ?_
                 refine wT 8 (.int .i64 (bits .and .i64 (xa+xb) 4294967295)) ?_
                 refine wT 9 (.pointer (some ⟨w.heap.size+1+1+1+1,k,none⟩)) ?_
                 refine wpAny_all (rs:=[10]) (by kernel_rfl) (List.cons_ne_nil _ _) (fF (gI (by rfl) (by rfl) 3 (.tmp 193) (.tmp 192) (by rfl) (w.heap.size+1+1+1+1) k (.int .i64 (bits .and .i64 (xa+xb) 4294967295)) ?e4 ?e5 rfl rfl ?e6 ?e7 (by kernel_rfl) (by rfl) ?e8))
                 case e4=>go_simp
                 case e5=>go_simp
                 case e6=>rw[World.cell?_drew,y1];rfl
                 case e7=>rw[World.frozen?_drew];exact yf
                 case e8=>
                   refine wpAny_done (by kernel_rfl) ?_ _
                   clear y0 y1 yf s1
                   go_wp2_with fail
                   go_roundw
                   case rel=>exact⟨k+1,by omega,by go_num,(Below.drew Hb.out).setCell (p:=⟨w.heap.size+1+1+1+1,k,none⟩) (by show w.heap.size<=w.heap.size+1+1+1+1;omega) _,World.rangeAt_setCells_apart (em Hr.out) _ k [_] (Or.inl (by omega)),by rw[←Hset.out,HV.out];exact ij (em Hx.out) _,eC ((World.there_drew _ _ _ _).2 Ht.out) _ _ _,eC ((World.there_drew _ _ _ _).2 Hres.out) _ _ _⟩
                   case measure=>simp[intOf];omega
        ·have hk8:k=8:=by omega
         subst hk8
         clear hlt hk
         simp only[show((8:Nat):Int)=8 from rfl]
         rw[Dk]at hx
         have hml2:(dr H G.list 8).length=8:=kz _ _ _
         have HL:Hid (kA KS H B=dr H G.list 8):=by show kA KS H B=_;rw[kA,yy,HS.out,HG.out]
         generalize dr H G.list 8=L at*
         have hi49:((ac true Tryd.prog).info? 49).map (·.size)=some (aF L).length:=by rw[dX,hml2];kernel_rfl
         have Hi49:Hid (((ac true Tryd.prog).info? 49).map (·.size)=some (aF L).toArray.size):=by show _=some (aF L).toArray.size;rw[List.size_toArray];exact hi49
         have Hx:Hid (wr.rangeAt (w.heap.size+1+1+1+1) 0 (aF L)):=hx
         have Hres':Hid (wr.there (w.heap.size+1+1) 0 (aF L).length):=by show wr.there _ _ _;rw[dX,hml2];exact hres
         have Hres:Hid (wr.there (w.heap.size+1+1) 0 (aF L).toArray.size):=by show wr.there _ _ (aF L).toArray.size;rw[List.size_toArray];exact Hres'.out
         clear hr hx ht hres hml
         go_wp2_with (first
          |refine wpList_load_mid rfl 49 (.tmp 29) rfl (w.heap.size+1+1+1+1) 0 rfl (aF L) _ Hx.out Lf.underlying49 rfl hi49 ?_
          |refine wpList_store_mid rfl 49 (.tmp 8) (.tmp 194) rfl (w.heap.size+1+1) 0 (aF L).toArray rfl rfl Hres.out Hi49.out (all_oneCell_toArray (mX L)) ?_)
         exact bodyPost_ret (v:= .agg (aF L).toArray) (dn (p:=8) (ty:=49) (by kernel_rfl) _ _ (w.heap.size+1+1) 0 (aF L) _ rfl (World.rangeAt_setCells_same _ _ _ _ Hres'.out) Lf.underlying49 rfl hi49) rfl ⟨by rw[HB.out,HL.out],cm (by omega) _ _ _ _ hb⟩
theorem xW(s:ByteArray)(w:World)(hs:s.size<=140737488355328):
 Calls (ac true Tryd.prog) 27 #[.string s] w λe w'=>e= .returned (.string ⟨(s.data.toList++fK s.data.toList).toArray⟩)/\Below w.heap.size w w':=by
 obtain⟨m,hm⟩:∃m,m=dD s.size:=⟨_,rfl⟩
 have hm2:(s.size:Int)+8<=m:=by subst hm;unfold dD;omega
 have hm3:m<=140737488355456:=by subst hm;unfold dD;omega
 have hmk:=λw=>run_make_row' (P:=(ac true Tryd.prog)) 51 5 (.int .u8 0) 1 Lf.underlying51 Lf.info5 rfl .i64 .i64 m (by omega) (by omega) w
 have hme:((s.size:Int)+8)/64*64+64=(m:Int):=by subst hm;unfold dD;omega
 have hsl:s.data.toList.length=s.size:=by rw[Array.length_toList];rfl
 obtain⟨M,hM,hcp⟩:∃M,IU w M m (s.data.toList++List.replicate (m- s.data.toList.length) 0)/\(Builtin.copy_ #[51,9] 3 #[.slice (some ⟨w.heap.size,0,none⟩) m m, .string s]).run (ac true Tryd.prog) (w.alloc (.cells (madeCells #[.int .u8 0] m) 5))= .ok (goInt s.size) M:=by
  refine⟨_,AN w s.data.toList m 5 (by omega), ?_⟩
  have:=nw (P:=(ac true Tryd.prog)) (w.alloc (.cells (madeCells #[.int .u8 0] m) 5)) 51 3 5 Lf.underlying51 (by kernel_rfl) 9 w.heap.size 0 m m s.size s (Nat.min_eq_left (by omega)) (fS (n:=m) (cD _ _ _ _ _ rfl (by rw[dc,List.size_toArray,List.length_replicate])) (Nat.le_refl _) (by omega))
  rw[List.take_of_length_le (by omega)]at this
  exact this
 have HM:Hid (IU w M m (s.data.toList++List.replicate (m- s.data.toList.length) 0)):=hM
 have hMs:=hM.size
 have hXl:(s.data.toList++List.replicate (m- s.data.toList.length) (0:UInt8)).length=m:=by simp;omega
 have hc0:M.cell? ⟨w.heap.size,s.size,none⟩=some (.int .u8 _):=zr hM.row s.size (by rw[hXl];omega)
 have hf0:M.frozen? ⟨w.heap.size,s.size,none⟩=false:=by have:=(hM.there s.size (by omega)).2;rwa [Nat.zero_add]at this
 have hlt:(s.size:Int)<(m:Int):=by omega
 have HSL:Hid (s.data.toList.length=s.size):=hsl
 have Hm:Hid (m=dD s.size):=hm
 clear hm hM hXl hsl
 go_enter Lf.func27,Tryd.ntmps27
 go_wp2_with fail
 go_loopw [5] (λx wr=>∃(i:Nat),i<=8/\x= .int .i64 i/\Below w.heap.size w wr/\wr.rangeAt w.heap.size 0 (av (qV s.data.toList i))/\wr.there w.heap.size 0 m) (λx _=>8-(intOf x).toNat)
 case atStart=>
  refine⟨0,by omega,rfl,HM.out.below.setCell (p:=⟨w.heap.size,s.size,none⟩) (Nat.le_refl _) _, ?_,eC HM.out.there _ _ _⟩
  have:=ij (k:=s.size) HM.out.row (.int .u8 128)
  rw[show(Value.int .u8 128)=Value.int .u8 ((128:UInt8).toNat:Int)from rfl,JB]at this
  have e:=xY s.data.toList
  rw[HSL.out]at e this
  rw[←e,←Hm.out]
  exact this
 case round=>
  obtain⟨i,hi,rfl,hb,hr,ht⟩:=hrel
  have hpl:=lv s.data.toList i hi
  rw[HSL.out,←Hm.out]at hpl
  clear hc0 hf0 hcp hmk hme
  by_cases h8:i<8
  ·have h8':(i:Int)<8:=by omega
   obtain⟨j,hj⟩:∃j,j=m- 8+i:=⟨_,rfl⟩
   have hji:(m:Int)- 8+(i:Int)=(j:Int):=by omega
   have hjm:(j:Int)<(m:Int):=by omega
   have hc:wr.cell? ⟨w.heap.size,j,none⟩=some (.int .u8 _):=zr hr j (by rw[hpl];omega)
   have hf:wr.frozen? ⟨w.heap.size,j,none⟩=false:=by have:=(ht j (by omega)).2;rwa [Nat.zero_add]at this
   have b3:(0:Int)<=56- 8*(i:Int):=by omega
   have b4:8*(s.size:Int)<=9223372036854775807:=by omega
   have Hr:Hid _:=hr
   have Ht:Hid _:=ht
   have Hj:Hid (j=m- 8+i):=hj
   clear hr ht hj hpl
   have Hv:Hid _:=FI s.size i h8
   go_wp2_with fail
   rw[Hv.out]
   refine⟨⟨i+1,by omega,by go_num,hb.setCell (p:=⟨w.heap.size,j,none⟩) (Nat.le_refl _) _, ?_,eC Ht.out _ _ _⟩,by simp[intOf];omega⟩
   have:=ij (k:=j) Hr.out (.int .u8 ((UInt8.ofNat (8*s.size/256^(7- i))).toNat:Int))
   rw[JB]at this
   have e:=D6 s.data.toList i h8 (UInt8.ofNat (8*s.size/256^(7- i))) (by rw[HSL.out])
   rw[HSL.out,←Hm.out,←Hj.out]at e
   rw[←e]
   exact this
  ·have hi8:i=8:=by omega
   subst hi8
   clear h8 hi
   rw[qU]at hr hpl
   have hcv:=run_convert_bytes_back (P:=(ac true Tryd.prog)) wr 51 9 5 ⟨w.heap.size,0,none⟩ m (s.data.toList++fK s.data.toList) Lf.underlying51 Lf.underlying5 Lf.underlying9
    (λj hj=>by
      rw[Addr.add_mid]
      have:=hr j _ (JS _ j hj)
      rw[this,List.getD_eq_getElem?_getD,List.getElem?_eq_getElem hj];rfl)
   rw[hpl]at hcv
   generalize hZ:s.data.toList++fK s.data.toList=Z at*
   have HZ:Hid (s.data.toList++fK s.data.toList=Z):=hZ
   clear hZ hr ht hpl
   go_wp2_with fail
   go_ret
   exact⟨nA HZ.out.symm,hb⟩
end Go.Proofs.YtkmoglhgkcnalaaDoor.L1
namespace Go.Proofs.YtkmoglhgkcnalaaDoor
open Go
section
variable{q:Bool}
@[simp] theorem Lf.func17:(ac q Tryd.prog).funcs[17]?=some Tryd.f17:=aB Tryd.func17 (by decide) rfl rfl (by kernel_rfl)
@[simp] theorem Lf.func19:(ac q Tryd.prog).funcs[19]?=some Tryd.f19:=aB Tryd.func19 (by decide) rfl rfl (by kernel_rfl)
end
end Go.Proofs.YtkmoglhgkcnalaaDoor
namespace Go.Proofs.YtkmoglhgkcnalaaDoor.L1
open Go.Proofs.YtkmoglhgkcnalaaDoor
open Go.RowKit
theorem xP(KS:List Int)(s:ByteArray)(hb capH kb cap:Nat)(w:World)(hKl:KS.length=64)(hKw:l7 KS)(hH:w.rangeAt hb 0 (aF H0))(hhb:hb<w.heap.size)(hK:w.rangeAt kb 0 (aF KS))(hkb:kb<w.heap.size)
 (hs:s.size<=140737488355328):
 Calls (ac true Tryd.prog) 11 #[.agg #[.slice (some ⟨hb,0,none⟩) 8 capH, .slice (some ⟨kb,0,none⟩) 64 cap], .string s] w
  λe w'=>e= .returned (.string ⟨(fk KS s.data.toList).toArray⟩)/\Below w.heap.size w w':=by
 have HK:Hid (w.rangeAt kb 0 (aF KS)):=hK
 have HH:Hid (w.rangeAt hb 0 (aF H0)):=hH
 have HKw:Hid (l7 KS):=hKw
 clear hK hH hKw
 go_enter Lf.func11,Tryd.ntmps11
 go_wp2
 go_loopw [6] (λx wr=>∃(k:Nat),k<=8/\x= .int .i64 k/\mb w wr hb capH kb cap (jn k)) (λx _=>8-(intOf x).toNat)
 case atStart=>exact⟨0,by omega,rfl,Aw w hb capH kb cap _ _⟩
 case round=>
  obtain⟨k,hk,rfl,hW⟩:=hrel
  have HW:Hid (mb w wr hb capH kb cap (jn k)):=hW
  clear hW
  by_cases hlt:k<8
  ·have hlt':(k:Int)<8:=by omega
   have c0:wr.cell? ⟨w.heap.size,0,none⟩=some (.slice (some ⟨hb,0,none⟩) 8 capH):=HW.out.crow 0 _ rfl
   have c1:wr.cell? ⟨hb,k,none⟩=some (.int .i64 (H0.getD k 0)):=dC (aK HW.out.below hhb HH.out) k hlt
   have c2:wr.cell? ⟨w.heap.size+1,k,none⟩=some (.int .i64 _):=dC HW.out.hrow k (by rw[rX k hk];exact hlt)
   have c3:wr.frozen? ⟨w.heap.size+1,k,none⟩=false:=by have:=(HW.out.there k hlt).2;rwa [Nat.zero_add]at this
   have Hset:Hid _:=yv k hlt
   generalize (jn k).getD k 0=y2 at c2
   generalize H0.getD k 0=y1 at c1 Hset
   go_wp2_with fail
   go_roundw
   case rel=>exact⟨k+1,by omega,by go_num,by rw[←Hset.out];exact HW.out.set k y1⟩
   case measure=>simp[intOf];omega
  ·have hk8:k=8:=by omega
   subst hk8
   clear hlt hk
   simp only[show((8:Nat):Int)=8 from rfl]
   rw[show jn 8=H0 from rfl]at HW
   go_wp2_with fail
   refine(xW s _ hs).mono ?_
   rintro e w1 ⟨rfl,hb1⟩
   have HW1:Hid (mb w w1 hb capH kb cap H0):=HW.out.below' hb1
   clear HW hb1
   have hPl:(ByteArray.mk (s.data.toList++fK s.data.toList).toArray).size=(s.data.toList++fK s.data.toList).length:=by show(s.data.toList++fK s.data.toList).toArray.size=_;simp
   have hP64:=xX s.data.toList
   have hPb:(s.data.toList++fK s.data.toList).length<=140737488355456:=by
    rw[←qU,lv _ _ (Nat.le_refl _)]
    have:s.data.toList.length=s.size:=by rw[Array.length_toList];rfl
    rw[this];unfold dD;omega
   have HP:Hid (fk KS s.data.toList=(List.range 32).map (mK (bu KS (s.data.toList++fK s.data.toList) ((s.data.toList++fK s.data.toList).length/64)))):=rfl
   generalize s.data.toList++fK s.data.toList=P at*
   obtain⟨q,hq⟩:∃q,q=P.length/64:=⟨_,rfl⟩
   have hqP:P.length=64*q:=by rw[hq];exact hP64
   rw[←hq]at HP
   have HqP:Hid (P.length=64*q):=hqP
   have hq2:q<=2199023255554:=by omega
   have hPs:(ByteArray.mk P.toArray).size=64*q:=by rw[hPl];exact hqP
   clear hP64 hPl hPb hq hqP
   obtain⟨PB,hPB⟩:∃PB:ByteArray,PB=⟨P.toArray⟩:=⟨_,rfl⟩
   rw[←hPB]at hPs⊢
   have HPB:Hid (PB.data.toList=P):=by show PB.data.toList=P;rw[hPB]
   clear hPB
   go_wp2_with fail
   go_loopw [8] (λx wr=>∃(k:Nat),k<=q/\x= .int .i64 ((64*k:Nat):Int)/\mb w wr hb capH kb cap (bu KS P k)) (λx _=>64*q-(intOf x).toNat)
   case atStart=>exact⟨0,by omega,rfl,HW1.out⟩
   case round=>
    obtain⟨k,hk,rfl,hW⟩:=hrel
    have HW:Hid (mb w wr hb capH kb cap (bu KS P k)):=hW
    clear hW HW1
    rw[show((64*k:Nat):Int)=64*(k:Int)from by omega]
    by_cases hlt:k<q
    ·have hlt':64*(k:Int)<64*(q:Int):=by omega
     have hF8:(bu KS P k).length=8:=cc _ _ _
     have hFw:=qo KS P k
     have hn:bu KS P (k+1)=kA KS (bu KS P k) ((PB.data.toList.drop (64*k)).take 64):=by rw[HPB.out];rfl
     have hn8:(bu KS P (k+1)).length=8:=cc _ _ _
     generalize bu KS P k=F at*
     generalize hF':bu KS P (k+1)=F' at*
     have HF':Hid (bu KS P (k+1)=F'):=hF'
     clear hF'
     have hi49:((ac true Tryd.prog).info? 49).map (·.size)=some (aF F).length:=by rw[dX,hF8];kernel_rfl
     have hi24:((ac true Tryd.prog).info? 24).map (·.size)=some [Value.slice (some ⟨hb,0,none⟩) 8 capH,Value.slice (some ⟨kb,0,none⟩) 64 cap].length:=by kernel_rfl
     have hbl:=BS F KS PB (64*k) kb cap (.slice (some ⟨hb,0,none⟩) 8 capH) wr hF8 hFw hKl HKw.out (aK HW.out.below hkb HK.out) (by omega) (by omega)
     rw[←hn,show((64*k:Nat):Int)=64*(k:Int)from by omega]at hbl
     have Hbl:Hid (Calls _ _ _ _ _):=hbl
     have Hi49:Hid (((ac true Tryd.prog).info? 49).map (·.size)=some (aF F').toArray.size):=by show _=some (aF F').toArray.size;rw[List.size_toArray,dX,hn8];kernel_rfl
     have Hn8:Hid (F'.length=8):=hn8
     clear hbl hn hF8 hFw hn8
     go_wp2_with (first
      |refine wpList_load_mid rfl 24 (.tmp 2) rfl w.heap.size 0 rfl [Value.slice (some ⟨hb,0,none⟩) 8 capH,Value.slice (some ⟨kb,0,none⟩) 64 cap] _ HW.out.crow Lf.underlying24 rfl hi24 ?_
      |refine wpList_load_mid rfl 49 (.tmp 5) rfl (w.heap.size+1) 0 rfl (aF F) _ HW.out.hrow Lf.underlying49 rfl hi49 ?_)
     refine Hbl.out.mono ?_
     rintro e w2 ⟨rfl,hb2⟩
     have HW2:Hid (mb w w2 hb capH kb cap F):=HW.out.below' hb2
     have Hth:Hid (w2.there (w.heap.size+1) 0 (aF F').toArray.size):=by
      show w2.there _ _ (aF F').toArray.size
      rw[show(aF F').toArray.size=8 from by simp[dX,Hn8.out]]
      exact HW2.out.there
     clear hb2 HW Hbl hi49
     go_wp2_with (first
      |refine wpList_store_mid rfl 49 (.tmp 5) (.tmp 34) rfl (w.heap.size+1) 0 (aF F').toArray rfl rfl Hth.out Hi49.out (all_oneCell_toArray (mX F')) ?_)
     go_roundw
     case rel=>exact⟨k+1,by omega,by go_num,by rw[HF'.out];exact HW2.out.put _ Hn8.out⟩
     case measure=>simp[intOf];omega
    ·have hkq:k=q:=by omega
     subst hkq
     clear hlt hk
     have hmk:∀W,(Instr.makeSlice 51 (.int .i64 32) (.int .i64 32)).run (ac true Tryd.prog) W= .ok (.slice (some ⟨W.heap.size,0,none⟩) 32 32) (W.alloc (.cells (madeCells #[.int .u8 0] 32) 5)):=
      λW=>run_make_row' (P:=(ac true Tryd.prog)) 51 5 (.int .u8 0) 1 Lf.underlying51 Lf.info5 rfl .i64 .i64 32 (by omega) (by omega) W
     have hlt':¬64*(k:Int)<64*(k:Int):=by omega
     have hF8:(bu KS P k).length=8:=cc _ _ _
     have hF0:=mj KS P k
     have hFw:=qo KS P k
     generalize bu KS P k=F at*
     have HF8:Hid (F.length=8):=hF8
     have HF0:Hid (∀i,0<=F.getD i 0):=hF0
     have HFw:Hid (l7 F):=hFw
     clear hF8 hF0 hFw
     go_wp2_with fail
     go_loopw [10] (λx W=>∃j:Nat,j<=32/\x= .int .i64 j/\W=wr.alloc (.cells (pS F j).toArray 5)) (λx _=>32-(intOf x).toNat)
     case atStart=>exact⟨0,by omega,rfl,by rw[dc];rfl⟩
     case round=>
      clear hmk
      obtain⟨j,hj,rfl,rfl⟩:=hrel
      by_cases hl:j<32
      ·have hg:=vN F j hl
       have hln:=pm F j hj
       have hz3:w.heap.size+1<wr.heap.size:=by have:=HW.out.size;omega
       have hcw:=λo:Obj=>World.cell?_alloc_past (w:=wr) o (w.heap.size+1) (j/4) hz3
       have hcv:wr.cell? ⟨w.heap.size+1,j/4,none⟩=some (.int .i64 (F.getD (j/4) 0)):=dC HW.out.hrow (j/4) (by rw[HF8.out];omega)
       have hx0:=HF0.out (j/4)
       have hx1:=(HFw.out (j/4)).2
       generalize hx:F.getD (j/4) 0=x at hcv hx0 hx1
       have HX:Hid (F.getD (j/4) 0=x):=hx
       clear hx
       have l1:(j:Int)<32:=by omega
       have b1:(j:Int)/4<8:=by omega
       have b2:(0:Int)<=(j:Int)/4:=by omega
       have b3:(0:Int)<=24-(j:Int)%4*8:=by omega
       have Hv:Hid _:=vL F j x HX.out hx0
       go_wp2_with fail
       rw[Nat.mul_comm (j%4) 8]
       exact⟨⟨j+1,by omega,by go_num,by rw[vM F j hl _ Hv.out]⟩,by simp[intOf];omega⟩
      ·have hj32:j=32:=by omega
       subst hj32
       clear hl hj
       rw[vO]
       have hcv:=run_convert_bytes_back (P:=(ac true Tryd.prog)) (wr.alloc (.cells (av ((List.range 32).map (mK F))).toArray 5)) 51 9 5 ⟨wr.heap.size,0,none⟩ 32 ((List.range 32).map (mK F)) Lf.underlying51 Lf.underlying5 Lf.underlying9
               (λj hj=>by rw[Addr.add_mid,World.cell?_alloc_at _ _ _ _ rfl];simp[av]at hj⊢;simp[hj])
       rw[show((List.range 32).map (mK F)).length=32 from by simp]at hcv
       generalize hZ:(List.range 32).map (mK F)=Z at*
       clear hZ
       go_wp2_with fail
       go_ret
       exact⟨nA HP.out.symm,HW.out.below.alloc (by have:=HW.out.size;omega) _⟩
theorem uq(w:World):
 Calls (ac true Tryd.prog) 8 #[] w λe w'=>e= .returned (.agg #[.slice (some ⟨w.heap.size+1,0,none⟩) 8 8, .slice (some ⟨w.heap.size+1+1,0,none⟩) 64 64])/\Below w.heap.size w w'/\
  w'.rangeAt (w.heap.size+1) 0 (aF H0)/\w'.rangeAt (w.heap.size+1+1) 0 (aF rN)/\w'.heap.size=w.heap.size+1+1+1:=by
 go_enter Lf.func8,Tryd.ntmps8
 go_wp2_with (first
  |refine wpList_buildFlatAt rfl 22 3 8 _ rfl .i64 H0 (w.heap.size+1) (by simp) (some 3) rfl Lf.underlying22 (by kernel_rfl) (by kernel_rfl) rfl (by decide) (by decide) (by kernel_rfl) ?_
  |refine wpList_buildFlatAt rfl 22 3 64 _ rfl .i64 rN (w.heap.size+1+1) (by simp) (some 4) rfl Lf.underlying22 (by kernel_rfl) (by kernel_rfl) rfl (by decide) (by decide) (by kernel_rfl) ?_)
 refine bodyPost_ret (v:= .agg #[.slice (some ⟨w.heap.size+1,0,none⟩) 8 8, .slice (some ⟨w.heap.size+1+1,0,none⟩) 64 64]) (dn (p:=0) (ty:=24) (by kernel_rfl) _ _ w.heap.size 0 [.slice (some ⟨w.heap.size+1,0,none⟩) 8 8, .slice (some ⟨w.heap.size+1+1,0,none⟩) 64 64] _ rfl ?_ Lf.underlying24 rfl (by kernel_rfl)) rfl ⟨rfl,(((bR).alloc (Nat.le_refl _) _).alloc (by simp) _).alloc (by simp;omega) _, ?_, ?_,by simp⟩
 ·exact World.rangeAt_alloc (World.rangeAt_alloc (dT w [.slice (some ⟨w.heap.size+1,0,none⟩) 8 8, .slice (some ⟨w.heap.size+1+1,0,none⟩) 64 64] _ _ rfl) _) _
 ·exact World.rangeAt_alloc (dT _ (aF H0) _ _ (by simp)) _
 ·exact dT _ (aF rN) _ _ (by simp)
theorem lr(s:ByteArray)(a n:Nat)(w:World)(hn:n<=4)(ha:a+n<=s.size)(hs:s.size<=1125899906842624):
 Calls (ac true Tryd.prog) 33 #[.string s, .int .i64 (a:Int), .int .i64 (n:Int)] w λe w'=>e= .returned (.int .i64 (fL (kJ s.data.toList a (a+n))))/\w'=w:=by
 have hsl:s.data.toList.length=s.size:=by rw[Array.length_toList];rfl
 have HSL:Hid (s.data.toList.length=s.size):=hsl
 clear hsl
 go_enter Lf.func33,Tryd.ntmps33
 go_wp2
 go_loop [7,8] (λv i=>∃k:Nat,k<=n/\i= .int .i64 k/\v= .int .i64 (fL (kJ s.data.toList a (a+k)))) (λ_ i=>n-(intOf i).toNat)
 case atStart=>exact⟨0,Nat.zero_le _,rfl,by rw[Nat.add_zero,kJ,List.drop_eq_nil_of_le (by simp;omega)];rfl⟩
 case round=>
  obtain⟨k,hk,rfl,rfl⟩:=hrel
  by_cases hlt:k<n
  ·have hlt':(k:Int)<(n:Int):=by omega
   have hb:=lZ (kJ s.data.toList a (a+k)) 3 (by rw[kJ];simp;omega)
   have hi:=jR s (a+k) ((a:Int)+(k:Int)) (by omega) (by omega)
   have HN:Hid (fL (kJ s.data.toList a (a+(k+1)))=256*fL (kJ s.data.toList a (a+k))+((s.data.toList.getD (a+k) 0).toNat:Int)):=by
    show fL _=_
    rw[BK _ _ _ (by rw[HSL.out];omega),lY]
   have hx:=(s.data.toList.getD (a+k) 0).toNat_lt
   generalize s.data.toList.getD (a+k) 0=x at hi HN hx
   have Hb:Hid _:=HN
   generalize fL (kJ s.data.toList a (a+k))=y at*
   obtain⟨hb0,hb1⟩:=hb
   have hb1':y<16777216:=by simpa using hb1
   clear hb1
   go_wp2
   go_round
   case rel=>exact⟨k+1,by omega,by go_num,by rw[HN.out]⟩
   case measure=>simp[intOf];omega
  ·have hkn:k=n:=by omega
   subst hkn
   have hlt':¬(k:Int)<(k:Int):=by omega
   go_wp2
   go_ret
   exact⟨rfl,rfl⟩
theorem LC(v:Int)(V n:Nat)(w:World)(hn:n<=8)(hV:(V:Int)=v%18446744073709551616):
 Calls (ac true Tryd.prog) 21 #[.int .i64 v, .int .i64 (n:Int)] w λe w'=>e= .returned (.string ⟨(cg V n).toArray⟩)/\Below w.heap.size w w':=by
 have hmk:=λw=>run_make_row' (P:=(ac true Tryd.prog)) 51 5 (.int .u8 0) 1 Lf.underlying51 Lf.info5 rfl .i64 .i64 n (by omega) (by omega) w
 go_enter Lf.func21,Tryd.ntmps21
 go_wp2_with fail
 go_loopw [6] (λx wr=>∃i:Nat,i<=n/\x= .int .i64 i/\wr=w.alloc (.cells (uC V n i).toArray 5)) (λx _=>n-(intOf x).toNat)
 case atStart=>exact⟨0,Nat.zero_le _,rfl,by rw[Ce,dc]⟩
 case round=>
  obtain⟨i,hi,rfl,rfl⟩:=hrel
  by_cases hlt:i<n
  ·have hlt':(i:Int)<(n:Int):=by omega
   have hg:=H8 V n i hlt
   have hsz:=Ae V n i hi
   have b3:(0:Int)<=8*((n:Int)- 1-(i:Int)):=by omega
   go_wp2_with fail
   go_roundw
   case rel=>exact⟨i+1,by omega,by go_num,by rw[H7 V n i hlt _ (LJ v V n i hV hn)]⟩
   case measure=>simp[intOf];omega
  ·have hin:i=n:=by omega
   subst hin
   have hlt':¬(i:Int)<(i:Int):=by omega
   have hl:=bT i V
   have hcv:=run_convert_bytes_back (P:=(ac true Tryd.prog)) (w.alloc (.cells (av (cg V i)).toArray 5)) 51 9 5 ⟨w.heap.size,0,none⟩ i (cg V i) Lf.underlying51 Lf.underlying5 Lf.underlying9
    (λj hj=>by rw[Addr.add_mid,World.cell?_alloc_at _ _ _ _ rfl];simp[av,hj])
   rw[hl]at hcv
   rw[H9]
   generalize hL:cg V i=L at*
   have HL:Hid (cg V i=L):=hL
   clear hL hl
   go_wp2_with fail
   go_ret
   exact⟨nA HL.out.symm,(bR).alloc (Nat.le_refl _) _⟩
theorem dK(v n:Nat)(w:World)(hn:n<=8)(h:v<9223372036854775808):
 Calls (ac true Tryd.prog) 21 #[.int .i64 (v:Int), .int .i64 (n:Int)] w λe w'=>e= .returned (.string ⟨(cg v n).toArray⟩)/\Below w.heap.size w w':=LC v v n w hn (by omega)
end Go.Proofs.YtkmoglhgkcnalaaDoor.L1
namespace Go.Proofs.YtkmoglhgkcnalaaDoor
open Go
theorem Md(a:Nat)(ha:a<9223372036854775808):(BitVec.ofInt 64 (a:Int)).toNat=a:=by
 rw[BitVec.ofInt_natCast,BitVec.toNat_ofNat];exact Nat.mod_eq_of_lt (by omega)
theorem Me(a b:Nat)(ha:a<9223372036854775808)(hb:b<9223372036854775808):bits .and .i64 (a:Int) (b:Int)=((a&&&b:Nat):Int):=by
 have hx:a&&&b<2^63:=Nat.and_lt_two_pow _ (by omega)
 show IntKind.i64.wrap ((BitVec.ofInt 64 (a:Int)&&&BitVec.ofInt 64 (b:Int)).toNat:Int)=_
 rw[BitVec.toNat_and,Md a ha,Md b hb,IntKind.wrap_i64]
 omega
def pZ(w:Nat):Prop:=w=2\/w=4\/w=8
theorem zX(a w:Nat)(ha:a<9223372036854775808)(hw:pZ w):bits .and .i64 (a:Int) (ck w:Int)=((a%2^w:Nat):Int):=by
 have ht:ck w<9223372036854775808:=by rcases hw with rfl|rfl|rfl<;>decide
 rw[Me a (ck w) ha ht]
 unfold ck
 rw[Nat.and_two_pow_sub_one_eq_mod]
def cn(L:List UInt8)(w c:Nat):Nat:=(L.getD (c/(8/w)) 0).toNat/2^(8- w- c%(8/w)*w)%2^w
def dk(L:List UInt8)(w:Nat):Nat->Nat
 |0=>0
 |c+1=>dk L w c+(ck w- cn L w c)
def iO(Q:List UInt8)(w sh:Nat):List UInt8:=Q++cg (dk Q w (256/w)*2^sh) 2
def jU(KS:List Int)(s:cq)(dig:Nat->Int)(n:Nat):List UInt8:=(List.range n).flatMap λc=>(iZ KS s c (dig c) (s.links.extract (c*32) ((c+1)*32))).data.toList
theorem Gm(L:List UInt8)(w c:Nat):cn L w c<2^w:=Nat.mod_lt _ (Nat.two_pow_pos w)
theorem nS(L:List UInt8)(w c:Nat):cn L w c<=ck w:=by
 have:=Gm L w c
 unfold ck
 omega
theorem mw{w:Nat}(hw:pZ w):ck w<=255:=by rcases hw with rfl|rfl|rfl<;>decide
theorem nk(L:List UInt8){w:Nat}(hw:pZ w):∀c,dk L w c<=255*c
 |0=>by simp[dk]
 |c+1=>by
  have:=nk L hw c
  have:=mw hw
  simp only[dk]
  omega
theorem Gn(L:List UInt8){w:Nat}(hw:pZ w)(i k:Nat)(hk:k<8/w)(hi:i<L.length):cn L w (i*(8/w)+k)=L[i].toNat/2^(8- w- k*w)%2^w:=by
 have e1:(i*(8/w)+k)/(8/w)=i:=by rcases hw with rfl|rfl|rfl<;>simp at hk⊢<;>omega
 have e2:(i*(8/w)+k)%(8/w)=k:=by rcases hw with rfl|rfl|rfl<;>simp at hk⊢<;>omega
 unfold cn
 rw[e1,e2,List.getD_eq_getElem?_getD,List.getElem?_eq_getElem hi]
 rfl
end Go.Proofs.YtkmoglhgkcnalaaDoor
namespace Go.Proofs.YtkmoglhgkcnalaaDoor.L1
open Go Go.Conc Go.RowKit Go.Proofs.YtkmoglhgkcnalaaDoor
section
variable{w:World}{ev:Operand->Value}{o:Oper}{x y:Operand}{u:TypeId}{m n:Int}
theorem jh(hop:o.op= .binOp .sub 3 x y u)(hx:ev x= .int .i64 m)(hy:ev y= .int .i64 n)(h: -9223372036854775808<=m- n/\m- n<9223372036854775808):(execOp ev o).run (ac true Tryd.prog) w= .ok (.value (.int .i64 (m- n))) w:=by
 have e:IntKind.i64.wrap (m- n)=m- n:=by rw[IntKind.wrap_i64];omega
 simp[execOp,hop,hx,hy,go_sem,e]
theorem xN(hop:o.op= .binOp .geq 3 x y u)(hx:ev x= .int .i64 m)(hy:ev y= .int .i64 n):(execOp ev o).run (ac true Tryd.prog) w= .ok (.value (.bool (decide (m≥n)))) w:=by
 simp[execOp,hop,hx,hy,go_sem]
theorem um(hop:o.op= .binOp .gtr 3 x y u)(hx:ev x= .int .i64 m)(hy:ev y= .int .i64 n):(execOp ev o).run (ac true Tryd.prog) w= .ok (.value (.bool (decide (m>n)))) w:=by
 simp[execOp,hop,hx,hy,go_sem]
theorem CM{k:Nat}(hop:o.op= .binOp .shr 3 x y u)(hx:ev x= .int .i64 m)(hy:ev y= .int .i64 k)(h:k<=64):(execOp ev o).run (ac true Tryd.prog) w= .ok (.value (.int .i64 (m/2^k))) w:=by
 have h0:(0:Int)<=(k:Int):=by omega
 have h1:(k:Int)<=64:=by omega
 simp[execOp,hop,hx,hy,go_sem]
theorem ji{k:Nat}(hop:o.op= .binOp .shl 3 x y u)(hx:ev x= .int .i64 m)(hy:ev y= .int .i64 k)(h:k<=64)(hb: -9223372036854775808<=m*2^k/\m*2^k<9223372036854775808):(execOp ev o).run (ac true Tryd.prog) w= .ok (.value (.int .i64 (m*2^k))) w:=by
 have h0:(0:Int)<=(k:Int):=by omega
 have h1:(k:Int)<=64:=by omega
 have e:IntKind.i64.wrap (m*2^k)=m*2^k:=by rw[IntKind.wrap_i64];omega
 simp[execOp,hop,hx,hy,go_sem,e]
theorem CV(hop:o.op= .binOp .and 3 x y u)(hx:ev x= .int .i64 m)(hy:ev y= .int .i64 n):(execOp ev o).run (ac true Tryd.prog) w= .ok (.value (.int .i64 (bits .and .i64 m n))) w:=by
 simp[execOp,hop,hx,hy,go_sem]
theorem vD{s:ByteArray}{p:Nat}(hop:o.op= .index 9 x y)(hx:ev x= .string s)(hy:ev y= .int .i64 p)(h:p<s.size):(execOp ev o).run (ac true Tryd.prog) w= .ok (.value (.int .u8 (s[p].toNat:Int))) w:=by
 have hu:(ac true Tryd.prog).underlying 9=some .string:=by kernel_rfl
 simp[execOp,hop,hx,hy,Instr.index,asIntOf,run_underlying hu,h]
theorem zp{b:UInt8}(hop:o.op= .convert 5 3 x)(hx:ev x= .int .u8 (b.toNat:Int)):(execOp ev o).run (ac true Tryd.prog) w= .ok (.value (.int .i64 (b.toNat:Int))) w:=by
 have h1:(ac true Tryd.prog).underlying 5=some (.int .u8):=by kernel_rfl
 have h2:(ac true Tryd.prog).underlying 3=some (.int .i64):=by kernel_rfl
 have hb:=b.toNat_lt
 have e:IntKind.i64.wrap (b.toNat:Int)=b.toNat:=by rw[IntKind.wrap_i64];omega
 simp[execOp,hop,hx,go_sem,h1,h2,e]
theorem qN(hop:o.op= .binOp .quo 3 x y u)(hx:ev x= .int .i64 m)(hy:ev y= .int .i64 2)(h0:0<=m)(h1:m<9223372036854775808):(execOp ev o).run (ac true Tryd.prog) w= .ok (.value (.int .i64 (m/2))) w:=by
 have e:IntKind.i64.wrap (m/2)=m/2:=by rw[IntKind.wrap_i64];omega
 have e2:m.tdiv 2=m/2:=Int.tdiv_eq_ediv_of_nonneg h0
 simp[execOp,hop,hx,hy,go_sem,e2,e]
theorem qO{s:ByteArray}{t:Nat}(hop:o.op= .call {callee:= .builtin .len,args:=#[.tmp t],argTypes:=#[9]})(hx:ev (.tmp t)= .string s):(execOp ev o).run (ac true Tryd.prog) w= .ok (.value (.int .i64 s.size)) w:=by
 have hu:(ac true Tryd.prog).underlying 9=some .string:=by kernel_rfl
 simp[execOp,hop,resolve,hx,invoke,builtin,Builtin.len_,run_underlying hu,goInt]
theorem da(hop:o.op= .binOp .add 3 x y u)(hx:ev x= .int .i64 m)(hy:ev y= .int .i64 n)(h: -9223372036854775808<=m+n/\m+n<9223372036854775808):(execOp ev o).run (ac true Tryd.prog) w= .ok (.value (.int .i64 (m+n))) w:=(lc hop hx hy h).1
end
end Go.Proofs.YtkmoglhgkcnalaaDoor.L1
