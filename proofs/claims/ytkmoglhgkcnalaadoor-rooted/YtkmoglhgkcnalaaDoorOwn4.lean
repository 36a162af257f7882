/- A part of what the last text of the claim imports: texts laid together, and made small, by a program. -/
import Derived.ProofKit
import Derived.WalkKit
import Derived.WalkSpells
import Derived.WalkLawsBesides
import Derived.Deep.MidRow
import Derived.Deep.OwnRows
import Derived.StillTail
import Derived.Conc.Beside
import Derived.Conc.CrowdInv
import Derived.Test.YtkmoglhgkcnalaaDoorOwn3
set_option maxHeartbeats 16000000
set_option maxRecDepth 100000
namespace Go.Proofs.YtkmoglhgkcnalaaDoor
open Go Go.Conc
def jJ(w:World)(τ:Tape)(d:Nat):World:={w with tape:=τ,drawn:=d}
inductive fc (P:Program) (Stop:Goroutine->World->Prop):Goroutine->World->Prop
 |stop {g:Goroutine} {w:World} (h:Stop g w):fc P Stop g w
 |go {g:Goroutine} {w:World} (n:Tape->Nat->Goroutine×World) (h:∀τ d,∃es,stepG P true g (jJ w τ d)= .go (n τ d).1 (n τ d).2 es) (hw:∀τ d,fa (n τ d).1) (ht:∀τ d,fc P Stop (n τ d).1 (n τ d).2):fc P Stop g w
section
variable{P PL PM:Program}{G T:Nat}{D:Nat->Prop}{ρ:Nat->Nat}{wL wM:World}{base:List Frame}
theorem ci.re(h:ci G T D ρ wL wM){wL' wM':World}(hl:wL'.heap=wL.heap)(hm:wM'.heap=wM.heap){T':Nat}(ht:∀i,wL'.drawn+i<T'->wM'.tape (wM'.drawn+i)=wL'.tape (wL'.drawn+i)):ci G T' D ρ wL' wM':=
 ⟨h.inj,λb hb=>by rw[hl,hm];exact h.obj b hb,ht,h.glob,by rw[hl,hm];exact h.far,h.out⟩
theorem eL.well{gL gM:Goroutine}(h:eL G D ρ base gL gM)(hW:ci G T D ρ wL wM)(hw:fa gL):fa gM:=
 ⟨h.run.2.1,λc e=>by rw[h.frame ρ hW.self]at e;exact hw.2.1 c e,h.run.2.2.2⟩
theorem j4.enters(hB:∀f (fn:Func) c,PL.funcs[f]?=some fn->fn.body=some c->eM (f==aV) c=true)(f:FuncId)(fn:Func)(hf:PL.funcs[f]?=some fn)(hb:fn.body.isSome=true):jf PL PL f:=by
 obtain⟨c,hc⟩:=Option.isSome_iff_exists.1 hb
 exact⟨fn,fn,hf,hf,rfl,rfl,c,hc,hB f fn c hf hc⟩
theorem Bd(E:j4 PL PM G){I:Machine->Prop}(hI:xx I){fr:Frame}{cs:List Frame}{w':World}(hm:fr.mode= .returning){g:Goroutine}{w:World}(hw:fa g)(ok:fJ g.frame)(oks:∀c∈g.callers,fJ c/\bE c)(hP:ax w)
 {m1:Machine} (hs:step PL (solo g w)= .next m1) (hrest:StepsIn I PL m1 (lone fr cs w')):∃g1 w1 es,stepG PL true g w= .go g1 w1 es/\m1=solo g1 w1/\fa g1/\ax w1:=by
 obtain⟨f,c,st,dy,of⟩:=g
 obtain⟨h1,h2,h3⟩:=hw
 simp only at h1 h2 h3 ok oks
 subst h1 h3
 have hk:=Au (w:=w) (o:=of) E ok oks hP
 obtain⟨g1,w1,es,hg,rfl⟩:=lj rfl hk hs
 rw[hg]at hk
 rcases hk with h|⟨hP1,hk⟩
 ·exact absurd (ry hI hrest rfl rfl) h
 ·exact⟨g1,w1,es,hg,rfl,hk.resolve_right λh=>wv hI hm hrest g1 w1 rfl hP1 (.inr h),hP1⟩
end
section
variable{PL:Program}{Stop:Goroutine->World->Prop}
structure kW where
 g:Goroutine
 w:World
 τ:Tape
 d:Nat
 dead:Bool
def kW.step(P:Program)(X:kW):GStep:=stepG P true X.g (jJ X.w X.τ X.d)
def kW.good(P:Program)(X:kW):Prop:=X.dead=false/\∃g' w' es,X.step P= .go g' w' es/\fa g'
def kW.bad(P:Program)(Stop:Goroutine->World->Prop)(X:kW):Prop:=¬Stop X.g X.w/\∀g' w' es,X.step P= .go g' w' es->fa g'->¬fc P Stop g' w'
theorem rq{g:Goroutine}{w:World}(h:¬fc PL Stop g w):∃X:kW,X.g=g/\X.w=w/\X.dead=false/\X.bad PL Stop:=by
 have h1:¬Stop g w:=λhs=>h (.stop hs)
 refine Classical.byContradiction λhn=> ?_
 have hall:∀τ d,∃x:Goroutine×World,(∃es,stepG PL true g (jJ w τ d)= .go x.1 x.2 es)/\fa x.1/\fc PL Stop x.1 x.2:=by
  intro τ d
  refine Classical.byContradiction λhx=>hn ⟨⟨g,w,τ,d,false⟩,rfl,rfl,rfl,h1,λg' w' es e hw ht=>hx ⟨(g',w'),⟨es,e⟩,hw,ht⟩⟩
 have h2:∃n:Tape->Nat->Goroutine×World,∀τ d,(∃es,stepG PL true g (jJ w τ d)= .go (n τ d).1 (n τ d).2 es)/\fa (n τ d).1/\fc PL Stop (n τ d).1 (n τ d).2:=
  ⟨λτ d=>Classical.choose (hall τ d),λτ d=>Classical.choose_spec (hall τ d)⟩
 obtain⟨n,hn2⟩:=h2
 exact h (.go n (λτ d=>(hn2 τ d).1) (λτ d=>(hn2 τ d).2.1) λτ d=>(hn2 τ d).2.2)
theorem wx(PL:Program)(Stop:Goroutine->World->Prop):∃nx:kW->kW,(∀X,X.bad PL Stop->X.good PL->(∃es,X.step PL= .go (nx X).g (nx X).w es)/\fa (nx X).g/\(nx X).dead=false/\(nx X).bad PL Stop)/\∀X,¬X.good PL->nx X=⟨X.g,X.w,X.τ,X.d+1,true⟩:=by
 have h:∀X:kW,∃Y:kW,(X.bad PL Stop->X.good PL->(∃es,X.step PL= .go Y.g Y.w es)/\fa Y.g/\Y.dead=false/\Y.bad PL Stop)/\(¬X.good PL->Y=⟨X.g,X.w,X.τ,X.d+1,true⟩):=by
  intro X
  by_cases hg:X.good PL
  ·by_cases hb:X.bad PL Stop
   ·obtain⟨hd,g',w',es,hs,hw⟩:=hg
    obtain⟨Y,h1,h2,h3,h4⟩:=rq (hb.2 g' w' es hs hw)
    exact⟨Y,λ_ _=>⟨⟨es,by rw[h1,h2];exact hs⟩,by rw[h1];exact hw,h3,h4⟩,λhn=>absurd ⟨hd,g',w',es,hs,hw⟩ hn⟩
   ·exact⟨X,λh=>absurd h hb,λhn=>absurd hg hn⟩
  ·exact⟨_,λ_ h=>absurd h hg,λ_=>rfl⟩
 exact⟨λX=>Classical.choose (h X),λX=>(Classical.choose_spec (h X)).1,λX=>(Classical.choose_spec (h X)).2⟩
section
variable(nx:kW->kW)(X0:kW)
def br:Nat->kW
 |0=>X0
 |n+1=>nx (br n)
def jD(k:Nat->Nat):Nat->Nat
 |0=>0
 |n+1=>jD k n+k n
theorem sJ(k:Nat->Nat){n m:Nat}(h:n<=m):jD k n<=jD k m:=by
 induction h with
 |refl=>exact Nat.le_refl _
 |step _ ih=>exact Nat.le_trans ih (Nat.le_add_right _ _)
theorem HY(k:Nat->Nat)(t:Nat->Nat->Question->Nat):∃T:Tape,∀n i,i<k n->T (jD k n+i)=t n i:=by
 have h:∀j,∃f:Question->Nat,∀n i,i<k n->jD k n+i=j->f=t n i:=by
  intro j
  by_cases hj:∃n i,i<k n/\jD k n+i=j
  ·obtain⟨n,i,h1,h2⟩:=hj
   refine⟨t n i,λm l h3 h4=> ?_⟩
   have hm:m=n:=by
    rcases Nat.lt_trichotomy m n with hlt|heq|hgt
    ·have:=sJ k (show m+1<=n from hlt)
     have:jD k (m+1)=jD k m+k m:=rfl
     omega
    ·exact heq
    ·have:=sJ k (show n+1<=m from hgt)
     have:jD k (n+1)=jD k n+k n:=rfl
     omega
   subst hm
   have:i=l:=by omega
   rw[this]
  ·exact⟨λ_=>0,λn i h1 h2=>absurd ⟨n,i,h1,h2⟩ hj⟩
 exact⟨λj=>Classical.choose (h j),λn i hi=>Classical.choose_spec (h _) n i hi rfl⟩
theorem yC(PL:Program)(nx:kW->kW)(X0:kW):∃k:Nat->Nat,∀n,((br nx X0 n).good PL->k n=(br nx X0 (n+1)).w.drawn-(br nx X0 n).d)/\(¬(br nx X0 n).good PL->k n=1):=by
 have h:∀n,∃c:Nat,((br nx X0 n).good PL->c=(br nx X0 (n+1)).w.drawn-(br nx X0 n).d)/\(¬(br nx X0 n).good PL->c=1):=by
  intro n
  by_cases hg:(br nx X0 n).good PL
  ·exact⟨_,λ_=>rfl,λhn=>absurd hg hn⟩
  ·exact⟨1,λh=>absurd h hg,λ_=>rfl⟩
 exact⟨λn=>Classical.choose (h n),λn=>Classical.choose_spec (h n)⟩
variable{nx X0}
theorem wm(hnx:∀X:kW,¬X.good PL->nx X=⟨X.g,X.w,X.τ,X.d+1,true⟩){k:Nat->Nat}(hk:∀n,¬(br nx X0 n).good PL->k n=1){T:Tape}(hT:∀n i,i<k n->T (jD k n+i)=(br nx X0 n).τ ((br nx X0 n).d+i))
 {n:Nat} (hn:¬(br nx X0 n).good PL) (j:Nat):T (jD k n+j)=(br nx X0 n).τ ((br nx X0 n).d+j):=by
 have h:∀j,¬(br nx X0 (n+j)).good PL/\(br nx X0 (n+j)).τ=(br nx X0 n).τ/\(br nx X0 (n+j)).d=(br nx X0 n).d+j/\jD k (n+j)=jD k n+j:=by
  intro j
  induction j with
  |zero=>exact⟨hn,rfl,rfl,rfl⟩
  |succ j ih=>
   obtain⟨h1,h2,h3,h4⟩:=ih
   have e:br nx X0 (n+(j+1))=⟨(br nx X0 (n+j)).g,(br nx X0 (n+j)).w,(br nx X0 (n+j)).τ,(br nx X0 (n+j)).d+1,true⟩:=hnx _ h1
   refine⟨λhg=> ?_,by rw[e];exact h2,by rw[e];show(br nx X0 (n+j)).d+1=_;omega, ?_⟩
   ·have:=hg.1
    rw[e]at this
    cases this
   ·have:=hk (n+j) h1
    show jD k (n+j)+k (n+j)=_
    omega
 obtain⟨h1,h2,h3,h4⟩:=h j
 have:=hT (n+j) 0 (by rw[hk _ h1];exact Nat.one_pos)
 rw[Nat.add_zero,Nat.add_zero,h4,h2,h3]at this
 exact this
end
end
section
variable{PL:Program}{G:Nat}{Stop:Goroutine->World->Prop}
structure iW (G:Nat) (D0:Nat->Prop) (g:Goroutine) (w:World) (g':Goroutine) (w':World):Prop where
 rel:∃D ρ,ci G 0 D ρ w w'/\eL G D ρ [] g g'/\∀b,D0 b->D b/\ρ b=b
 tab:ib w w'
 calm:ax w
theorem iW.step(E:j4 PL PL G)(hB:∀f (fn:Func) c,PL.funcs[f]?=some fn->fn.body=some c->eM (f==aV) c=true){D0:Nat->Prop}{g g1 g':Goroutine}{w w' w1:World}(h:iW G D0 g w g' w')
 {es:Array Event} (hs:stepG PL true g w= .go g1 w1 es) (hw:fa g1) (ht:∀i,w.drawn+i<w1.drawn->w'.tape (w'.drawn+i)=w.tape (w.drawn+i)):
 ∃g1' w1' es',stepG PL true g' w'= .go g1' w1' es'/\fa g1'/\iW G D0 g1 w1 g1' w1'/\w.drawn<=w1.drawn/\w1'.drawn+w.drawn=w1.drawn+w'.drawn/\w1'.tape=w'.tape:=by
 obtain⟨⟨D,ρ,h1,h2,h3⟩,h4,h5⟩:=h
 have hW:ci G w1.drawn D ρ w w':=h1.re rfl rfl ht
 obtain⟨D',ρ',g1',w1',es',q1,q2,q3,_⟩:=mD (mM:=true) E hW h5 h4 h2 hs (Nat.le_refl _) hw λf args w2 he=>by obtain⟨fn,hf,hb⟩:=kH (E.fn ρ) he;exact j4.enters hB f fn hf hb
 exact⟨g1',w1',es',q1,q2.well q3.rel hw,⟨⟨D',ρ',q3.rel.re rfl rfl λi hi=>by omega,q2,λb hb=>⟨(q3.ext b (h3 b hb).1).1,(q3.ext b (h3 b hb).1).2.trans (h3 b hb).2⟩⟩,h4.ran E.tab hW q3,q3.quiet h5⟩,q3.drawn,q3.drew,q3.tape⟩
theorem iW.re{D0:Nat->Prop}{g g':Goroutine}{w w':World}(h:iW G D0 g w g' w'){v v':World}(h1:v.heap=w.heap)(h2:v'.heap=w'.heap):iW G D0 g v g' v':=by
 obtain⟨⟨D,ρ,q1,q2,q3⟩,⟨c,e,f,q4,q5,q6⟩,q7⟩:=h
 exact⟨⟨D,ρ,q1.re h1 h2 λi hi=>by omega,q2,q3⟩,⟨c,e,f,q4,by rw[h1];exact q5,by rw[h2];exact q6⟩,λb o ho=>q7 b o (by rw[←h1];exact ho)⟩
theorem nh(E:j4 PL PL G)(hB:∀f (fn:Func) c,PL.funcs[f]?=some fn->fn.body=some c->eM (f==aV) c=true){D0:Nat->Prop}{I:Machine->Prop}(hI:xx I){g0:Goroutine}{w0:World}(hp:iW G D0 g0 w0 g0 w0)(hw0:fa g0)
 (hruns:∀τ,∃fr w',fr.mode= .returning/\StepsIn I PL (solo g0 (jJ w0 τ 0)) (lone fr [] w')/\Stop {frame:=fr,callers:=[],status:= .running,dying:=none} w')
 (hS:∀g w g' w',iW G D0 g w g' w'->Stop g w->Stop g' w'):fc PL Stop g0 w0:=by
 refine Classical.byContradiction λhn=> ?_
 obtain⟨X0,hx1,hx2,hx3,hx4⟩:=rq hn
 obtain⟨nx,hgood,hdead⟩:=wx PL Stop
 obtain⟨k,hk⟩:=yC PL nx X0
 obtain⟨T,hT⟩:=HY k λn i=>(br nx X0 n).τ ((br nx X0 n).d+i)
 obtain⟨fr,wE,hm,hrun,hstop⟩:=hruns T
 have key:∀m mE,StepsIn I PL m mE->mE=lone fr [] wE->∀n gT wT,m=solo gT wT->wT.tape=T->wT.drawn=jD k n->(br nx X0 n).bad PL Stop->(br nx X0 n).dead=false->fa gT->
  iW G D0 (br nx X0 n).g (br nx X0 n).w gT wT->iW G D0 gT wT (br nx X0 n).g (br nx X0 n).w->False:=by
  intro m mE h
  induction h with
  |refl m=>
   intro e n gT wT e2 _ _ hb _ _ _ hp2
   rw[e2,og]at e
   obtain⟨e3,e4⟩:=fl e
   rw[e3,e4]at hp2
   exact hb.1 (hS _ _ _ _ hp2 hstop)
  | @head m m1 m2 h0 hs hrest ih=>
    intro e n gT wT e2 ht hd hb hnd hwT hp1 hp2
    subst e e2
    obtain⟨⟨D2,ρ2,w21,g21,_⟩,tb2,cl2⟩:=hp2
    obtain⟨g1,w1,es,hst,hm1,hw1,hP1⟩:=Bd E hI hm hwT g21.ok g21.oks cl2 hs hrest
    have hp2:iW G D0 gT wT (br nx X0 n).g (br nx X0 n).w:=⟨⟨D2,ρ2,w21,g21,‹_›⟩,tb2,cl2⟩
    by_cases hg:(br nx X0 n).good PL
    ·obtain⟨⟨es',hst'⟩,hw',hnd',hb'⟩:=hgood _ hb hg
     have hkn:k n=(br nx X0 (n+1)).w.drawn-(br nx X0 n).d:=(hk n).1 hg
     have hp1':iW G D0 (br nx X0 n).g (jJ (br nx X0 n).w (br nx X0 n).τ (br nx X0 n).d) gT wT:=hp1.re rfl rfl
     obtain⟨gT1,wT1,es1,q1,q2,q3,q4,q5,q6⟩:=hp1'.step E hB hst' hw' λi hi=>by
      have hi':(br nx X0 n).d+i<(nx (br nx X0 n)).w.drawn:=hi
      have hc:br nx X0 (n+1)=nx (br nx X0 n):=rfl
      rw[ht,hd]
      exact hT n i (by rw[hkn,hc];omega)
     rw[hst]at q1
     cases q1
     have q4':(br nx X0 n).d<=(br nx X0 (n+1)).w.drawn:=q4
     have q5':w1.drawn+(br nx X0 n).d=(br nx X0 (n+1)).w.drawn+wT.drawn:=q5
     have hspot:w1.drawn=jD k (n+1):=by
      show w1.drawn=jD k n+k n
      omega
     have hp2':iW G D0 gT wT (br nx X0 n).g (jJ (br nx X0 n).w (br nx X0 n).τ (br nx X0 n).d):=hp2.re rfl rfl
     obtain⟨gC1,wC1,es2,r1,r2,r3,r4,r5,r6⟩:=hp2'.step E hB hst hw1 λi hi=>by
      show(br nx X0 n).τ ((br nx X0 n).d+i)=wT.tape (wT.drawn+i)
      rw[ht,hd]
      refine(hT n i ?_).symm
      have:jD k (n+1)=jD k n+k n:=rfl
      omega
     have r1':(br nx X0 n).step PL= .go gC1 wC1 es2:=r1
     rw[hst']at r1'
     cases r1'
     exact ih rfl (n+1) g1 w1 hm1 (q6.trans ht) hspot hb' hnd' hw1 q3 r3
    ·have hp2':iW G D0 gT wT (br nx X0 n).g (jJ (br nx X0 n).w (br nx X0 n).τ (br nx X0 n).d):=hp2.re rfl rfl
     obtain⟨gC1,wC1,es2,r1,r2,_⟩:=hp2'.step E hB hst hw1 λi hi=>by
      show(br nx X0 n).τ ((br nx X0 n).d+i)=wT.tape (wT.drawn+i)
      rw[ht,hd]
      exact(wm hdead (λn=>(hk n).2) hT hg i).symm
     exact hg ⟨hnd,gC1,wC1,es2,r1,r2⟩
 have hp0:iW G D0 X0.g X0.w g0 (jJ w0 T 0):=by rw[hx1,hx2];exact hp.re rfl rfl
 have hp0':iW G D0 g0 (jJ w0 T 0) X0.g X0.w:=by rw[hx1,hx2];exact hp.re rfl rfl
 exact key _ _ hrun rfl 0 g0 (jJ w0 T 0) rfl rfl rfl hx4 hx3 hw0 hp0 hp0'
end
end Go.Proofs.YtkmoglhgkcnalaaDoor
namespace Go.Proofs.YtkmoglhgkcnalaaDoor
open Go
def ed(P:Program)(fs:Array Func):Program:={P with funcs:=fs,inits:=#[]}
section
variable(P:Program)(fs:Array Func)
theorem kl:(ed P fs).types=P.types:=by unfold ed;rfl
theorem vx:(ed P fs).cutTypes=P.cutTypes:=by unfold ed;rfl
theorem pa:∀(f:Nat) (t:TypeId),Made.infoAt (ed P fs).toTables f t=Made.infoAt P.toTables f t
 |0,_=>rfl
 |f+1,t=>by
  have ih:Made.infoAt (ed P fs).toTables f=Made.infoAt P.toTables f:=funext (pa f)
  simp only[Made.infoAt,kl,ih]
theorem dR(t:TypeId):(ed P fs).info? t=P.info? t:=by
 simp only[Tables.info?,kl,pa]
theorem ce(t:TypeId):(ed P fs).underlying t=P.underlying t:=by
 simp only[Program.underlying,dR]
theorem kh(t:TypeId):(ed P fs).underlyingId t=P.underlyingId t:=by
 simp only[Program.underlyingId,dR]
theorem dB(t:TypeId):(ed P fs).cellsOf t=P.cellsOf t:=by
 simp only[Program.cellsOf,dR]
theorem ei(t:TypeId):(ed P fs).bytesOf t=P.bytesOf t:=by
 simp only[Program.bytesOf,dR]
theorem cJ:(ed P fs).depth=P.depth:=by
 simp only[Program.depth,kl]
theorem o9:∀(n:Nat) (t u:TypeId),(ed P fs).alikeButTags n t u=P.alikeButTags n t u
 |0,_,_=>rfl
 |n+1,t,u=>by
  simp only[Program.alikeButTags,dR,o9 n]
theorem km(t:TypeId):(ed P fs).stoodInHeld t=P.stoodInHeld t:=by
 simp only[Program.stoodInHeld,Program.stoodInAs,ce,kh,dR,vx,cJ,o9]
theorem vw(t:TypeId):(ed P fs).packed t=P.packed t:=by
 simp only[Program.packed,Program.packedAs,Program.ownRow,ce,kh,dR,vx,cJ,o9]
theorem j7:∀(d:Nat) (t:TypeId) (o:Nat),byteOfCell (ed P fs) d t o=byteOfCell P d t o
 |0,_,_=>rfl
 |d+1,t,o=>by
  simp only[byteOfCell,ce,dB,ei,j7 d]
theorem np:∀(d:Nat) (t:TypeId) (o:Nat),cellHolding (ed P fs) d t o=cellHolding P d t o
 |0,_,_=>rfl
 |d+1,t,o=>by
  simp only[cellHolding,ce,dB,ei,np d]
theorem qG:∀(d:Nat) (t:TypeId) (o:Nat),plainCell (ed P fs) d t o=plainCell P d t o
 |0,_,_=>rfl
 |d+1,t,o=>by
  simp only[plainCell,ce,dB,qG d]
theorem oY:∀(d:Nat) (t:TypeId) (o:Nat),cellOfByte (ed P fs) d t o=cellOfByte P d t o
 |0,_,_=>rfl
 |d+1,t,o=>by
  simp only[cellOfByte,ce,dB,ei,oY d]
theorem qF:∀(d:Nat) (t:TypeId),tight (ed P fs) d t=tight P d t
 |0,_=>rfl
 |d+1,t=>by
  simp only[tight,ce,ei,qF d]
theorem sQ:∀(d:Nat) (t:TypeId),(ed P fs).holdsStoodIn d t=P.holdsStoodIn d t
 |0,_=>rfl
 |d+1,t=>by
  simp only[Program.holdsStoodIn,ce,km,sQ d]
theorem jF:∀(d:Nat) (t:TypeId),(ed P fs).holdsPacked d t=P.holdsPacked d t
 |0,_=>rfl
 |d+1,t=>by
  simp only[Program.holdsPacked,ce,vw,jF d]
theorem qH:∀(d:Nat) (t:TypeId),(ed P fs).eqGuardType d t=P.eqGuardType d t
 |0,_=>rfl
 |d+1,t=>by
  simp only[Program.eqGuardType,ce,qH d]
theorem oZ:∀(d:Nat) (t u:TypeId),sameLayout (ed P fs) d t u=sameLayout P d t u
 |0,_,_=>rfl
 |d+1,t,u=>by
  simp only[sameLayout,ce,kh,km,oZ d]
theorem vv(fits:TypeId->Bool):∀(d:Nat) (e:TypeId) (c o n:Nat),rowAt (ed P fs) fits d e c o n=rowAt P fits d e c o n
 |0,_,_,_,_=>rfl
 |d+1,e,c,o,n=>by
  simp only[rowAt,ce,dB,km,vv fits d]
theorem sP:∀(d:Nat) (e:TypeId) (n o:Nat) (u:TypeId) (m:Nat),liesAt (ed P fs) d e n o u m=liesAt P d e n o u m
 |0,_,_,_,_,_=>rfl
 |d+1,e,n,o,u,m=>by
  simp only[liesAt,ce,vv,oZ,cJ,sP d]
theorem ui(d:Nat)(e:TypeId)(n o:Nat)(b:Int):cellAtBytes (ed P fs) d e n o b=cellAtBytes P d e n o b:=by
 simp only[cellAtBytes,dB,ei,j7,oY]
theorem Az(hz:∀t i z,P.info? t=some i->i.zero=some z->aI z=true):aH (ed P fs) P:=
 ⟨dR P fs,ce P fs,λt i z h=>hz t i z (by rw[←dR P fs];exact h),by unfold ed;rfl,dB P fs,ei P fs,λt o=>by rw[cJ,j7],λe n o u m=>by rw[cJ,sP],λe n o b=>by rw[cJ,ui],λe=>by rw[cJ,sQ],λt=>by rw[cJ,qH],km P fs,by rw[kl],λt=>by rw[cJ,jF]⟩
theorem lm(c:Array Value)(e:TypeId):∀(f x stop:Nat),seenCells (ed P fs) c e f x stop=seenCells P c e f x stop
 |0,_,_=>rfl
 |f+1,x,stop=>by
  simp only[seenCells,dB,ei,cJ,np,lm c e f]
theorem sO(w:World)(a:Addr)(u:TypeId)(k:Addr)(b:Bool):w.seen (ed P fs) a u k b=w.seen P a u k b:=by
 simp only[World.seen,qG,j7,dB,ei,lm,cJ]
theorem AA(w:World)(a:Addr)(b:Bool):w.farLoad P a b=w.farLoad (ed P fs) a b:=by
 simp only[World.farLoad,World.viewLoad,sO]
theorem xM(w:World)(a:Addr)(v:Value)(b:Bool):w.farStore P a v b=w.farStore (ed P fs) a v b:=by
 simp only[World.farStore,World.viewStore,sO,qF,cJ]
end
def mo(f:Func):Func:={f with name:= "none",origin:= "none",body:=none}
theorem zx:(Extern.allGenericRows.lookup "none").isNone=true∧(Extern.allTypedRows.lookup "none").isNone=true∧(Extern.allRows.lookup "none").isNone=true∧(Extern.allNextRows.lookup "none").isNone=true:=by
 refine⟨?_, ?_, ?_, ?_⟩<;>kernel_rfl
theorem BJ(f:Func):Extern.find (mo f)=none:=by
 obtain⟨h1,h2,h3,_⟩:=zx
 rw[Option.isNone_iff_eq_none]at h1 h2 h3
 simp only[Extern.find,mo,h1,h2,h3]
 rfl
theorem BH(f:Func):Extern.findNext (mo f)=none:=by
 obtain⟨_,_,_,h4⟩:=zx
 rw[Option.isNone_iff_eq_none]at h4
 simp only[Extern.findNext,mo,h4]
 rfl
theorem BI(f:Func):((mo f).name.endsWith ".init" && !(mo f).name.startsWith "(" && !(mo f).name.startsWith "gosem.")=false:=by
 show("none".endsWith ".init" && ! "none".startsWith "(" && ! "none".startsWith "gosem.")=false
 kernel_rfl
def zk(info:TypeId->Option TypeInfo):Prop:=∀t i z,info t=some i->i.zero=some z->aI z=true
theorem sZ:∀{l:List Value},(∀v∈l,aI v=true)->iG l=true
 |[],_=>rfl
 |x::r,h=>by
  simp only[iG,Bool.and_eq_true]
  exact⟨h x List.mem_cons_self,sZ λv hv=>h v (List.mem_cons_of_mem _ hv)⟩
theorem sY{cs:Array Value}(h:∀x∈cs,aI x=true):aI (.agg cs)=true:=by
 obtain⟨l⟩:=cs
 simp only[aI]
 exact sZ λv hv=>h v (by simpa using hv)
theorem pj{v:Value}(h:aI v=true):∀x∈v.cells,aI x=true:=by
 intro x hx
 cases v with
 |agg cs=>
  simp only[Value.cells]at hx
  obtain⟨l⟩:=cs
  simp only[aI]at h
  exact fW h x (by simpa using hx)
 |_=>simp only[Value.cells,Array.mem_singleton]at hx;rw[hx];exact h
theorem tr{α σ:Type}(p:σ->Prop)(f:α->σ->Option (ForInStep σ))(hf:∀a s r,p s->f a s=some r->p r.value):∀(l:List α) (s r:σ),p s->forIn l s f=some r->p r
 |[],s,r,hs,e=>by
  simp only[List.forIn_nil]at e
  cases e
  exact hs
 |a::l,s,r,hs,e=>by
  simp only[List.forIn_cons]at e
  cases h:f a s with
  |none=>rw[h]at e;cases e
  |some q=>
   rw[h]at e
   have:=hf a s q hs h
   cases q with
   |done b=>cases e;exact this
   |yield b=>exact tr p f hf l b r this e
theorem A8{info:TypeId->Option TypeInfo}(hi:zk info){t:TypeId}{i:TypeInfo}(he:info t=some i){z:Option (Array Value)}(hz:∀zs,z=some zs->∀x∈zs,aI x=true){n m:Nat}{zs:Array Value}
 (h:(if n>m then none else(do let a←z;let b←i.zero;pure (a++b.cells):Option (Array Value)))=some zs):∀x∈zs,aI x=true:=by
 split at h
 ·cases h
 ·cases z with
  |none=>cases h
  |some a=>
   cases hb:i.zero with
   |none=>rw[hb]at h;cases h
   |some b=>
    rw[hb]at h
    cases h
    intro x hx
    rcases Array.mem_append.1 hx with hx|hx
    ·exact hz a rfl x hx
    ·exact pj (hi t i b he hb) x hx
theorem vc{info:TypeId->Option TypeInfo}(hi:zk info){fs:Array Field}{i:TypeInfo}{z:Value}(h:Made.reckonStruct info fs=some i)(hz:i.zero=some z):aI z=true:=by
 unfold Made.reckonStruct at h
 rw[Option.bind_eq_bind,Option.bind_eq_some_iff]at h
 obtain⟨r,hr,h⟩:=h
 rw[←Array.forIn_toList]at hr
 have key:=tr (λs:Array Field×Nat×Nat×Nat×Nat×Bool×Bool×Option (Array Value)×String=>∀zs,s.2.2.2.2.2.2.2.1=some zs->∀x∈zs,aI x=true) _ (λf s r hs e=> ?_) fs.toList _ r (λzs hzs x hx=> ?_) hr
 ·simp only[Option.pure_def]at h
  split at h<;>cases h<;>(simp only[Option.map_eq_some_iff]at hz;obtain⟨zs,h1,rfl⟩:=hz;exact sY (key zs h1))
 ·cases he:info f.type with
  |none=>rw[he]at e;cases e
  |some j=>
   rw[he]at e
   simp only[Option.bind_eq_bind,Option.bind_some]at e
   intro zs hzs
   refine A8 hi he hs (n:=s.2.1+j.size) (m:=Made.mostCells) ?_
   rw[←hzs]
   revert e
   (repeat' split)<;>intro e<;>first
     |(cases e;done)
     |(simp only[Option.bind_eq_some_iff,Option.pure_def,Option.some.injEq,exists_eq_left']at e;obtain rfl:=e;rfl)
     |(simp only[Option.bind_eq_some_iff]at e;obtain⟨_,_,e⟩:=e;revert e;(repeat' split)<;>intro e<;>cases e<;>rfl)
 ·cases hzs
  simp at hx
theorem A9{info:TypeId->Option TypeInfo}(hi:zk info){d:TypeDesc}{i:TypeInfo}{z:Value}(h:Made.reckon info d=some i)(hz:i.zero=some z):aI z=true:=by
 unfold Made.reckon at h
 have word:∀{x:Option String} {f:String->TypeInfo} {v:Value},(∀s,(f s).zero=some v)->aI v=true->(x.bind λs=>some (f s))=some i->aI z=true:=by
  intro x f v hf hv e
  cases x with
  |none=>cases e
  |some s=>
   cases e
   rw[hf s]at hz
   cases hz
   exact hv
 cases d with
 |struct fs=>exact vc hi h hz
 |pointer e=>
  simp only[Option.bind_eq_bind,Option.pure_def]at h
  rw[Option.bind_eq_some_iff]at h
  obtain⟨j,hj,h⟩:=h
  split at h
  ·cases h
  ·split at h
   ·cases h
   ·exact word (v:= .pointer none) (λ_=>rfl) rfl h
  ·exact word (v:= .pointer none) (λ_=>rfl) rfl h
 |slice e=>
  simp only[Option.bind_eq_bind,Option.pure_def]at h
  rw[Option.bind_eq_some_iff]at h
  obtain⟨j,hj,h⟩:=h
  exact word (v:= .slice none 0 0) (λ_=>rfl) rfl h
 |map k e=>
  simp only[Option.bind_eq_bind,Option.pure_def]at h
  rw[Option.bind_eq_some_iff]at h
  obtain⟨j,hj,h⟩:=h
  rw[Option.bind_eq_some_iff]at h
  obtain⟨j2,hj2,h⟩:=h
  rw[Option.bind_eq_some_iff]at h
  obtain⟨j3,hj3,h⟩:=h
  exact word (v:= .map none) (λ_=>rfl) rfl h
 |chan dir e=>
  simp only[Option.bind_eq_bind,Option.pure_def]at h
  rw[Option.bind_eq_some_iff]at h
  obtain⟨j,hj,h⟩:=h
  exact word (v:= .chan none) (λ_=>rfl) rfl h
 |func ps rs v=>
  simp only[Option.bind_eq_bind,Option.pure_def]at h
  exact word (v:= .nilFunc) (λ_=>rfl) rfl h
 |array n e=>
  simp only[Option.bind_eq_bind,Option.pure_def]at h
  rw[Option.bind_eq_some_iff]at h
  obtain⟨j,hj,h⟩:=h
  rw[Option.bind_eq_some_iff]at h
  obtain⟨s,hs,h⟩:=h
  cases h
  simp only at hz
  split at hz
  ·cases hz
  ·split at hz
   ·cases hz
    rfl
   ·rw[Option.map_eq_some_iff]at hz
    obtain⟨y,hy,rfl⟩:=hz
    refine sY λx hx=> ?_
    obtain⟨a,ha,hxa⟩:=Array.mem_flatten.1 hx
    rw[Array.mem_replicate]at ha
    rw[ha.2]at hxa
    exact pj (hi e j y hj hy) x hxa
 |_=>cases h
theorem oP(P:Program)(hP:∀i∈P.types,∀z,i.zero=some z->aI z=true):∀f,zk (Made.infoAt P.toTables f)
 |0=>λ_ _ _ h=>by cases h
 |f+1=>λt i z h hz=>by
  unfold Made.infoAt at h
  split at h
  ·exact hP i (Array.mem_of_getElem? h) z hz
  ·rw[Option.bind_eq_some_iff]at h
   obtain⟨d,_,h⟩:=h
   exact A9 (oP P hP f) h hz
theorem Aa(P:Program)(hP:∀i∈P.types,∀z,i.zero=some z->aI z=true)(t:TypeId)(i:TypeInfo)(z:Value)(h:P.info? t=some i)(hz:i.zero=some z):aI z=true:=by
 unfold Tables.info? at h
 split at h
 ·exact hP i (Array.mem_of_getElem? h) z hz
 ·exact oP P hP _ t i z h hz
section
variable{ρ:Nat->Nat}{PL PM:Program}
theorem xg(args:Array Value):ag ρ PL PM (aa ρ) (Extern.AbiNoEscape.same args) (Extern.AbiNoEscape.same (args.map (aa ρ))):=by
 obtain⟨l⟩:=args
 cases l with
 |nil=>exact .dead trivial
 |cons x l=>
  cases l with
  |nil=>
   rw[show Array.map (aa ρ) ⟨[x]⟩=#[aa ρ x]from by simp]
   exact .pure x
  |cons y l=>exact .dead trivial
theorem nR:∀(n t:Nat) (acc:Array Value),(∀v∈acc,aI v=true)->∀v∈Extern.BytealgMakeNoZero.digits n t acc,aI v=true
 |0,_,_,h=>h
 |n+1,t,acc,h=>nR n _ _ λv hv=>by
  rcases Array.mem_push.1 hv with hv|hv
  ·exact h v hv
  ·rw[hv];rfl
theorem su(hP:aH PL PM)(ps rs:Array TypeId)(args:Array Value):ag ρ PL PM (aa ρ) (Extern.BytealgMakeNoZero.makeNoZero ps rs args) (Extern.BytealgMakeNoZero.makeNoZero ps rs (args.map (aa ρ))):=by
 obtain⟨l⟩:=args
 cases l with
 |nil=>exact .dead trivial
 |cons x l=>
  cases l with
  |cons y l=>cases x<;>exact .dead trivial
  |nil=>
   cases x with
   |int k n=>
    cases k with
    |i64=>
     rw[show Array.map (aa ρ) ⟨[.int .i64 n]⟩=#[.int .i64 n]from by simp[aa]]
     unfold Extern.BytealgMakeNoZero.makeNoZero
     cases rs[0]? with
     |none=>exact .dead trivial
     |some t=>
      dsimp only
      refine(ai hP t).bind λd=> ?_
      cases d with
      |slice e=>
       dsimp only[id]
       have rest:ag ρ PL PM (aa ρ) (do let cap←choose (.appendCap n.toNat 0 e);askRoom cap;let bytes←choose (.extern "internal/bytealg.MakeNoZero.bytes" 0);let a←newRow e (Extern.BytealgMakeNoZero.digits cap bytes #[]);pure (.slice (some a) n.toNat cap)) (do let cap←choose (.appendCap n.toNat 0 e);askRoom cap;let bytes←choose (.extern "internal/bytealg.MakeNoZero.bytes" 0);let a←newRow e (Extern.BytealgMakeNoZero.digits cap bytes #[]);pure (.slice (some a) n.toNat cap)):=by
            refine ag.bind (f:=id) (.choose λn=> .pure n) λcap=> ?_
            refine(kT cap).bind λ_=> ?_
            refine ag.bind (f:=id) (.choose λn=> .pure n) λb=> ?_
            have hd:(Extern.BytealgMakeNoZero.digits cap b #[]).map (aa ρ)=Extern.BytealgMakeNoZero.digits cap b #[]:=iJ λv hv=>cE ρ v (nR cap b #[] (by simp) v hv)
            have hn:=dZ (ρ:=ρ) (PL:=PL) (PM:=PM) e (Extern.BytealgMakeNoZero.digits cap b #[])
            rw[hd]at hn
            exact hn.bind λa=>a9 _ (by simp[aa])
       split
       ·exact(fP (f:=id) hP rfl).bind λ_=>rest
       ·exact rest
      |_=>exact .dead trivial
    |_=>exact .dead trivial
   |_=>exact .dead trivial
end
def px(K:FuncId)(sk:Func)(ext:FuncId->Bool)(i:Nat)(f:Func):Func:=
 if i=K then sk else if ext i then f else match f.body with
  |some c=>if eM (i==aV) c then f else mo f
  |none=>mo f
def eP(P:Program)(K:FuncId)(sk:Func)(ext:FuncId->Bool):Program:=ed P (P.funcs.mapIdx (px K sk ext))
structure rJ (P:Program) (K:FuncId) (sk:Func) (ext:FuncId->Bool) (G:Nat):Prop where
 zero:∀i∈P.types,∀z,i.zero=some z->aI z=true
 glob:P.globals.size=G
 tab:dN<G
 names:∀f∈P.funcs,f.name≠ "runtime.NumGoroutine"
 ty:A0 P
 ex:aV<P.funcs.size
 exr:∀fn,P.funcs[aV]?=some fn->fn.results.all (FP true)=true
 kex:K≠aV
 kfn:∃fn,P.funcs[K]?=some fn/\fn.body.isSome=true/\sk.results=fn.results
 kbody:∃c,sk.body=some c/\eM false c=true
 kname:sk.name≠ "runtime.NumGoroutine"
 ext:∀i fn,ext i=true->P.funcs[i]?=some fn->fn.body=none/\Extern.findNext fn=none/\∃e,Extern.find fn=some e/\∀(ρ:Nat->Nat) (PL PM:Program),aH PL PM->∀args,ag ρ PL PM (aa ρ) (e args) (e (args.map (aa ρ)))
section
variable{P:Program}{K:FuncId}{sk:Func}{ext:FuncId->Bool}{G:Nat}
theorem rh(f:Nat):(eP P K sk ext).funcs[f]?=(P.funcs[f]?).map (px K sk ext f):=by
 unfold eP ed
 simp only[Array.getElem?_mapIdx]
theorem AP(r:ResultVar):FP false r=true:=by cases r<;>rfl
theorem jP{f:FuncId}{fn:Func}(hf:(eP P K sk ext).funcs[f]?=some fn):∃fn',P.funcs[f]?=some fn'/\
 ((f=K/\fn=sk)\/(f≠K/\ext f=true/\fn=fn')\/(f≠K/\fn=fn'/\∃c,fn.body=some c/\eM (f==aV) c=true)\/(f≠K/\fn=mo fn')):=by
 rw[rh]at hf
 cases hp:P.funcs[f]? with
 |none=>rw[hp]at hf;cases hf
 |some g=>
  rw[hp]at hf
  simp only[Option.map_some,Option.some.injEq]at hf
  refine⟨g,rfl, ?_⟩
  unfold px at hf
  split at hf
  ·rename_i e;exact .inl ⟨e,hf.symm⟩
  ·rename_i hk
   split at hf
   ·rename_i e;exact .inr (.inl ⟨hk,e,hf.symm⟩)
   ·cases hb:g.body with
    |none=>rw[hb]at hf;exact .inr (.inr (.inr ⟨hk,hf.symm⟩))
    |some c=>
     rw[hb]at hf
     simp only at hf
     split at hf
     ·rename_i hc;subst hf;exact .inr (.inr (.inl ⟨hk,rfl,c,hb,hc⟩))
     ·exact .inr (.inr (.inr ⟨hk,hf.symm⟩))
theorem m6(h:rJ P K sk ext G):aH (eP P K sk ext) P:=Az P _ λt i z h1 h2=>Aa P h.zero t i z h1 h2
theorem sR{PL PM:Program}(h:aH PL PM):aH PL PL:=⟨λ_=>rfl,λ_=>rfl,h.zero,rfl,λ_=>rfl,λ_=>rfl,λ_ _=>rfl,λ_ _ _ _ _=>rfl,λ_ _ _ _=>rfl,λ_=>rfl,λ_=>rfl,λ_=>rfl,rfl,λ_=>rfl⟩
theorem zA(h:rJ P K sk ext G){PM:Program}(hS:aH (eP P K sk ext) PM)(hM:∀(f:FuncId) (fn:Func),(eP P K sk ext).funcs[f]?=some fn->∃fn':Func,PM.funcs[f]?=some fn'/\(fn'=fn\/P.funcs[f]?=some fn'))(ρ:Nat->Nat)(g:FuncId):Ln ρ (eP P K sk ext) PM g:=by
 intro fn hf
 obtain⟨fn',hp,hk⟩:=jP hf
 obtain⟨fm,hm,hmm⟩:=hM g fn hf
 have hn':fn'.name≠ "runtime.NumGoroutine" :=h.names fn' (Array.mem_of_getElem? hp)
 rcases hk with⟨rfl,rfl⟩|⟨hk,he,rfl⟩|⟨hk,rfl,c,hc,_⟩|⟨hk,rfl⟩
 ·obtain⟨c,hc,_⟩:=h.kbody
  refine⟨h.kname, .inl ⟨by rw[hc];rfl,fm,hm, ?_⟩⟩
  rcases hmm with rfl|h2
  ·exact⟨by rw[hc];rfl,h.kname⟩
  ·rw[hp]at h2
   cases h2
   obtain⟨f2,h3,h4,_⟩:=h.kfn
   rw[hp]at h3
   cases h3
   exact⟨h4,hn'⟩
 ·obtain⟨h1,h2,e,h3,h4⟩:=h.ext g fn he hp
  refine⟨hn', .inr (.inr ⟨h1,h2, ?_,e,h3,h4 ρ _ _ hS⟩)⟩
  rcases hmm with rfl|h5
  ·exact hm
  ·rw[hp]at h5
   cases h5
   exact hm
 ·refine⟨hn', .inl ⟨by rw[hc];rfl,fm,hm, ?_⟩⟩
  have:fm=fn:=by
   rcases hmm with h5|h5
   ·exact h5
   ·rw[hp]at h5
    cases h5
    rfl
  subst this
  exact⟨by rw[hc];rfl,hn'⟩
 ·exact⟨by show "none" ≠ "runtime.NumGoroutine";decide, .inr (.inl ⟨rfl,BH _,BJ _,BI _⟩)⟩
theorem wi(h:rJ P K sk ext G){f:FuncId}{fn:Func}(hf:(eP P K sk ext).funcs[f]?=some fn):∃fn',P.funcs[f]?=some fn'/\fn'.results=fn.results/\fn.results.all (FP (f==aV))=true:=by
 obtain⟨fn',hp,hk⟩:=jP hf
 have hres:fn'.results.all (FP (f==aV))=true:=by
  by_cases hx:f=aV
  ·subst hx
   simpa using h.exr fn' hp
  ·have hz:(f==aV)=false:=by simpa using hx
   rw[hz,Array.all_eq_true']
   exact λr _=>AP r
 refine⟨fn',hp, ?_⟩
 rcases hk with⟨rfl,rfl⟩|⟨_,_,rfl⟩|⟨_,rfl,_⟩|⟨_,rfl⟩
 ·obtain⟨f2,h3,_,h5⟩:=h.kfn
  rw[hp]at h3
  cases h3
  exact⟨h5.symm,by rw[h5];exact hres⟩
 ·exact⟨rfl,hres⟩
 ·exact⟨rfl,hres⟩
 ·exact⟨rfl,hres⟩
theorem zz(h:rJ P K sk ext G):A0 (eP P K sk ext):=by
 obtain⟨d,h1,h2⟩:=h.ty
 exact⟨d,by unfold eP;rw[ce];exact h1,h2⟩
theorem tf:(eP P K sk ext).funcs.size=P.funcs.size:=by
 unfold eP ed
 simp
theorem wA(h:rJ P K sk ext G):j4 (eP P K sk ext) P G where
 same:=m6 h
 gl:=h.glob
 tab:=h.tab
 gm:=h.glob
 load w a b:=AA P _ w a b
 store w a v b:=xM P _ w a v b
 fn ρ g:=zA h (m6 h) (λf fn hf=>by obtain⟨fn',hp,_⟩:=jP hf;exact⟨fn',hp, .inr hp⟩) ρ g
 ty:=zz h
 mix:=rfl
 ex:=by rw[tf];exact h.ex
 res f fn hf:=wi h hf
 none f hf:=by rw[rh]at hf;simpa using hf
 inits:=rfl
theorem wy(h:rJ P K sk ext G):j4 (eP P K sk ext) (eP P K sk ext) G where
 same:=sR (m6 h)
 gl:=h.glob
 tab:=h.tab
 gm:=h.glob
 load _ _ _:=rfl
 store _ _ _ _:=rfl
 fn ρ g:=zA h (sR (m6 h)) (λf fn hf=>⟨fn,hf, .inl rfl⟩) ρ g
 ty:=zz h
 mix:=rfl
 ex:=by rw[tf];exact h.ex
 res f fn hf:=by obtain⟨_,_,_,h3⟩:=wi h hf;exact⟨fn,hf,rfl,h3⟩
 none f hf:=hf
 inits:=rfl
theorem pw(h:rJ P K sk ext G)(f:FuncId)(fn:Func)(c:Code)(hf:(eP P K sk ext).funcs[f]?=some fn)(hb:fn.body=some c):eM (f==aV) c=true:=by
 obtain⟨fn',hp,hk⟩:=jP hf
 rcases hk with⟨rfl,rfl⟩|⟨_,he,rfl⟩|⟨_,rfl,c',hc,hok⟩|⟨_,rfl⟩
 ·obtain⟨c',hc,hok⟩:=h.kbody
  rw[hb]at hc
  cases hc
  have:(f==aV)=false:=by simpa using h.kex
  rw[this]
  exact hok
 ·obtain⟨h1,_⟩:=h.ext f fn he hp
  rw[h1]at hb
  cases hb
 ·rw[hb]at hc
  cases hc
  exact hok
 ·cases hb
theorem pv(h:rJ P K sk ext G)(f:FuncId)(fn:Func)(hf:(eP P K sk ext).funcs[f]?=some fn)(hb:fn.body.isSome=true)(hK:f≠K):jf (eP P K sk ext) P f:=by
 obtain⟨fn',hp,hk⟩:=jP hf
 rcases hk with⟨rfl,_⟩|⟨_,he,rfl⟩|⟨_,rfl,c',hc,hok⟩|⟨_,rfl⟩
 ·exact absurd rfl hK
 ·obtain⟨h1,_⟩:=h.ext f fn he hp
  rw[h1]at hb
  cases hb
 ·exact⟨fn,fn,hf,hp,rfl,rfl,c',hc,hok⟩
 ·cases hb
end
end Go.Proofs.YtkmoglhgkcnalaaDoor
namespace Go.Proofs.YtkmoglhgkcnalaaDoor
open Go.RowKit
theorem pV(op:BinOp)(x y:Int):0<=bits op .u64 x y:=by
 unfold bits;simp only[IntKind.wrap_u64];omega
def qM(x k:Int):Int:=
 bits .or .u32 (IntKind.u32.wrap (x*2^min (bits .and .u64 (IntKind.u64.wrap k) 31).toNat 32)) (x/2^min (IntKind.u64.wrap (32- bits .and .u64 (IntKind.u64.wrap k) 31)).toNat 32)
def cL(x a b c:Int):Int:=bits .xor .u32 (bits .xor .u32 (qM x (-a)) (qM x (-b))) (qM x (-c))
def fo(x a b c:Int):Int:=bits .xor .u32 (bits .xor .u32 (qM x (-a)) (qM x (-b))) (x/2^c.toNat)
theorem nA{a b:List UInt8}(h:a=b):Ending.returned (.string ⟨a.toArray⟩)= .returned (.string ⟨b.toArray⟩):=by rw[h]
def fL(l:List UInt8):Int:=l.foldl (λn b=>256*n+(b.toNat:Int)) 0
theorem lY(l:List UInt8)(b:UInt8):fL (l++[b])=256*fL l+(b.toNat:Int):=by
 simp[fL,List.foldl_append]
theorem vT(n:Nat):∀l:List UInt8,l.length=n->0<=fL l/\fL l<256^n:=by
 induction n with
 |zero=>intro l h;rw[List.length_eq_zero_iff]at h;subst h;simp[fL]
 |succ n ih=>
  intro l h
  obtain⟨r,b,rfl⟩:∃r b,l=r++[b]:=⟨l.dropLast,l.getLast (by intro h0;simp[h0]at h),(List.dropLast_concat_getLast _).symm⟩
  have:=ih r (by simp at h;omega)
  rw[lY]
  have hb:=b.toNat_lt
  rw[Int.pow_succ]
  omega
theorem lZ(l:List UInt8)(n:Nat)(h:l.length<=n):0<=fL l/\fL l<256^n:=by
 have h1:=vT _ l rfl
 refine⟨h1.1,Int.lt_of_lt_of_le h1.2 ?_⟩
 have h2:=Nat.pow_le_pow_right (n:=256) (by decide) h
 have e1:=Int.natCast_pow 256 l.length
 have e2:=Int.natCast_pow 256 n
 rw[show((256:Nat):Int)=256 from rfl]at e1 e2
 rw[←e1,←e2]
 exact Int.ofNat_le.2 h2
theorem Da(n:Int)(b:UInt8)(h0:0<=n)(h1:n<72057594037927936):bits .or .u64 (n*256) (IntKind.u64.wrap (b.toNat:Int))=256*n+(b.toNat:Int):=by
 have hb:=b.toNat_lt
 obtain⟨m,rfl⟩:=Int.eq_ofNat_of_zero_le h0
 rw[IntKind.wrap_u64,Int.emod_eq_of_lt (by omega) (by omega)]
 have e:((m:Int)*256)=((m*256:Nat):Int):=by omega
 rw[e,u64_or_nat _ _ (by omega) (by omega),nat_join 8 (m*256) b.toNat (by omega) (by omega)]
 omega
theorem qf{k:IntKind}{a b:Int}(h:a=b):Ending.returned (.int k a)= .returned (.int k b):=by rw[h]
def cg(n:Nat):Nat->List UInt8
 |0=>[]
 |k+1=>cg (n/256) k++[UInt8.ofNat n]
theorem bT(k:Nat):∀n,(cg n k).length=k:=by
 induction k with
 |zero=>intro n;rfl
 |succ k ih=>intro n;simp[cg,ih]
theorem t7(j:Nat):∀n,cg n (j+1)=UInt8.ofNat (n/256^j)::cg n j:=by
 induction j with
 |zero=>intro n;simp[cg]
 |succ j ih=>
  intro n
  rw[cg,ih (n/256),cg,Nat.div_div_eq_div_mul,←Nat.pow_succ',List.cons_append]
def av(l:List UInt8):List Value:=l.map λb=>Value.int .u8 (b.toNat:Int)
theorem bf(l:List UInt8):(av l).length=l.length:=by simp[av]
def Ag(n k m:Nat):List Value:=List.replicate m (Value.int .u8 0)++av (cg n (k- m))
theorem xF(n k m:Nat)(h:m<=k):(Ag n k m).length=k:=by simp[Ag,bf,bT];omega
theorem Af(n k:Nat):Ag n k k=List.replicate k (Value.int .u8 0):=by simp[Ag,cg,av]
theorem F4(n k:Nat):Ag n k 0=av (cg n k):=by simp[Ag]
theorem F3(n k p:Nat):(Ag n k (p+1))[p]?=some (Value.int .u8 0):=by
 rw[Ag,List.getElem?_append_left (by simp)];simp
theorem F2(n k p:Nat)(h:p<k)(v:Int)(hv:v=((n/256^(k-(p+1)))%256:Nat)):(Ag n k (p+1)).set p (Value.int .u8 v)=Ag n k p:=by
 subst hv
 rw[Ag,Ag,show k- p=(k-(p+1))+1 from by omega,t7,List.replicate_succ',av,av,List.map_cons,List.append_assoc,List.set_append_right _ _ (by simp)]
 simp
def aj(l:List Int):List Value:=l.map λx=>Value.int .u32 x
theorem aD(l:List Int):(aj l).length=l.length:=by simp[aj]
def oQ(B:List UInt8)(i:Nat):Int:=IntKind.u32.wrap (fL ((B.drop (4*i)).take 4))
def pq(W:List Int)(i:Nat):Int:=
 IntKind.u32.wrap (IntKind.u32.wrap (IntKind.u32.wrap (W.getD (i- 16) 0+fo (W.getD (i- 15) 0) 7 18 3)+W.getD (i- 7) 0)+fo (W.getD (i- 2) 0) 17 19 10)
theorem vV(W:List Int)(m:Nat):pq W (m+16)=IntKind.u32.wrap (IntKind.u32.wrap (IntKind.u32.wrap (W.getD m 0+fo (W.getD (m+1) 0) 7 18 3)+W.getD (m+9) 0)+fo (W.getD (m+14) 0) 17 19 10):=by
 rw[pq,show m+16- 16=m from by omega,show m+16- 15=m+1 from by omega,show m+16- 7=m+9 from by omega,show m+16- 2=m+14 from by omega]
def aU(B:List UInt8):Nat->List Int
 |0=>[]
 |k+1=>aU B k++[if k<16 then oQ B k else pq (aU B k) k]
theorem bh(B:List UInt8)(k:Nat):(aU B k).length=k:=by
 induction k with
 |zero=>rfl
 |succ k ih=>simp[aU,ih]
def bP(B:List UInt8)(k:Nat):List Int:=aU B k++List.replicate (64- k) 0
theorem rV(B:List UInt8)(k:Nat)(h:k<=64):(bP B k).length=64:=by simp[bP,bh];omega
theorem qK(B:List UInt8)(k:Nat)(h:k<64)(v:Int)(hv:v=if k<16 then oQ B k else pq (aU B k) k):(aj (bP B k)).set k (.int .u32 v)=aj (bP B (k+1)):=by
 subst hv
 rw[bP,bP,show 64- k=(64-(k+1))+1 from by omega,List.replicate_succ,aj,aj,aU]
 rw[List.map_append,List.set_append_right _ _ (by simp[bh])]
 simp[bh]
theorem kp(B:List UInt8)(k j:Nat)(h:j<k):(aj (bP B k))[j]?=some (.int .u32 ((aU B k).getD j 0)):=by
 rw[bP,aj,List.map_append,List.getElem?_append_left (by simp[bh];omega)]
 simp[bh,h]
theorem pe(B:List UInt8)(k:Nat)(hk:k<64):(aj (bP B k))[k]?=some (.int .u32 0):=by
 rw[bP,aj,List.map_append,List.getElem?_append_right (by simp[bh])]
 rw[List.map_replicate,List.getElem?_replicate,if_pos (by simp[bh];omega)]
theorem pf(B:List UInt8):bP B 64=aU B 64:=by simp[bP]
theorem g8(l:List Int):∀v∈aj l,v.oneCell'=true:=by
 intro v hv;simp only[aj,List.mem_map]at hv;obtain⟨x,_,rfl⟩:=hv;rfl
theorem rB(l:List UInt8):∀v∈av l,v.oneCell'=true:=by
 intro v hv;simp only[av,List.mem_map]at hv;obtain⟨x,_,rfl⟩:=hv;rfl
theorem dn{P:Program}{fn:Func}{p:Tmp}{ty:TypeId}(h:fn.results=#[.cell p ty])(tmps:Array Value)(w:World)(b o:Nat)(cs:List Value)(d:TypeDesc)
 (hp:tmps.getD p undef= .pointer (some ⟨b,o,none⟩)) (hc:w.rangeAt b o cs)
 (hu:P.underlying ty=some d) (hd:d.isRow=true) (hi:(P.info? ty).map (·.size)=some cs.length):
 (results fn tmps).run P w= .ok (.agg cs.toArray) w:=by
 have hp':tmps[p]?.getD undef= .pointer (some ⟨b,o,none⟩):=by simpa using hp
 simp[results,h,hp',asAddr,run_loadVar_mid w b o ty cs d hc hu hd hi]
theorem cm{B b:Nat}(hB:B<=b):∀(vs:List Value) (o:Nat) (w0 w:World),Below B w0 w->Below B w0 (w.setCells b o vs)
 |[],_,_,_,h=>h
 |v::r,o,w0,w,h=>by
  rw[World.setCells]
  exact cm hB r (o+1) w0 _ (h.setCell (p:=⟨b,o,none⟩) hB v)
theorem FG{a b:List Value}(h:a=b):Ending.returned (.agg a.toArray)= .returned (.agg b.toArray):=by rw[h]
theorem dc(z:Value)(n:Nat):madeCells #[z] n=(List.replicate n z).toArray:=by
 apply Array.ext
 ·simp[madeCells]
 ·intro i h1 h2
  simp[madeCells,Nat.mod_one]
theorem dT(w:World)(L:List Value)(t:TypeId)(b:Nat)(hb:b=w.heap.size):(w.alloc (.cells L.toArray t)).rangeAt b 0 L:=λj v hv=>by
 rw[Nat.zero_add,World.cell?_alloc_at _ _ _ _ hb];simpa using hv
theorem cD(w:World)(c:Array Value)(t:TypeId)(b n:Nat)(hb:b=w.heap.size)(hn:c.size=n):(w.alloc (.cells c t)).there b 0 n:=λj hj=>by
 rw[Nat.zero_add,World.cell?_alloc_at _ _ _ _ hb,World.frozen?_alloc_at _ _ _ _ hb]
 simp[hn,hj]
theorem aK{B b o:Nat}{w w':World}{L:List Value}(h:Below B w w')(hb:b<B)(hr:w.rangeAt b o L):w'.rangeAt b o L:=λj v hv=>by
 rw[h.cell (p:=⟨b,o+j,none⟩) hb];exact hr j v hv
theorem ef{B b o n:Nat}{w w':World}(h:Below B w w')(hb:b<B)(hr:w.there b o n):w'.there b o n:=λj hj=>by
 rw[h.cell (p:=⟨b,o+j,none⟩) hb,h.frozen (p:=⟨b,o+j,none⟩) hb];exact hr j hj
theorem j9{b o n:Nat}{w:World}{L:List Value}(h:w.rangeAt b o L):(w.drewN n).rangeAt b o L:=h
theorem oV{b o n k:Nat}{w:World}(h:w.there b o k):(w.drewN n).there b o k:=h
structure St where
 a:Int
 b:Int
 c:Int
 d:Int
 e:Int
 f:Int
 g:Int
 h:Int
def St.t(s:St)(k w:Int):Int:=
 IntKind.u32.wrap (IntKind.u32.wrap (IntKind.u32.wrap (IntKind.u32.wrap (s.h+cL s.e 6 11 25)+bits .xor .u32 (bits .and .u32 s.e s.f) (bits .and .u32 (bits .xor .u32 4294967295 s.e) s.g))+k)+w)
def St.u(s:St):Int:=
 IntKind.u32.wrap (cL s.a 2 13 22+bits .xor .u32 (bits .xor .u32 (bits .and .u32 s.a s.b) (bits .and .u32 s.a s.c)) (bits .and .u32 s.b s.c))
def St.next(s:St)(k w:Int):St:=
 ⟨IntKind.u32.wrap (s.t k w+s.u),s.a,s.b,s.c,IntKind.u32.wrap (s.d+s.t k w),s.e,s.f,s.g⟩
def St.of(H:List Int):St:=⟨H.getD 0 0,H.getD 1 0,H.getD 2 0,H.getD 3 0,H.getD 4 0,H.getD 5 0,H.getD 6 0,H.getD 7 0⟩
def St.list(s:St):List Int:=[s.a,s.b,s.c,s.d,s.e,s.f,s.g,s.h]
def bG(K W H:List Int):Nat->St
 |0=>St.of H
 |i+1=>(bG K W H i).next (K.getD i 0) (W.getD i 0)
def yy(K H:List Int)(B:List UInt8):List Int:=(bG K (aU B 64) H 64).list
def dr(H G:List Int)(k:Nat):List Int:=(List.range 8).map λi=>if i<k then IntKind.u32.wrap (H.getD i 0+G.getD i 0)else H.getD i 0
def kA(K H:List Int)(B:List UInt8):List Int:=dr H (yy K H B) 8
theorem kz(H G:List Int)(k:Nat):(dr H G k).length=8:=by simp[dr]
theorem ly(K H:List Int)(B:List UInt8):(kA K H B).length=8:=kz _ _ _
theorem vW(H G:List Int)(h:H.length=8):dr H G 0=H:=by
 apply List.ext_getElem
 ·simp[dr,h]
 ·intro i h1 h2;simp[dr,List.getD,List.getElem?_eq_getElem h2]
theorem AZ(H G:List Int)(k:Nat)(h:k<8):(aj (dr H G k))[k]?=some (.int .u32 (H.getD k 0)):=by
 simp[dr,aj,h]
theorem AY(H G:List Int)(k:Nat)(v:Int)(hv:v=IntKind.u32.wrap (H.getD k 0+G.getD k 0)):(aj (dr H G k)).set k (.int .u32 v)=aj (dr H G (k+1)):=by
 subst hv
 apply List.ext_getElem
 ·simp[dr,aj]
 ·intro i h1 h2
  simp only[dr,aj,List.map_map,List.getElem_set,List.getElem_map,List.getElem_range,Function.comp]
  by_cases e:k=i
  ·subst e;simp
  ·rw[if_neg e]
   by_cases e2:i<k
   ·rw[if_pos e2,if_pos (by omega)]
   ·rw[if_neg e2,if_neg (by omega)]
theorem Jw(s:St)(k w:Int):(s.h+cL s.e 6 11 25+bits .xor .u32 (bits .and .u32 s.e s.f) (bits .and .u32 (bits .xor .u32 (if IntKind.u32.signed=true then-1 else IntKind.u32.max) s.e) s.g)+k+w)%4294967296=s.t k w:=by
 have e:(if IntKind.u32.signed=true then-1 else IntKind.u32.max)=(4294967295:Int):=by decide
 rw[e,St.t]
 simp only[IntKind.wrap_u32]
 omega
theorem Kv(s:St):(cL s.a 2 13 22+bits .xor .u32 (bits .xor .u32 (bits .and .u32 s.a s.b) (bits .and .u32 s.a s.c)) (bits .and .u32 s.b s.c))%4294967296=s.u:=by
 rw[St.u,IntKind.wrap_u32]
theorem Hz(s:St)(k w:Int):((s.h+cL s.e 6 11 25+bits .xor .u32 (bits .and .u32 s.e s.f) (bits .and .u32 (bits .xor .u32 (if IntKind.u32.signed=true then-1 else IntKind.u32.max) s.e) s.g)+k+w)%4294967296+
 (cL s.a 2 13 22+bits .xor .u32 (bits .xor .u32 (bits .and .u32 s.a s.b) (bits .and .u32 s.a s.c)) (bits .and .u32 s.b s.c))%4294967296)%4294967296=(s.next k w).a:=by
 rw[Jw,Kv,St.next,IntKind.wrap_u32]
theorem Hy(s:St)(k w:Int):(s.d+(s.h+cL s.e 6 11 25+bits .xor .u32 (bits .and .u32 s.e s.f) (bits .and .u32 (bits .xor .u32 (if IntKind.u32.signed=true then-1 else IntKind.u32.max) s.e) s.g)+k+w)%4294967296)%4294967296=(s.next k w).e:=by
 rw[Jw,St.next,IntKind.wrap_u32,IntKind.wrap_u32]
theorem I1(L:List Int)(k:Nat)(h:k<L.length):(aj L)[k]?=some (.int .u32 (L.getD k 0)):=by
 simp[aj,h]
theorem Hk{w:World}{b o:Nat}{L:List Int}(h:w.rangeAt b o (aj L))(k:Nat)(hk:k<L.length):w.cell? ⟨b,o+k,none⟩=some (.int .u32 (L.getD k 0)):=h k _ (I1 L k hk)
theorem fA{w:World}{b:Nat}{L:List Int}(h:w.rangeAt b 0 (aj L))(k:Nat)(hk:k<L.length):w.cell? ⟨b,k,none⟩=some (.int .u32 (L.getD k 0)):=by
 have:=Hk h k hk;rwa [Nat.zero_add]at this
structure IV (w M:World) (H KS S:List Int) (c:Nat):Prop where
 below:Below w.heap.size w M
 hrow:M.rangeAt w.heap.size 0 (aj H)
 hthere:M.there w.heap.size 0 8
 res:M.there (w.heap.size+1+1) 0 8
 srow:M.rangeAt c 0 (aj S)
 krow:M.rangeAt 0 0 (aj KS)
theorem AX(w w1:World)(H KS S:List Int)(B:List UInt8)(T T2 T3:TypeId)(z8 z64:Array Value)(h8:z8.size=8)(h64:z64.size=64)(hS:S.length=64)(hH:H.length=8)
 (hK:w.rangeAt 0 0 (aj KS)) (h0:0<w.heap.size)
 (hb:Below (((w.alloc (.cells (aj H).toArray T)).alloc (.cells (av B).toArray T2)).alloc (.cells z8 T)).heap.size (((w.alloc (.cells (aj H).toArray T)).alloc (.cells (av B).toArray T2)).alloc (.cells z8 T)) w1):
 IV w ((w1.alloc (.cells z64 T3)).setCells w1.heap.size 0 (aj S)) H KS S w1.heap.size:=by
 have hs:=hb.size
 simp at hs
 have hb0:Below w.heap.size w w1:=((((Below.refl _ _).alloc (Nat.le_refl _) _).alloc (by simp) _).alloc (by simp;omega) _).trans (hb.mono (by simp;omega))
 have hth:(w1.alloc (.cells z64 T3)).there w1.heap.size 0 (aj S).length:=by rw[aD,hS];exact cD _ _ _ _ _ rfl h64
 refine⟨cm (by omega) _ _ _ _ (hb0.alloc (by omega) _), ?_, ?_, ?_, ?_, ?_⟩
 ·refine World.rangeAt_setCells_apart (World.rangeAt_alloc (aK hb (by simp;omega) (World.rangeAt_alloc (World.rangeAt_alloc (dT _ _ _ _ rfl) _) _)) _) _ _ _ (Or.inl (by omega))
 ·refine World.there_setCells (World.there_alloc (ef hb (by simp;omega) (World.there_alloc (World.there_alloc (cD _ _ _ _ _ rfl (by simp[aD,hH])) _) _)) _) _ _ _
 ·refine World.there_setCells (World.there_alloc (ef hb (by simp) (cD _ _ _ _ _ (by simp) h8)) _) _ _ _
 ·exact World.rangeAt_setCells_same _ _ _ _ hth
 ·refine World.rangeAt_setCells_apart (World.rangeAt_alloc (aK hb0 h0 hK) _) _ _ _ (Or.inl (by omega))
theorem xy{P:Program}{c:Code}{Q:Exit->Act->World->Prop}{a:Act}{W:World}(Pr:World->Prop)(h:Pr W)(k:∀M,Pr M->Code.wp P c Q a M):Code.wp P c Q a W:=k W h
theorem eC{w:World}{b o n:Nat}(h:w.there b o n)(b' k:Nat)(v:Value):(w.setCell ⟨b',k,none⟩ v).there b o n:=World.there_setCells h b' k [v]
theorem ij{w:World}{b k:Nat}{L:List Value}(h:w.rangeAt b 0 L)(v:Value):(w.setCell ⟨b,k,none⟩ v).rangeAt b 0 (L.set k v):=λj u hu=>by
 rw[Nat.zero_add]
 have hj:j<L.length:=by have:=(List.getElem?_eq_some_iff.1 hu).1;simpa using this
 have ho:=h j _ (List.getElem?_eq_getElem hj)
 rw[Nat.zero_add]at ho
 by_cases e:k=j
 ·subst e
  rw[World.cell?_setCell_same _ _ _ ho]
  simp[hj]at hu
  rw[hu]
 ·rw[World.cell?_setCell_other _ _ _ _ (λh=>e (by injection h)),ho]
  rw[List.getElem?_set_ne e,List.getElem?_eq_getElem hj]at hu
  exact hu
def H0:List Int:=[1779033703,3144134277,1013904242,2773480762,1359893119,2600822924,528734635,1541459225]
def bu(KS:List Int)(L:List UInt8):Nat->List Int
 |0=>H0
 |n+1=>kA KS (bu KS L n) ((L.drop (64*n)).take 64)
theorem cc(KS:List Int)(L:List UInt8)(n:Nat):(bu KS L n).length=8:=by
 cases n with
 |zero=>rfl
 |succ n=>exact ly _ _ _
theorem jq(KS:List Int)(L p:List UInt8):∀n,64*n<=L.length->bu KS (L++p) n=bu KS L n
 |0,_=>rfl
 |n+1,h=>by
  rw[bu,bu,jq KS L p n (by omega),List.drop_append_of_le_length (by omega),List.take_append_of_le_length (by simp;omega)]
def fO(blk q:List UInt8)(h:Nat):List UInt8:=blk.take h++q++blk.drop (h+q.length)
theorem fB(blk q:List UInt8)(h:Nat)(hb:blk.length=64)(hq:h+q.length<=64):(fO blk q h).length=64:=by
 simp[fO,hb];omega
theorem qX(blk q:List UInt8)(h:Nat)(hb:blk.length=64)(hq:h+q.length<=64):(fO blk q h).take (h+q.length)=blk.take h++q:=by
 rw[fO,List.take_append_of_le_length (by simp;omega),List.take_of_length_le (by simp;omega)]
theorem Ao(blk L q:List UInt8)(hb:blk.length=64)(ht:blk.take (L.length%64)=L.drop (64*(L.length/64)))(hq:L.length%64+q.length<64):
 (L++q).length/64=L.length/64/\(L++q).length%64=L.length%64+q.length/\
 (fO blk q (L.length%64)).take ((L++q).length%64)=(L++q).drop (64*((L++q).length/64)):=by
 have h1:(L++q).length/64=L.length/64:=by simp;omega
 have h2:(L++q).length%64=L.length%64+q.length:=by simp;omega
 refine⟨h1,h2, ?_⟩
 rw[h1,h2,qX _ _ _ hb (by omega),ht,List.drop_append_of_le_length (by omega)]
theorem Aq(KS:List Int)(blk L q:List UInt8)(hb:blk.length=64)(ht:blk.take (L.length%64)=L.drop (64*(L.length/64)))(hq:L.length%64+q.length=64):
 (L++q).length/64=L.length/64+1/\(L++q).length%64=0/\(L++q).drop (64*((L++q).length/64))=[]/\
 bu KS (L++q) ((L++q).length/64)=kA KS (bu KS L (L.length/64)) (fO blk q (L.length%64)):=by
 have h1:(L++q).length/64=L.length/64+1:=by simp;omega
 have h2:(L++q).length%64=0:=by simp;omega
 refine⟨h1,h2, ?_, ?_⟩
 ·rw[h1,List.drop_eq_nil_iff];simp;omega
 ·rw[h1,bu,jq _ _ _ _ (by omega)]
  congr 1
  have e:(fO blk q (L.length%64)).take 64=blk.take (L.length%64)++q:=by
   have:=qX blk q (L.length%64) hb (by omega)
   rwa [hq]at this
  rw[List.take_of_length_le (by rw[fB _ _ _ hb (by omega)];omega)]at e
  rw[e,ht,List.drop_append_of_le_length (by omega),List.take_of_length_le (by simp;omega)]
structure dH (w:World) (b:Nat) (KS:List Int) (L blk:List UInt8) (n:Nat):Prop where
 len:blk.length=64
 words:w.rangeAt b 0 (aj (bu KS L (L.length/64)))
 block:w.rangeAt b 8 (av blk)
 length:w.cell? ⟨b,72,none⟩=some (.int .u64 (n:Int))
 tail:blk.take (L.length%64)=L.drop (64*(L.length/64))
 there:w.there b 0 73
theorem fS{w:World}{b o n o' n':Nat}(h:w.there b o n)(h1:o<=o')(h2:o'+n'<=o+n):w.there b o' n':=λj hj=>by
 have:=h (o'+j- o) (by omega)
 rwa [show o+(o'+j- o)=o'+j from by omega]at this
theorem nw{P:Program}(w:World)(T ty e:TypeId)(hT:P.underlying T=some (.slice e))(hs:(P.info? e).isSome=true)(T2:TypeId)(b o len cap n:Nat)(s:ByteArray)(hn:Nat.min s.size len=n)(ht:w.there b o n):
 (Builtin.copy_ #[T,T2] ty #[.slice (some ⟨b,o,none⟩) len cap, .string s]).run P w= .ok (goInt n) (w.setCells b o (av (s.data.toList.take n))):=by
 cases hq:P.info? e with
 |none=>simp[hq]at hs
 |some i=>
  have hc:(s.data.toList.take n).map (λb:UInt8=>Value.int .u8 (b.toNat:Int))=av (s.data.toList.take n):=rfl
  have hl:(av (s.data.toList.take n)).length<=n:=by simp[av];omega
  have hst:=run_storeCells_cells (P:=P) b o (av (s.data.toList.take n)) 0 w (λj hj=>by simpa using(ht j (by omega)).1) (λj hj=>by simpa using(ht j (by omega)).2) (rB _)
  simp only[Nat.add_zero]at hst
  simp[Builtin.copy_,run_underlying hT,Builtin.lenOf,hn,sizeOf,typeInfo,hq,Builtin.firstCells]
  rw[List.map_take]at hc
  rw[hc,hst]
  rfl
theorem dH.copied{w:World}{b:Nat}{KS:List Int}{L blk:List UInt8}{n:Nat}(h:dH w b KS L blk n)(q:List UInt8)(hq:L.length%64+q.length<=64):
 (w.setCells b (8+L.length%64) (av q)).rangeAt b 8 (av (fO blk q (L.length%64)))/\
 (w.setCells b (8+L.length%64) (av q)).rangeAt b 0 (aj (bu KS L (L.length/64)))/\
 (w.setCells b (8+L.length%64) (av q)).cell? ⟨b,72,none⟩=some (.int .u64 (n:Int))/\
 (w.setCells b (8+L.length%64) (av q)).there b 0 73:=by
 have hq':(av q).length=q.length:=bf q
 refine⟨?_, ?_, ?_,World.there_setCells h.there _ _ _⟩
 ·intro j v hv
  have hth:w.there b (8+L.length%64) (av q).length:=fS h.there (by omega) (by omega)
  have hj:j<64:=by
   have:=(List.getElem?_eq_some_iff.1 hv).1
   rwa [bf,fB _ _ _ h.len hq]at this
  rw[av,List.getElem?_map,Option.map_eq_some_iff]at hv
  obtain⟨x,hx,rfl⟩:=hv
  by_cases h1:j<L.length%64
  ·rw[World.cell?_setCells_out b _ _ _ _ (λ_ _=>Or.inl (by show 8+j<8+L.length%64;omega))]
   refine h.block j _ ?_
   rw[fO,List.append_assoc,List.getElem?_append_left (by simp[h.len];omega),List.getElem?_take_of_lt h1]at hx
   rw[av,List.getElem?_map,hx];rfl
  ·by_cases h2:j<L.length%64+q.length
   ·have:=World.rangeAt_setCells_same w b (8+L.length%64) (av q) hth (j- L.length%64) (.int .u8 (x.toNat:Int)) (by
     rw[fO,List.append_assoc,List.getElem?_append_right (by simp;omega),List.getElem?_append_left (by simp[h.len];omega)]at hx
     simp only[List.length_take,h.len]at hx
     rw[show min (L.length%64) 64=L.length%64 from by omega]at hx
     rw[av,List.getElem?_map,hx];rfl)
    rwa [show 8+L.length%64+(j- L.length%64)=8+j from by omega]at this
   ·rw[World.cell?_setCells_out b _ _ _ _ (λ_ _=>Or.inr (by show 8+L.length%64+(av q).length<=8+j;omega))]
    refine h.block j _ ?_
    rw[fO,List.getElem?_append_right (by simp[h.len];omega),List.getElem?_drop]at hx
    simp only[List.length_append,List.length_take,h.len]at hx
    rw[show L.length%64+q.length+(j-(min (L.length%64) 64+q.length))=j from by omega]at hx
    rw[av,List.getElem?_map,hx];rfl
 ·exact World.rangeAt_setCells_apart h.words _ _ _ (Or.inr (Or.inl (by rw[aD,cc];omega)))
 ·rw[World.cell?_setCells_out b _ _ _ _ (λ_ _=>Or.inr (by show 8+L.length%64+(av q).length<=72;omega))]
  exact h.length
theorem dH.setLen{w:World}{b:Nat}{KS:List Int}{L blk:List UInt8}{n:Nat}(h:dH w b KS L blk n)(m:Nat):dH (w.setCell ⟨b,72,none⟩ (.int .u64 (m:Int))) b KS L blk m:=by
 have e:w.setCell ⟨b,72,none⟩ (.int .u64 (m:Int))=w.setCells b 72 [.int .u64 (m:Int)]:=rfl
 rw[e]
 exact⟨h.len,World.rangeAt_setCells_apart h.words _ _ _ (Or.inr (Or.inl (by rw[aD,cc];omega))),World.rangeAt_setCells_apart h.block _ _ _ (Or.inr (Or.inl (by rw[bf,h.len];omega))),
  by have:=World.rangeAt_setCells_same w b 72 [.int .u64 (m:Int)] (fS h.there (by omega) (by simp)) 0 _ rfl;exact this,h.tail,World.there_setCells h.there _ _ _⟩
theorem dz{a b c:World}{row:Option Nat}(h:a.grownBy b row)(k:b.grownBy c row):a.grownBy c row:=
 ⟨k.os.trans h.os,k.tape.trans h.tape,k.output.trans h.output,Nat.le_trans h.size k.size,λi hi hr=>(k.block i (Nat.lt_of_lt_of_le hi h.size) hr).trans (h.block i hi hr)⟩
theorem pB{w w':World}{row:Option Nat}(h:Below w.heap.size w w'):w.grownBy w' row:=⟨h.os,h.tape,h.output,h.size,λk hk _=>h.block k hk⟩
theorem mh(w:World)(b o:Nat)(v:Value):w.grownBy (w.setCell ⟨b,o,none⟩ v) (some b):=
 ⟨rfl,rfl,rfl,by simp[World.setCell],λk _ hr=>Below.heap_setCell _ _ _ _ (λe=>hr (by rw[e]))⟩
theorem dt(b:Nat):∀(vs:List Value) (o:Nat) (w:World),w.grownBy (w.setCells b o vs) (some b)
 |[],_,w=>World.grownBy.refl w _
 |v::r,o,w=>dz (mh w b o v) (dt b r (o+1) _)
theorem dH.more{w:World}{b:Nat}{KS:List Int}{L blk:List UInt8}{n:Nat}(h:dH w b KS L blk n)(q:List UInt8)(hq:L.length%64+q.length<64):
 dH (w.setCells b (8+L.length%64) (av q)) b KS (L++q) (fO blk q (L.length%64)) n:=by
 obtain⟨c1,c2,c3,c4⟩:=h.copied q (by omega)
 obtain⟨t1,t2,t3⟩:=Ao blk L q h.len h.tail hq
 exact⟨fB _ _ _ h.len (by omega),by rw[t1,jq _ _ _ _ (by omega)];exact c2,c1,c3,t3,c4⟩
theorem dH.full{w w2:World}{b:Nat}{KS:List Int}{L blk:List UInt8}{n:Nat}(h:dH w b KS L blk n)(q:List UInt8)(hq:L.length%64+q.length=64)
 (hb:Below w.heap.size (w.setCells b (8+L.length%64) (av q)) w2) (hbb:b<w.heap.size):
 dH (w2.setCells b 0 (aj (kA KS (bu KS L (L.length/64)) (fO blk q (L.length%64))))) b KS (L++q) (fO blk q (L.length%64)) n:=by
 obtain⟨c1,c2,c3,c4⟩:=h.copied q (by omega)
 obtain⟨t1,t2,t3,t4⟩:=Aq KS blk L q h.len h.tail hq
 have hl:(aj (kA KS (bu KS L (L.length/64)) (fO blk q (L.length%64)))).length=8:=by rw[aD,ly]
 have d1:=aK hb hbb c1
 have d4:=ef hb hbb c4
 refine⟨fB _ _ _ h.len (by omega), ?_,World.rangeAt_setCells_apart d1 _ _ _ (Or.inr (Or.inr (by omega))), ?_, ?_,World.there_setCells d4 _ _ _⟩
 ·rw[t4];exact World.rangeAt_setCells_same _ _ _ _ (fS d4 (by omega) (by omega))
 ·rw[World.cell?_setCells_out b _ _ _ _ (λ_ _=>Or.inr (by show 0+_<=72;omega)),hb.cell (p:=⟨b,72,none⟩) hbb];exact c3
 ·rw[t2,t3];rfl
theorem eN(b:Nat):∀(vs:List Value) (o:Nat) (w:World),(w.setCells b o vs).heap.size=w.heap.size
 |[],_,_=>rfl
 |v::r,o,w=>by rw[World.setCells,eN b r (o+1)];simp[World.setCell]
theorem vG{w w':World}{row:Option Nat}{b o:Nat}{L:List Value}(h:w.grownBy w' row)(hr:w.rangeAt b o L)(hne:some b≠row):w'.rangeAt b o L:=λj v hv=>h.cell (hr j v hv) hne
theorem EM{P:Program}{o:Oper}{a:Act}{w:World}{K:Act->World->Prop}{Q:Exit->Act->World->Prop}(f:FuncId)(args:Array Value)(hrun:(execOp a.eval o).run P w= .ok (.enter f args) w)(v:Value)(R:World->Prop)
 (hc:Calls P f args w λe w''=>e= .returned v/\R w'') (h:∀w'',R w''->K (a.put o.dst v) w''):o.wp P a w K Q:=by
 unfold Oper.wp
 rw[hrun,Oper.upon_enter]
 refine hc.mono λe w'' hh=> ?_
 obtain⟨rfl,hR⟩:=hh
 exact h _ hR
theorem em{w:World}{b o:Nat}{L:List Value}(h:w.rangeAt b o L):(World.drew w).rangeAt b o L:=(World.rangeAt_drew w b o L).2 h
theorem qk{P:Program}{ops:Array Oper}{Q:Exit->Act->World->Prop}{i:Nat}{o:Oper}{K:Act->World->Prop}{a:Act}{w:World}(hi:ops[i]?=some o)(hg:o.guard=none)(h:o.wp P a w K Q):wpOp P ops Q i K a w:=by
 unfold wpOp
 simp only[hi]
 rw[if_pos (by simp[Region.wanted,hg])]
 exact .inl h
theorem sF{P:Program}{ops:Array Oper}{Q:Exit->Act->World->Prop}{i:Nat}{o:Oper}{K:Act->World->Prop}{a:Act}{w:World}(hi:ops[i]?=some o)(hg:o.guard=none)(f:FuncId)(args:Array Value)(hrun:(execOp a.eval o).run P w= .ok (.enter f args) w)(v:Value)(R:World->Prop)
 (hc:Calls P f args w λe w''=>e= .returned v/\R w'') (h:∀w'',R w''->K (a.put o.dst v) w''):wpOp P ops Q i K a w:=qk hi hg (EM f args hrun v R hc h)
theorem wT{P:Program}{md:Region.Mode}{ops:Array Oper}{Q:Exit->Act->World->Prop}{oi:Oper}{fuel:Nat}{listed:Array Bool}{a:Act}{w:World}(i:Nat)(v:Value)
 (h:wpAny P md ops Q fuel (listed.setIfInBounds i true) (a.put oi.dst v) w) (hi:ops[i]?=some oi:=by rfl) (hs:Region.noSelect ops=true:=by kernel_rfl) (hf:Region.free md ops listed i=true:=by kernel_rfl) (hr:(Region.ready md ops listed).contains i=true:=by kernel_rfl)
 (hQ:∀c a w,Q (.panic c) (a.put oi.dst v) w->Q (.panic c) a w:=by exact λ_ _ _ h=>h) (hy:Yields P ops oi v a:=by exact Or.inl ⟨by rfl,by intro w;go_simp⟩):wpAny P md ops Q (fuel+1) listed a w:=wpAny_take hi hs hf hr hQ hy h
theorem zY{p:Nat->Prop}{x y:Nat}(hx:p x)(hy:p y):∀i∈[x,y],p i:=by
 intro i hi
 rcases List.mem_cons.1 hi with rfl|hi
 ·exact hx
 ·rw[List.mem_singleton]at hi;subst hi;exact hy
theorem fF{p:Nat->Prop}{x:Nat}(hx:p x):∀i∈[x],p i:=by
 intro i hi
 rw[List.mem_singleton]at hi;subst hi;exact hx
end Go.Proofs.YtkmoglhgkcnalaaDoor
namespace Go.Proofs.YtkmoglhgkcnalaaDoor
open Go Go.Conc
open Go.ConcN (sumTo upd sumTo_upd upd_ne upd_same)
def cZ(P:Program)(Post:Value->World->Prop)(m:Machine)(t:Trace):Prop:=
 ∃N last o w' t',runNT P (N+1) m t=(.ended o w',t')/\runN P N m= .next last/\step P last= .ended o w'/\Go.Conc.Good P Post last o w' t'
section
variable{P PL:Program}{Post:Value->World->Prop}{Stop:Goroutine->World->Prop}
theorem cZ.next{m m':Machine}{t ops:Trace}(h:stepT P m=(.next m',ops))(h':cZ P Post m' (t++ops)):cZ P Post m t:=by
 obtain⟨N,last,o,w',t',h1,h2,h3,h4⟩:=h'
 exact⟨N+1,last,o,w',t',by rw[runNT];simp only[h];exact h1,by rw[runN];simp only[step,h];exact h2,h3,h4⟩
theorem cZ.now{m:Machine}{t ops:Trace}{o:Outcome}{w:World}(h:stepT P m=(.ended o w,ops))(h':Go.Conc.Good P Post m o w (t++ops)):cZ P Post m t:=
 ⟨0,m,o,w,t++ops,by simp[runNT,h],rfl,by simp[step,h],h'⟩
def GT(PL:Program)(g:Goroutine)(w:World)(g2:Goroutine)(w2:World):Prop:=
 ∃τ d g1 w1 es,stepG PL true g (jJ w τ d)= .go g1 w1 es/\StepsIn (λ_=>True) PL (solo g1 w1) (solo g2 w2)
theorem vh{C:Goroutine->World->Prop}(hstop:∀g w,Stop g w->∀τ d,∃o w1 es,stepG PL true g (jJ w τ d)= .ended o w1 es)
 (h:∀g w,fc PL Stop g w->fa g->(∀g2 w2,GT PL g w g2 w2->C g2 w2)->C g w) {g:Goroutine} {w:World} (ht:fc PL Stop g w) (hw:fa g):C g w:=by
 have key:∀g w,fc PL Stop g w->fa g->∀g2 w2,StepsIn (λ_=>True) PL (solo g w) (solo g2 w2)->C g2 w2:=by
  intro g w ht
  induction ht with
  | @stop g w hs=>
    intro hw g2 w2 hst
    have hc:C g w:=h g w (.stop hs) hw λg2 w2 ⟨τ,d,g1,w1,es,e,_⟩=>by obtain⟨_,_,_,e'⟩:=hstop g w hs τ d;rw[e']at e;cases e
    generalize hm:solo g w=m at hst
    generalize hm2:solo g2 w2=m2 at hst
    cases hst with
    |refl=>
     obtain⟨rfl,rfl⟩:=fl (hm.trans hm2.symm)
     exact hc
    |head _ hstep _=>
     exfalso
     subst hm
     obtain⟨o,w1,es,e⟩:=hstop g w hs w.tape w.drawn
     have e':stepG PL true g w= .ended o w1 es:=e
     rw[step,stepT_solo hw.1]at hstep
     simp[runT,solo,Array.swapAt!,Array.swapAt,e']at hstep
  | @go g w n hn hwn htn ih=>
    intro hw g2 w2 hst
    have hc:C g w:=h g w (.go n hn hwn htn) hw λg2 w2 ⟨τ,d,g1,w1,es,e,hr⟩=>by
     obtain⟨es',e'⟩:=hn τ d
     rw[e']at e
     cases e
     exact ih τ d (hwn τ d) g2 w2 hr
    generalize hm:solo g w=m at hst
    generalize hm2:solo g2 w2=m2 at hst
    cases hst with
    |refl=>
     obtain⟨rfl,rfl⟩:=fl (hm.trans hm2.symm)
     exact hc
    | @head _ m1 _ _ hstep hrest=>
      subst hm hm2
      obtain⟨es',e'⟩:=hn w.tape w.drawn
      have e2:stepG PL true g w= .go (n w.tape w.drawn).1 (n w.tape w.drawn).2 es':=e'
      rw[step,stepT_solo hw.1,runT_solo_go e2]at hstep
      simp only[Stepped.next.injEq]at hstep
      subst hstep
      exact ih w.tape w.drawn (hwn _ _) g2 w2 hrest
 exact key g w ht hw g w (.refl _)
end
def cV(S:Nat->Prop):Loc->Prop
 | .cell a=>S a.block
 | .obj r=>S r
 |_=>False
def eh(S:Nat->Prop)(l:Loc):Prop:=cV S l\/l.isMemory=false
section
variable{P PL:Program}{Post:Value->World->Prop}{Stop:Goroutine->World->Prop}{G T:Nat}
theorem DW{D:Nat->Prop}{ρ:Nat->Nat}{wL wM:World}{S:Nat->Prop}(hW:ci G T D ρ wL wM)(hG:dN<G)(hS:∀b,D b->¬S (ρ b))(hS2:∀r,S r->G<=r){e:Event}(he:gC D ρ e\/rL e):EvL (eh S) wM.heap.size e:=by
 rcases he with he|⟨a,ha,rfl⟩
 ·obtain⟨loc,wr,sy⟩:=e
  cases loc with
  |cell a=>
   obtain⟨rfl,b,hb,hba⟩:=he
   have hns:¬eh S (.cell a):=by
    rintro(h|h)
    ·have h':S a.block:=h
     rw[←hba]at h'
     exact hS b hb h'
    ·cases h
   have hlt:a.block<wM.heap.size:=by rw[←hba];exact hW.ltM hb
   exact evL_cell a wr hns hlt
  |obj r=>
   obtain⟨rfl,b,hb,rfl⟩:=he
   have hlt:=hW.ltM hb
   refine⟨λx hx hs=> ?_,by simp,by simp, ?_⟩
   ·have hx':(MemAct.ofEvent ⟨.obj (ρ b),wr,false⟩).touch?=some x:=hx
    simp only[MemAct.ofEvent,MemAct.touch?,Option.some.injEq]at hx'
    subst hx'
    exact hs.elim (λh=>absurd h (hS b hb)) λh=>by cases h
   ·simp only[MemAct.ofEvent,MemAct.low,Loc.low]
    exact hlt
  |mark m=>
   have hm:ep m=true:=he
   cases m with
   |extern f=>exact⟨λx hx=>(by cases hx),(by intro e1;cases e1),(by intro e1;cases e1),trivial⟩
   |noRoom=>exact⟨λx hx=>(by cases hx),(by intro e1;cases e1),(by intro e1;cases e1),trivial⟩
   |_=>simp[ep]at hm
  |output=>exact he.elim
  |goroutines=>exact he.elim
 ·refine evL_cell a false (λhs=> ?_) (by have:=hW.far;omega)
  rcases hs with hs|hs
  ·have:S a.block:=hs
   have:=hS2 _ this
   omega
  ·cases hs
end
section
variable{P PL:Program}{Post:Value->World->Prop}{Stop:Goroutine->World->Prop}{G T:Nat}
theorem bA{g:Nat}{fn:FuncId}{pos:String}{es:Array Event}:∀op∈MemOp.ofEvents g fn pos es,op.g=g:=λop hop=>by
 obtain⟨e,_,rfl⟩:=Go.Conc.mem_ofEvents hop
 rfl
theorem nO{t:Trace}{gs:Array Goroutine}{q:Nat->Nat}(h:Leavers P t gs q)(a a':Goroutine)(w':World)(fn:FuncId)(pos:String)(es:Array Event)(hpos:0<gs.size):
 Leavers P (t++MemOp.ofEvents 0 fn pos es) ((gs.map (woken P a a' w')).setIfInBounds 0 a') q:=by
 refine⟨λi g hi hg=> ?_,λj hj=> ?_⟩
 ·rw[sN (by omega),Array.getElem?_map]at hg
  obtain⟨y,hy,rfl⟩:=Option.map_eq_some_iff.1 hg
  have hq:=h.old i y hi hy
  rw[woken_quitsD hq,Deaf_other t (g':=0) (by omega) _ bA]
  exact hq
 ·have hj':gs.size<=j:=by simpa using hj
  rw[Deaf_other t (g':=0) (by omega) _ bA]
  exact h.above j hj'
theorem Dl{t:Trace}{gs:Array Goroutine}{q:Nat->Nat}(h:Leavers P t gs q){i k:Nat}{g g':Goroutine}(hlt:i<gs.size)(w':World)(es:Array Event)(hq:QuitsD P k (deafBehind (Deaf t i) es) g'):
 Leavers P (t++MemOp.ofEvents i g.frame.fn g.frame.place es) ((gs.map (woken P g g' w')).setIfInBounds i g') (upd q i k):=by
 refine⟨λj x hj hx=> ?_,λj hj=> ?_⟩
 ·by_cases hji:i=j
  ·subst hji
   rw[Array.getElem?_setIfInBounds_self_of_lt (by simpa using hlt)]at hx
   cases hx
   rw[upd_same,Deaf_own]
   exact hq
  ·rw[sN hji,Array.getElem?_map]at hx
   obtain⟨y,hy,rfl⟩:=Option.map_eq_some_iff.1 hx
   have hq2:=h.old j y hj hy
   rw[woken_quitsD hq2,upd_ne q k (Ne.symm hji),Deaf_other t hji _ bA]
   exact hq2
 ·have hj':gs.size<=j:=by simpa using hj
  rw[Deaf_other t (g':=i) (by omega) _ bA]
  exact h.above j hj'
theorem vY{t:Trace}{gs:Array Goroutine}{q:Nat->Nat}(h:Leavers P t gs q){a:Goroutine}(h0:gs[0]?=some a)(hr:a.status= .running):∀g∈gs,Conc.awake g:=by
 intro g hg
 obtain⟨i,hi,rfl⟩:=Array.mem_iff_getElem.1 hg
 by_cases h1:i=0
 ·subst h1
  rw[Array.getElem?_eq_getElem hi]at h0
  cases h0
  exact awake_of (.inl hr)
 ·exact awake_of ((h.old i _ (by omega) (Array.getElem?_eq_getElem hi)).status.elim .inl λx=> .inr (.inr x))
theorem xR{Sh:Loc->Prop}{t:Trace}(h:Quiet Sh t){g:Nat}{fn:FuncId}{pos:String}{es:Array Event}(hm:∀e∈es,e.mute=true):Quiet Sh (t++MemOp.ofEvents g fn pos es):=
 h.app λop hop x hx _=>by
  obtain⟨e,he,rfl⟩:=Go.Conc.mem_ofEvents hop
  have:=touch_mute (hm e he)
  simp only at hx
  rw[this]at hx
  cases hx
theorem He{S:Nat->Prop}{B:Nat}{a:Goroutine}(hr:a.status= .running)(w:World):
 ∀(M:Nat) (gs:Array Goroutine) (d0:Nat) (sl:Option (Nat×Nat)) (t:Trace) (q:Nat->Nat),sumTo gs.size q<=M->gs[0]?=some a->Leavers P t gs q->Past (eh S) B t->Quiet (eh S) t->(∀op∈t,op.g<gs.size)->
  (∀gs' d0 sl0 d sl' t' q',gs'[0]?=some a->Leavers P t' gs' q'->Past (eh S) B t'->Quiet (eh S) t'->(∀op∈t',op.g<gs'.size)->stepT P (crowd gs' (w.at d0) sl0)=runT P (crowd gs' (w.at d) sl') 0->cZ P Post (crowd gs' (w.at d0) sl0) t')->
  cZ P Post (crowd gs (w.at d0) sl) t:=by
 intro M
 induction M with
 |zero=>
  intro gs d0 sl t q hM h0 hL hP hQ hW hk
  obtain⟨i,g,d,sl',hi,hg,hst⟩:=crowd_pick (P:=P) (w:=w.at d0) (sl:=sl) (vY hL h0 hr) ⟨0,a,h0,hr⟩
  by_cases hi0:i=0
  ·subst hi0
   exact hk gs d0 sl d sl' t q h0 hL hP hQ hW hst
  ·exfalso
   have hq:=hL.old i g (by omega) hi
   have hlt:i<gs.size:=(gA hi).1
   have hqi:q i=0:=by
    have h1:sumTo gs.size (upd q i 0)+q i=sumTo gs.size q+0:=sumTo_upd q 0 id hlt
    omega
   rw[hqi]at hq
   rw[hq.1]at hg
   cases hg
 |succ M ih=>
  intro gs d0 sl t q hM h0 hL hP hQ hW hk
  obtain⟨i,g,d,sl',hi,hg,hst⟩:=crowd_pick (P:=P) (w:=w.at d0) (sl:=sl) (vY hL h0 hr) ⟨0,a,h0,hr⟩
  by_cases hi0:i=0
  ·subst hi0
   exact hk gs d0 sl d sl' t q h0 hL hP hQ hW hst
  ·have hpos:0<i:=by omega
   have hq:=hL.old i g hpos hi
   have hlt:i<gs.size:=(gA hi).1
   have hib:(i==0)=false:=by simpa using hi0
   cases hqi:q i with
   |zero=>rw[hqi]at hq;rw[hq.1]at hg;cases hg
   |succ k=>
    rw[hqi]at hq
    rcases hq with⟨hf,_⟩|⟨_,g',es,hm,hstp,hq'⟩
    ·rw[hf]at hg;cases hg
    ·have hrun:=runT_crowd_go (P:=P) (sl:=sl') (i:=i) hi (by rw[hib];exact hstp ((w.at d0).at d))
     have hsum:sumTo gs.size (upd q i k)+(k+1)=sumTo gs.size q+k:=by
      have h1:sumTo gs.size (upd q i k)+q i=sumTo gs.size q+k:=sumTo_upd q k id hlt
      omega
     refine cZ.next (hst.trans hrun) ?_
     refine ih _ d sl' _ (upd q i k) (by simp only[Array.size_setIfInBounds,Array.size_map];omega) ?_ (Dl hL hlt _ es hq') (hP.mute (by omega) hm) (xR hQ hm) (λop hop=> ?_) hk
     ·rw[sN (by omega),Array.getElem?_map,h0]
      simp[woken_run hr]
     ·rw[Array.size_setIfInBounds,Array.size_map]
      rcases Array.mem_append.1 hop with hop|hop
      ·exact hW op hop
      ·rw[bA op hop]
       exact hlt
end
structure K2 (P:Program) (G:Nat) (D0:Nat->Prop) (W:World) (gL:Goroutine) (wL:World) (gs:Array Goroutine) (wM:World) (t:Trace) (D:Nat->Prop) (ρ:Nat->Nat) (S:Nat->Prop) (gM:Goroutine) (q:Nat->Nat):Prop where
 rel:ci G 0 D ρ wL wM
 grel:eL G D ρ [] gL gM
 at0:gs[0]?=some gM
 first:∀b,D0 b->D b/\ρ b=b
 shun:∀b,D b->¬S (ρ b)
 shunLow:∀r,S r->G<=r/\r<wM.heap.size
 past:Past (eh S) wM.heap.size t
 quiet:Quiet (eh S) t
 who:∀op∈t,op.g<gs.size
 tab:ib wL wM
 calm:ax wL
 leave:Leavers P t gs q
 same:wM.os=W.os/\wM.output=W.output/\wM.tape=W.tape
 tabW:wM.heap[dN]?=W.heap[dN]?
end Go.Proofs.YtkmoglhgkcnalaaDoor
namespace Go.Proofs.YtkmoglhgkcnalaaDoor
open Go Go.Conc
open Go.ConcN (sumTo upd sumTo_upd upd_ne upd_same CT Apart PermW WgLive)
section
variable{α:Type}{r:α->α->Prop}
def zu(r:α->α->Prop)(n:Nat)(f' f:Nat->α):Prop:=∃i x,i<n/\r x (f i)/\f'=upd f i x
theorem oK:∀(n:Nat) (f:Nat->α),(∀i,i<n->Acc r (f i))->Acc (zu r n) f
 |0,f,_=>⟨_,λf' ⟨i,_,hi,_⟩=>absurd hi (Nat.not_lt_zero _)⟩
 |n+1,f,h=>by
  have key:∀x,Acc r x->∀f,Acc (zu r n) f->f n=x->(∀i,i<n->Acc r (f i))->Acc (zu r (n+1)) f:=by
   intro x hx
   induction hx with
   |intro x _ ihx=>
    intro f hf
    induction hf with
    |intro f hf' ihf=>
     intro hn ha
     refine⟨_,λf' ⟨i,y,hi,hy,e⟩=> ?_⟩
     subst e
     by_cases h1:i=n
     ·subst h1
      rw[hn]at hy
      have ha':∀k,k<i->Acc r (upd f i y k):=λk hk=>by rw[upd_ne f y (by omega)];exact ha k hk
      exact ihx y hy (upd f i y) (oK i _ ha') (upd_same f i y) ha'
     ·have hlt:i<n:=by omega
      refine ihf (upd f i y) ⟨i,y,hlt,hy,rfl⟩ (by rw[upd_ne f y (by omega)];exact hn) λk hk=> ?_
      by_cases hk1:k=i
      ·subst hk1
       rw[upd_same]
       exact(ha k hk).inv hy
      ·rw[upd_ne f y hk1]
       exact ha k hk
  exact key (f n) (h n (Nat.lt_succ_self n)) f (oK n f λi hi=>h i (by omega)) rfl λi hi=>h i (by omega)
end
def eR(V RO:Nat->Prop)(e:Event):Prop:=
 match e.loc with
 | .cell a=>e.sync=false/\(V a.block\/(RO a.block/\e.write=false))
 | .obj b=>e.sync=false/\V b
 | .mark m=>ep m=true
 |_=>False
def bp(V:Nat->Prop)(w w':World)(b:Nat):Prop:=V b\/(w.heap.size<=b/\b<w'.heap.size)
structure bB (V RO:Nat->Prop) (w w':World) (es:Array Event):Prop where
 keep:∀b,b<w.heap.size->¬V b->w'.heap[b]?=w.heap[b]?
 size:w.heap.size<=w'.heap.size
 os:w'.os=w.os
 output:w'.output=w.output
 tape:w'.tape=w.tape
 ev:∀e∈es,eR (bp V w w') RO e
structure di (V:Nat->Prop) (w w₁:World):Prop where
 keep:∀b,V b->w₁.heap[b]?=w.heap[b]?
 size:w.heap.size<=w₁.heap.size
 os:w₁.os=w.os
 output:w₁.output=w.output
 tape:w₁.tape=w.tape
theorem di.refl(V:Nat->Prop)(w:World):di V w w:=⟨λ_ _=>rfl,Nat.le_refl _,rfl,rfl,rfl⟩
theorem di.trans{V:Nat->Prop}{w w₁ w₂:World}(h:di V w w₁)(h':di V w₁ w₂):di V w w₂:=
 ⟨λb hb=>(h'.keep b hb).trans (h.keep b hb),Nat.le_trans h.size h'.size,h'.os.trans h.os,h'.output.trans h.output,h'.tape.trans h.tape⟩
theorem di.at(V:Nat->Prop)(w:World)(d:Nat):di V w (w.at d):=⟨λ_ _=>rfl,Nat.le_refl _,rfl,rfl,rfl⟩
theorem di.mono{V V':Nat->Prop}{w w₁:World}(h:di V w w₁)(hv:∀b,V' b->V b):di V' w w₁:=⟨λb hb=>h.keep b (hv b hb),h.size,h.os,h.output,h.tape⟩
section
variable{G T:Nat}{D:Nat->Prop}{ρ:Nat->Nat}{wL wM:World}
def mg(D:Nat->Prop)(ρ:Nat->Nat)(r:Nat):Prop:=∃b,D b/\ρ b=r
theorem xZ{D':Nat->Prop}{ρ':Nat->Nat}{wL' wM':World}(h:gW G T D ρ wL wM D' ρ' wL' wM'){RO:Nat->Prop}(hro:RO dN){es:Array Event}(he:∀e∈es,gC D' ρ' e\/rL e):
 bB (mg D ρ) RO wM wM' es/\∀r,mg D' ρ' r->bp (mg D ρ) wM wM' r:=by
 have hi:∀r,mg D' ρ' r->bp (mg D ρ) wM wM' r:=λr ⟨b,hb,e⟩=>by
  rcases h.new b hb with h1|⟨_,h2⟩
  ·exact .inl ⟨b,h1,(h.ext b h1).2.symm.trans e⟩
  ·exact .inr ⟨by omega,by rw[←e];exact h.rel.ltM hb⟩
 refine⟨⟨λb hb hn=>h.keep b hb λx hx e=>hn ⟨x,hx,e⟩,h.size,h.os,h.output,h.tape,λe hm=> ?_⟩,hi⟩
 rcases he e hm with h1|⟨a,ha,rfl⟩
 ·obtain⟨loc,wr,sy⟩:=e
  cases loc with
  |cell a=>
   obtain⟨h2,b,h3,h4⟩:=h1
   exact⟨h2, .inl (hi _ ⟨b,h3,h4⟩)⟩
  |obj r=>
   obtain⟨h2,b,h3,h4⟩:=h1
   exact⟨h2,hi _ ⟨b,h3,h4⟩⟩
  |mark m=>exact h1
  |output=>exact h1.elim
  |goroutines=>exact h1.elim
 ·exact⟨rfl, .inr ⟨by rw[ha];exact hro,rfl⟩⟩
theorem ci.kept(h:ci G T D ρ wL wM){wM':World}(hk:di (mg D ρ) wM wM'):ci G 0 D ρ wL wM':=
 ⟨h.inj,λb hb=>let ⟨o,h1,h2,h3⟩:=h.obj b hb;⟨o,h1,h2,λρ' hA=>by rw[hk.keep _ ⟨b,hb,rfl⟩];exact h3 ρ' hA⟩,λi hi=>by omega,h.glob,⟨h.far.1,h.far.2.1,Nat.le_trans h.far.2.2 hk.size⟩,h.out⟩
end
section
variable{Sh:Loc->Prop}{Own Own' Rd Rd':Nat->Loc->Prop}{t:Trace}{j:Nat}
theorem Gs(h:CT Sh Own Rd t j)(ho:∀i a,touchAt t i=some a->∀k,Own' k a.loc↔Own k a.loc)(hr:∀i a,touchAt t i=some a->∀k,Rd' k a.loc↔Rd k a.loc):CT Sh Own' Rd' t j:=
 {quiet:=h.quiet
  own:=λk k1 kj l hl i a ha e=>h.own k k1 kj l (by rw[←e];exact(ho i a ha k).1 (by rw[e];exact hl)) i a ha e
  rd:=λk k1 kj l hl i a ha e hw=>h.rd k k1 kj l (by rw[←e];exact(hr i a ha k).1 (by rw[e];exact hl)) i a ha e hw
  free:=λl hs hl i a ha e=>h.free l hs (λk k1 kj=>⟨λx=>(hl k k1 kj).1 (by rw[←e];exact(ho i a ha k).2 (by rw[e];exact x)),λx=>(hl k k1 kj).2 (by rw[←e];exact(hr i a ha k).2 (by rw[e];exact x))⟩) i a ha e
  mine:=λl hs hl i a ha e hw=>h.mine l hs (λk k1 kj x=>hl k k1 kj (by rw[←e];exact(ho i a ha k).2 (by rw[e];exact x))) i a ha e hw
  nr:=h.nr
  gs:=h.gs}
end
end Go.Proofs.YtkmoglhgkcnalaaDoor
namespace Go.Proofs.YtkmoglhgkcnalaaDoor
open Go Go.Conc
open Go.ConcN (sumTo upd sumTo_upd upd_ne upd_same CT Apart PermW WgLive)
open Go.ConcR (KK WgAt stA smA rd wr mk DC0)
abbrev cU:Go.ConcR.Payload:=⟨0⟩
def Jd(P:Program)(ty:TypeId)(Wg:Nat):Goroutine->World->Prop:= @Go.ConcN.AtK1 cU P ty Wg 0 0 0 1
def tX(ty:TypeId)(Wg:Nat):World->World->Prop:= @Go.ConcN.RW cU ty Wg 0 0 0 0
structure ap where
 P:Program
 ty:TypeId
 /-- the group's block;the list's;the type of the list's cells;how many there are;what each is to hold-/
 Wg:Nat
 C:Nat
 ety:TypeId
 n:Nat
 val:Nat->Value
 /-- what nobody writes-/
 RO:Nat->Prop
 /-- whose cell is whose-/
 mine:Nat->Nat->Prop
def ap.list(X:ap)(w:World):Prop:=∃cs,w.heap[X.C]?=some (.cells cs X.ety)/\cs.size=X.n
def ap.at(X:ap)(c:Nat):Addr:=⟨X.C,c,none⟩
structure aO (X:ap) (i:Nat) (V:Nat->Prop) (w w₁:World):Prop where
 own:di (λb=>V b\/X.RO b) w w₁
 live:WgLive X.ty X.Wg w->WgLive X.ty X.Wg w₁
 list:X.list w->X.list w₁
 cells:∀c,X.mine i c->w₁.cell? (X.at c)=w.cell? (X.at c)
theorem aO.refl(X:ap)(i:Nat)(V:Nat->Prop)(w:World):aO X i V w w:=⟨di.refl _ w,id,id,λ_ _=>rfl⟩
theorem aO.trans{X:ap}{i:Nat}{V:Nat->Prop}{w w₁ w₂:World}(h:aO X i V w w₁)(h':aO X i V w₁ w₂):aO X i V w w₂:=
 ⟨h.own.trans h'.own,h'.live∘h.live,h'.list∘h.list,λc hc=>(h'.cells c hc).trans (h.cells c hc)⟩
structure dQ where
 V:Nat->Prop
 g:Goroutine
 w:World
def uc(X:ap)(i:Nat)(x:dQ):Prop:=
 x.g.status= .running/\∀w₁,aO X i x.V x.w w₁->(∀c,X.mine i c->w₁.cell? (X.at c)=some (X.val c))/\
  ∃g',stepG X.P false x.g w₁= .go g' w₁ #[mk (.releaseMerge (stA X.Wg))]/\∃m,Goes X.P false (tX X.ty X.Wg) DC0 (Jd X.P X.ty X.Wg) m g' w₁
def iU(X:ap)(i:Nat)(V:Nat->Prop)(w w':World)(es:Array Event):Prop:=
 bB V X.RO w w' es\/∃c v,X.mine i c/\w'=w.setCell (X.at c) v/\es=#[⟨.cell (X.at c),true,false⟩]
def dQ.next(x:dQ)(w₁:World)(g':Goroutine)(w':World):dQ:=⟨bp x.V w₁ w',g',w'⟩
def aA(X:ap)(i:Nat)(x:dQ):Prop:=
 ∀Q:dQ->Prop,(∀x,uc X i x->Q x)->
  (∀x:dQ,x.g.status= .running->(∀w₁,aO X i x.V x.w w₁->∃g' w' es,stepG X.P false x.g w₁= .go g' w' es/\iU X i x.V w₁ w' es/\Q (x.next w₁ g' w'))->Q x)->Q x
section
variable{X:ap}{i:Nat}{x:dQ}
theorem aA.stop(h:uc X i x):aA X i x:=λ_ hs _=>hs x h
theorem aA.step(hr:x.g.status= .running)(h:∀w₁,aO X i x.V x.w w₁->∃g' w' es,stepG X.P false x.g w₁= .go g' w' es/\iU X i x.V w₁ w' es/\aA X i (x.next w₁ g' w')):aA X i x:=
 λQ hs hn=>hn x hr λw₁ h₁=>let ⟨g',w',es,h1,h2,h3⟩:=h w₁ h₁;⟨g',w',es,h1,h2,h3 Q hs hn⟩
theorem aA.cases(h:aA X i x):uc X i x\/(x.g.status= .running/\∀w₁,aO X i x.V x.w w₁->∃g' w' es,stepG X.P false x.g w₁= .go g' w' es/\iU X i x.V w₁ w' es/\aA X i (x.next w₁ g' w')):=by
 have key:=h (λx=>aA X i x/\(uc X i x\/(x.g.status= .running/\∀w₁,aO X i x.V x.w w₁->∃g' w' es,stepG X.P false x.g w₁= .go g' w' es/\iU X i x.V w₁ w' es/\aA X i (x.next w₁ g' w'))))
  (λx hs=>⟨aA.stop hs, .inl hs⟩) (λx hr hn=> ?_)
 ·exact key.2
 ·have h':∀w₁,aO X i x.V x.w w₁->∃g' w' es,stepG X.P false x.g w₁= .go g' w' es/\iU X i x.V w₁ w' es/\aA X i (x.next w₁ g' w'):=λw₁ h₁=>
   let ⟨g',w',es,h1,h2,h3⟩:=hn w₁ h₁
   ⟨g',w',es,h1,h2,h3.1⟩
  exact⟨aA.step hr h', .inr ⟨hr,h'⟩⟩
theorem aA.running(h:aA X i x):x.g.status= .running:=by
 rcases h.cases with h|h
 ·exact h.1
 ·exact h.1
def jw(X:ap)(i:Nat)(y x:dQ):Prop:=¬uc X i x/\∃w₁ g' w' es,aO X i x.V x.w w₁/\stepG X.P false x.g w₁= .go g' w' es/\y=x.next w₁ g' w'
theorem aA.acc(h:aA X i x):Acc (jw X i) x:=by
 refine h (λx=>Acc (jw X i) x) (λx hs=>⟨_,λy hy=>absurd hs hy.1⟩) λx _ hn=>⟨_,λy hy=> ?_⟩
 obtain⟨_,w₁,g',w',es,h1,h2,rfl⟩:=hy
 obtain⟨g2,w2,es2,h3,_,h4⟩:=hn w₁ h1
 rw[h3]at h2
 cases h2
 exact h4
end
structure aR (X:ap) (V:Nat->Prop) (w w₁:World):Prop where
 own:di (λb=>V b\/X.RO b) w w₁
 live:WgLive X.ty X.Wg w->WgLive X.ty X.Wg w₁
theorem aR.refl(X:ap)(V:Nat->Prop)(w:World):aR X V w w:=⟨di.refl _ w,id⟩
theorem aR.trans{X:ap}{V:Nat->Prop}{w w₁ w₂:World}(h:aR X V w w₁)(h':aR X V w₁ w₂):aR X V w w₂:=⟨h.own.trans h'.own,h'.live∘h.live⟩
def bD(X:ap)(Next:(Nat->Prop)->Goroutine->World->Prop):Nat->(Nat->Prop)->Goroutine->World->Prop
 |0,V,g,w=>∀w₁,aR X V w w₁->Next V g w₁
 |m+1,V,g,w=>(∀w₁,aR X V w w₁->Next V g w₁)\/(g.status= .running/\∀w₁,aR X V w w₁->∃g' w' es,stepG X.P true g w₁= .go g' w' es/\bB V X.RO w₁ w' es/\bD X Next m (bp V w₁ w') g' w')
section
variable{X:ap}{Next Next':(Nat->Prop)->Goroutine->World->Prop}{V:Nat->Prop}{g:Goroutine}{w w₁:World}
theorem bD.stop{m:Nat}(h:∀w₁,aR X V w w₁->Next V g w₁):bD X Next m V g w:=by
 cases m with
 |zero=>exact h
 |succ m=>exact .inl h
theorem bD.step{m:Nat}(hr:g.status= .running)(h:∀w₁,aR X V w w₁->∃g' w' es,stepG X.P true g w₁= .go g' w' es/\bB V X.RO w₁ w' es/\bD X Next m (bp V w₁ w') g' w'):bD X Next (m+1) V g w:= .inr ⟨hr,h⟩
theorem bD.rely:∀{m:Nat} {V:Nat->Prop} {g:Goroutine} {w w₁:World},bD X Next m V g w->aR X V w w₁->bD X Next m V g w₁
 |0,_,_,_,_,h,hr=>λw₂ h₂=>h w₂ (hr.trans h₂)
 |_+1,_,_,_,_,h,hr=>h.elim (λh=> .inl λw₂ h₂=>h w₂ (hr.trans h₂)) λ⟨hs,h⟩=> .inr ⟨hs,λw₂ h₂=>h w₂ (hr.trans h₂)⟩
theorem bD.mono(hN:∀V g w,Next V g w->Next' V g w):∀{m:Nat} {V:Nat->Prop} {g:Goroutine} {w:World},bD X Next m V g w->bD X Next' m V g w
 |0,_,_,_,h=>λw₁ h₁=>hN _ _ _ (h w₁ h₁)
 |_+1,_,_,_,h=>h.elim (λh=> .inl λw₁ h₁=>hN _ _ _ (h w₁ h₁)) λ⟨hs,h⟩=> .inr ⟨hs,λw₁ h₁=>let ⟨g',w',es,h1,h2,h3⟩:=h w₁ h₁;⟨g',w',es,h1,h2,bD.mono hN h3⟩⟩
theorem bD.running{m:Nat}(hN:∀V g w,Next V g w->g.status= .running)(h:bD X Next m V g w):g.status= .running:=by
 cases m with
 |zero=>exact hN _ _ _ (h w (aR.refl X V w))
 |succ m=>exact h.elim (λh=>hN _ _ _ (h w (aR.refl X V w))) λh=>h.1
theorem bD.trans{Mid:(Nat->Prop)->Goroutine->World->Prop}{k:Nat}:∀{m:Nat} {V:Nat->Prop} {g:Goroutine} {w:World},bD X Mid m V g w->(∀V g w,Mid V g w->bD X Next k V g w)->bD X Next (m+k) V g w
 |0,V,g,w,h,hM=>by
  have h0:=hM V g w (h w (aR.refl X V w))
  rw[Nat.zero_add]
  exact h0
 |m+1,V,g,w,h,hM=>by
  rw[show m+1+k=(m+k)+1 from by omega]
  rcases h with h|⟨hs,h⟩
  ·have h0:=hM V g w (h w (aR.refl X V w))
   have up:∀{k:Nat} {V:Nat->Prop} {g:Goroutine} {w:World},bD X Next k V g w->∀e,bD X Next (e+k) V g w:=by
    intro k
    induction k with
    |zero=>exact λh e=>bD.stop h
    |succ k ih=>
     intro V g w h e
     rw[show e+(k+1)=(e+k)+1 from by omega]
     exact h.elim .inl λ⟨hs,h⟩=> .inr ⟨hs,λw₁ h₁=>let ⟨g',w',es,h1,h2,h3⟩:=h w₁ h₁;⟨g',w',es,h1,h2,ih h3 e⟩⟩
   rw[show m+k+1=(m+1)+k from by omega]
   exact up h0 (m+1)
  ·exact .inr ⟨hs,λw₁ h₁=>let ⟨g',w',es,h1,h2,h3⟩:=h w₁ h₁;⟨g',w',es,h1,h2,bD.trans h3 hM⟩⟩
theorem cM(V RO:Nat->Prop)(w:World):bB V RO w w #[]:=⟨λ_ _ _=>rfl,Nat.le_refl _,rfl,rfl,rfl,λe he=>by simp at he⟩
theorem bJ(V:Nat->Prop)(w:World):bp V w w=V:=by
 funext b
 apply propext
 exact⟨λh=>h.elim id λh=>absurd h.2 (Nat.not_lt.2 h.1), .inl⟩
theorem bD.of_goes{Stop:Goroutine->World->Prop}:∀{m:Nat} {g:Goroutine} {w:World},Goes X.P true (aR X V) DC0 Stop m g w->bD X (λV' g w=>V'=V/\Stop g w) m V g w
 |0,_,_,h=>λw₁ h₁=>⟨rfl,h w₁ h₁⟩
 |m+1,g,w,h=>by
  rcases h with h|⟨hs,h⟩
  ·exact .inl λw₁ h₁=>⟨rfl,h w₁ h₁⟩
  ·refine .inr ⟨hs,λw₁ h₁=> ?_⟩
   have hg:=h w₁ h₁
   cases hst:stepG X.P true g w₁ with
   |go g' w' es=>
    rw[hst,goes_go]at hg
    obtain⟨⟨h1,h2⟩,h3⟩:=hg
    subst h1 h2
    refine⟨g',w',#[],rfl,cM _ _ _, ?_⟩
    rw[bJ]
    exact bD.of_goes h3
   |_=>rw[hst]at hg;exact hg.elim
end
end Go.Proofs.YtkmoglhgkcnalaaDoor
namespace Go.Proofs.YtkmoglhgkcnalaaDoor
open Go Go.Conc
section
variable{X:ap}{i:Nat}{PL:Program}{G:Nat}{Stop:Goroutine->World->Prop}{base:List Frame}
theorem eR.mono{V V' RO:Nat->Prop}{e:Event}(h:eR V RO e)(hv:∀b,V b->V' b):eR V' RO e:=by
 obtain⟨loc,wr,sy⟩:=e
 cases loc with
 |cell a=>exact⟨h.1,h.2.imp (hv _) id⟩
 |obj b=>exact⟨h.1,hv _ h.2⟩
 |_=>exact h
theorem bB.mono{V V' RO:Nat->Prop}{w w':World}{es:Array Event}(h:bB V RO w w' es)(hv:∀b,V b->V' b):bB V' RO w w' es:=
 ⟨λb hb hn=>h.keep b hb λx=>hn (hv b x),h.size,h.os,h.output,h.tape,λe he=>(h.ev e he).mono λb hb=>hb.imp (hv b) id⟩
end
end Go.Proofs.YtkmoglhgkcnalaaDoor
namespace Go.Proofs.YtkmoglhgkcnalaaDoor
open Go Go.Conc
open Go.ConcR (DC0)
section
variable{X:ap}{i:Nat}{V:Nat->Prop}{Stop:Goroutine->World->Prop}
theorem nG{RO:Nat->Prop}{w:World}{es:Array Event}(h:∀e∈es,eR V RO e):bB V RO w w es:=⟨λ_ _ _=>rfl,Nat.le_refl _,rfl,rfl,rfl,λe he=>(h e he).mono λ_ hb=> .inl hb⟩
theorem lX(V RO:Nat->Prop)(w:World)(o:Obj):bB V RO w (w.alloc o) #[]:=
 ⟨λb hb _=>by show(w.heap.push o)[b]?=_;rw[Array.getElem?_push,if_neg (Nat.ne_of_lt hb)],by show _<=(w.heap.push o).size;rw[Array.size_push];omega,rfl,rfl,rfl,λe he=>by simp at he⟩
theorem zt{RO:Nat->Prop}{w:World}{a:Addr}(ha:V a.block)(v:Value):bB V RO w (w.setCell a v) #[⟨.cell a,true,false⟩]:=
 ⟨λb _ hb=>by simp only[World.setCell];exact jm λe=>hb (e▸ha),by simp[World.setCell],rfl,rfl,rfl,λe he=>by simp only[List.mem_toArray,List.mem_singleton]at he;subst he;exact⟨rfl, .inl (.inl ha)⟩⟩
theorem aA.own{g:Goroutine}{w:World}(hr:g.status= .running)(h:∀w₁,aO X i V w w₁->∃g' w' es,stepG X.P false g w₁= .go g' w' es/\bB V X.RO w₁ w' es/\aA X i ⟨bp V w₁ w',g',w'⟩):aA X i ⟨V,g,w⟩:=
 aA.step hr λw₁ h₁=>let ⟨g',w',es,h1,h2,h3⟩:=h w₁ h₁;⟨g',w',es,h1, .inl h2,h3⟩
theorem aA.put{g:Goroutine}{w:World}(hr:g.status= .running)(h:∀w₁,aO X i V w w₁->∃g' c v,X.mine i c/\stepG X.P false g w₁= .go g' (w₁.setCell (X.at c) v) #[⟨.cell (X.at c),true,false⟩]/\aA X i ⟨V,g',w₁.setCell (X.at c) v⟩):aA X i ⟨V,g,w⟩:=by
 refine aA.step hr λw₁ h₁=> ?_
 obtain⟨g',c,v,h1,h2,h3⟩:=h w₁ h₁
 refine⟨g',_,_,h2, .inr ⟨c,v,h1,rfl,rfl⟩, ?_⟩
 have e:bp V w₁ (w₁.setCell (X.at c) v)=V:=by
  funext b
  apply propext
  exact⟨λh=>h.elim id λh=>absurd h.2 (by simpa[World.setCell]using h.1), .inl⟩
 show aA X i ⟨bp V w₁ (w₁.setCell (X.at c) v),g',_⟩
 rw[e]
 exact h3
end
end Go.Proofs.YtkmoglhgkcnalaaDoor
namespace Go.Proofs.YtkmoglhgkcnalaaDoor
open Go Go.Conc
open Go.ConcN (WgLive)
open Go.ConcR (KK WgAt stA smA rd wr DC0)
section
variable{P:Program}{main:Bool}{R R':World->World->Prop}{D':World->World->Array Event->Prop}{Stop:Goroutine->World->Prop}{rel:Mark}
def GX(P:Program)(main:Bool)(g:Goroutine)(w:World):Prop:=∃g',stepG P main g w= .go g' w #[Go.ConcR.mk .disable]
def zi(P:Program)(main:Bool)(R:World->World->Prop)(rel:Mark)(g:Goroutine)(w:World):Prop:=
 g.status= .running/\∃g',stepG P main g w= .go g' w #[Go.ConcR.mk rel]/\∃m,Goes P main R DC0 (GX P main) m g' w
theorem Df{a b:Mark}(h:(#[Go.ConcR.mk a]:Array Event)=#[Go.ConcR.mk b]):a=b:=by
 simpa[Go.ConcR.mk]using h
theorem FT(hrel:rel≠ .disable)(hR:∀w,R w w)(hR':∀w,R' w w)(hS:∀g w,Stop g w->∃g',stepG P main g w= .go g' w #[Go.ConcR.mk rel])(hD:∀w w',¬D' w w' #[Go.ConcR.mk .disable]):
 ∀(m n:Nat) (g:Goroutine) (w:World),Goes P main R DC0 (GX P main) m g w->Goes P main R' D' Stop n g w->False:=by
 have stopped:∀n g w,Goes P main R' D' Stop n g w->∀g' es,stepG P main g w= .go g' w es->es≠#[Go.ConcR.mk rel]->D' w w es/\∃n',n=n'+1/\Goes P main R' D' Stop n' g' w:=by
  intro n g w h g' es hst hne
  rcases Goes.cases h with hs|⟨n',rfl,hs⟩
  ·obtain⟨g1,h1⟩:=hS g w (hs w (hR' w))
   rw[hst]at h1
   cases h1
   exact absurd rfl hne
  ·obtain⟨g1,w1,es1,h1,h2,h3⟩:=hs w (hR' w)
   rw[hst]at h1
   cases h1
   exact⟨h2,n',rfl,h3⟩
 intro m
 induction m with
 |zero=>
  intro n g w h h'
  obtain⟨g',hst⟩:=h w (hR w)
  exact hD _ _ (stopped n g w h' g' _ hst λe=>hrel (Df e).symm).1
 |succ m ih=>
  intro n g w h h'
  rcases Goes.cases h with hs|⟨m',e,hs⟩
  ·obtain⟨g',hst⟩:=hs w (hR w)
   exact hD _ _ (stopped n g w h' g' _ hst λe=>hrel (Df e).symm).1
  ·cases e
   obtain⟨g',w',es,hst,⟨rfl,rfl⟩,h2⟩:=hs w (hR w)
   obtain⟨_,n',rfl,h3⟩:=stopped n g w' h' g' _ hst (by simp)
   exact ih n' g' w' h2 h3
theorem yN(hrel:rel≠ .disable)(hR:∀w,R w w)(hR':∀w,R' w w)(hsub:∀w w',R w w'->R' w w')(htr:∀a b c,R' a b->R' b c->R' a c)(hS:∀g w,Stop g w->∃g',stepG P main g w= .go g' w #[Go.ConcR.mk rel])(hD:∀w w',¬D' w w' #[Go.ConcR.mk .disable]):
 ∀(m n:Nat) (g:Goroutine) (w:World),Goes P main R DC0 (zi P main R rel) m g w->Goes P main R' D' Stop n g w->Goes P main R DC0 Stop m g w:=by
 have cand:∀n g w,zi P main R rel g w->Goes P main R' D' Stop n g w->Stop g w:=by
  intro n g w ⟨_,g',hst,m,hm⟩ h
  rcases Goes.cases h with hs|⟨n',rfl,hs⟩
  ·exact hs w (hR' w)
  ·exfalso
   obtain⟨g1,w1,es1,h1,h2,h3⟩:=hs w (hR' w)
   rw[hst]at h1
   cases h1
   exact FT hrel hR hR' hS hD m n' _ _ hm h3
 intro m
 induction m with
 |zero=>exact λn g w h h' w₁ h₁=>cand n g w₁ (h w₁ h₁) (Goes.rely htr h' (hsub _ _ h₁))
 |succ m ih=>
  intro n g w h h'
  rcases h with h|⟨hs,h⟩
  ·exact .inl λw₁ h₁=>cand n g w₁ (h w₁ h₁) (Goes.rely htr h' (hsub _ _ h₁))
  ·refine .inr ⟨hs,λw₁ h₁=> ?_⟩
   have hg:=h w₁ h₁
   cases hst:stepG P main g w₁ with
   |go g' w' es=>
    rw[hst,goes_go]at hg
    rw[goes_go]
    obtain⟨⟨h1,h2⟩,h3⟩:=hg
    subst h1 h2
    refine⟨⟨rfl,rfl⟩, ?_⟩
    have h'':=Goes.rely htr h' (hsub _ _ h₁)
    rcases Goes.cases h'' with hq|⟨n',rfl,hq⟩
    ·obtain⟨g1,e1⟩:=hS g _ (hq _ (hR' _))
     rw[hst]at e1
     simp at e1
    ·obtain⟨g1,w1,es1,e1,_,e3⟩:=hq _ (hR' _)
     rw[hst]at e1
     cases e1
     exact ih n' _ _ h3 e3
   |_=>rw[hst]at hg;exact hg.elim
end
end Go.Proofs.YtkmoglhgkcnalaaDoor
namespace Go.Proofs.YtkmoglhgkcnalaaDoor
open Go Go.Conc
open Go.ConcN (sumTo upd sumTo_upd upd_ne upd_same CT Apart PermW WgLive)
open Go.ConcR (KK WgAt stA smA rd wr mk DC0)
section
variable(X:ap)(Fin Anch:(Nat->Prop)->Goroutine->World->Prop)
def zd(m:Mark)(Next:(Nat->Prop)->Goroutine->World->Prop)(V:Nat->Prop)(g:Goroutine)(w:World):Prop:=
 g.status= .running/\∃g',stepG X.P true g w= .go g' w #[mk m]/\∃k,bD X Next k V g' w
def GY:=zd X (.acquire (stA X.Wg)) Fin
def Je:=zd X .enable (GY X Fin)
def K6(V:Nat->Prop)(g:Goroutine)(w:World):Prop:=
 g.status= .running/\(WgAt X.ty X.Wg w 0 0->∃g',stepG X.P true g w= .go g' w #[rd (stA X.Wg)]/\∃k,bD X (Je X Fin) k V g' w)
def Jc(V:Nat->Prop)(g:Goroutine)(w:World):Prop:=
 g.status= .running/\g.offers=none/\((∃st,WgAt X.ty X.Wg w st 0)->stepG X.P true g w= .go {g with status:= .blocked} w #[])/\
  (WgAt X.ty X.Wg w 0 1->∃g',stepG X.P true g w= .go g' (w.setCell (smA X.Wg) (.int .u32 0)) (semEvents (smA X.Wg))/\∃k,bD X (K6 X Fin) k V g' (w.setCell (smA X.Wg) (.int .u32 0)))
def K5:=zd X (.write (smA X.Wg)) (Jc X Fin)
def K7(vs:Nat)(V:Nat->Prop)(g:Goroutine)(w:World):Prop:=
 g.status= .running/\∀v:Nat,v<2147483648->WgAt X.ty X.Wg w (v*KK) 0->
  (v=vs->∃g',stepG X.P true g w= .go g' (w.setCell (stA X.Wg) (.int .u64 (v*KK+1))) #[rd (stA X.Wg),wr (stA X.Wg)]/\∃k,bD X (K5 X Fin) k V g' (w.setCell (stA X.Wg) (.int .u64 (v*KK+1))))/\
  (v≠vs->∃g',stepG X.P true g w= .go g' w #[rd (stA X.Wg)]/\∃k,bD X Anch k V g' w)
def qa(V:Nat->Prop)(g:Goroutine)(w:World):Prop:=
 g.status= .running/\∀v:Nat,v<2147483648->WgAt X.ty X.Wg w (v*KK) 0->∃g',stepG X.P true g w= .go g' w #[rd (stA X.Wg)]/\
  (v=0->∃k,bD X (Je X Fin) k V g' w)/\(v≠0->∃k,bD X (K7 X Fin Anch v) k V g' w)
def EJ:=zd X .disable Anch
def Jf(i:Nat)(Next:(Nat->Prop)->Goroutine->World->Prop)(V:Nat->Prop)(g:Goroutine)(w:World):Prop:=
 g.status= .running/\∃g' child Vc,stepG X.P true g w= .spawn g' child w #[]/\(∀b,Vc b->V b)/\(X.list w->(∀b,Vc b->b<w.heap.size)->aA X i ⟨Vc,child,w⟩)/\Next (λb=>V b/\¬Vc b) g' w
def EI(i:Nat)(Next:(Nat->Prop)->Goroutine->World->Prop):=zd X .enable (Jf X i Next)
def K8(i:Nat)(Next:(Nat->Prop)->Goroutine->World->Prop):=zd X (.read (smA X.Wg)) (EI X i Next)
def K9(i:Nat)(Next:(Nat->Prop)->Goroutine->World->Prop)(V:Nat->Prop)(g:Goroutine)(w:World):Prop:=
 g.status= .running/\∀v:Nat,v<2147483647->WgAt X.ty X.Wg w (v*KK) 0->
  ∃g',stepG X.P true g w= .go g' (w.setCell (stA X.Wg) (.int .u64 ((v+1)*KK))) #[rd (stA X.Wg),wr (stA X.Wg)]/\
   (v=0->∃k,bD X (K8 X i Next) k V g' (w.setCell (stA X.Wg) (.int .u64 ((v+1)*KK))))/\(v≠0->∃k,bD X (EI X i Next) k V g' (w.setCell (stA X.Wg) (.int .u64 ((v+1)*KK))))
def xw(i:Nat)(Next:(Nat->Prop)->Goroutine->World->Prop):=zd X .disable (K9 X i Next)
def ju(n:Nat):Nat->(Nat->Prop)->Goroutine->World->Prop
 |0,V,g,w=>∃k,bD X (EJ X Anch) k V g w
 |r+1,V,g,w=>∃k,bD X (xw X (n-(r+1)) (ju n r)) k V g w
end
end Go.Proofs.YtkmoglhgkcnalaaDoor
namespace Go.Proofs.YtkmoglhgkcnalaaDoor
open Go Go.Conc
open Go.ConcN (sumTo upd sumTo_upd upd_ne upd_same CT Apart PermW WgLive RelBy WD ShN OkW Ok0)
open Go.ConcR (KK WgAt stA smA rd wr mk DC0)
abbrev xr(X:ap):Nat->Nat->Nat->Goroutine->World->Prop:= @Go.ConcN.WSit cU X.P X.ty X.Wg 0 0 (λ_ _=>False) (λ_ _=>False) 0 1 .nilFunc
def fN(S:Nat->Prop)(Wg:Nat)(l:Loc):Prop:=eh (λb=>S b\/b=Wg) l
def nH(X:ap)(m j:Nat)(Nd:Nat->dQ)(k:Nat)(l:Loc):Prop:=∃i,i<j/\k=1+m+i/\(cV (Nd i).V l\/∃c,X.mine i c/\l= .cell (X.at c))
def us(X:ap)(m:Nat)(k:Nat)(l:Loc):Prop:=m<k/\cV X.RO l
structure ic (X:ap) (S:Nat->Prop) (j:Nat) (Nd:Nat->dQ) (V0:Nat->Prop) (w:World):Prop where
 mine:∀i i' c,X.mine i c->X.mine i' c->i=i'
 wgc:X.Wg≠X.C
 wgl:X.Wg<w.heap.size/\X.C<w.heap.size
 ro:∀b,X.RO b->b<w.heap.size/\b≠X.Wg/\b≠X.C
 sh:∀b,S b->b<w.heap.size/\¬X.RO b/\b≠X.C
 v0:∀b,V0 b->b<w.heap.size/\¬X.RO b/\b≠X.Wg/\b≠X.C/\¬S b
 priv:∀i,i<j->∀b,(Nd i).V b->b<w.heap.size/\¬X.RO b/\b≠X.Wg/\b≠X.C/\¬S b/\¬V0 b
 two:∀i i',i<j->i'<j->∀b,(Nd i).V b->(Nd i').V b->i=i'
section
variable{X:ap}{S:Nat->Prop}{m j:Nat}{Nd:Nat->dQ}{V0:Nat->Prop}{w w':World}
theorem eE{A B:Nat->Prop}{l:Loc}(ha:cV A l)(hb:cV B l):∃b,A b/\B b:=by
 cases l with
 |cell a=>exact⟨_,ha,hb⟩
 |obj r=>exact⟨_,ha,hb⟩
 |_=>exact ha.elim
theorem uh{A B:Nat->Prop}{l:Loc}(ha:cV A l)(hb:eh B l):∃b,A b/\B b:=by
 rcases hb with hb|hb
 ·exact eE ha hb
 ·cases l with
  |cell a=>cases hb
  |obj r=>cases hb
  |_=>exact ha.elim
theorem ic.apart(h:ic X S j Nd V0 w):Apart (fN S X.Wg) (nH X m j Nd) (us X m):=by
 refine⟨λk k' l ⟨i,hi,hk,ho⟩ ⟨i',hi',hk',ho'⟩=> ?_,λk k' l ⟨i,hi,hk,ho⟩ ⟨_,hr⟩=> ?_,λk l ⟨i,hi,hk,ho⟩ hs=> ?_,λk l ⟨_,hr⟩ hs=> ?_⟩
 ·have:i=i':=by
   rcases ho with ho|⟨c,hc,rfl⟩<;>rcases ho' with ho'|⟨c',hc',e⟩
   ·obtain⟨b,h1,h2⟩:=eE ho ho'
    exact h.two i i' hi hi' b h1 h2
   ·subst e
    exact absurd rfl (h.priv i hi _ ho).2.2.2.1
   ·exact absurd rfl (h.priv i' hi' _ ho').2.2.2.1
   ·simp only[ap.at,Loc.cell.injEq,Addr.mk.injEq,true_and,and_true]at e
    subst e
    exact h.mine i i' c hc hc'
  omega
 ·rcases ho with ho|⟨c,hc,rfl⟩
  ·obtain⟨b,h1,h2⟩:=eE ho hr
   exact(h.priv i hi b h1).2.1 h2
  ·exact absurd rfl (h.ro _ hr).2.2
 ·rcases ho with ho|⟨c,hc,rfl⟩
  ·obtain⟨b,h1,h2⟩:=uh ho hs
   exact h2.elim (h.priv i hi b h1).2.2.2.2.1 (h.priv i hi b h1).2.2.1
  ·have hs':S X.C\/X.C=X.Wg:=hs.elim id λh=>by cases h
   exact hs'.elim (λhs=>absurd rfl (h.sh _ hs).2.2) λe=>h.wgc e.symm
 ·obtain⟨b,h1,h2⟩:=uh hr hs
  exact h2.elim (λh2=>(h.sh b h2).2.1 h1) (h.ro b h1).2.1
theorem ic.grow(h:ic X S j Nd V0 w)(hs:w.heap.size<=w'.heap.size):ic X S j Nd V0 w':=
 ⟨h.mine,h.wgc,⟨by have:=h.wgl.1;omega,by have:=h.wgl.2;omega⟩,λb hb=>⟨by have:=(h.ro b hb).1;omega,(h.ro b hb).2⟩,λb hb=>⟨by have:=(h.sh b hb).1;omega,(h.sh b hb).2⟩,λb hb=>⟨by have:=(h.v0 b hb).1;omega,(h.v0 b hb).2⟩,λi hi b hb=>⟨by have:=(h.priv i hi b hb).1;omega,(h.priv i hi b hb).2⟩,h.two⟩
theorem ic.work(h:ic X S j Nd V0 w){i:Nat}(hi:i<j){g':Goroutine}{wl:World}(hs:w.heap.size<=w'.heap.size):ic X S j (upd Nd i ⟨bp (Nd i).V w w',g',wl⟩) V0 w':=by
 have hg:=h.grow hs
 have hnew:∀b,w.heap.size<=b/\b<w'.heap.size->b<w'.heap.size/\¬X.RO b/\b≠X.Wg/\b≠X.C/\¬S b/\¬V0 b:=λb hb=>
  ⟨hb.2,λhr=>by have:=(h.ro b hr).1;omega,by have:=h.wgl.1;omega,by have:=h.wgl.2;omega,λhr=>by have:=(h.sh b hr).1;omega,λhr=>by have:=(h.v0 b hr).1;omega⟩
 refine⟨hg.mine,hg.wgc,hg.wgl,hg.ro,hg.sh,hg.v0,λk hk b hb=> ?_,λk k' hk hk' b hb hb'=> ?_⟩
 ·by_cases e:k=i
  ·subst e
   rw[upd_same]at hb
   rcases hb with hb|hb
   ·exact hg.priv k hk b hb
   ·exact hnew b hb
  ·rw[upd_ne Nd _ e]at hb
   exact hg.priv k hk b hb
 ·by_cases e:k=i<;>by_cases e':k'=i
  ·omega
  ·subst e
   rw[upd_same]at hb
   rw[upd_ne Nd _ e']at hb'
   rcases hb with hb|hb
   ·exact h.two k k' hk hk' b hb hb'
   ·have:=(h.priv k' hk' b hb').1
    omega
  ·subst e'
   rw[upd_same]at hb'
   rw[upd_ne Nd _ e]at hb
   rcases hb' with hb'|hb'
   ·exact h.two k k' hk hk' b hb hb'
   ·have:=(h.priv k hk b hb).1
    omega
  ·rw[upd_ne Nd _ e]at hb
   rw[upd_ne Nd _ e']at hb'
   exact h.two k k' hk hk' b hb hb'
theorem ic.main(h:ic X S j Nd V0 w)(hs:w.heap.size<=w'.heap.size):ic X S j Nd (bp V0 w w') w':=by
 have hg:=h.grow hs
 refine⟨hg.mine,hg.wgc,hg.wgl,hg.ro,hg.sh,λb hb=> ?_,λk hk b hb=> ?_,hg.two⟩
 ·rcases hb with hb|hb
  ·exact hg.v0 b hb
  ·exact⟨hb.2,λhr=>by have:=(h.ro b hr).1;omega,by have:=h.wgl.1;omega,by have:=h.wgl.2;omega,λhr=>by have:=(h.sh b hr).1;omega⟩
 ·obtain⟨h1,h2,h3,h4,h5,h6⟩:=hg.priv k hk b hb
  refine⟨h1,h2,h3,h4,h5,λhv=>hv.elim h6 λhv=> ?_⟩
  have:=(h.priv k hk b hb).1
  omega
end
end Go.Proofs.YtkmoglhgkcnalaaDoor
namespace Go.Proofs.YtkmoglhgkcnalaaDoor
open Go Go.Conc
open Go.ConcN (sumTo upd sumTo_upd upd_ne upd_same CT Apart PermW WgLive RelBy WD ShN OkW Ok0 norel_of)
open Go.ConcR (KK WgAt stA smA rd wr mk DC0)
structure ie (X:ap) (S:Nat->Prop) (m j:Nat) (gs:Array Goroutine) (w:World) (t:Trace) (D:Nat->WD) (Nd:Nat->dQ) (V0:Nat->Prop) (d0:Nat) (q:Nat->Nat):Prop where
 size:gs.size=1+m+j
 old:∀i,0<i->i<=m->∃g,gs[i]?=some g/\QuitsD X.P (q i) (Deaf t i) g
 wk:∀i,i<j->∃g,gs[1+m+i]?=some g/\(((D i).stage=7/\(D i).fuel=0/\(D i).deaf=0/\g=(Nd i).g/\aA X i (Nd i)/\aO X i (Nd i).V (Nd i).w w)\/((D i).stage<=6/\xr X (D i).stage (D i).fuel (D i).deaf g w))
 lies:ic X S j Nd V0 w
 tabRO:X.RO 0
 ct:CT (fN S X.Wg) (nH X m j Nd) (us X m) t (m+j)
 norel:NoRelease (stA X.Wg) t
 deaf0:Deaf t 0=d0
 deafW:∀i,i<j->Deaf t (1+m+i)=(D i).deaf
 rel:∀i,i<j->(D i).stage<=6->∃r,RelBy (stA X.Wg) t (1+m+i) r
 has:∀i,i<j->(D i).stage<=6->∀c,X.mine i c->w.cell? (X.at c)=some (X.val c)
 list:X.list w
 seen:∀op∈t,op.act.low w.heap.size
 over:∀(i g:Nat),t.g? i=some g->g≠0->g<=m->t.counts i->∃k,t.g? k=some 0/\HappensBefore t i k
 known:∀(i:Nat) (a:Touch) (g:Nat),touchAt t i=some a->t.g? i=some g->g<=m->a.loc.isMemory=true->Knows t 0 i\/(fN S X.Wg a.loc/\a.kind= .atomic)
 atom:∀(i:Nat) (a:Touch) (g:Nat),touchAt t i=some a->t.g? i=some g->m<g->a.kind= .atomic->fN S X.Wg a.loc
section
variable{X:ap}{S:Nat->Prop}{m j:Nat}{gs:Array Goroutine}{w w':World}{t:Trace}{D:Nat->WD}{Nd:Nat->dQ}{V0:Nat->Prop}{d0:Nat}{q:Nat->Nat}
theorem FO{Sh:Loc->Prop}{Own Rd:Nat->Loc->Prop}{k:Nat}{V RO:Nat->Prop}(hv:∀l,cV V l->Own k l)(hr:∀l,cV RO l->Rd k l){e:Event}(he:eR V RO e)(fn:FuncId)(pos:String):OkW Sh Own Rd k {g:=k,fn,pos,act:= .ofEvent e}:=by
 refine⟨rfl,λx hx=> ?_⟩
 obtain⟨loc,wr,sy⟩:=e
 cases loc with
 |cell a=>
  obtain⟨rfl,h⟩:=he
  have hx':(MemAct.access ⟨.cell a,wr,false⟩).touch?=some x:=hx
  simp only[MemAct.touch?,Option.some.injEq]at hx'
  subst hx'
  rcases h with h|⟨h,h2⟩
  ·exact .inr (.inl (hv (.cell a) h))
  ·exact .inr (.inr ⟨hr (.cell a) h,h2⟩)
 |obj r=>
  obtain⟨rfl,h⟩:=he
  have hx':(MemAct.ofEvent ⟨.obj r,wr,false⟩).touch?=some x:=hx
  simp only[MemAct.ofEvent,MemAct.touch?,Option.some.injEq]at hx'
  subst hx'
  exact .inr (.inl (hv (.obj r) h))
 |mark mm=>
  have hm:ep mm=true:=he
  cases mm with
  |extern f=>cases hx
  |noRoom=>cases hx
  |_=>simp[ep]at hm
 |output=>exact he.elim
 |goroutines=>exact he.elim
theorem AO{V RO:Nat->Prop}{e:Event}(he:eR V RO e){x:Touch}(hx:(MemAct.ofEvent e).touch?=some x):x.kind= .plain:=by
 obtain⟨loc,wr,sy⟩:=e
 cases loc with
 |cell a=>
  obtain⟨rfl,h⟩:=he
  have hx':(MemAct.access ⟨.cell a,wr,false⟩).touch?=some x:=hx
  simp only[MemAct.touch?,Option.some.injEq]at hx'
  subst hx'
  rfl
 |obj r=>
  obtain⟨rfl,h⟩:=he
  simp only[MemAct.ofEvent,MemAct.touch?,Option.some.injEq]at hx
  subst hx
  rfl
 |mark mm=>
  have hm:ep mm=true:=he
  cases mm with
  |extern f=>cases hx
  |noRoom=>cases hx
  |_=>simp[ep]at hm
 |output=>exact he.elim
 |goroutines=>exact he.elim
theorem Lx{V RO:Nat->Prop}{B:Nat}(hv:∀b,V b->b<B)(hr:∀b,RO b->b<B){e:Event}(he:eR V RO e):(MemAct.ofEvent e).low B:=by
 obtain⟨loc,wr,sy⟩:=e
 cases loc with
 |cell a=>
  obtain⟨rfl,h⟩:=he
  show a.block<B
  rcases h with h|⟨h,_⟩
  ·exact hv _ h
  ·exact hr _ h
 |obj r=>
  obtain⟨rfl,h⟩:=he
  simp only[MemAct.ofEvent,MemAct.low,Loc.low]
  exact hv _ h
 |mark mm=>
  have hm:ep mm=true:=he
  cases mm with
  |extern f=>trivial
  |noRoom=>trivial
  |_=>simp[ep]at hm
 |output=>exact he.elim
 |goroutines=>exact he.elim
theorem ik{V RO:Nat->Prop}{e:Event}(he:eR V RO e):e.loc≠ .mark .disable/\e.loc≠ .mark .enable/\∀a,e.loc≠ .mark (.release a):=by
 obtain⟨loc,wr,sy⟩:=e
 cases loc with
 |mark mm=>
  have hm:ep mm=true:=he
  cases mm with
  |extern f=>exact⟨(by intro h;cases h),(by intro h;cases h),λa h=>(by cases h)⟩
  |noRoom=>exact⟨(by intro h;cases h),(by intro h;cases h),λa h=>(by cases h)⟩
  |_=>simp[ep]at hm
 |_=>exact⟨(by intro h;cases h),(by intro h;cases h),λa h=>(by cases h)⟩
theorem oU{B:Nat}(h:∀op∈t,op.act.low B){i:Nat}{a:Touch}(ha:touchAt t i=some a):a.loc.low B:=by
 obtain⟨x,hx,hxa⟩:=touch_of ha
 have hl:=h x (Array.mem_of_getElem? hx)
 cases hact:x.act with
 |access e=>rw[hact]at hl hxa;simp only[MemAct.touch?,Option.some.injEq]at hxa;subst hxa;exact hl
 |mark mm=>
  rw[hact]at hl hxa
  cases mm<;>simp only[MemAct.touch?]at hxa<;>first|(cases hxa;done)|(simp only[Option.some.injEq]at hxa;subst hxa;exact hl)
 |_=>rw[hact]at hxa;simp[MemAct.touch?]at hxa
end
end Go.Proofs.YtkmoglhgkcnalaaDoor
