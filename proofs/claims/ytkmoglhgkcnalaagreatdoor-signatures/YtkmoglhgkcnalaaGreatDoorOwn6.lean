/- A part of what the last text of the claim imports: texts laid together, and made small, by a program. -/
import Derived.Conc.CrowdStepC2
import Derived.Conc.CrowdRun
import Derived.Test.YtkmoglhgkcnalaaGreatDoorOwn4
set_option maxHeartbeats 16000000
set_option maxRecDepth 100000
namespace Go.Proofs.YtkmoglhgkcnalaaGreatDoor
open Go
variable{n b i N l m k j:Nat}{w w':World}{fr:Frame}{v:Value}{cs:List Frame}{args cv:Array Value}{V RO D:Nat->Prop}{q main listen:Bool}{g:Goroutine}{a:Act}{K:List Item}{P:Program}{x:Operand}{ops:Array Oper}{KS:List Int}{t u:TypeId}{o:Oper}{f:FuncId}{es:Array Event}{Goal:Goroutine->World->Prop}{fn:Func}{rest:List Nat}{ds:List Deferred}{X:Ln}{F:List (Nat×Value)}{e:Event}{listed:Array Bool}{c:Int}{s msg key sig:ByteArray}
section
open Go Go.Conc
open Go.ConcN (sumTo upd sumTo_upd upd_ne upd_same CT Apart PermW WgLive RelBy WD ShN OkW Ok0 norel_of)
open Go.ConcR (KK WgAt stA smA rd wr mk DC0)
section
variable{X:Ln}{S:Nat->Prop}{m j:Nat}{gs:Array Goroutine}{w w':World}{t:Trace}{D:Nat->WD}{Nd:Nat->dY}{V0:Nat->Prop}{d0:Nat}{q:Nat->Nat}
theorem eP(f:Goroutine->Goroutine)(x:Goroutine){a:Nat}(h:a≠b):((gs.map f).setIfInBounds a x)[b]?=(gs[b]?).map f:=by
 rw[sN h,Array.getElem?_map]
theorem ou(f:Goroutine->Goroutine)(x:Goroutine){a:Nat}(h:a<gs.size):((gs.map f).setIfInBounds a x)[a]?=some x:=by simp[h]
theorem nD{b:WD}{x:dY}(h:(b.stage=7/\b.fuel=0/\b.deaf=0/\g=x.g/\aF X i x/\aS X i x.V x.w w)\/(b.stage<=6/\ye X b.stage b.fuel b.deaf g w))(a a':Goroutine)(v:World):woken X.P a a' v g=g:=by
 rcases h with⟨_,_,_,rfl,h,_⟩|⟨_,h⟩
 ·exact woken_run h.running
 ·exact @Go.ConcN.WSit.woken dh _ _ _ _ _ _ _ _ _ _ _ _ _ _ _ h a a' v
theorem qx{a:WD}{x:dY}(h:(a.stage=7/\a.fuel=0/\a.deaf=0/\g=x.g/\aF X i x/\aS X i x.V x.w w)\/(a.stage<=6/\ye X a.stage a.fuel a.deaf g w))
 (d:aS X i x.V w w') (e:uB X.ty X.Wg w w'):(a.stage=7/\a.fuel=0/\a.deaf=0/\g=x.g/\aF X i x/\aS X i x.V x.w w')\/(a.stage<=6/\ye X a.stage a.fuel a.deaf g w'):=by
 rcases h with⟨c,b,l,k,j,f⟩|⟨c,b⟩
 ·exact .inl ⟨c,b,l,k,j,f.trans d⟩
 ·exact .inr ⟨c, @Go.ConcN.WSit.rely dh _ _ _ _ _ _ _ _ _ _ _ _ _ _ _ _ b e⟩
theorem ry{u:Trace}(f:∀op∈u,op.g=k)(s:k=0\/m<k)(h:∀(i g:Nat),t.g? i=some g->g≠0->g<=m->t.counts i->∃k,t.g? k=some 0/\HappensBefore t i k):
 ∀(i g:Nat),(t++u).g? i=some g->g≠0->g<=m->(t++u).counts i->∃k,(t++u).g? k=some 0/\HappensBefore (t++u) i k:=by
 intro i g d r l p;rcases Nat.lt_or_ge i t.size with b|o
 ·obtain⟨n,a,q⟩:=h i g (by rw[←g?_old (u:=u) b];exact d) r l ((counts_old b).1 p);have j:n<t.size:=by
   unfold Trace.g? at a;obtain⟨z,c,_⟩:=Option.map_eq_some_iff.1 a;exact lt_size_of_getElem? c
  exact⟨n,by rw[g?_old j];exact a,hb_app u q⟩
 ·exfalso;unfold Trace.g? at d;obtain⟨z,c,e⟩:=Option.map_eq_some_iff.1 d;rcases getElem?_append_cases c with⟨a,_⟩|⟨_,a⟩
  ·omega
  ·have:=f z a;omega
theorem oP{o:Loc->Prop}{u:Trace}(p:∀op∈u,op.g=k)(c:k=0\/m<k)(h:∀(i:Nat) (a:Touch) (g:Nat),touchAt t i=some a->t.g? i=some g->g<=m->a.loc.isMemory=true->Knows t 0 i\/(o a.loc/\a.kind= .atomic)):
 ∀(i:Nat) (a:Touch) (g:Nat),touchAt (t++u) i=some a->(t++u).g? i=some g->g<=m->a.loc.isMemory=true->Knows (t++u) 0 i\/(o a.loc/\a.kind= .atomic):=by
 intro i a g s d q b;obtain⟨x,l,f⟩:=touch_of s;rcases getElem?_append_cases l with⟨n,j⟩|⟨_,n⟩
 ·exact(h i a g (by rw[touchAt_of j];exact f) (by rw[←g?_old (u:=u) n];exact d) q b).imp (·.app u) id
 ·have e:=p x n;have r:g=x.g:=by
   unfold Trace.g? at d;rw[l]at d;exact(Option.some.inj d).symm
  rcases c with c|c
  ·have:=knows_own l;rw[e,c]at this;exact .inl this
  ·omega
theorem lZ{f:Loc->Prop}{u:Trace}(n:∀op∈u,op.g<=m\/∀x,op.act.touch?=some x->x.kind= .atomic->f x.loc)(h:∀(i:Nat) (a:Touch) (g:Nat),touchAt t i=some a->t.g? i=some g->m<g->a.kind= .atomic->f a.loc):
 ∀(i:Nat) (a:Touch) (g:Nat),touchAt (t++u) i=some a->(t++u).g? i=some g->m<g->a.kind= .atomic->f a.loc:=by
 intro i a g q c o k;obtain⟨x,j,b⟩:=touch_of q;rcases getElem?_append_cases j with⟨e,d⟩|⟨_,e⟩
 ·exact h i a g (by rw[touchAt_of d];exact b) (by rw[←g?_old (u:=u) e];exact c) o k
 ·have p:g=x.g:=by
   unfold Trace.g? at c;rw[j]at c;exact(Option.some.inj c).symm
  rcases n x e with l|l
  ·omega
  ·exact l a b k
theorem ip.work(h:ip X S m j gs w t D Nd V0 d0 q)(hi:i<j){g':Goroutine}(hg:gs[1+m+i]?=some g)(h7:(D i).stage=7)(hfd:(D i).fuel=0/\(D i).deaf=0)
 (hws:iY X i (Nd i).V w w' es) (hn:aF X i ((Nd i).next w g' w')):
 ip X S m j ((gs.map (woken X.P g g' w')).setIfInBounds (1+m+i) g') w' (t++MemOp.ofEvents (1+m+i) g.frame.fn g.frame.place es) D (upd Nd i ((Nd i).next w g' w')) V0 d0 q:=by
 obtain⟨_,hrw,hlate,hlist,hcells,hsize,_⟩:=qJ h.lies h.list hi hws;have hlt:1+m+i<gs.size:=by rw[h.size];omega
 have hL':io X S j (upd Nd i ((Nd i).next w g' w')) V0 w':=h.lies.work hi hsize;have hanew:CT (fX S X.Wg) (oc X m j (upd Nd i ((Nd i).next w g' w'))) (uW X m) t (m+j):=by
  refine GB h.ct (λn a ha k=> ?_) λ_ _ _ _=>Iff.rfl;have hlow:=pp h.seen ha;have hV:∀k,k<j->(di (upd Nd i ((Nd i).next w g' w') k).V a.loc↔di (Nd k).V a.loc):=by
   intro k _;by_cases e:k=i
   ·subst e;rw[upd_same];cases hl:a.loc with
    |cell b=>
     rw[hl]at hlow;exact⟨λx=>x.elim id λy=>absurd hlow (Nat.not_lt.2 y.1), .inl⟩
    |obj b=>
     rw[hl]at hlow;exact⟨λx=>x.elim id λy=>absurd hlow (Nat.not_lt.2 y.1), .inl⟩
    |_=>exact Iff.rfl
   ·rw[upd_ne Nd _ e]
  exact⟨λ⟨x,hx,hk,ho⟩=>⟨x,hx,hk,ho.imp (hV x hx).1 id⟩,λ⟨x,hx,hk,ho⟩=>⟨x,hx,hk,ho.imp (hV x hx).2 id⟩⟩
 have hev:∀e∈es,(∀fn pos,OkW (fX S X.Wg) (oc X m j (upd Nd i ((Nd i).next w g' w'))) (uW X m) (1+m+i) {g:=1+m+i,fn,pos,act:= .ofEvent e})/\(MemAct.ofEvent e).low w'.heap.size/\e.loc≠ .mark .disable/\e.loc≠ .mark .enable/\∀a,e.loc≠ .mark (.release a):=by
  intro e he;rcases hws with hws|⟨c,v,hc,rfl,rfl⟩
  ·have h1:=hws.ev e he;refine⟨λfn pos=>FP (λl hl=>⟨i,hi,rfl, .inl (by rw[upd_same];exact hl)⟩) (λl hl=>⟨by omega,hl⟩) h1 fn pos,uX (λb hb=> ?_) (λb hb=>(hL'.ro b hb).1) h1,iv h1⟩;rcases hb with hb|hb
   ·exact Nat.lt_of_lt_of_le (h.lies.priv i hi b hb).1 hsize
   ·exact hb.2
  ·rw[Array.mem_singleton]at he;subst he;refine⟨λfn pos=>⟨rfl,λx hx=> ?_⟩, ?_,by simp,by simp,by simp⟩
   ·simp only[ofEvent_cell0,MemAct.touch?,Option.some.injEq]at hx;subst hx;exact .inr (.inl ⟨i,hi,rfl, .inr ⟨c,hc,rfl⟩⟩)
   ·show X.C<_;exact hL'.wgl.2
 refine
  {size:=by simp[h.size]
   old:=λk h0 hk=> ?_
   wk:=λk hk=> ?_
   lies:=hL'
   tabRO:=h.tabRO
   ct:=hanew.appW hL'.apart (k:=1+m+i) (by omega) (by omega) λop hop=> ?_
   norel:=h.norel.app (norel_of λe he=>(hev e he).2.2.2.2 _)
   deaf0:=by rw[Deaf_other t (by omega) _ bD];exact h.deaf0
   deafW:=λk hk=> ?_
   rel:=λk hk hs=> ?_
   has:=λk hk hs c hc=> ?_
   list:=hlist
   seen:=λop hop=> ?_
   over:=ry bD (.inr (by omega)) h.over
   known:=oP bD (.inr (by omega)) h.known
   atom:=lZ (λop hop=> .inr λx hx hk=> ?_) h.atom}
 ·obtain⟨x,hx,hq⟩:=h.old k h0 hk;refine⟨x,by rw[eP _ _ (by omega),hx,Option.map_some,woken_quitsD hq], ?_⟩;rw[Deaf_other t (by omega) _ bD];exact hq
 ·by_cases e:k=i
  ·subst e;exact⟨g',ou _ _ hlt, .inl ⟨h7,hfd.1,hfd.2,by rw[upd_same];rfl,by rw[upd_same];exact hn,by rw[upd_same];exact aS.refl _ _ _ _⟩⟩
  ·obtain⟨x,hx,hs⟩:=h.wk k hk;refine⟨x,by rw[eP _ _ (by omega),hx,Option.map_some,nD hs], ?_⟩;rw[upd_ne Nd _ e];exact qx hs (hrw k hk e) (hlate h.tabRO)
 ·obtain⟨e,he,rfl⟩:=Go.Conc.mem_ofEvents hop;exact(hev e he).1 _ _
 ·by_cases e:k=i
  ·subst e;rw[Deaf_own,deafBehind_still λe he=>⟨(hev e he).2.2.1,(hev e he).2.2.2.1⟩];exact h.deafW k hk
  ·rw[Deaf_other t (by omega) _ bD];exact h.deafW k hk
 ·have e:k≠i:=λe=>by rw[e]at hs;omega
  obtain⟨r,hr⟩:=h.rel k hk hs;exact⟨r,hr.appOther bD (by omega)⟩
 ·have e:k≠i:=λe=>by rw[e]at hs;omega
  rw[hcells k e c hc];exact h.has k hk hs c hc
 ·rcases Array.mem_append.1 hop with hop|hop
  ·exact MemAct.low_mono hsize (h.seen op hop)
  ·obtain⟨e,he,rfl⟩:=Go.Conc.mem_ofEvents hop;exact(hev e he).2.1
 ·obtain⟨e,he,rfl⟩:=Go.Conc.mem_ofEvents hop;rcases hws with hws|⟨c,v,hc,rfl,rfl⟩
  ·rw[BH (hws.ev e he) hx]at hk;cases hk
  ·rw[Array.mem_singleton]at he;subst he;have hx':(MemAct.access ⟨.cell (X.at c),true,false⟩).touch?=some x:=hx;simp only[MemAct.touch?,Option.some.injEq]at hx';subst hx';cases hk
end
section
variable{X:Ln}{S:Nat->Prop}{m j:Nat}{gs:Array Goroutine}{w w':World}{t:Trace}{D:Nat->WD}{Nd:Nat->dY}{V0:Nat->Prop}{d0:Nat}{q:Nat->Nat}
theorem qK(i:io X S j Nd V0 w)(q:X.list w)(l:iZ (· =X.Wg) w w')(f:WgLive X.ty X.Wg w'):
 aT X V0 w w'/\(∀k,k<j->aS X k (Nd k).V w w')/\(X.RO 0->uB X.ty X.Wg w w')/\X.list w'/\(∀c,w'.cell? (X.at c)=w.cell? (X.at c)):=by
 have p:¬X.C=X.Wg:=λe=>i.wgc e.symm;have m:=l.list p i.wgl.2 q;have h:∀c,w'.cell? (X.at c)=w.cell? (X.at c):=λc=>l.cell (a:=X.at c) p i.wgl.2;have g:∀b,X.RO b->¬b=X.Wg/\b<w.heap.size:=λb d=>⟨(i.ro b d).2.1,(i.ro b d).1⟩;refine⟨⟨l.kept λb d=> ?_,λ_=>f⟩,λk n=>⟨l.kept λb d=> ?_,λ_=>f,λ_=>m,λc _=>h c⟩,λo=> @Go.ConcN.RW.mk dh _ _ _ _ _ _ _ _ (λb d=>absurd d (Nat.not_lt_zero _)) (λ_=>f) (λ⟨t,s,r⟩=>⟨t,(l.keep 0 (g 0 o).2 (g 0 o).1).trans s,r⟩) (l.cell (g 0 o).1 (g 0 o).2),m,h⟩
 ·rcases d with d|d
  ·exact⟨(i.v0 b d).2.2.1,(i.v0 b d).1⟩
  ·exact g b d
 ·rcases d with d|d
  ·exact⟨(i.priv k n b d).2.2.1,(i.priv k n b d).1⟩
  ·exact g b d
theorem vT(A:Nat->Prop)(w:World):iZ A w w:=⟨λ_ _ _=>rfl,Nat.le_refl _,rfl,rfl,rfl⟩
theorem ip.stepW(h:ip X S m j gs w t D Nd V0 d0 q)(N:i<j){g':Goroutine}{s' f' v:Nat}(B:iZ (· =X.Wg) w w')(n:WgLive X.ty X.Wg w')(L:s'<=6)(E:ye X s' f' v g' w')
 (l:∀e∈es,(∀fn pos,OkW (fX S X.Wg) (oc X m j Nd) (uW X m) (1+m+i) {g:=1+m+i,fn,pos,act:= .ofEvent e})/\(MemAct.ofEvent e).low w.heap.size/\e.loc≠ .mark (.release (stA X.Wg)))
 (H:∀e∈es,∀x,(MemAct.ofEvent e).touch?=some x->fX S X.Wg x.loc) (u:deafBehind (D i).deaf es=v) (z:∃r,RelBy (stA X.Wg) (t++MemOp.ofEvents (1+m+i) g.frame.fn g.frame.place es) (1+m+i) r) (A:∀c,X.mine i c->w.cell? (X.at c)=some (X.val c)):
 ip X S m j ((gs.map (woken X.P g g' w')).setIfInBounds (1+m+i) g') w' (t++MemOp.ofEvents (1+m+i) g.frame.fn g.frame.place es) (upd D i ⟨s',f',v⟩) Nd V0 d0 q:=by
 obtain⟨_,F,p,o,d⟩:=qK h.lies h.list B n;have G:1+m+i<gs.size:=by rw[h.size];omega
 refine
  {size:=by simp[h.size]
   old:=λk M b=> ?_
   wk:=λk b=> ?_
   lies:=h.lies.grow B.size
   tabRO:=h.tabRO
   ct:=h.ct.appW h.lies.apart (k:=1+m+i) (by omega) (by omega) λC a=> ?_
   norel:=h.norel.app (norel_of λe s=>(l e s).2.2)
   deaf0:=by rw[Deaf_other t (by omega) _ bD];exact h.deaf0
   deafW:=λk b=> ?_
   rel:=λk b f=> ?_
   has:=λk b f c J=> ?_
   list:=o
   seen:=λC a=> ?_
   over:=ry bD (.inr (by omega)) h.over
   known:=oP bD (.inr (by omega)) h.known
   atom:=lZ (λC a=> .inr λx y _=>by obtain⟨e,s,rfl⟩:=Go.Conc.mem_ofEvents a;exact H e s x y) h.atom}
 ·obtain⟨x,y,I⟩:=h.old k M b;refine⟨x,by rw[eP _ _ (by omega),y,Option.map_some,woken_quitsD I], ?_⟩;rw[Deaf_other t (by omega) _ bD];exact I
 ·by_cases e:k=i
  ·subst e;exact⟨g',ou _ _ G, .inr (by rw[upd_same];exact⟨L,E⟩)⟩
  ·obtain⟨x,y,f⟩:=h.wk k b;refine⟨x,by rw[eP _ _ (by omega),y,Option.map_some,nD f], ?_⟩;rw[upd_ne D _ e];exact qx f (F k b) (p h.tabRO)
 ·obtain⟨e,s,rfl⟩:=Go.Conc.mem_ofEvents a;exact(l e s).1 _ _
 ·by_cases e:k=i
  ·subst e;rw[Deaf_own,h.deafW k b,upd_same];exact u
  ·rw[Deaf_other t (by omega) _ bD,upd_ne D _ e];exact h.deafW k b
 ·by_cases e:k=i
  ·subst e;exact z
  ·rw[upd_ne D _ e]at f;obtain⟨r,K⟩:=h.rel k b f;exact⟨r,K.appOther bD (by omega)⟩
 ·rw[d];by_cases e:k=i
  ·subst e;exact A c J
  ·rw[upd_ne D _ e]at f;exact h.has k b f c J
 ·rcases Array.mem_append.1 a with a|a
  ·exact MemAct.low_mono B.size (h.seen C a)
  ·obtain⟨e,s,rfl⟩:=Go.Conc.mem_ofEvents a;exact MemAct.low_mono B.size (l e s).2.1
structure Kh (X:Ln) (j:Nat) (Nd:Nat->dY) (w w':World):Prop where
 wk:∀i',i'<j->aS X i' (Nd i').V w w'
 late:X.RO 0->uB X.ty X.Wg w w'
 list:X.list w'
 cells:∀c,w'.cell? (X.at c)=w.cell? (X.at c)
 size:w.heap.size<=w'.heap.size
theorem ip.step0(h:ip X S m j gs w t D Nd V0 d0 q){o:Nat->Prop}{a a':Goroutine}(n:Kh X j Nd w w')(v:io X S j Nd o w')
 (f:∀e∈es,(∀fn pos,Ok0 (fX S X.Wg) (oc X m j Nd) (uW X m) (m+j) {g:=0,fn,pos,act:= .ofEvent e})/\(MemAct.ofEvent e).low w'.heap.size/\e.loc≠ .mark (.release (stA X.Wg))):
 ip X S m j ((gs.map (woken X.P a a' w')).setIfInBounds 0 a') w' (t++MemOp.ofEvents 0 a.frame.fn a.frame.place es) D Nd o (deafBehind d0 es) q:=by
 refine
  {size:=by simp[h.size]
   old:=λk A d=> ?_
   wk:=λk d=> ?_
   lies:=v
   tabRO:=h.tabRO
   ct:=h.ct.app0 v.apart λp b=> ?_
   norel:=h.norel.app (norel_of λe l=>(f e l).2.2)
   deaf0:=by rw[Deaf_own,h.deaf0]
   deafW:=λk d=>by rw[Deaf_other t (by omega) _ bD];exact h.deafW k d
   rel:=λk d i=> ?_
   has:=λk d i c z=>by rw[n.cells];exact h.has k d i c z
   list:=n.list
   seen:=λp b=> ?_
   over:=ry bD (.inl rfl) h.over
   known:=oP bD (.inl rfl) h.known
   atom:=lZ (λp b=> .inl (by rw[bD p b];exact Nat.zero_le _)) h.atom}
 ·obtain⟨x,s,u⟩:=h.old k A d;refine⟨x,by rw[eP _ _ (by omega),s,Option.map_some,woken_quitsD u], ?_⟩;rw[Deaf_other t (by omega) _ bD];exact u
 ·obtain⟨x,s,i⟩:=h.wk k d;exact⟨x,by rw[eP _ _ (by omega),s,Option.map_some,nD i],qx i (n.wk k d) (n.late h.tabRO)⟩
 ·obtain⟨e,l,rfl⟩:=Go.Conc.mem_ofEvents b;exact(f e l).1 _ _
 ·obtain⟨r,y⟩:=h.rel k d i;exact⟨r,y.appOther bD (by omega)⟩
 ·rcases Array.mem_append.1 b with b|b
  ·exact MemAct.low_mono n.size (h.seen p b)
  ·obtain⟨e,l,rfl⟩:=Go.Conc.mem_ofEvents b;exact(f e l).2.1
theorem Dy(i:io X S j Nd V0 w)(s:X.list w)(h:bF V0 X.RO w w' es):Kh X j Nd w w'/\io X S j Nd (hY V0 w w') w'/\w'.heap[X.Wg]?=w.heap[X.Wg]?:=by
 have k:=h.turns;have l:¬V0 X.Wg:=λm=>(i.v0 _ m).2.2.1 rfl;have r:¬V0 X.C:=λm=>(i.v0 _ m).2.2.2.1 rfl;have e:=k.live (ty:=X.ty) l i.wgl.1;have d:∀b,X.RO b->¬V0 b/\b<w.heap.size:=λb g=>⟨λm=>(i.v0 b m).2.1 g,(i.ro b g).1⟩;have f:∀c,w'.cell? (X.at c)=w.cell? (X.at c):=λc=>k.cell (a:=X.at c) r i.wgl.2;have n:=k.list r i.wgl.2 s;refine⟨⟨λq o=>⟨k.kept λb g=> ?_,e,λ_=>n,λc _=>f c⟩,λp=> @Go.ConcN.RW.mk dh _ _ _ _ _ _ _ _ (λb g=>absurd g (Nat.not_lt_zero _)) e (λ⟨v,u,t⟩=>⟨v,(k.keep 0 (d 0 p).2 (d 0 p).1).trans u,t⟩) (k.cell (d 0 p).1 (d 0 p).2),n,f,k.size⟩,i.maiN k.size,k.keep _ i.wgl.1 l⟩;rcases g with g|g
 ·exact⟨(i.priv q o b g).2.2.2.2.2,(i.priv q o b g).1⟩
 ·exact d b g
theorem FU(s:io X S j Nd (hY V0 w w') w')(u:fg (hY V0 w w') X.RO e)(fn:FuncId)(pos:String):Ok0 (fX S X.Wg) (oc X m j Nd) (uW X m) (m+j) {g:=0,fn,pos,act:= .ofEvent e}:=by
 have n:∀l:Loc,(di (hY V0 w w') l\/di X.RO l)->¬fX S X.Wg l/\∀k,¬oc X m j Nd k l:=by
  intro l d;refine⟨λE=> ?_,λk ⟨i,F,_,y⟩=> ?_⟩
  ·rcases d with d|d
   ·obtain⟨b,q,o⟩:=uM d E;exact o.elim (s.v0 b q).2.2.2.2 (s.v0 b q).2.2.1
   ·obtain⟨b,q,o⟩:=uM d E;exact o.elim (λo=>(s.sh b o).2.1 q) (s.ro b q).2.1
  ·rcases y with y|⟨c,_,rfl⟩
   ·rcases d with d|d
    ·obtain⟨b,q,o⟩:=eO d y;exact(s.priv i F b o).2.2.2.2.2 q
    ·obtain⟨b,q,o⟩:=eO d y;exact(s.priv i F b o).2.1 q
   ·rcases d with d|d
    ·exact(s.v0 _ d).2.2.2.1 rfl
    ·exact(s.ro _ d).2.2 rfl
 have t:∀l:Loc,di (hY V0 w w') l->∀k,¬uW X m k l:=λl d k ⟨_,G⟩=>by
  obtain⟨b,q,o⟩:=eO d G;exact(s.v0 b q).2.1 o
 refine⟨rfl,λx v=> ?_⟩;obtain⟨A,z,I⟩:=e;cases A with
 |cell a=>
  obtain⟨rfl,h⟩:=u;have p:(MemAct.access ⟨.cell a,z,false⟩).touch?=some x:=v;simp only[MemAct.touch?,Option.some.injEq]at p;subst p;rcases h with h|⟨h,o⟩
  ·exact .inr ⟨(n (.cell a) (.inl h)).1,λk _ _=>(n (.cell a) (.inl h)).2 k,λ_ k _ _=>t (.cell a) h k⟩
  ·have B:z=false:=o;exact .inr ⟨(n (.cell a) (.inr h)).1,λk _ _=>(n (.cell a) (.inr h)).2 k,λD=>by rw[B]at D;cases D⟩
 |obj r=>
  obtain⟨rfl,h⟩:=u;have p:(MemAct.ofEvent ⟨.obj r,z,false⟩).touch?=some x:=v;simp only[MemAct.ofEvent,MemAct.touch?,Option.some.injEq]at p;subst p;exact .inr ⟨(n (.obj r) (.inl h)).1,λk _ _=>(n (.obj r) (.inl h)).2 k,λ_ k _ _=>t (.obj r) h k⟩
 |mark C=>
  have H:eF C=true:=u;cases C with
  |extern f=>cases v
  |noRoom=>cases v
  |_=>simp[eF]at H
 |output=>exact u.elim
 |goroutines=>exact u.elim
end
section
variable{X:Ln}{S:Nat->Prop}{m j:Nat}{gs:Array Goroutine}{w w':World}{t u:Trace}{D:Nat->WD}{Nd:Nat->dY}{V0:Nat->Prop}{d0:Nat}{q:Nat->Nat}
theorem aS.at(X:Ln)(i:Nat)(V:Nat->Prop)(w:World)(d:Nat):aS X i V w (w.at d):=⟨dt.at _ w d,id,id,λ_ _=>rfl⟩
theorem aT.at(X:Ln)(V:Nat->Prop)(w:World)(d:Nat):aT X V w (w.at d):=⟨dt.at _ w d,id⟩
theorem ip.at(h:ip X S m j gs w t D Nd V0 d0 q)(d:Nat):ip X S m j gs (w.at d) t D Nd V0 d0 q:=
 {size:=h.size
  old:=h.old
  wk:=λi a=>let ⟨g,hg,hs⟩:=h.wk i a;⟨g,hg,qx hs (aS.at X i _ w d) (@Go.ConcN.RW.at dh _ _ _ _ _ _ w d)⟩
  lies:=h.lies.grow (Nat.le_refl _)
  tabRO:=h.tabRO
  ct:=h.ct
  norel:=h.norel
  deaf0:=h.deaf0
  deafW:=h.deafW
  rel:=h.rel
  has:=h.has
  list:=h.list
  seen:=h.seen
  over:=h.over
  known:=h.known
  atom:=h.atom}
theorem tR(l:∀op∈u,op.act.touch?=none)(h:∀(i g:Nat),t.g? i=some g->g≠0->g<=m->t.counts i->∃k,t.g? k=some 0/\HappensBefore t i k):
 ∀(i g:Nat),(t++u).g? i=some g->g≠0->g<=m->(t++u).counts i->∃k,(t++u).g? k=some 0/\HappensBefore (t++u) i k:=by
 intro i g r v p e;rcases Nat.lt_or_ge i t.size with c|q
 ·obtain⟨n,a,s⟩:=h i g (by rw[←g?_old (u:=u) c];exact r) v p ((counts_old c).1 e);have o:n<t.size:=by
   unfold Trace.g? at a;obtain⟨z,f,_⟩:=Option.map_eq_some_iff.1 a;exact lt_size_of_getElem? f
  exact⟨n,by rw[g?_old o];exact a,hb_app u s⟩
 ·exfalso;obtain⟨x,j,_⟩:=e;obtain⟨op,d,b⟩:=touch_of j;rcases getElem?_append_cases d with⟨a,_⟩|⟨_,a⟩
  ·omega
  ·rw[l op a]at b;cases b
theorem rJ{f:Loc->Prop}(k:∀op∈u,op.act.touch?=none)(h:∀(i:Nat) (a:Touch) (g:Nat),touchAt t i=some a->t.g? i=some g->g<=m->a.loc.isMemory=true->Knows t 0 i\/(f a.loc/\a.kind= .atomic)):
 ∀(i:Nat) (a:Touch) (g:Nat),touchAt (t++u) i=some a->(t++u).g? i=some g->g<=m->a.loc.isMemory=true->Knows (t++u) 0 i\/(f a.loc/\a.kind= .atomic):=by
 intro i a g o n l c;obtain⟨x,j,b⟩:=touch_of o;rcases getElem?_append_cases j with⟨e,d⟩|⟨_,e⟩
 ·exact(h i a g (by rw[touchAt_of d];exact b) (by rw[←g?_old (u:=u) e];exact n) l c).imp (·.app u) id
 ·rw[k x e]at b;cases b
theorem yT(h:e.mute=true)(a:Addr):e.loc≠ .mark (.release a):=by
 obtain⟨b,d,f⟩:=e;intro c;cases c;simp[Event.mute]at h
theorem ip.oldStep(h:ip X S m j gs w t D Nd V0 d0 q)(A:0<i)(B:i<=m){g':Goroutine}(s:∀e∈es,e.mute=true)(z:QuitsD X.P k (deafBehind (Deaf t i) es) g'):
 ip X S m j ((gs.map (woken X.P g g' w)).setIfInBounds i g') w (t++MemOp.ofEvents i g.frame.fn g.frame.place es) D Nd V0 d0 (upd q i k):=by
 have u:i<gs.size:=by rw[h.size];omega
 have b:∀c∈MemOp.ofEvents i g.frame.fn g.frame.place es,c.act.touch?=none:=λc a=>by
  obtain⟨e,o,rfl⟩:=Go.Conc.mem_ofEvents a;exact touch_mute (s e o)
 refine
  {size:=by simp[h.size]
   old:=λf v l=> ?_
   wk:=λf l=> ?_
   lies:=h.lies
   tabRO:=h.tabRO
   ct:=h.ct.appW h.lies.apart (k:=i) A (by omega) λc a=>⟨bD c a,λx d=>by rw[b c a]at d;cases d⟩
   norel:=h.norel.app (norel_of λe o=>yT (s e o) _)
   deaf0:=by rw[Deaf_other t (by omega) _ bD];exact h.deaf0
   deafW:=λf l=>by rw[Deaf_other t (by omega) _ bD];exact h.deafW f l
   rel:=λf l p=> ?_
   has:=h.has
   list:=h.list
   seen:=λc a=> ?_
   over:=tR b h.over
   known:=rJ b h.known
   atom:=lZ (λc a=> .inr λx d _=>by rw[b c a]at d;cases d) h.atom}
 ·by_cases e:f=i
  ·subst e;refine⟨g',ou _ _ u, ?_⟩;rw[upd_same,Deaf_own];exact z
  ·obtain⟨x,d,n⟩:=h.old f v l;refine⟨x,by rw[eP _ _ (by omega),d,Option.map_some,woken_quitsD n], ?_⟩;rw[Deaf_other t (by omega) _ bD,upd_ne q _ e];exact n
 ·obtain⟨x,d,p⟩:=h.wk f l;exact⟨x,by rw[eP _ _ (by omega),d,Option.map_some,nD p],p⟩
 ·obtain⟨r,y⟩:=h.rel f l p;exact⟨r,y.appOther bD (by omega)⟩
 ·rcases Array.mem_append.1 a with a|a
  ·exact h.seen c a
  ·obtain⟨e,o,rfl⟩:=Go.Conc.mem_ofEvents a;exact low_mute (s e o) _
theorem GA{f:Loc->Prop}{Own Own' Rd:Nat->Loc->Prop}(h:CT f Own Rd t n)(e:∀k,k<=n->∀l,Own' k l↔Own k l):CT f Own' Rd t n:=
 {quiet:=h.quiet
  own:=λk b a l c=>h.own k b a l ((e k a l).1 c)
  rd:=h.rd
  free:=λl d c=>h.free l d λk b a=>⟨λx=>(c k b a).1 ((e k a l).2 x),(c k b a).2⟩
  mine:=λl d c=>h.mine l d λk b a x=>c k b a ((e k a l).2 x)
  nr:=h.nr
  gs:=h.gs}
theorem io.spawn(h:io X S j Nd V0 w){l:Nat->Prop}(hv:∀b,l b->V0 b)(g:Goroutine):io X S (j+1) (upd Nd j ⟨l,g,w⟩) (λb=>V0 b/\¬l b) w:=by
 refine⟨h.mine,h.wgc,h.wgl,h.ro,h.sh,λb a=>h.v0 b a.1,λi n b a=> ?_,λi f n m b a c=> ?_⟩
 ·by_cases e:i=j
  ·subst e;rw[upd_same]at a;have d:=h.v0 b (hv b a);exact⟨d.1,d.2.1,d.2.2.1,d.2.2.2.1,d.2.2.2.2,λx=>x.2 a⟩
  ·rw[upd_ne Nd _ e]at a;obtain⟨t,s,r,q,p,o⟩:=h.priv i (by omega) b a;exact⟨t,s,r,q,p,λx=>o x.1⟩
 ·by_cases e:i=j<;>by_cases k:f=j
  ·omega
  ·subst e;rw[upd_same]at a;rw[upd_ne Nd _ k]at c;exact absurd (hv b a) (h.priv f (by omega) b c).2.2.2.2.2
  ·subst k;rw[upd_same]at c;rw[upd_ne Nd _ e]at a;exact absurd (hv b c) (h.priv i (by omega) b a).2.2.2.2.2
  ·rw[upd_ne Nd _ e]at a;rw[upd_ne Nd _ k]at c;exact h.two i f (by omega) (by omega) b a c
theorem ip.spawn(h:ip X S m j gs w t D Nd V0 0 q){a' c:Goroutine}{x y:MemOp}{B:Nat->Prop}(u:x.g=0/\x.act= .go (1+m+j))(z:y.g=1+m+j/\y.act= .start)(hv:∀b,B b->V0 b)(M:aF X j ⟨B,c,w⟩):
 ip X S m (j+1) ((gs.setIfInBounds 0 a').push c) w (t++#[x,y]) (upd D j ⟨7,0,0⟩) (upd Nd j ⟨B,c,w⟩) (λb=>V0 b/\¬B b) 0 q:=by
 have I:=h.lies.spawn hv c;have n:∀d∈#[x,y],d=x\/d=y:=λd a=>by simpa using a
 have o:∀d∈#[x,y],d.act.touch?=none:=λd a=>by
  rcases n d a with rfl|rfl
  ·rw[u.2];rfl
  ·rw[z.2];rfl
 have f:∀d∈#[x,y],d.act≠ .mark .disable/\d.act≠ .mark .enable:=λd a=>by
  rcases n d a with rfl|rfl
  ·rw[u.2];exact⟨(by simp),(by simp)⟩
  ·rw[z.2];exact⟨(by simp),(by simp)⟩
 have p:∀k,0<k->k<1+m+j->((gs.setIfInBounds 0 a').push c)[k]?=gs[k]?:=λk v L=>by
  rw[Array.getElem?_push,if_neg (by simp[h.size];omega),sN (by omega)]
 have H:CT (fX S X.Wg) (oc X m (j+1) (upd Nd j ⟨B,c,w⟩)) (uW X m) t (m+j):=GA h.ct λk v l=>by
  constructor
  ·rintro⟨i,F,rfl,C⟩;have E:i≠j:=(by omega);rw[upd_ne Nd _ E]at C;exact⟨i,by omega,rfl,C⟩
  ·rintro⟨i,F,rfl,C⟩;refine⟨i,by omega,rfl, ?_⟩;rw[upd_ne Nd _ (by omega)];exact C
 refine
  {size:=by simp[h.size];omega
   old:=λk A v=> ?_
   wk:=λk v=> ?_
   lies:=I
   tabRO:=h.tabRO
   ct:=H.fork I.apart (by rw[show m+j+1=1+m+j from by omega];exact u) (by rw[show m+j+1=1+m+j from by omega];exact z) h.deaf0
   norel:=h.norel.app λd a=> ?_
   deaf0:=by rw[Go.ConcN.Deaf_still t 0 _ f];exact h.deaf0
   deafW:=λk v=> ?_
   rel:=λk v s=> ?_
   has:=λk v s=> ?_
   list:=h.list
   seen:=λd a=> ?_
   over:=tR o h.over
   known:=rJ o h.known
   atom:=lZ (λd a=> .inr λx u _=>by rw[o d a]at u;cases u) h.atom}
 ·obtain⟨g,G,K⟩:=h.old k A v;refine⟨g,by rw[p k A (by omega)];exact G, ?_⟩;rw[Go.ConcN.Deaf_still t k _ f];exact K
 ·by_cases e:k=j
  ·subst e;refine⟨c, ?_, .inl ⟨by rw[upd_same],by rw[upd_same],by rw[upd_same],by rw[upd_same],by rw[upd_same];exact M,by rw[upd_same];exact aS.refl _ _ _ _⟩⟩;rw[Array.getElem?_push,if_pos (by simp[h.size])]
  ·obtain⟨g,G,s⟩:=h.wk k (by omega);refine⟨g,by rw[p _ (by omega) (by omega)];exact G, ?_⟩;rw[upd_ne D _ e,upd_ne Nd _ e];exact s
 ·rcases n d a with rfl|rfl
  ·rw[u.2];simp
  ·rw[z.2];simp
 ·rw[Go.ConcN.Deaf_still t _ _ f];by_cases e:k=j
  ·subst e;rw[upd_same];exact Go.ConcN.Deaf_absent λi d F N=>by have:=h.ct.gs i d F;omega
  ·rw[upd_ne D _ e];exact h.deafW k (by omega)
 ·by_cases e:k=j
  ·subst e;rw[upd_same]at s;exact absurd s (by simp)
  ·rw[upd_ne D _ e]at s;obtain⟨r,J⟩:=h.rel k (by omega) s;refine⟨r,J.appNot λd a=> ?_⟩;rcases n d a with rfl|rfl
   ·rw[u.1];omega
   ·rw[z.1];omega
 ·by_cases e:k=j
  ·subst e;rw[upd_same]at s;exact absurd s (by simp)
  ·rw[upd_ne D _ e]at s;exact h.has k (by omega) s
 ·rcases Array.mem_append.1 a with a|a
  ·exact h.seen d a
  ·rcases n d a with rfl|rfl
   ·rw[u.2];trivial
   ·rw[z.2];trivial
end
end
section
open Go Go.Conc
open Go.ConcN (sumTo upd sumTo_upd upd_ne upd_same CT Apart PermW WgLive RelBy WD ShN OkW Ok0 norel_of CTag phi Vc Ssum Fsum)
open Go.ConcR (KK WgAt stA smA rd wr mk DC0 again_blocked)
section
variable(X:Ln)(Fin Anch:(Nat->Prop)->Goroutine->World->Prop)(N:Nat)
def CK:CTag->Nat->Nat->Nat->Nat->(Nat->Prop)->Goroutine->World->Prop
 | .sp r s,u,j,f,d,V,g,w=>u=0/\r<N/\j=N-(r+1)/\
   ((s=5/\d=0/\bG X (yh X j (jz X Anch N r)) f V g w)\/(s=4/\d=1/\bG X (Kq X j (jz X Anch N r)) f V g w)\/(s=3/\d=1/\bG X (Kp X j (jz X Anch N r)) f V g w)\/
     (s=2/\d=1/\bG X (EV X j (jz X Anch N r)) f V g w)\/(s=1/\d=0/\bG X (Js X j (jz X Anch N r)) f V g w))
 | .kd,u,j,f,d,V,g,w=>u=0/\j=N/\d=0/\bG X (EW X Anch) f V g w
 | .anch,u,j,f,d,V,g,w=>u=0/\j=N/\d=1/\bG X Anch f V g w
 | .w1,u,j,f,d,V,g,w=>u=0/\j=N/\d=1/\bG X (qw X Fin Anch) f V g w
 | .w2 vs,u,j,f,d,V,g,w=>u=0/\j=N/\d=1/\bG X (Ko X Fin Anch vs) f V g w
 | .w3,u,j,f,d,V,g,w=>j=N/\d=1/\((u=0/\∃k,f=k+1/\bG X (Jp X Fin) k V g w)\/(u=1/\bG X (Km X Fin) f V g w))
 | .blk,u,j,f,d,V,g,w=>u=0/\j=N/\d=1/\f=0/\∃g0:Goroutine,g={g0 with status:= .blocked}/\∀w₁,aT X V w w₁->Jp X Fin V g0 w₁
 | .w4,u,j,f,d,V,g,w=>u=0/\j=N/\d=1/\bG X (Kn X Fin) f V g w
 | .ke,u,j,f,d,V,g,w=>u=0/\j=N/\d=1/\bG X (Jr X Fin) f V g w
 | .acq,u,j,f,d,V,g,w=>u=0/\j=N/\d=0/\bG X (H5 X Fin) f V g w
 | .ret,u,j,f,d,V,g,w=>u=0/\j=N/\d=0/\bG X Fin f V g w
end
section
variable{X:Ln}{Fin Anch:(Nat->Prop)->Goroutine->World->Prop}{N:Nat}{tag:CTag}{u j f d:Nat}{V:Nat->Prop}{g:Goroutine}{w w':World}
theorem CK.rely(h:CK X Fin Anch N tag u j f d V g w)(e:aT X V w w'):CK X Fin Anch N tag u j f d V g w':=by
 cases tag with
 |sp r s=>
  obtain⟨l,i,o,h⟩:=h;refine⟨l,i,o, ?_⟩;rcases h with⟨a,b,c⟩|⟨a,b,c⟩|⟨a,b,c⟩|⟨a,b,c⟩|⟨a,b,c⟩
  ·exact .inl ⟨a,b,c.rely e⟩
  ·exact .inr (.inl ⟨a,b,c.rely e⟩)
  ·exact .inr (.inr (.inl ⟨a,b,c.rely e⟩))
  ·exact .inr (.inr (.inr (.inl ⟨a,b,c.rely e⟩)))
  ·exact .inr (.inr (.inr (.inr ⟨a,b,c.rely e⟩)))
 |w3=>
  obtain⟨l,i,h⟩:=h;rcases h with⟨a,k,b,c⟩|⟨a,c⟩
  ·exact⟨l,i, .inl ⟨a,k,b,c.rely e⟩⟩
  ·exact⟨l,i, .inr ⟨a,c.rely e⟩⟩
 |blk=>
  obtain⟨l,i,o,t,v,q,p⟩:=h;exact⟨l,i,o,t,v,q,λm n=>p m (e.trans n)⟩
 |_=>
  obtain⟨l,i,o,h⟩:=h;exact⟨l,i,o,h.rely e⟩
theorem CK.status(l:∀V g w,Fin V g w->g.status= .running)(m:∀V g w,Anch V g w->g.status= .running)(h:CK X Fin Anch N tag u j f d V g w):(g.status= .running/\tag≠ .blk)\/(g.status= .blocked/\tag= .blk):=by
 cases tag with
 |sp r s=>
  obtain⟨i,e,n,h⟩:=h;rcases h with⟨a,b,c⟩|⟨a,b,c⟩|⟨a,b,c⟩|⟨a,b,c⟩|⟨a,b,c⟩<;>exact .inl ⟨c.running λ_ _ _ x=>x.1,by simp⟩
 |w3=>
  obtain⟨i,e,h⟩:=h;rcases h with⟨a,k,b,c⟩|⟨a,c⟩<;>exact .inl ⟨c.running λ_ _ _ x=>x.1,by simp⟩
 |blk=>
  obtain⟨i,e,n,p,q,rfl,o⟩:=h;exact .inr ⟨rfl,rfl⟩
 |anch=>exact .inl ⟨h.2.2.2.running m,by simp⟩
 |ret=>exact .inl ⟨h.2.2.2.running l,by simp⟩
 |_=>exact .inl ⟨h.2.2.2.running λ_ _ _ x=>x.1,by simp⟩
theorem CK.wokenBy(p:∀V g w,Fin V g w->g.status= .running)(q:∀V g w,Anch V g w->g.status= .running){a:Goroutine}(h:CK X Fin Anch N tag u j f d V a w)(n:aT X V w w')(g g':Goroutine):
 ∃tag' f',CK X Fin Anch N tag' u j f' d V (woken X.P g g' w' a) w'/\f'<=f+1/\(tag'=tag\/(tag= .blk/\tag'= .w3))/\(mayWake X.P g=true->g'.status= .running->tag'≠ .blk):=by
 have b:=h.rely n;unfold Go.Conc.woken;split
 ·rcases b.status p q with⟨m,c⟩|⟨_,rfl⟩
  ·exact⟨tag,f,by rw[again_running _ (.inl m)];exact b,by omega, .inl rfl,λ_ _=>c⟩
  ·obtain⟨r,i,e,s,t,rfl,l⟩:=b;have k:=l w' (aT.refl X V w');refine⟨.w3,0+1, ?_,by omega, .inr ⟨rfl,rfl⟩,λ_ _=>by simp⟩;rw[again_blocked k.1 k.2.1];exact⟨i,e, .inl ⟨r,0,rfl,bG.stop l⟩⟩
 ·rename_i o;exact⟨tag,f,b,by omega, .inl rfl,λi e=>absurd (by simp[i,e]) o⟩
theorem CK.bound(h:CK X Fin Anch N tag u j f d V g w):j+Go.ConcN.pend tag<=N:=by
 cases tag with
 |sp r s=>
  obtain⟨_,b,a,_⟩:=h;simp only[Go.ConcN.pend];split<;>omega
 |w3=>
  have:=h.1;simp only[Go.ConcN.pend];omega
 |_=>
  have:=h.2.1;simp only[Go.ConcN.pend];omega
end
def vH(X:Ln)(m j:Nat)(t:Trace):Prop:=
 ∃k,t.act? k=some (.mark (.acquire (stA X.Wg)))/\t.g? k=some 0/\t.heard k/\∀i,i<j->∃r,RelBy (stA X.Wg) t (1+m+i) r/\r<k
theorem vH.app{t u:Trace}(h:vH X m j t)(d:∀i r,i<j->RelBy (stA X.Wg) t (1+m+i) r->RelBy (stA X.Wg) (t++u) (1+m+i) r):vH X m j (t++u):=by
 obtain⟨k,c,g,f,e⟩:=h;have a:=lt_of_act? c;exact⟨k,by rw[act?_old a];exact c,by rw[g?_old a];exact g,(heard_old a).2 f,λi b=>let ⟨r,hr,hrk⟩:=e i b;⟨r,d i r b hr,hrk⟩⟩
structure du (X:Ln) (Fin Anch:(Nat->Prop)->Goroutine->World->Prop) (N:Nat) (S:Nat->Prop) (m j:Nat) (gs:Array Goroutine) (w:World) (t:Trace) (D:Nat->WD) (Nd:Nat->dY) (V0:Nat->Prop) (d0:Nat) (q:Nat->Nat) (tag:CTag) (u f0:Nat) (a:Goroutine) (st sm:Int):Prop where
 at0:gs[0]?=some a
 sit:CK X Fin Anch N tag u j f0 d0 V0 a w
 crew:ip X S m j gs w t D Nd V0 d0 q
 wg:WgAt X.ty X.Wg w st sm
 mode:Go.ConcN.Mode j D tag st sm
 acq:tag= .ret->vH X m j t
 acc:∀i,i<j->Acc (jB X i) (Nd i)
def fG(N j:Nat)(D:Nat->WD)(tag:CTag)(u:Nat):Nat:=2*phi N (Vc j D) tag+u+2*Ssum j D
def lI(m j:Nat)(D:Nat->WD)(f0:Nat)(q:Nat->Nat):Nat:=f0+2*Fsum j D+2*sumTo (m+1) q
def GZ(X:Ln)(j' j r1' r1:Nat)(Nd' Nd:Nat->dY)(r3' r3:Nat):Prop:=
 r1'<r1\/(r1'=r1/\j'=j/\((∃i x,i<j/\jB X i x (Nd i)/\Nd'=upd Nd i x)\/(Nd'=Nd/\r3'<r3)))
def Jc(X:Ln)(Fin Anch:(Nat->Prop)->Goroutine->World->Prop)(N:Nat)(S:Nat->Prop)(m:Nat)(Post:Value->World->Prop)(j:Nat)(Nd:Nat->dY)(r1 r3:Nat):Prop:=
 ∀j' gs' w' sl' t' D' Nd' V0' d0' q' tag' u' f' a' st' sm',du X Fin Anch N S m j' gs' w' t' D' Nd' V0' d0' q' tag' u' f' a' st' sm'->GZ X j' j (fG N j' D' tag' u') r1 Nd' Nd (lI m j' D' f' q') r3->dk X.P Post (crowd gs' w' sl') t'
section
variable{X:Ln}{Fin Anch:(Nat->Prop)->Goroutine->World->Prop}{N:Nat}{S:Nat->Prop}{m j:Nat}{gs:Array Goroutine}{w w':World}{t:Trace}{D D':Nat->WD}{Nd Nd':Nat->dY}{V0:Nat->Prop}{d0:Nat}{q q':Nat->Nat}{tag:CTag}{u f0:Nat}{a:Goroutine}{st sm st' sm':Int}
theorem du.at(h:du X Fin Anch N S m j gs w t D Nd V0 d0 q tag u f0 a st sm)(d:Nat):du X Fin Anch N S m j gs (w.at d) t D Nd V0 d0 q tag u f0 a st sm:=
 ⟨h.at0,h.sit.rely (aT.at X V0 w d),h.crew.at d,h.wg,h.mode,h.acq,h.acc⟩
theorem du.other(x:∀V g w,Fin V g w->g.status= .running)(y:∀V g w,Anch V g w->g.status= .running)(h:du X Fin Anch N S m j gs w t D Nd V0 d0 q tag u f0 a st sm)(z:0<k){g':Goroutine}{ops:Trace}
 (c:ip X S m j ((gs.map (woken X.P g g' w')).setIfInBounds k g') w' (t++ops) D' Nd' V0 d0 q') (o:aT X V0 w w') (l:WgAt X.ty X.Wg w' st' sm')
 (b:∀tag',(tag'=tag\/(tag= .blk/\tag'= .w3))->(mayWake X.P g=true->g'.status= .running->tag'≠ .blk)->Go.ConcN.Mode j D' tag' st' sm')
 (d:tag= .ret->vH X m j (t++ops)) (f:∀i,i<j->Acc (jB X i) (Nd' i)):
 ∃tag' f' a',du X Fin Anch N S m j ((gs.map (woken X.P g g' w')).setIfInBounds k g') w' (t++ops) D' Nd' V0 d0 q' tag' u f' a' st' sm'/\f'<=f0+1/\∀v,phi N v tag'=phi N v tag:=by
 obtain⟨tag',f',r,s,n,p⟩:=h.sit.wokenBy x y o g g';refine⟨tag',f',woken X.P g g' w' a,⟨by rw[eP _ _ (by omega),h.at0];rfl,r,c,l,b tag' n p,λe=> ?_,f⟩,s,λv=>Go.ConcN.phi_retag N v n⟩;rcases n with rfl|⟨_,rfl⟩
 ·exact d e
 ·cases e
end
end
section
open Go Go.Conc
open Go.ConcN (sumTo upd sumTo_upd upd_ne upd_same CT Apart PermW WgLive RelBy WD ShN OkW Ok0 norel_of CTag phi Vc Ssum Fsum cnt pend isOpen isW3 OpenSt AllQuit Vc_upd Vc_le others_uncounted le_sumTo bk_cell)
open Go.ConcR (KK WgAt stA smA rd wr mk DC0 Bk bk_of_mute ofEvent_loc_mark)
section
variable{X:Ln}{Fin Anch:(Nat->Prop)->Goroutine->World->Prop}{N:Nat}{S:Nat->Prop}{m j:Nat}{gs:Array Goroutine}{w w':World}{t:Trace}{D D':Nat->WD}{Nd Nd':Nat->dY}{V0:Nat->Prop}{d0:Nat}{q q':Nat->Nat}{tag:CTag}{u f0:Nat}{a:Goroutine}{st sm st' sm':Int}{Post:Value->World->Prop}{sl:Option (Nat×Nat)}
theorem m6(h:Aside b w w'):iZ (· =b) w w':=⟨λk _ a=>h.block k a,by rw[h.size];exact Nat.le_refl _,h.os,h.output,h.tape⟩
theorem J1{Own Rd:Nat->Loc->Prop}(h:Bk X.Wg e)(fn:FuncId)(pos:String):OkW (fX S X.Wg) Own Rd k {g:=k,fn,pos,act:= .ofEvent e}:=by
 refine⟨rfl,λx c=> ?_⟩;rcases h with d|d|⟨a,f,rfl,i⟩
 ·simp[ofEvent_loc_mark d]at c;cases c
 ·simp[ofEvent_loc_mark d]at c;cases c
 ·have b:(MemAct.access ⟨.cell a,f,true⟩).touch?=some x:=c;simp[MemAct.touch?,Option.some.injEq]at b;subst b;exact .inl ⟨.inl (.inr i),by simp,by simp⟩
theorem J2{Own Rd:Nat->Loc->Prop}(h:Bk X.Wg e)(fn:FuncId)(pos:String):Ok0 (fX S X.Wg) Own Rd k {g:=0,fn,pos,act:= .ofEvent e}:=by
 refine⟨rfl,λx c=> ?_⟩;rcases h with d|d|⟨a,f,rfl,i⟩
 ·simp[ofEvent_loc_mark d]at c;cases c
 ·simp[ofEvent_loc_mark d]at c;cases c
 ·have b:(MemAct.access ⟨.cell a,f,true⟩).touch?=some x:=c;simp[MemAct.touch?,Option.some.injEq]at b;subst b;exact .inl ⟨.inl (.inr i),by simp⟩
theorem Kf(h:Bk X.Wg e){x:Touch}(c:(MemAct.ofEvent e).touch?=some x):fX S X.Wg x.loc:=by
 rcases h with d|d|⟨a,f,rfl,g⟩
 ·rw[ofEvent_loc_mark d]at c;cases c
 ·rw[ofEvent_loc_mark d]at c;cases c
 ·have b:(MemAct.access ⟨.cell a,f,true⟩).touch?=some x:=c;simp[MemAct.touch?,Option.some.injEq]at b;subst b;exact .inl (.inr g)
theorem Ei{B:Nat}(f:X.Wg<B)(h:Bk X.Wg e):(MemAct.ofEvent e).low B:=by
 rcases h with b|b|⟨a,c,rfl,d⟩
 ·rw[ofEvent_loc_mark b];trivial
 ·rw[ofEvent_loc_mark b];trivial
 ·show a.block<B;omega
theorem xK(h:Bk X.Wg e)(b:Addr):e.loc≠ .mark (.release b):=by
 rcases h with c|c|⟨a,d,rfl,f⟩<;>grind
theorem du.worker(hF:∀V g w,Fin V g w->g.status= .running)(hA:∀V g w,Anch V g w->g.status= .running)(hN:N<2147483648)(h:du X Fin Anch N S m j gs w t D Nd V0 d0 q tag u f0 a st sm)
 (au:Jc X Fin Anch N S m Post j Nd (fG N j D tag u) (lI m j D f0 q))  (B:i<j)  (hg:gs[1+m+i]?=some g) (a0:g.status= .running):
 ∃o ops,runT X.P (crowd gs w sl) (1+m+i)=(.next o,ops)/\dk X.P Post o (t++ops):=by
 letI:Go.ConcR.Payload:=dh
 have hb:=h.sit.bound;have b9:=Vc_le j D;have b6:(1+m+i==0)=false:=by simp
 have l:=h.mode;have n:=h.wg;have fin:∀{z:Goroutine} {E:World} {es:Array Event} {D':Nat->WD} {Nd':Nat->dY} {I J:Int},stepG X.P false g w= .go z E es->
  ip X S m j ((gs.map (woken X.P g z E)).setIfInBounds (1+m+i) z) E (t++MemOp.ofEvents (1+m+i) g.frame.fn g.frame.place es) D' Nd' V0 d0 q->aT X V0 w E->WgAt X.ty X.Wg E I J->
  (∀p,(p=tag\/(tag= .blk/\p= .w3))->(mayWake X.P g=true->z.status= .running->p≠ .blk)->Go.ConcN.Mode j D' p I J)->(tag= .ret->vH X m j (t++MemOp.ofEvents (1+m+i) g.frame.fn g.frame.place es))->
  (∀i,i<j->Acc (jB X i) (Nd' i))->(∀f',f'<=f0+1->GZ X j j (fG N j D' tag u) (fG N j D tag u) Nd' Nd (lI m j D' f' q) (lI m j D f0 q))->∃o ops,runT X.P (crowd gs w sl) (1+m+i)=(.next o,ops)/\dk X.P Post o (t++ops):=by
  intro z E es D' Nd' I J b hc ag hw hm Y b1 aw;obtain⟨p,f',a',hS,hf,as⟩:=h.other hF hA (k:=1+m+i) (by omega) hc ag hw hm Y b1;refine⟨_,_,runT_crowd_go (P:=X.P) (sl:=sl) (i:=1+m+i) hg (by rw[b6];exact b),au _ _ _ _ _ _ _ _ _ _ _ _ _ _ _ _ hS ?_⟩;have:=aw f' hf;unfold fG at this⊢;rw[as];exact this
 obtain⟨b2,a4,hs⟩:=h.crew.wk i B;obtain rfl:g=b2:=by rw[hg]at a4;exact Option.some.inj a4
 rcases hs with⟨h7,az,a1,ay,hW,hR⟩|⟨h6,hs⟩
 ·
  have nr:tag≠ .ret:=l.not_ret B (by omega);by_cases a6:uG X i (Nd i)
  ·obtain⟨_,ap⟩:=a6;obtain⟨ax,z,b,k,hk⟩:=ap w hR;rw[←ay]at b;have a8:Deaf t (1+m+i)=0:=(by rw[h.crew.deafW i B,a1]);have e1:=sumTo_upd D (⟨6,k,0⟩:WD) cnt B;have e2:=sumTo_upd D (⟨6,k,0⟩:WD) WD.stage B;have c1:cnt (D i)=1:=(by simp[cnt,h7]);have c2:cnt (⟨6,k,0⟩:WD)=1:=(by simp[cnt]);refine fin (D':=upd D i ⟨6,k,0⟩) (Nd':=Nd) b ?_ (aT.refl X V0 w) n (λ_ ht _=>(l.counted B (by omega) (.inl rfl) _ _).retag ht) (λe=>absurd e nr) h.acc λf' _=> .inl ?_
   ·refine h.crew.stepW B (vT _ w) ⟨_,_,n⟩ (by omega) (Go.ConcN.WSit.k1 hk) (λe d=> ?_) (λe d x hx=>by simp only[List.mem_toArray,List.mem_singleton]at d;subst d;cases hx) (by rw[a1];rfl) ⟨t.size,RelBy.new a8 _ _⟩ ax;simp only[List.mem_toArray,List.mem_singleton]at d;subst d;refine⟨λfn am=>⟨rfl,λx hx=>by cases hx⟩, ?_,by simp[Go.ConcR.mk]⟩;show X.Wg<_;exact h.crew.lies.wgl.1
   ·have:=Go.ConcN.phi_mono N (v':=Vc j (upd D i ⟨6,k,0⟩)) (v:=Vc j D) (by simp only[Vc]at*;omega) tag;simp only[fG,Vc,Ssum]at*;omega
  ·obtain⟨_,c⟩:=hW.cases.resolve_left a6;obtain⟨z,E,es,b,ao,hn⟩:=c w hR;have aa:=b;rw[←ay]at aa;obtain⟨ag,_,_,_,_,_,b0⟩:=qJ h.crew.lies h.crew.list B ao;have ab:jB X i ((Nd i).next w z E) (Nd i):=⟨a6,w,z,E,es,hR,b,rfl⟩;refine fin (D':=D) (Nd':=upd Nd i ((Nd i).next w z E)) aa (h.crew.work B hg h7 ⟨az,a1⟩ ao hn) ag (n.of_block b0) (λ_ ht _=>l.retag ht) (λe=>absurd e nr) (λk hk=> ?_) λf' _=> .inr ⟨rfl,rfl, .inl ⟨i,_,B,ab,rfl⟩⟩;by_cases e:k=i
   ·subst e;rw[upd_same];exact(h.acc k hk).inv ab
   ·rw[upd_ne Nd _ e];exact h.acc k hk
 ·generalize W:(D i).stage=s at hs h6;generalize az:(D i).fuel=fu at hs;generalize a1:(D i).deaf=dd at hs;have a8:Deaf t (1+m+i)=dd:=by rw[h.crew.deafW i B,a1]
  have nr:s≠1->tag≠ .ret:=λh=>l.not_ret B (by omega);have a7:∀{z:Goroutine} {E:World} {es:Array Event} {K C A:Nat} {I J:Int},stepG X.P false g w= .go z E es->Aside X.Wg w E->WgAt X.ty X.Wg E I J->(∀e∈es,Bk X.Wg e)->
   (∀G e,es[G]?=some e->(MemAct.ofEvent e).touch?=none\/0<deafBehind dd (es.extract 0 G))->ye X K C A z E->K<=6->deafBehind dd es=A->
   (∀p,(p=tag\/(tag= .blk/\p= .w3))->(mayWake X.P g=true->z.status= .running->p≠ .blk)->Go.ConcN.Mode j (upd D i ⟨K,C,A⟩) p I J)->(tag= .ret->vH X m j (t++MemOp.ofEvents (1+m+i) g.frame.fn g.frame.place es))->
   ((K<s/\cnt ⟨K,C,A⟩<=cnt (D i))\/(K=s/\C+1=fu))->∃o ops,runT X.P (crowd gs w sl) (1+m+i)=(.next o,ops)/\dk X.P Post o (t++ops):=by
   intro z E es K C A I J b a9 U M hd a2 aj ai Q Z ah;have e1:=sumTo_upd D (⟨K,C,A⟩:WD) cnt B;have e2:=sumTo_upd D (⟨K,C,A⟩:WD) WD.stage B;have e3:=sumTo_upd D (⟨K,C,A⟩:WD) WD.fuel B;obtain⟨r,hr⟩:=h.crew.rel i B (by omega);refine fin (D':=upd D i ⟨K,C,A⟩) (Nd':=Nd) b (h.crew.stepW B (m6 a9) ⟨_,_,U⟩ aj a2 (λe d=>⟨λfn am=>J1 (M e d) fn am,Ei h.crew.lies.wgl.1 (M e d),xK (M e d) _⟩) (λe d x hx=>Kf (M e d) hx) (by rw[a1];exact ai) ⟨r,hr.book a8 _ _ M hd⟩ (h.crew.has i B (by omega)))
    (qK h.crew.lies h.crew.list (m6 a9) ⟨_,_,U⟩).1 U Q Z h.acc λf' hf=> ?_
   rcases ah with⟨h1,h2⟩|⟨h1,h2⟩
   ·refine .inl ?_;have:=Go.ConcN.phi_mono N (v':=Vc j (upd D i ⟨K,C,A⟩)) (v:=Vc j D) (by simp only[Vc]at*;omega) tag;simp only[fG,Vc,Ssum]at*;omega
   ·have ec:cnt (⟨K,C,A⟩:WD)=cnt (D i):=(by simp only[cnt,h1,W]);have ev:Vc j (upd D i ⟨K,C,A⟩)=Vc j D:=(by simp only[Vc]at*;omega);refine .inr ⟨?_,rfl, .inr ⟨rfl, ?_⟩⟩
    ·simp only[fG,ev,Ssum]at*;omega
    ·simp only[lI,Fsum]at*;omega
  have F:∀{z:Goroutine} {E:World} {es:Array Event} {K C A:Nat} {I J:Int},stepG X.P false g w= .go z E es->Aside X.Wg w E->WgAt X.ty X.Wg E I J->(∀e∈es,Bk X.Wg e)->
   (∀G e,es[G]?=some e->(MemAct.ofEvent e).touch?=none\/0<deafBehind dd (es.extract 0 G))->ye X K C A z E->K<=6->deafBehind dd es=A->
   Go.ConcN.Mode j (upd D i ⟨K,C,A⟩) tag I J->(tag= .ret->vH X m j (t++MemOp.ofEvents (1+m+i) g.frame.fn g.frame.place es))->
   ((K<s/\cnt ⟨K,C,A⟩<=cnt (D i))\/(K=s/\C+1=fu))->∃o ops,runT X.P (crowd gs w sl) (1+m+i)=(.next o,ops)/\dk X.P Post o (t++ops):=
   λb a9 U M hd a2 aj ai Q Z ah=>a7 b a9 U M hd a2 aj ai (λ_ ht _=>Q.retag ht) Z ah
  have T:∀{z:Goroutine} {C:Nat},stepG X.P false g w= .go z w #[]->ye X s C dd z w->C+1=fu->s≠1->∃o ops,runT X.P (crowd gs w sl) (1+m+i)=(.next o,ops)/\dk X.P Post o (t++ops):=by
   intro z C b a2 hm h1;exact F b (.refl X.Wg w) n (by simp) (by simp) a2 h6 rfl (by have:=l.same (i:=i) C dd;rwa [W]at this) (λe=>absurd e (nr h1)) (.inr ⟨rfl,hm⟩)
  cases hs with
  |r0 _=>exact absurd h6 (by decide)
  |k1 h=>
   rcases Goes.cases h with y|⟨C,rfl,c⟩
   ·obtain⟨_,z,b,O,hk⟩:=y w (@Go.ConcN.RW.refl dh _ _ _ _ _ _ w);exact F b (.refl X.Wg w) n (by intro e d;simp at d;subst d;exact .inl rfl) (by intro G e d;exact .inl (by have:=Array.mem_of_getElem? d;simp at this;subst this;rfl)) (.d1 hk) (by omega) rfl
     (l.counted B (by omega) (.inr rfl) _ _) (λe=>absurd e (nr (by omega))) (.inl ⟨by omega,by simp[cnt,W]⟩)
   ·obtain⟨z,E,es,b,⟨rfl,rfl⟩,R⟩:=c w (@Go.ConcN.RW.refl dh _ _ _ _ _ _ w);exact T b (.k1 R) rfl (by omega)
  |d1 h=>
   rcases Goes.cases h with y|⟨C,rfl,c⟩
   ·obtain⟨_,ac⟩:=y w (@Go.ConcN.RW.refl dh _ _ _ _ _ _ w);have b7:cnt (D i)=1:=(by simp[cnt,W]);have ba:1<=Vc j D:=(by have:=le_sumTo (f:=λx=>cnt (D x)) B;simp only[Vc];omega);have al:∀e∈#[rd (stA X.Wg),wr (stA X.Wg)],Bk X.Wg e:=(by intro e d;simp at d;rcases d with rfl|rfl<;>exact bk_cell _ _ rfl);have ak:∀G e,(#[rd (stA X.Wg),wr (stA X.Wg)]:Array Event)[G]?=some e->(MemAct.ofEvent e).touch?=none\/0<deafBehind 1 ((#[rd (stA X.Wg),wr (stA X.Wg)]:Array Event).extract 0 G):=by
     intro G e d
     match G,d with
     |0,_=>exact .inr (by simp[deafBehind])
     |1,_=>exact .inr (by simp[deafBehind,rd])
     |G+2,d=>simp at d
    have ar:∀q,cnt (⟨1,q,1⟩:WD)=0:=λ_=>rfl;have an:∀q,OpenSt j D->OpenSt j (upd D i ⟨1,q,1⟩):=λq h a ha=>by
     by_cases e:a=i
     ·subst e;rw[upd_same];simp
     ·rw[upd_ne D _ e];exact h a ha
    cases l with
    |opn h1 h2 h3=>
     obtain⟨v,hv⟩:∃v,Vc j D+pend tag=v+1:=⟨Vc j D+pend tag- 1,by omega⟩;rw[hv]at n;have ad:WgAt X.ty X.Wg w (((v:Nat)+1)*KK+((0:Nat):Int)) 0:=(by simpa using n);obtain⟨z,b,_,Y⟩:=ac v 0 (by omega) (by omega) ad;obtain⟨q,Y⟩:=Y (by omega);have ae:Vc j (upd D i ⟨1,q,1⟩)+pend tag=v:=(by have:=Vc_upd D (⟨1,q,1⟩:WD) B;have:=ar q;omega);refine F b (aside_setCell w (stA X.Wg) _) (n.setSt _) al ak (.quit Y) (by omega) rfl ?_ (λe=>absurd e (nr (by omega))) (.inl ⟨by omega,by simp[cnt]⟩);have e:((v:Nat):Int)*KK+((0:Nat):Int)=((Vc j (upd D i ⟨1,q,1⟩)+pend tag:Nat):Int)*KK:=(by rw[ae];simp);rw[e];exact .opn h1 (an q h2) (λvs ev=>by have:=h3 vs ev;omega)
    |reg h1 h2 h3=>
     obtain⟨v,hv⟩:∃v,Vc j D=v+1:=⟨Vc j D- 1,by omega⟩;rw[hv]at n;have hp:pend tag=0:=by cases tag<;>first|rfl|exact h1.elim
     have ad:WgAt X.ty X.Wg w (((v:Nat)+1)*KK+((1:Nat):Int)) 0:=(by simpa using n);obtain⟨z,b,hl,Y⟩:=ac v 1 (by omega) (by omega) ad;by_cases b3:v=0
     ·subst b3;obtain⟨O,hk⟩:=hl ⟨rfl,rfl⟩;refine F b (aside_setCell w (stA X.Wg) _) (n.setSt _) al ak (.d2 hk) (by omega) rfl ?_ (λe=>absurd e (nr (by omega))) (.inl ⟨by omega,by simp[cnt]⟩);have H:∀a,a<j->a≠i->(D a).stage=1:=λa ha e=>by
         have c0:=others_uncounted B hv b7 a ha e;have:=h2 a ha;simp only[cnt]at c0;split at c0<;>omega
      have:=Go.ConcN.Mode.last (j:=j) (D:=upd D i ⟨4,O,1⟩) (tag:=tag) i h1 B (by rw[upd_same];simp) (λa ha e=>by rw[upd_ne D _ e];exact H a ha e);rw[upd_same]at this;simpa using this
     ·obtain⟨q,Y⟩:=Y (by omega);have ae:Vc j (upd D i ⟨1,q,1⟩)=v:=(by have:=Vc_upd D (⟨1,q,1⟩:WD) B;have:=ar q;omega);refine F b (aside_setCell w (stA X.Wg) _) (n.setSt _) al ak (.quit Y) (by omega) rfl ?_ (λe=>absurd e (nr (by omega))) (.inl ⟨by omega,by simp[cnt]⟩);have e:((v:Nat):Int)*KK+((1:Nat):Int)=((Vc j (upd D i ⟨1,q,1⟩):Nat):Int)*KK+1:=(by rw[ae];simp);rw[e];exact .reg h1 (an q h2) (by omega)
    |last L _ h2 h3 h4=>
     by_cases e:i=L
     ·subst e;omega
     ·have:=h4 i B e;omega
    |sema h2=>have:=h2 i B;omega
    |fin _ h2=>have:=h2 i B;omega
   ·obtain⟨z,E,es,b,⟨rfl,rfl⟩,R⟩:=c w (@Go.ConcN.RW.refl dh _ _ _ _ _ _ w);exact T b (.d1 R) rfl (by omega)
  |d2 h=>
   rcases Goes.cases h with y|⟨C,rfl,c⟩
   ·obtain⟨_,hx⟩:=y w (@Go.ConcN.RW.refl dh _ _ _ _ _ _ w);obtain⟨a5,H,rfl,rfl⟩:=l.isLast B (by omega);simp only[W]at n;obtain⟨z,b,O,hk⟩:=hx (by simpa using n);refine F b (.refl X.Wg w) n (by intro e d;simp at d;subst d;exact bk_cell _ _ rfl) (by intro G e d;match G,d with|0,_=>exact .inr (by simp[deafBehind])|G+1,d=>simp at d) (.d3 hk) (by omega) rfl ?_ (λe=>absurd e (nr (by omega))) (.inl ⟨by omega,by simp[cnt]⟩);have:=Go.ConcN.Mode.last (j:=j) (D:=upd D i ⟨3,O,1⟩) (tag:=tag) i a5 B (by rw[upd_same];simp) (λa ha e=>by rw[upd_ne D _ e];exact H a ha e);rw[upd_same]at this;simpa using this
   ·obtain⟨z,E,es,b,⟨rfl,rfl⟩,R⟩:=c w (@Go.ConcN.RW.refl dh _ _ _ _ _ _ w);exact T b (.d2 R) rfl (by omega)
  |d3 h=>
   rcases Goes.cases h with y|⟨C,rfl,c⟩
   ·obtain⟨_,hx⟩:=y w (@Go.ConcN.RW.refl dh _ _ _ _ _ _ w);obtain⟨a5,H,rfl,rfl⟩:=l.isLast B (by omega);simp only[W]at n;obtain⟨z,b,O,hk⟩:=hx (by simpa using n);refine F b (aside_setCell w (stA X.Wg) _) (n.setSt 0) (by intro e d;simp at d;subst d;exact bk_cell _ _ rfl) (by intro G e d;match G,d with|0,_=>exact .inr (by simp[deafBehind])|G+1,d=>simp at d) (.d4 hk) (by omega) rfl ?_ (λe=>absurd e (nr (by omega))) (.inl ⟨by omega,by simp[cnt]⟩);have:=Go.ConcN.Mode.last (j:=j) (D:=upd D i ⟨2,O,1⟩) (tag:=tag) i a5 B (by rw[upd_same];simp) (λa ha e=>by rw[upd_ne D _ e];exact H a ha e);rw[upd_same]at this;simpa using this
   ·obtain⟨z,E,es,b,⟨rfl,rfl⟩,R⟩:=c w (@Go.ConcN.RW.refl dh _ _ _ _ _ _ w);exact T b (.d3 R) rfl (by omega)
  |d4 h=>
   rcases Goes.cases h with y|⟨C,rfl,c⟩
   ·obtain⟨_,b5,hx⟩:=y w (@Go.ConcN.RW.refl dh _ _ _ _ _ _ w);obtain⟨a5,H,rfl,rfl⟩:=l.isLast B (by omega);simp only[W]at n;obtain⟨z,b,q,Y⟩:=hx (by simpa using n);have af:z.status= .running:=by
     cases q with
     |zero=>exact absurd Y.2 (by decide)
     |succ q=>exact Y.elim (λx=>absurd x.2 (by decide)) (λx=>x.1)
    refine a7 b (aside_setCell w (smA X.Wg) _) (n.setSm 1) (es:=semEvents (smA X.Wg)) ?_ ?_ (.quit Y) (by omega) (by simp[deafBehind,semEvents]) ?_ (λe=>absurd e (nr (by omega))) (.inl ⟨by omega,by simp[cnt]⟩)
    ·exact Go.ConcN.bk_sem
    ·intro G e d
     match G,d with
     |0,d=>simp[semEvents]at d;subst d;exact .inl rfl
     |1,_=>exact .inr (by simp[deafBehind,semEvents])
     |2,_=>exact .inr (by simp[deafBehind,semEvents])
     |3,d=>simp[semEvents]at d;subst d;exact .inl rfl
     |G+4,d=>simp[semEvents]at d
    ·intro p ht hw;have b4:=hw b5 af;have e3:p= .w3:=by
      rcases ht with rfl|⟨_,rfl⟩
      ·cases p<;>first|rfl|exact a5.elim|exact absurd rfl b4
      ·rfl
     subst e3;simp only[if_true];exact .sema λa ha=>by
      by_cases e:a=i
      ·subst e;rw[upd_same]
      ·rw[upd_ne D _ e];exact H a ha e
   ·obtain⟨z,E,es,b,⟨rfl,rfl⟩,R⟩:=c w (@Go.ConcN.RW.refl dh _ _ _ _ _ _ w);exact T b (.d4 R) rfl (by omega)
  |quit aq=>
   cases fu with
   |zero=>rw[aq.1]at a0;cases a0
   |succ k=>
    rcases aq with⟨hf,_⟩|⟨_,z,es,a3,c,Y⟩
    ·rw[hf]at a0;cases a0
    ·have M:∀e∈es,Bk X.Wg e:=λe d=>bk_of_mute (a3 e d);have av:∀G e,es[G]?=some e->(MemAct.ofEvent e).touch?=none\/0<deafBehind dd (es.extract 0 G):=λG e d=> .inl (touch_mute (a3 e (Array.mem_of_getElem? d)));refine F (c w) (.refl X.Wg w) n M av (.quit Y) (by omega) rfl (by have:=l.same (i:=i) k (deafBehind dd es);rwa [W]at this) (λe=>(h.acq e).app λi' r b8 hr=> ?_) (.inr ⟨rfl,rfl⟩);by_cases e':i'=i
     ·subst e';exact hr.book a8 _ _ M av
     ·exact hr.appOther bD (by omega)
end
end
section
open Go Go.Conc
open Go.ConcN (sumTo upd sumTo_upd upd_ne upd_same sumTo_upd_out CT Apart PermW WgLive RelBy WD ShN OkW Ok0 norel_of CTag phi Vc Ssum Fsum cnt pend isOpen isW3 OpenSt AllQuit Vc_upd Vc_le bk_cell bk_dis bk_en bk_rd bk_rw bk_sem allQuit_of)
open Go.ConcR (KK WgAt stA smA rd wr DC0 Bk bk_of_mute ofEvent_loc_mark)
section
variable{X:Ln}{Fin Anch:(Nat->Prop)->Goroutine->World->Prop}{N:Nat}{S:Nat->Prop}{m j:Nat}{gs:Array Goroutine}{w w':World}{t:Trace}{D D':Nat->WD}{Nd Nd':Nat->dY}{V V0:Nat->Prop}{d0:Nat}{q q':Nat->Nat}{tag:CTag}{u f0:Nat}{a:Goroutine}{st sm st' sm':Int}{Post:Value->World->Prop}{sl:Option (Nat×Nat)}
theorem bG.cases{a:(Nat->Prop)->Goroutine->World->Prop}{f:Nat}(h:bG X a f V g w):
 (∀b,aT X V w b->a V g b)\/∃f',f=f'+1/\∃g' w' es,stepG X.P true g w= .go g' w' es/\bF V X.RO w w' es/\bG X a f' (hY V w w') g' w':=by
 cases f with
 |zero=>exact .inl h
 |succ f=>exact h.imp id λ⟨_,h⟩=>⟨f,rfl,h w (aT.refl X V w)⟩
def J8(X:Ln)(e:Event):Prop:=Bk X.Wg e\/e=Go.ConcR.mk (.acquire (stA X.Wg))\/e=Go.ConcR.mk (.read (smA X.Wg))\/e=Go.ConcR.mk (.write (smA X.Wg))
theorem F2{Own Rd:Nat->Loc->Prop}(h:J8 X e)(fn:FuncId)(pos:String):Ok0 (fX S X.Wg) Own Rd k {g:=0,fn,pos,act:= .ofEvent e}:=by
 rcases h with h|rfl|rfl|rfl
 ·exact J2 h fn pos
 ·exact⟨rfl,λx b=>by cases b⟩
 ·refine⟨rfl,λx b=> ?_⟩;have a:(MemAct.mark _).touch?=some x:=b;simp[MemAct.touch?,Option.some.injEq]at a;subst a;exact .inl ⟨.inl (.inr rfl),by simp⟩
 ·refine⟨rfl,λx b=> ?_⟩;have a:(MemAct.mark _).touch?=some x:=b;simp only[MemAct.touch?,Option.some.injEq]at a;subst a;exact .inl ⟨.inl (.inr rfl),by simp⟩
theorem H9{B:Nat}(a:X.Wg<B)(h:J8 X e):(MemAct.ofEvent e).low B:=by
 rcases h with h|rfl|rfl|rfl
 ·exact Ei a h
 ·exact a
 ·exact a
 ·exact a
theorem CR(h:J8 X e)(b:Addr):e.loc≠ .mark (.release b):=by
 rcases h with h|rfl|rfl|rfl
 ·exact xK h b
 ·simp[Go.ConcR.mk]
 ·simp[Go.ConcR.mk]
 ·simp[Go.ConcR.mk]
theorem yn(h:J8 X e):∀x∈#[e],J8 X x:=by grind
theorem du.starter(as:∀V g w,Anch V g w->∃k,bG X (qw X Fin Anch) k V g w)(hN:N<2147483648)(h:du X Fin Anch N S m j gs w t D Nd V0 d0 q tag u f0 a st sm)
 (Q:Jc X Fin Anch N S m Post j Nd (fG N j D tag u) (lI m j D f0 q)) (af:a.status= .running):
 (∃B ops,runT X.P (crowd gs w sl) 0=(.next B,ops)/\dk X.P Post B (t++ops))\/(tag= .ret/\∀a1,aT X V0 w a1->Fin V0 a a1):=by
 have hb:=h.sit.bound;have aw:=Vc_le j D;have f:=h.mode;have o:=h.wg;have C:=h.sit;have Y:0<gs.size:=by rw[h.crew.size];omega
 have E:∀{a':Goroutine} {G:World} {es:Array Event} {tag':CTag} {u' f':Nat},stepG X.P true a w= .go a' G es->bF V0 X.RO w G es->CK X Fin Anch N tag' u' j f' d0 (hY V0 w G) a' G->Go.ConcN.Mode j D tag' st sm->(tag'= .ret->tag= .ret)->
  (2*phi N (Vc j D) tag'+u'<2*phi N (Vc j D) tag+u\/(2*phi N (Vc j D) tag'+u'=2*phi N (Vc j D) tag+u/\f'<f0))->∃B ops,runT X.P (crowd gs w sl) 0=(.next B,ops)/\dk X.P Post B (t++ops):=by
  intro a' G es tag' u' f' d l aa ad ag Z;obtain⟨a9,F,R⟩:=Dy h.crew.lies h.crew.list l;have ar:deafBehind d0 es=d0:=deafBehind_still (λe T=>⟨(iv (l.ev e T)).1,(iv (l.ev e T)).2.1⟩) d0;have hc:=h.crew.step0 (a:=a) (a':=a') (es:=es) a9 F λe T=>⟨λfn pos=>FU F (l.ev e T) fn pos,uX (λb hb=>(F.v0 b hb).1) (λb hb=>(F.ro b hb).1) (l.ev e T),(iv (l.ev e T)).2.2 _⟩;rw[ar]at hc;refine⟨_,_,runT_crowd_go (P:=X.P) (sl:=sl) (i:=0) h.at0 (show stepG X.P (0==0) a w=_ from d),Q _ _ _ _ _ _ _ _ _ _ _ _ _ _ _ _ ⟨ou _ _ Y,aa,hc,o.of_block R,ad,λe=>(h.acq (ag e)).app λi r _ K=>K.appOther bD (by omega),h.acc⟩ ?_⟩;rcases Z with Z|⟨h1,h2⟩
  ·exact .inl (by simp only[fG];omega)
  ·exact .inr ⟨by simp only[fG];omega,rfl, .inr ⟨rfl,by simp only[lI];omega⟩⟩
 have p:∀{a':Goroutine} {G:World} {es:Array Event} {tag':CTag} {u' f':Nat} {a5 a6:Int},stepG X.P true a w= .go a' G es->Aside X.Wg w G->WgAt X.ty X.Wg G a5 a6->(∀e∈es,J8 X e)->CK X Fin Anch N tag' u' j f' (deafBehind d0 es) V0 a' G->Go.ConcN.Mode j D tag' a5 a6->
  (tag'= .ret->vH X m j (t++MemOp.ofEvents 0 a.frame.fn a.frame.place es))->
  (2*phi N (Vc j D) tag'+u'<2*phi N (Vc j D) tag+u\/(2*phi N (Vc j D) tag'+u'=2*phi N (Vc j D) tag+u/\f'<f0))->∃B ops,runT X.P (crowd gs w sl) 0=(.next B,ops)/\dk X.P Post B (t++ops):=by
  intro a' G es tag' u' f' a5 a6 d am a3 a7 aa ad ak Z;obtain⟨_,h1,h2,h3,h4⟩:=qK h.crew.lies h.crew.list (m6 am) ⟨_,_,a3⟩;have ae:w.heap.size<=G.heap.size:=by rw[am.size];exact Nat.le_refl _
  have F:=h.crew.lies.grow ae;have hc:=h.crew.step0 (a:=a) (a':=a') (es:=es) ⟨h1,h2,h3,h4,ae⟩ F λe T=>⟨λfn pos=>F2 (a7 e T) fn pos,H9 F.wgl.1 (a7 e T),CR (a7 e T) _⟩;refine⟨_,_,runT_crowd_go (P:=X.P) (sl:=sl) (i:=0) h.at0 (show stepG X.P (0==0) a w=_ from d),Q _ _ _ _ _ _ _ _ _ _ _ _ _ _ _ _ ⟨ou _ _ Y,aa,hc,a3,ad,ak,h.acc⟩ ?_⟩;rcases Z with Z|⟨h1,h2⟩
  ·exact .inl (by simp only[fG];omega)
  ·exact .inr ⟨by simp only[fG];omega,rfl, .inr ⟨rfl,by simp only[lI];omega⟩⟩
 have H:∀{es:Array Event},(∀e∈es,Bk X.Wg e)->∀e∈es,J8 X e:=λh e T=> .inl (h e T);have a2:∀f1,bG X (qw X Fin Anch) f1 V0 a w->j=N->d0=1->u=0->Go.ConcN.Mode j D .w1 st sm->(tag= .anch\/(tag= .w1/\f1=f0))->∃B ops,runT X.P (crowd gs w sl) 0=(.next B,ops)/\dk X.P Post B (t++ops):=by
  intro f1 A v hd hu hm ai;subst hd hu;have O:2*phi N (Vc j D) .w1+0<2*phi N (Vc j D) tag+0\/(2*phi N (Vc j D) .w1+0=2*phi N (Vc j D) tag+0/\f1=f0):=by
   rcases ai with rfl|⟨rfl,rfl⟩
   ·exact .inl (by simp only[phi];omega)
   ·exact .inr ⟨rfl,rfl⟩
  rcases A.cases with c|⟨f',rfl,a',G,es,d,l,n⟩
  ·obtain⟨_,I⟩:=c w (aT.refl X V0 w);obtain⟨ho,rfl,rfl,_⟩:=hm.open_inv trivial;obtain⟨a',d,h0,ab⟩:=I (Vc j D) (by omega) (by simpa[pend]using o);by_cases hv:Vc j D=0
   ·obtain⟨k,z⟩:=h0 hv;refine p d (.refl X.Wg w) o (H bk_rd) (tag':= .ke) (u':=0) (f':=k) ⟨rfl,v,rfl,z⟩ ?_ (by simp) (.inl (by simp only[phi]at O⊢;omega));have e:((Vc j D+pend .w1:Nat):Int)*KK=0:=(by rw[hv];simp[pend]);rw[e];exact .fin trivial (allQuit_of ho hv)
   ·obtain⟨k,z⟩:=ab hv;exact p d (.refl X.Wg w) o (H bk_rd) (tag':= .w2 (Vc j D)) (u':=0) (f':=k) ⟨rfl,v,rfl,z⟩ (hm.reopen trivial trivial rfl (λvs e=>by cases e;omega)) (by simp) (.inl (by simp only[phi]at O⊢;omega))
  ·exact E d l (tag':= .w1) (u':=0) (f':=f') ⟨rfl,v,rfl,n⟩ hm (by simp) (by rcases O with O|⟨h1,h2⟩<;>omega)
 cases tag with
 |sp r s=>
  obtain⟨rfl,K,v,hs⟩:=C;rcases hs with⟨rfl,rfl,A⟩|⟨rfl,rfl,A⟩|⟨rfl,rfl,A⟩|⟨rfl,rfl,A⟩|⟨rfl,rfl,A⟩
  ·rcases A.cases with c|⟨f',rfl,a',G,es,d,l,n⟩
   ·obtain⟨_,a',d,k,z⟩:=c w (aT.refl X V0 w);exact .inl (p d (.refl X.Wg w) o (H bk_dis) (tag':= .sp r 4) (u':=0) (f':=k) ⟨rfl,K,v, .inr (.inl ⟨rfl,rfl,z⟩)⟩ (f.reopen trivial trivial rfl (by simp)) (by simp) (.inl (by simp only[phi];omega)))
   ·exact .inl (E d l (tag':= .sp r 5) (u':=0) (f':=f') ⟨rfl,K,v, .inl ⟨rfl,rfl,n⟩⟩ f (by simp) (.inr ⟨rfl,by omega⟩))
  ·rcases A.cases with c|⟨f',rfl,a',G,es,d,l,n⟩
   ·obtain⟨_,I⟩:=c w (aT.refl X V0 w);obtain⟨ho,rfl,rfl,_⟩:=f.open_inv trivial;obtain⟨a',d,h0,ab⟩:=I (Vc j D) (by omega) (by simpa[pend]using o);have e3:(((Vc j D:Nat):Int)+1)*KK=((Vc j D+pend (.sp r 3):Nat):Int)*KK:=(by simp[pend]);have e2:(((Vc j D:Nat):Int)+1)*KK=((Vc j D+pend (.sp r 2):Nat):Int)*KK:=(by simp[pend]);by_cases hv:Vc j D=0
    ·obtain⟨k,z⟩:=h0 hv;refine .inl (p d (aside_setCell w (stA X.Wg) _) (o.setSt _) (H bk_rw) (tag':= .sp r 3) (u':=0) (f':=k) ⟨rfl,K,v, .inr (.inr (.inl ⟨rfl,rfl,z⟩))⟩ ?_ (by simp) (.inl (by simp only[phi];omega)));rw[e3];exact .opn trivial ho (by simp)
    ·obtain⟨k,z⟩:=ab hv;refine .inl (p d (aside_setCell w (stA X.Wg) _) (o.setSt _) (H bk_rw) (tag':= .sp r 2) (u':=0) (f':=k) ⟨rfl,K,v, .inr (.inr (.inr (.inl ⟨rfl,rfl,z⟩)))⟩ ?_ (by simp) (.inl (by simp only[phi];omega)));rw[e2];exact .opn trivial ho (by simp)
   ·exact .inl (E d l (tag':= .sp r 4) (u':=0) (f':=f') ⟨rfl,K,v, .inr (.inl ⟨rfl,rfl,n⟩)⟩ f (by simp) (.inr ⟨rfl,by omega⟩))
  ·rcases A.cases with c|⟨f',rfl,a',G,es,d,l,n⟩
   ·obtain⟨_,a',d,k,z⟩:=c w (aT.refl X V0 w);exact .inl (p d (.refl X.Wg w) o (yn (.inr (.inr (.inl rfl)))) (tag':= .sp r 2) (u':=0) (f':=k) ⟨rfl,K,v, .inr (.inr (.inr (.inl ⟨rfl,rfl,z⟩)))⟩ (f.reopen trivial trivial rfl (by simp)) (by simp) (.inl (by simp only[phi];omega)))
   ·exact .inl (E d l (tag':= .sp r 3) (u':=0) (f':=f') ⟨rfl,K,v, .inr (.inr (.inl ⟨rfl,rfl,n⟩))⟩ f (by simp) (.inr ⟨rfl,by omega⟩))
  ·rcases A.cases with c|⟨f',rfl,a',G,es,d,l,n⟩
   ·obtain⟨_,a',d,k,z⟩:=c w (aT.refl X V0 w);exact .inl (p d (.refl X.Wg w) o (H bk_en) (tag':= .sp r 1) (u':=0) (f':=k) ⟨rfl,K,v, .inr (.inr (.inr (.inr ⟨rfl,rfl,z⟩)))⟩ (f.reopen trivial trivial rfl (by simp)) (by simp) (.inl (by simp only[phi];omega)))
   ·exact .inl (E d l (tag':= .sp r 2) (u':=0) (f':=f') ⟨rfl,K,v, .inr (.inr (.inr (.inl ⟨rfl,rfl,n⟩)))⟩ f (by simp) (.inr ⟨rfl,by omega⟩))
  ·rcases A.cases with c|⟨f',rfl,a',G,es,d,l,n⟩
   ·obtain⟨_,a',M,au,aq,a4,ao,W⟩:=c w (aT.refl X V0 w);obtain⟨ho,rfl,rfl,_⟩:=f.open_inv trivial;have U:=ao h.crew.list λb hb=>(h.crew.lies.v0 b (a4 b hb)).1;have J:=runT_crowd_spawn (P:=X.P) (sl:=sl) (i:=0) h.at0 (show stepG X.P (0==0) a w=_ from aq);rw[h.crew.size]at J;have hc:=h.crew.spawn (a':=a') (x:={g:=0,fn:=a.frame.fn,pos:=a.frame.place,act:= .go (1+m+j)}) (y:={g:=1+m+j,fn:=M.frame.fn,pos:=a.frame.place,act:= .start}) ⟨rfl,rfl⟩ ⟨rfl,rfl⟩ a4 U;have eV:Vc (j+1) (upd D j ⟨7,0,0⟩)=Vc j D+1:=by
     simp only[Vc,sumTo,upd_same];rw[sumTo_upd_out D _ cnt (Nat.le_refl _)];rfl
    have eS:Ssum (j+1) (upd D j ⟨7,0,0⟩)=Ssum j D+7:=by
     simp only[Ssum,sumTo,upd_same];rw[sumTo_upd_out D _ WD.stage (Nat.le_refl _)]
    have ah:OpenSt (j+1) (upd D j ⟨7,0,0⟩):=λi A=>by
     by_cases e:i=j
     ·subst e;rw[upd_same];simp
     ·rw[upd_ne D _ e];exact ho i (by omega)
    have a0:∀i,i<j+1->Acc (jB X i) (upd Nd j ⟨au,M,w⟩ i):=λi A=>by
     by_cases e:i=j
     ·subst e;rw[upd_same];exact U.acc
     ·rw[upd_ne Nd _ e];exact h.acc i (by omega)
    have al:((gs.setIfInBounds 0 a').push M)[0]?=some a':=by
     rw[Array.getElem?_push,if_neg (by simp only[Array.size_setIfInBounds];omega)];simp[Y]
    have an:∀tag',pend tag'=0->((Vc j D+pend (.sp r 1):Nat):Int)*KK=((Vc (j+1) (upd D j ⟨7,0,0⟩)+pend tag':Nat):Int)*KK:=λtag' hp=>by rw[eV,hp];simp[pend]
    cases r with
    |zero=>
     obtain⟨k,z⟩:=W;refine .inl ⟨_,_,J,Q (j+1) _ _ _ _ _ _ _ _ _ .kd 0 k a' _ _ ⟨al,⟨rfl,by omega,rfl,z⟩,hc,o, ?_,by simp,a0⟩ (.inl ?_)⟩
     ·rw[an .kd rfl];exact .opn trivial ah (by simp)
     ·simp only[fG,phi,eS];omega
    |succ r'=>
     obtain⟨k,z⟩:=W;have ej:N-(r'+1)=j+1:=(by omega);rw[ej]at z;refine .inl ⟨_,_,J,Q (j+1) _ _ _ _ _ _ _ _ _ (.sp r' 5) 0 k a' _ _ ⟨al,⟨rfl,by omega,by omega, .inl ⟨rfl,rfl,z⟩⟩,hc,o, ?_,by simp,a0⟩ (.inl ?_)⟩
     ·rw[an (.sp r' 5) rfl];exact .opn trivial ah (by simp)
     ·simp only[fG,phi,eS];omega
   ·exact .inl (E d l (tag':= .sp r 1) (u':=0) (f':=f') ⟨rfl,K,v, .inr (.inr (.inr (.inr ⟨rfl,rfl,n⟩)))⟩ f (by simp) (.inr ⟨rfl,by omega⟩))
 |kd=>
  obtain⟨rfl,v,rfl,A⟩:=C;rcases A.cases with c|⟨f',rfl,a',G,es,d,l,n⟩
  ·obtain⟨_,a',d,k,z⟩:=c w (aT.refl X V0 w);exact .inl (p d (.refl X.Wg w) o (H bk_dis) (tag':= .anch) (u':=0) (f':=k) ⟨rfl,v,rfl,z⟩ (f.reopen trivial trivial rfl (by simp)) (by simp) (.inl (by simp only[phi];omega)))
  ·exact .inl (E d l (tag':= .kd) (u':=0) (f':=f') ⟨rfl,v,rfl,n⟩ f (by simp) (.inr ⟨rfl,by omega⟩))
 |anch=>
  obtain⟨rfl,v,rfl,A⟩:=C;rcases A.cases with c|⟨f',rfl,a',G,es,d,l,n⟩
  ·obtain⟨k,z⟩:=as _ _ _ (c w (aT.refl X V0 w));exact .inl (a2 k z v rfl rfl (f.reopen trivial trivial rfl (by simp)) (.inl rfl))
  ·exact .inl (E d l (tag':= .anch) (u':=0) (f':=f') ⟨rfl,v,rfl,n⟩ f (by simp) (.inr ⟨rfl,by omega⟩))
 |w1=>
  obtain⟨rfl,v,rfl,A⟩:=C;exact .inl (a2 f0 A v rfl rfl f (.inr ⟨rfl,rfl⟩))
 |w2 vs=>
  obtain⟨rfl,v,rfl,A⟩:=C;rcases A.cases with c|⟨f',rfl,a',G,es,d,l,n⟩
  ·obtain⟨_,I⟩:=c w (aT.refl X V0 w);obtain⟨ho,rfl,rfl,ap⟩:=f.open_inv trivial;obtain⟨ai,h1⟩:=ap vs rfl;obtain⟨aj,ac⟩:=I (Vc j D) (by omega) (by simpa[pend]using o);by_cases e:Vc j D=vs
   ·obtain⟨a',d,k,z⟩:=aj e;exact .inl (p d (aside_setCell w (stA X.Wg) _) (o.setSt _) (H bk_rw) (tag':= .w3) (u':=1) (f':=k) ⟨v,rfl, .inr ⟨rfl,z⟩⟩ (.reg trivial ho (by omega)) (by simp) (.inl (by simp only[phi];omega)))
   ·obtain⟨a',d,k,z⟩:=ac e;exact .inl (p d (.refl X.Wg w) o (H bk_rd) (tag':= .anch) (u':=0) (f':=k) ⟨rfl,v,rfl,z⟩ (f.reopen trivial trivial rfl (by simp)) (by simp) (.inl (by simp only[phi];omega)))
  ·exact .inl (E d l (tag':= .w2 vs) (u':=0) (f':=f') ⟨rfl,v,rfl,n⟩ f (by simp) (.inr ⟨rfl,by omega⟩))
 |w3=>
  obtain⟨v,rfl,hs⟩:=C;rcases hs with⟨rfl,k0,rfl,A⟩|⟨rfl,A⟩
  ·rcases A.cases with c|⟨f',rfl,a',G,es,d,l,n⟩
   ·obtain⟨_,av,R,a8⟩:=c w (aT.refl X V0 w);cases f with
    |opn h1 _ _=>exact h1.elim
    |reg h1 h2 h3=>exact .inl (p (R ⟨_,o⟩) (.refl X.Wg w) o (by simp) (tag':= .blk) (u':=0) (f':=0) ⟨rfl,v,rfl,rfl,a,rfl,c⟩ (.reg trivial h2 h3) (by simp) (.inr ⟨rfl,by omega⟩))
    |last L h1 h2 h3 h4=>exact .inl (p (R ⟨_,o⟩) (.refl X.Wg w) o (by simp) (tag':= .blk) (u':=0) (f':=0) ⟨rfl,v,rfl,rfl,a,rfl,c⟩ (.last L trivial h2 h3 h4) (by simp) (.inr ⟨rfl,by omega⟩))
    |sema h2=>
     obtain⟨a',d,k,z⟩:=a8 o;exact .inl (p d (aside_setCell w (smA X.Wg) _) (o.setSm 0) (H bk_sem) (tag':= .w4) (u':=0) (f':=k) ⟨rfl,v,by simp[deafBehind,semEvents],z⟩ (.fin trivial h2) (by simp) (.inl (by simp only[phi];omega)))
    |fin h1 _=>exact h1.elim
   ·exact .inl (E d l (tag':= .w3) (u':=0) (f':=f'+1) ⟨v,rfl, .inl ⟨rfl,f',rfl,n⟩⟩ f (by simp) (.inr ⟨rfl,by omega⟩))
  ·rcases A.cases with c|⟨f',rfl,a',G,es,d,l,n⟩
   ·obtain⟨_,a',d,k,z⟩:=c w (aT.refl X V0 w);exact .inl (p d (.refl X.Wg w) o (yn (.inr (.inr (.inr rfl)))) (tag':= .w3) (u':=0) (f':=k+1) ⟨v,rfl, .inl ⟨rfl,k,rfl,z⟩⟩ f (by simp) (.inl (by omega)))
   ·exact .inl (E d l (tag':= .w3) (u':=1) (f':=f') ⟨v,rfl, .inr ⟨rfl,n⟩⟩ f (by simp) (.inr ⟨rfl,by omega⟩))
 |blk=>
  obtain⟨_,_,_,_,g0,rfl,_⟩:=C;cases af
 |w4=>
  obtain⟨rfl,v,rfl,A⟩:=C;rcases A.cases with c|⟨f',rfl,a',G,es,d,l,n⟩
  ·obtain⟨_,hx⟩:=c w (aT.refl X V0 w);obtain⟨hq,rfl,rfl⟩:=f.fin_inv trivial;obtain⟨a',d,k,z⟩:=hx o;exact .inl (p d (.refl X.Wg w) o (H bk_rd) (tag':= .ke) (u':=0) (f':=k) ⟨rfl,v,rfl,z⟩ (.fin trivial hq) (by simp) (.inl (by simp only[phi];omega)))
  ·exact .inl (E d l (tag':= .w4) (u':=0) (f':=f') ⟨rfl,v,rfl,n⟩ f (by simp) (.inr ⟨rfl,by omega⟩))
 |ke=>
  obtain⟨rfl,v,rfl,A⟩:=C;rcases A.cases with c|⟨f',rfl,a',G,es,d,l,n⟩
  ·obtain⟨_,a',d,k,z⟩:=c w (aT.refl X V0 w);obtain⟨hq,rfl,rfl⟩:=f.fin_inv trivial;exact .inl (p d (.refl X.Wg w) o (H bk_en) (tag':= .acq) (u':=0) (f':=k) ⟨rfl,v,rfl,z⟩ (.fin trivial hq) (by simp) (.inl (by simp only[phi];omega)))
  ·exact .inl (E d l (tag':= .ke) (u':=0) (f':=f') ⟨rfl,v,rfl,n⟩ f (by simp) (.inr ⟨rfl,by omega⟩))
 |acq=>
  obtain⟨rfl,v,rfl,A⟩:=C;rcases A.cases with c|⟨f',rfl,a',G,es,d,l,n⟩
  ·obtain⟨_,a',d,k,z⟩:=c w (aT.refl X V0 w);obtain⟨hq,rfl,rfl⟩:=f.fin_inv trivial;refine .inl (p d (.refl X.Wg w) o (yn (.inr (.inl rfl))) (tag':= .ret) (u':=0) (f':=k) ⟨rfl,v,rfl,z⟩ (.fin trivial hq) (λ_=> ?_) (.inl (by simp only[phi];omega)));have e1:MemOp.ofEvents 0 a.frame.fn a.frame.place #[Go.ConcR.mk (.acquire (stA X.Wg))]=#[{g:=0,fn:=a.frame.fn,pos:=a.frame.place,act:= .mark (.acquire (stA X.Wg))}]:=(by rw[ofEvents_eq];simp[Go.ConcR.ofEvent_mk]);have hy:(t++#[({g:=0,fn:=a.frame.fn,pos:=a.frame.place,act:= .mark (.acquire (stA X.Wg))}:MemOp)])[t.size]?=some {g:=0,fn:=a.frame.fn,pos:=a.frame.place,act:= .mark (.acquire (stA X.Wg))}:=(by simp);refine⟨t.size,by rw[e1,act?_of hy],by rw[e1];simp[Trace.g?],by rw[e1];exact⟨0,by simp[Trace.g?],by rw[deaf_old (Nat.le_refl _)];exact h.crew.deaf0⟩,λi A=> ?_⟩;obtain⟨r,K⟩:=h.crew.rel i A (by rw[hq i A];omega);exact⟨r,K.appOther bD (by omega),lt_of_act? K.act⟩
  ·exact .inl (E d l (tag':= .acq) (u':=0) (f':=f') ⟨rfl,v,rfl,n⟩ f (by simp) (.inr ⟨rfl,by omega⟩))
 |ret=>
  obtain⟨rfl,v,rfl,A⟩:=C;rcases A.cases with c|⟨f',rfl,a',G,es,d,l,n⟩
  ·exact .inr ⟨rfl,c⟩
  ·exact .inl (E d l (tag':= .ret) (u':=0) (f':=f') ⟨rfl,v,rfl,n⟩ f (by simp) (.inr ⟨rfl,by omega⟩))
end
end
section
open Go Go.Conc
open Go.ConcN (sumTo upd sumTo_upd upd_ne upd_same sumTo_upd_out CT Apart PermW WgLive RelBy WD ShN OkW Ok0 norel_of CTag phi Vc Ssum Fsum cnt pend isOpen isW3 OpenSt AllQuit Vc_upd Vc_le)
open Go.ConcR (KK WgAt stA smA rd wr DC0 Bk)
section
variable{X:Ln}{Fin Anch:(Nat->Prop)->Goroutine->World->Prop}{N:Nat}{S:Nat->Prop}{m j:Nat}{gs:Array Goroutine}{w w':World}{t:Trace}{D D':Nat->WD}{Nd Nd':Nat->dY}{V V0:Nat->Prop}{d0:Nat}{q q':Nat->Nat}{tag:CTag}{u f0:Nat}{a:Goroutine}{st sm st' sm':Int}{Post:Value->World->Prop}{sl:Option (Nat×Nat)}
theorem ip.status(h:ip X S m j gs w t D Nd V0 d0 q)(c:i<j):∃g,gs[1+m+i]?=some g/\(g.status= .running\/(g.status= .finished/\(D i).stage=1)):=by
 letI:Go.ConcR.Payload:=dh
 obtain⟨g,d,a⟩:=h.wk i c;refine⟨g,d, ?_⟩;rcases a with⟨_,_,_,rfl,e,_⟩|⟨_,a⟩
 ·exact .inl e.running
 ·by_cases b:(D i).stage=1
  ·exact(Go.ConcN.WSit.status a).imp id λx=>⟨x,b⟩
  ·exact .inl (Go.ConcN.WSit.running_of a b)
theorem du.someone(k:∀V g w,Fin V g w->g.status= .running)(l:∀V g w,Anch V g w->g.status= .running)(h:du X Fin Anch N S m j gs w t D Nd V0 d0 q tag u f0 a st sm):∃(i:Nat) (g:Goroutine),gs[i]?=some g/\g.status= .running:=by
 letI:Go.ConcR.Payload:=dh
 rcases h.sit.status k l with⟨b,_⟩|⟨_,rfl⟩
 ·exact⟨0,a,h.at0,b⟩
 ·cases h.mode with
  |opn d _ _=>exact d.elim
  |reg _ _ e=>
   obtain⟨i,f,o⟩:=Go.ConcN.exists_counted e;obtain⟨g,c,b⟩:=h.crew.status f;exact⟨_,g,c,b.resolve_right λx=>by omega⟩
  |last L _ n e _=>
   obtain⟨g,c,b⟩:=h.crew.status n;exact⟨_,g,c,b.resolve_right λx=>by omega⟩
  |fin d _=>exact d.elim
theorem du.awake(o:∀V g w,Fin V g w->g.status= .running)(p:∀V g w,Anch V g w->g.status= .running)(h:du X Fin Anch N S m j gs w t D Nd V0 d0 q tag u f0 a st sm):∀g∈gs,Conc.awake g:=by
 intro g n;obtain⟨i,d⟩:=Array.mem_iff_getElem?.1 n;have l:i<1+m+j:=by have:=(gA d).1;rw[h.crew.size]at this;exact this
 by_cases r:i=0
 ·subst r;rw[h.at0]at d;cases d;rcases h.sit.status o p with⟨c,_⟩|⟨c,_⟩
  ·exact awake_of (.inl c)
  ·exact awake_of (.inr (.inl c))
 ·by_cases f:i<=m
  ·obtain⟨x,b,e⟩:=h.crew.old i (by omega) f;rw[d]at b;cases b;exact awake_of (e.status.elim .inl λx=> .inr (.inr x))
  ·obtain⟨k,rfl⟩:∃k,i=1+m+k:=⟨i-(1+m),by omega⟩;obtain⟨x,b,c⟩:=h.crew.status (i:=k) (by omega);rw[d]at b;cases b;exact awake_of (c.elim .inl λx=> .inr (.inr x.1))
theorem du.step(hF:∀V g w,Fin V g w->g.status= .running)(hA:∀V g w,Anch V g w->g.status= .running)(hAn:∀V g w,Anch V g w->∃k,bG X (qw X Fin Anch) k V g w)(hN:N<2147483648)
 (hfin:∀gs w sl t D Nd V0 q f0 a,du X Fin Anch N S m N gs w t D Nd V0 0 q .ret 0 f0 a 0 0->(∀w₁,aT X V0 w w₁->Fin V0 a w₁)->dk X.P Post (crowd gs w sl) t)
 (h:du X Fin Anch N S m j gs w t D Nd V0 d0 q tag u f0 a st sm) (hope:Jc X Fin Anch N S m Post j Nd (fG N j D tag u) (lI m j D f0 q)):dk X.P Post (crowd gs w sl) t:=by
 obtain⟨i,g,d,sl',hi,hrun,hst⟩:=crowd_pick (P:=X.P) (w:=w) (sl:=sl) (h.awake hF hA) (h.someone hF hA);have hlt:i<1+m+j:=by have:=(gA hi).1;rw[h.crew.size]at this;exact this
 have hd:=h.at d;by_cases h0:i=0
 ·subst h0;rw[h.at0]at hi;cases hi;rcases hd.starter (sl:=sl') hAn hN hope hrun with⟨m₁,ops,h1,h2⟩|⟨rfl,hstop⟩
  ·exact dk.next (hst.trans h1) h2
  ·obtain⟨rfl,hj,rfl,_⟩:=h.sit;obtain⟨_,rfl,rfl⟩:=h.mode.fin_inv trivial;subst hj;exact hfin _ _ _ _ _ _ _ _ _ _ h λw₁ h₁=>hstop w₁ ⟨⟨h₁.own.keep,h₁.own.size,h₁.own.os,h₁.own.output,h₁.own.tape⟩,h₁.live⟩
 ·by_cases hm:i<=m
  ·obtain⟨x,hx,hq⟩:=hd.crew.old i (by omega) hm;rw[hi]at hx;cases hx;have hib:(i==0)=false:=(by simpa using h0);cases hqi:q i with
   |zero=>rw[hqi]at hq;rw[hq.1]at hrun;cases hrun
   |succ k=>
    rw[hqi]at hq;rcases hq with⟨hf,_⟩|⟨_,g',es,hmu,hstp,hq'⟩
    ·rw[hf]at hrun;cases hrun
    ·have hrunT:=runT_crowd_go (P:=X.P) (sl:=sl') (i:=i) hi (by rw[hib];exact hstp (w.at d));have hc:=hd.crew.oldStep (i:=i) (k:=k) (by omega) hm (g:=g) hmu hq';obtain⟨tag',f',a',hS,hf',hphi⟩:=hd.other hF hA (k:=i) (by omega) hc (aT.refl X V0 _) hd.wg (λ_ ht _=>hd.mode.retag ht) (λe=>(hd.acq e).app λi' r _ hr=>hr.appOther bD (by omega)) hd.acc;refine dk.next (hst.trans hrunT) (hope _ _ _ _ _ _ _ _ _ _ _ _ _ _ _ _ hS (.inr ⟨by simp only[fG,hphi],rfl, .inr ⟨rfl, ?_⟩⟩));have hs:sumTo (m+1) (upd q i k)+q i=sumTo (m+1) q+k:=sumTo_upd q k id (by omega);simp only[lI];omega
  ·obtain⟨k,rfl⟩:∃k,i=1+m+k:=⟨i-(1+m),by omega⟩;obtain⟨m₁,ops,h1,h2⟩:=hd.worker (sl:=sl') hF hA hN hope (i:=k) (by omega) hi hrun;exact dk.next (hst.trans h1) h2
def EU(X:Ln)(y x:Nat×dY):Prop:=y.1=x.1/\jB X x.1 y.2 x.2
theorem zR{x:dY}(h:Acc (jB X i) x):Acc (EU X) (i,x):=by
 induction h with
 |intro x _ b=>
  refine⟨_,λy c=> ?_⟩;obtain⟨k,y⟩:=y;obtain⟨e,d⟩:=c;have a:k=i:=e;subst a;exact b y d
theorem Ct(R:∀V g w,Fin V g w->g.status= .running)(T:∀V g w,Anch V g w->g.status= .running)(H:∀V g w,Anch V g w->∃k,bG X (qw X Fin Anch) k V g w)(Q:N<2147483648)
 (r:∀gs w sl t D c V0 q f a,du X Fin Anch N S m N gs w t D c V0 0 q .ret 0 f a 0 0->(∀d,aT X V0 w d->Fin V0 a d)->dk X.P Post (crowd gs w sl) t):
 ∀(p j:Nat) (gs:Array Goroutine) (w:World) (sl:Option (Nat×Nat)) (t:Trace) (D:Nat->WD) (c:Nat->dY) (V0:Nat->Prop) (v:Nat) (q:Nat->Nat) (tag:CTag) (u f:Nat) (a:Goroutine) (n o:Int),
  fG N j D tag u=p->du X Fin Anch N S m j gs w t D c V0 v q tag u f a n o->dk X.P Post (crowd gs w sl) t:=by
 intro p;induction p using Nat.strongRecOn with
 |ind p E=>
  have A:∀(j:Nat) (F:Nat->Nat×dY),Acc (Ad (EU X) j) F->∀(y:Nat) (gs:Array Goroutine) (w:World) (sl:Option (Nat×Nat)) (t:Trace) (D:Nat->WD) (c:Nat->dY) (V0:Nat->Prop) (v:Nat) (q:Nat->Nat) (tag:CTag) (u f:Nat) (a:Goroutine) (n o:Int),
   F=(λi=>(i,c i))->fG N j D tag u=p->lI m j D f q=y->du X Fin Anch N S m j gs w t D c V0 v q tag u f a n o->dk X.P Post (crowd gs w sl) t:=by
   intro j F s;induction s with
   |intro F _ C=>
    intro y;induction y using Nat.strongRecOn with
    |ind y B=>
     intro gs w sl t D c V0 v q tag u f a n o l z e3 h;refine h.step R T H Q r λj' U w' O t' D' Z Y W q' J u' f' a' L M I b=> ?_;rcases b with b|⟨K,rfl,b⟩
     ·exact E _ (by omega) _ _ _ _ _ _ _ _ _ _ _ _ _ _ _ _ rfl I
     ·rcases b with⟨i,x,G,P,rfl⟩|⟨rfl,b⟩
      ·refine C (λk=>(k,upd c i x k)) ⟨i,(i,x),G, ?_, ?_⟩ _ _ _ _ _ _ _ _ _ _ _ _ _ _ _ _ rfl (K.trans z) rfl I
       ·rw[l];exact⟨rfl,P⟩
       ·rw[l]
        funext k
        by_cases e:k=i
        ·subst e;rw[upd_same,upd_same]
        ·rw[upd_ne _ _ e,upd_ne _ _ e]
      ·exact B _ (by omega) _ _ _ _ _ _ _ _ _ _ _ _ _ _ _ l (K.trans z) rfl I
  intro j gs w sl t D c V0 v q tag u f a n o z h;exact A j (λi=>(i,c i)) (pe j _ λi G=>zR (h.acc i G)) _ _ _ _ _ _ _ _ _ _ _ _ _ _ _ _ rfl z rfl h
end
end
section
open Go Go.Conc
open Go.ConcN (sumTo upd sumTo_upd upd_ne upd_same CT Apart PermW WgLive RelBy WD CTag AllQuit)
open Go.ConcR (KK WgAt stA smA rd wr DC0 Bk)
section
variable{X:Ln}{Fin Anch:(Nat->Prop)->Goroutine->World->Prop}{N:Nat}{S:Nat->Prop}{m:Nat}{gs:Array Goroutine}{w:World}{t:Trace}{D:Nat->WD}{Nd:Nat->dY}{V0:Nat->Prop}{q:Nat->Nat}{f0:Nat}{a:Goroutine}
def Fl(S:Nat->Prop)(Wg b:Nat):Prop:=S b\/b=Wg
def leaving(m:Nat)(D:Nat->WD)(q:Nat->Nat)(i:Nat):Nat:=if i<=m then q i else(D (i-(1+m))).fuel
theorem du.over(h:du X Fin Anch N S m N gs w t D Nd V0 0 q .ret 0 f0 a 0 0):t.HandedOver:=by
 obtain⟨k,z,o,y,x⟩:=h.acq rfl;intro i g e j n;by_cases u:g<=m
 ·exact h.crew.over i g e j u n
 ·have l:g<=m+N:=by
   unfold Trace.g? at e;obtain⟨p,s,rfl⟩:=Option.map_eq_some_iff.1 e;exact h.crew.ct.gs i p s
  obtain⟨r,d,f⟩:=x (g-(1+m)) (by omega);rw[show 1+m+(g-(1+m))=g from by omega]at d;have b:HappensBefore t r k:= .single (.inr ⟨.marked f (.inr d.act) z (λk _ _=>h.crew.norel k),d.heard,y⟩);have l:i<=r:=Nat.le_of_not_lt λc=>d.after i c e n;rcases Nat.lt_or_ge i r with c|v
  ·exact⟨k,o, .trans (.single (.inl ⟨c,g,e,d.g⟩)) b⟩
  ·obtain rfl:i=r:=by omega
   exact⟨k,o,b⟩
theorem du.past(h:du X Fin Anch N S m N gs w t D Nd V0 0 q .ret 0 f0 a 0 0):Past (eA (Fl S X.Wg)) w.heap.size t:=by
 refine⟨h.crew.ct.nr,λi x d b=> ?_,h.over,h.crew.deaf0,h.crew.seen⟩;obtain⟨c,r,p⟩:=touch_of d;have g:t.g? i=some c.g:=by unfold Trace.g?;rw[r];rfl
 by_cases s:c.g<=m
 ·exact h.crew.known i x c.g d g s b
 ·by_cases j:t.counts i
  ·obtain⟨k,n,u⟩:=h.over i c.g g (by omega) j;unfold Trace.g? at n;obtain⟨y,o,f⟩:=Option.map_eq_some_iff.1 n;exact .inl ⟨k,y,o,f, .inr u⟩
  ·have e:x.kind= .atomic:=by
    cases l:x.kind with
    |atomic=>rfl
    |plain=>exact absurd ⟨x,d,b, .inl (by rw[l];simp)⟩ j
    |said=>exact absurd ⟨x,d,b, .inl (by rw[l];simp)⟩ j
   exact .inr ⟨h.crew.atom i x c.g d g (by omega) e,e⟩
theorem du.leavers(h:du X Fin Anch N S m N gs w t D Nd V0 0 q .ret 0 f0 a 0 0):Leavers X.P t gs (leaving m D q):=by
 letI:Go.ConcR.Payload:=dh
 obtain⟨r,_,_⟩:=h.mode.fin_inv trivial;refine⟨λi g n o=> ?_,λj u=> ?_⟩
 ·have s:i<1+m+N:=by have:=(gA o).1;rw[h.crew.size]at this;exact this
  unfold leaving;by_cases f:i<=m
  ·rw[if_pos f];obtain⟨x,b,d⟩:=h.crew.old i n f;rw[o]at b;cases b;exact d
  ·rw[if_neg f];obtain⟨k,rfl⟩:∃k,i=1+m+k:=⟨i-(1+m),by omega⟩;have l:k<N:=(by omega);rw[show 1+m+k-(1+m)=k from by omega,h.crew.deafW k l];obtain⟨x,b,c⟩:=h.crew.wk k l;rw[o]at b;cases b;have v:=r k l;rcases c with⟨y,_⟩|⟨_,c⟩
   ·omega
   ·exact Go.ConcN.WSit.quits c v
 ·rw[h.crew.size]at u;exact Go.ConcN.Deaf_absent λi p n e=>by have:=h.crew.ct.gs i p n;omega
end
section
variable{X:Ln}{S:Nat->Prop}{Next:(Nat->Prop)->Goroutine->World->Prop}{Post:Value->World->Prop}
theorem FM{B:Nat}(hv:∀b,V b->b<B/\¬S b)(n:∀b,RO b->b<B/\¬S b)(d:fg V RO e):EvL (eA S) B e:=by
 refine⟨λx i m=> ?_,(iv d).1,(iv d).2.1,uX (λb k=>(hv b k).1) (λb k=>(n b k).1) d⟩;exfalso;obtain⟨j,o,q⟩:=e;cases j with
 |cell a=>
  obtain⟨rfl,h⟩:=d;have g:(MemAct.access ⟨.cell a,o,false⟩).touch?=some x:=i;simp only[MemAct.touch?,Option.some.injEq]at g;subst g;have c:S a.block:=m.elim id λh=>by cases h
  rcases h with h|⟨h,_⟩
  ·exact(hv _ h).2 c
  ·exact(n _ h).2 c
 |obj r=>
  obtain⟨rfl,h⟩:=d;simp only[MemAct.ofEvent,MemAct.touch?,Option.some.injEq]at i;subst i;have c:S r:=m.elim id λh=>by cases h
  exact(hv _ h).2 c
 |mark l=>
  have p:eF l=true:=d;cases l with
  |extern f=>cases i
  |noRoom=>cases i
  |_=>simp[eF]at p
 |output=>exact d.elim
 |goroutines=>exact d.elim
structure nC (P:Program) (S V RO:Nat->Prop) (gs:Array Goroutine) (w:World) (t:Trace) (q:Nat->Nat) (a:Goroutine):Prop where
 at0:gs[0]?=some a
 leave:Leavers P t gs q
 past:Past (eA S) w.heap.size t
 quiet:Quiet (eA S) t
 who:∀op∈t,op.g<gs.size
 low:∀b,S b->b<w.heap.size
 own:∀b,V b->b<w.heap.size/\¬S b
 ro:∀b,RO b->b<w.heap.size/\¬S b
theorem C2(U:∀V g w,Next V g w->g.status= .running)
 (j:∀V gs w sl t q a,nC X.P S V X.RO gs w t q a->(∀m,aT X V w m->Next V a m)->dk X.P Post (crowd gs w sl) t):
 ∀(k:Nat) (V:Nat->Prop) (gs:Array Goroutine) (w:World) (sl:Option (Nat×Nat)) (t:Trace) (q:Nat->Nat) (a:Goroutine),nC X.P S V X.RO gs w t q a->bG X Next k V a w->dk X.P Post (crowd gs w sl) t:=by
 intro k;induction k with
 |zero=>exact λV gs w sl t q a f r=>j V gs w sl t q a f r
 |succ k N=>
  intro V gs w sl t q a f r;have y:=r.running U;rcases r with r|⟨_,r⟩
  ·exact j V gs w sl t q a f r
  ·refine Hk y w _ gs w.drawn sl t q (Nat.le_refl _) f.at0 f.leave f.past f.quiet f.who ?_;intro H d0 L d v Y M I W T R Q C;have u:0<H.size:=(gA I).1;obtain⟨J,n,K,E,A,G⟩:=r (w.at d) (aT.at X V w d);have l:w.heap.size<=n.heap.size:=A.size;have o:∀b,hY V (w.at d) n b->b<n.heap.size/\¬S b:=λb h=>by
    rcases h with h|h
    ·exact⟨Nat.lt_of_lt_of_le (f.own b h).1 l,(f.own b h).2⟩
    ·refine⟨h.2,λD=> ?_⟩;have h1:=f.low b D;have Z:w.heap.size<=b:=h.1;omega
   have z:∀b,X.RO b->b<n.heap.size/\¬S b:=λb h=>⟨Nat.lt_of_lt_of_le (f.ro b h).1 l,(f.ro b h).2⟩;have p:∀e∈K,EvL (eA S) n.heap.size e:=λe F=>FM o z (A.ev e F);have s:=runT_crowd_go (P:=X.P) (sl:=v) (i:=0) I (show stepG X.P (0==0) a (w.at d)=_ from E);refine dk.next (C.trans s) (N (hY V (w.at d) n) _ n v _ M J ?_ G);exact
    {at0:=by simp[u]
     leave:=oq W a J n _ _ K u
     past:=(T.mono l).own p
     quiet:=R.app λB c x O D=>by
        obtain⟨e,F,rfl⟩:=Go.Conc.mem_ofEvents c;exact⟨(p e F).1 x O D,λ_=>rfl⟩
     who:=λB c=>by
        rw[Array.size_setIfInBounds,Array.size_map];rcases Array.mem_append.1 c with c|c
        ·exact Q B c
        ·rw[bD B c];exact u
     low:=λb h=>Nat.lt_of_lt_of_le (f.low b h) l
     own:=o
     ro:=z}
theorem nC.crew{gs:Array Goroutine}{t:Trace}{q:Nat->Nat}{a:Goroutine}{F:Nat->dY}{D:Nat->WD}{V0:Nat->Prop}(o:nC X.P S V (λ_=>False) gs w t q a)(H:gs.size=1+m)(J:io X S 0 F V0 w)
 (p:∀op∈t,op.act.low X.Wg) (v:X.RO 0) (s:X.list w):ip X S m 0 gs w t D F V0 0 q:=by
 have f:∀i x,touchAt t i=some x->¬fX S X.Wg x.loc->Knows t 0 i:=λi x j b=>by
  have n:x.loc.isMemory=true:=by
   cases h:x.loc.isMemory with
   |true=>rfl
   |false=>exact absurd (.inr h) b
  rcases o.past.known i x j n with h|⟨h,_⟩
  ·exact h
  ·refine absurd ?_ b;rcases h with h|h
   ·left;cases u:x.loc with
    |cell a=>rw[u]at h;exact Or.inl h
    |obj r=>rw[u]at h;exact Or.inl h
    |_=>rw[u]at h;exact h.elim
   ·exact .inr h
 have y:∀l,eA S l->fX S X.Wg l:=λl h=>by
  rcases h with h|h
  ·left;cases l with
   |cell a=>exact Or.inl h
   |obj r=>exact Or.inl h
   |_=>exact h.elim
  ·exact .inr h
 exact
  {size:=by rw[H];omega
   old:=λi E c=>by
    have z:i<gs.size:=(by omega);exact⟨gs[i],Array.getElem?_eq_getElem z,o.leave.old i _ E (Array.getElem?_eq_getElem z)⟩
   wk:=λi c=>absurd c (Nat.not_lt_zero i)
   lies:=J
   tabRO:=v
   ct:=
    {quiet:=λi op x c j b=>by
       have d:=pp p (i:=i) (a:=x) (by rw[touchAt_of c];exact j);rcases b with b|b
       ·have:di S x.loc:=by
         cases u:x.loc with
         |cell a=>
          rw[u]at b d;rcases b with b|b
          ·exact b
          ·have:a.block<X.Wg:=d;omega
         |obj r=>
          rw[u]at b d;rcases b with b|b
          ·exact b
          ·have:r<X.Wg:=d;omega
         |_=>rw[u]at b;exact b.elim
        exact o.quiet i op x c j (.inl this)
       ·exact o.quiet i op x c j (.inr b)
     own:=λk _ _ l ⟨i,c,_⟩=>absurd c (Nat.not_lt_zero i)
     rd:=λk _ L l ⟨K,_⟩=>absurd K (by omega)
     free:=λl b _ i x j e=>f i x j (by rw[e];exact b)
     mine:=λl b _ i x j e _=>f i x j (by rw[e];exact b)
     nr:=o.past.clean
     gs:=λi op c=>by
       have:=o.who op (Array.mem_of_getElem? c);omega}
   norel:=λi c=>by
    unfold Trace.act? at c;obtain⟨op,C,B⟩:=Option.map_eq_some_iff.1 c;have:=p op (Array.mem_of_getElem? C);rw[B]at this;exact absurd this (Nat.lt_irrefl _)
   deaf0:=o.past.hears
   deafW:=λi c=>absurd c (Nat.not_lt_zero i)
   rel:=λi c=>absurd c (Nat.not_lt_zero i)
   has:=λi c=>absurd c (Nat.not_lt_zero i)
   list:=s
   seen:=o.past.seen
   over:=λi g A E _ I=>o.past.over i g A E I
   known:=λi x g j _ _ n=>(o.past.known i x j n).imp id λh=>⟨y _ h.1,h.2⟩
   atom:=λi x g j A G=>by
    unfold Trace.g? at A;obtain⟨op,C,rfl⟩:=Option.map_eq_some_iff.1 A;have:=o.who op (Array.mem_of_getElem? C);omega}
end
section
variable{X:Ln}{S:Nat->Prop}{Fin Anch:(Nat->Prop)->Goroutine->World->Prop}{N:Nat}{Post:Value->World->Prop}
theorem yG(hF:∀V g w,Fin V g w->g.status= .running)(hA:∀V g w,Anch V g w->g.status= .running)(K:∀V g w,Anch V g w->∃k,bG X (qw X Fin Anch) k V g w)(hN:N<2147483648)(a0:0<N)
 (v:∀m gs w sl t D Nd V0 q f0 a,du X Fin Anch N S m N gs w t D Nd V0 0 q .ret 0 f0 a 0 0->(∀f,aT X V0 w f->Fin V0 a f)->dk X.P Post (crowd gs w sl) t)
 {V0:Nat->Prop} {gs:Array Goroutine}  {sl:Option (Nat×Nat)} {t:Trace} {q:Nat->Nat} {a a':Goroutine} (n:nC X.P S V (λ_=>False) gs w t q a) (s:a.status= .running) (I:X.Wg=w.heap.size)
 (H:∀d,stepG X.P true a (w.at d)= .go a' (w'.at d) #[]) (p:w.heap.size<=w'.heap.size) (hL:io X S 0 (λ_=>⟨λ_=>False,a,w⟩) V0 w') (B:WgAt X.ty X.Wg w' 0 0) (o:X.RO 0) (l:X.list w') (E:jz X Anch N N V0 a' w'):
 dk X.P Post (crowd gs w sl) t:=by
 refine Hk s w _ gs w.drawn sl t q (Nat.le_refl _) n.at0 n.leave n.past n.quiet n.who ?_;intro e d0 R d A z T M J L hQ hW C;have u:0<e.size:=(gA M).1;have c:=runT_crowd_go (P:=X.P) (sl:=A) (i:=0) M (show stepG X.P (0==0) a (w.at d)=_ from H d);have Q:MemOp.ofEvents 0 a.frame.fn a.frame.place #[]=#[]:=by rw[ofEvents_eq];simp
 rw[Q]at c;have h:=oq J a a' (w'.at d) a.frame.fn a.frame.place #[] u;rw[Q]at h;refine dk.next (C.trans c) ?_;have O:z++(#[]:Trace)=z:=Array.append_empty;rw[O];rw[O]at h;have y:nC X.P S (λ_=>False) (λ_=>False) ((e.map (woken X.P a a' (w'.at d))).setIfInBounds 0 a') (w'.at d) z T a':=
  {at0:=by simp[u]
   leave:=h
   past:=L.mono p
   quiet:=hQ
   who:=λU F=>by
    rw[Array.size_setIfInBounds,Array.size_map];exact hW U F
   low:=λb x=>Nat.lt_of_lt_of_le (n.low b x) p
   own:=λb x=>x.elim
   ro:=λb x=>x.elim}
 obtain⟨m,W⟩:∃m,((e.map (woken X.P a a' (w'.at d))).setIfInBounds 0 a').size=1+m:=⟨e.size- 1,by simp;omega⟩;have Z:=y.crew (D:=λ_=>⟨7,0,0⟩) W (hL.grow (w':=w'.at d) (Nat.le_refl _)) (by rw[I];exact L.seen) o l;obtain⟨r,rfl⟩:∃r,N=r+1:=⟨N- 1,by omega⟩;obtain⟨k,Y⟩:=E;refine Ct (Fin:=Fin) (Anch:=Anch) (N:=r+1) (S:=S) (m:=m) hF hA K hN (v m) _ 0 _ _ _ _ (λ_=>⟨7,0,0⟩) _ _ 0 _ (.sp r 5) 0 k a' 0 0 rfl ⟨y.at0,⟨rfl,by omega,by omega, .inl ⟨rfl,rfl, ?_⟩⟩,Z,B, ?_,by simp,λi G=>absurd G (Nat.not_lt_zero i)⟩
 ·have:=Y.rely (aT.at X V0 w' d);rw[show r+1-(r+1)=0 from by omega]at this;exact this
 ·have:=Go.ConcN.Mode.opn (j:=0) (D:=λ_=>(⟨7,0,0⟩:WD)) (tag:= .sp r 5) trivial (λi G=>absurd G (Nat.not_lt_zero i)) (by simp);simpa[Go.ConcN.Vc,sumTo,Go.ConcN.pend]using this
end
end
section
open Go Go.Conc
open Go.ConcN (sumTo upd sumTo_upd upd_ne upd_same)
structure Ku (D0 S0:Nat->Prop) (W wM:World) (D:Nat->Prop) (ρ:Nat->Nat) (S:Nat->Prop):Prop where
 size:W.heap.size<=wM.heap.size
 keep:∀r,r<W.heap.size->¬D0 r->¬S0 r->wM.heap[r]?=W.heap[r]?
 fresh:∀b,D b->D0 b\/W.heap.size<=ρ b
 shun:∀r,S r->W.heap.size<=r\/S0 r
theorem Ku.step{G T:Nat}{D0 S0 D D' S:Nat->Prop}{ρ ρ':Nat->Nat}{W wL wM wL' wM':World}{d:Nat}(h:Ku D0 S0 W wM D ρ S)(hf:∀b,D0 b->D b/\ρ b=b)(q:ic G T D ρ wL (wM.at d) D' ρ' wL' wM'):Ku D0 S0 W wM' D' ρ' S where
 size:=Nat.le_trans h.size q.size
 keep:=λr hr hd hz=>by
  have hs:=h.size;refine(q.keep r (show r<wM.heap.size by omega) λb hb e=> ?_).trans (h.keep r hr hd hz);rcases h.fresh b hb with h0|h0
  ·rw[(hf b h0).2]at e;exact hd (e▸h0)
  ·omega
 fresh:=λb hb=>by
  rcases q.new b hb with h1|⟨_,h2⟩
  ·rw[(q.ext b h1).2];exact h.fresh b h1
  ·have h3:wM.heap.size<=ρ' b:=h2;have:=h.size;exact .inr (by omega)
 shun:=h.shun
def uD(B:List Frame)(S0:Nat->Prop)(P:Program)(G:Nat)(D0:Nat->Prop)(W:World)(gL:Goroutine)(wL:World)(gs:Array Goroutine)(wM:World)(t:Trace)(D:Nat->Prop)(ρ:Nat->Nat)(S:Nat->Prop)(gM:Goroutine)(q:Nat->Nat):Prop:=Kj B P G D0 W gL wL gs wM t D ρ S gM q/\Ku D0 S0 W wM D ρ S
def EJ(B:List Frame)(S0:Nat->Prop)(P PL:Program)(K:FuncId)(G:Nat)(D0:Nat->Prop)(W:World)(Stop:Goroutine->World->Prop)(Post:Value->World->Prop):Prop:=
 ∀gL wL gs wM sl sl' t D ρ S gM q d d0 args w1,uD B S0 P G D0 W gL wL gs wM t D ρ S gM q->fo PL Stop gL wL->fl gL->gU PL gL.frame (jN wL wM.tape d) K args w1->stepT P (crowd gs (wM.at d0) sl)=runT P (crowd gs (wM.at d) sl') 0->
  (∀g2 w2 gs2 wM2 sl2 t2 D2 ρ2 S2 gM2 q2,GY PL gL wL g2 w2->uD B S0 P G D0 W g2 w2 gs2 wM2 t2 D2 ρ2 S2 gM2 q2->dk P Post (crowd gs2 wM2 sl2) t2)->dk P Post (crowd gs (wM.at d0) sl) t
section
variable{P PL:Program}{K:FuncId}{Post:Value->World->Prop}{Stop:Goroutine->World->Prop}{G:Nat}{D0 S0:Nat->Prop}{W:World}{B:List Frame}
theorem j3{gs:Array Goroutine}{wM:World}{t:Trace}{S:Nat->Prop}{gM:Goroutine}{q:Nat->Nat}(hrun:gM.status= .running)(at0:gs[0]?=some gM)(leave:Leavers P t gs q)(past:Past (eA S) wM.heap.size t)(quiet:Quiet (eA S) t)(who:∀op∈t,op.g<gs.size)
 (h:∀d,∃v es,stepG P true gM (wM.at d)= .ended (.done v) (wM.at d) es/\(∀e∈es,EvL (eA S) wM.heap.size e)/\Post v (wM.at d)) (sl:Option (Nat×Nat)):dk P Post (crowd gs wM sl) t:=by
 refine Hk hrun wM _ gs wM.drawn sl t q (Nat.le_refl _) at0 leave past quiet who ?_;intro gs' d0 sl0 d sl' t' q' h0 hL hP hQ hWho hst;obtain⟨v,es,he,hev,hpost⟩:=h d;have hrunT:=runT_many_ended (P:=P) (sl:=sl') (i:=0) h0 (show stepG P (0==0) gM (wM.at d)=_ from he);have hP':=hP.own (fn:=gM.frame.fn) (pos:=gM.frame.place) hev;refine dk.now (hst.trans hrunT) ⟨v,rfl,hpost,hP'.clean,hP'.over,⟨λx hx=> ?_,rfl⟩,λj x hx hj=> ?_⟩
 ·obtain⟨j,hj⟩:=List.mem_iff_getElem?.1 hx;rw[List.getElem?_drop]at hj;exact⟨_,(hL.old (1+j) x (by omega) (by simpa[crowd]using hj)).leaves⟩
 ·refine⟨q' j, ?_⟩;have hd:(t'++MemOp.ofEvents 0 gM.frame.fn gM.frame.place es).deaf j (t'++MemOp.ofEvents 0 gM.frame.fn gM.frame.place es).size=Deaf t' j:=Deaf_other t' (g:=j) (g':=0) (by omega) _ bD;rw[hd];exact(hL.old j x (by omega) hx).hears _
theorem yY(E:j6 PL P G)(hSF:∀f (fn:Func),PL.funcs[f]?=some fn->fn.body.isSome=true->f≠K->jj PL P f)
 (hstop:∀g w,Stop g w->∀τ d,∃o w1 es,stepG PL true g (jN w τ d)= .ended o w1 es)
 (hfin:∀gL wL gs wM sl t D ρ S gM q,uD B S0 P G D0 W gL wL gs wM t D ρ S gM q->Stop gL wL->dk P Post (crowd gs wM sl) t)
 (hK:EJ B S0 P PL K G D0 W Stop Post) {gL:Goroutine} {wL:World} (ht:fo PL Stop gL wL) (hw:fl gL):
 ∀gs wM sl t D ρ S gM q,uD B S0 P G D0 W gL wL gs wM t D ρ S gM q->dk P Post (crowd gs wM sl) t:=by
 refine vN (C:=λgL wL=>∀gs wM sl t D ρ S gM q,uD B S0 P G D0 W gL wL gs wM t D ρ S gM q->dk P Post (crowd gs wM sl) t) hstop ?_ ht hw;intro g w ht hw ih gs wM sl t D ρ S gM q hm;by_cases hs:Stop g w
 ·exact hfin g w gs wM sl t D ρ S gM q hm hs
 have hrun:gM.status= .running:=hm.1.grel.run.2.1;refine Hk hrun wM _ gs wM.drawn sl t q (Nat.le_refl _) hm.1.at0 hm.1.leave hm.1.past hm.1.quiet hm.1.who ?_;intro gs' d0 sl0 d sl' t' q' h0 hL hP hQ hWho hst;by_cases hAt:∃args w1,gU PL g.frame (jN w wM.tape d) K args w1
 ·obtain⟨args,w1,he⟩:=hAt;exact hK g w gs' wM sl0 sl' t' D ρ S gM q' d d0 args w1 ⟨{hm.1 with at0:=h0,past:=hP,quiet:=hQ,who:=hWho,leave:=hL},hm.2⟩ ht hw he hst λg2 w2 gs2 wM2 sl2 t2 D2 ρ2 S2 gM2 q2 hr hm2=>ih g2 w2 hr gs2 wM2 sl2 t2 D2 ρ2 S2 gM2 q2 hm2
 ·have hsf:∀f args w',gU PL g.frame (jN w wM.tape d) f args w'->jj PL P f:=λf args w' he=>by
   obtain⟨fn,hf,hb⟩:=kW (E.fn ρ) he;exact hSF f fn hf hb λhfk=>hAt ⟨args,w',hfk▸he⟩
  have hlt:0<gs'.size:=(gA h0).1;cases ht with
  |stop h=>exact absurd h hs
  |go n hn hwn htn=>
   obtain⟨esL,hl⟩:=hn wM.tape d;generalize hg1:(n wM.tape d).1=g1 at hl;generalize hw1:(n wM.tape d).2=w1 at hl;have hwell:fl g1:=(by rw[←hg1];exact hwn _ _);have hW:cr G w1.drawn D ρ (jN w wM.tape d) (wM.at d):=cr.re (wL':=jN w wM.tape d) (wM':=wM.at d) hm.1.rel rfl rfl λi _=>rfl;have hcalm:aD (jN w wM.tape d):=λb o ho=>hm.1.calm b o ho;have htab:im (jN w wM.tape d) (wM.at d):=hm.1.tab;obtain⟨D1,ρ1,gM1,wM1,es1,q1,q2,q3,q4⟩:=n0 (mM:=true) E hW hcalm htab hm.1.grel hl (Nat.le_refl _) hwell hsf;have hsz:wM.heap.size<=wM1.heap.size:=q3.size;have hshun:∀b,D1 b->¬S (ρ1 b):=λb hb hs=>by
    rcases q3.new b hb with h1|⟨_,h2⟩
    ·rw[(q3.ext b h1).2]at hs;exact hm.1.shun b h1 hs
    ·have h3:wM.heap.size<=ρ1 b:=h2;have:=(hm.1.shunLow _ hs).2;omega
   have hevs:∀e∈es1,EvL (eA S) wM1.heap.size e:=λe he=>Ec q3.rel E.tab hshun (λr hs=>(hm.1.shunLow r hs).1) (q4 e he);have hrunT:=runT_crowd_go (P:=P) (sl:=sl') (i:=0) h0 (show stepG P (0==0) gM (wM.at d)=_ from q1);refine dk.next (hst.trans hrunT) (ih g1 w1 ⟨_,_,_,_,_,hl, .refl _⟩ _ wM1 sl' _ D1 ρ1 S gM1 q' ?_);refine⟨?_,hm.2.step hm.1.first q3⟩;exact
    {rel:=q3.rel.re rfl rfl λi hi=>by omega
     grel:=q2
     at0:=by simp[hlt]
     first:=λb hb=>⟨(q3.ext b (hm.1.first b hb).1).1,(q3.ext b (hm.1.first b hb).1).2.trans (hm.1.first b hb).2⟩
     shun:=hshun
     shunLow:=λr hs=>⟨(hm.1.shunLow r hs).1,by have:=(hm.1.shunLow r hs).2;omega⟩
     past:=(hP.mono hsz).own hevs
     quiet:=hQ.app λop hop x hx hs=>by
      obtain⟨e,he,rfl⟩:=Go.Conc.mem_ofEvents hop;exact⟨(hevs e he).1 x hx hs,λ_=>rfl⟩
     who:=λop hop=>by
      rw[Array.size_setIfInBounds,Array.size_map];rcases Array.mem_append.1 hop with hop|hop
      ·exact hWho op hop
      ·rw[bD op hop];exact hlt
     tab:=htab.ran E.tab hW q3
     calm:=q3.quiet hcalm
     leave:=oq hL gM gM1 wM1 _ _ es1 hlt
     same:=⟨q3.os.trans hm.1.same.1,q3.output.trans hm.1.same.2.1,q3.tape.trans hm.1.same.2.2⟩
     tabW:=by
      obtain⟨c,e,f,h1,h2,h3⟩:=htab;exact(q3.keep dV (cj h3) λb hb e=>by have:=hW.out _ hb;have:=hW.glob b;have:=E.tab;omega).trans hm.1.tabW}
end
section
variable{PL P:Program}{G T:Nat}{D:Nat->Prop}{ρ:Nat->Nat}{wL wM:World}{base:List Frame}
theorem yZ{D0:Nat->Prop}{W:World}{S:Nat->Prop}{wL2 wM2:World}{bL C Wg:Nat}{o:Obj}{c c':Frame}{cs cs':List Frame}{v v':Value}{gs:Array Goroutine}{t:Trace}{q:Nat->Nat}(hW:cr G T D ρ wL wM)
 (hfirst:∀b,D0 b->D b/\ρ b=b) (hshun:∀b,D b->¬S (ρ b)) (hlow:∀r,S r->G<=r/\r<wM.heap.size) (hcs:∀ρ',aB G D ρ ρ'->c'::cs'=(c::cs).map (aV ρ')++base) (oks:∀x∈c::cs,fU x/\bH x)
 (hL:∀b,D b->wL2.heap[b]?=wL.heap[b]?) (hM:∀b,D b->wM2.heap[ρ b]?=wM.heap[ρ b]?) (sL:wL.heap.size<=wL2.heap.size) (sM:wM.heap.size<=wM2.heap.size) (hbL:wL.heap.size<=bL) (hC:wM.heap.size<=C)
 (ho:wL2.heap[bL]?=some o) (hq:bX o=true) (hoM:∀ρ',wM2.heap[C]?=some (dA ρ' o)) (hWg:wM.heap.size<=Wg/\Wg<wM2.heap.size/\Wg≠C) (hv:∀ρ',ρ' bL=C->v'=dM ρ' v)
 (htab:im wL2 wM2) (hcalm:aD wL2) (hsame:wM2.os=W.os/\wM2.output=W.output/\wM2.tape=W.tape) (htW:wM2.heap[dV]?=W.heap[dV]?) (at0:gs[0]?=some {frame:=c'.finish v',callers:=cs',status:= .running,dying:=none})
 (hpast:Past (eA λb=>S b\/b=Wg) wM2.heap.size t) (hquiet:Quiet (eA λb=>S b\/b=Wg) t) (hwho:∀op∈t,op.g<gs.size) (hlv:Leavers P t gs q):
 ∃ρ2,Kj base P G D0 W {frame:=c.finish v,callers:=cs,status:= .running,dying:=none} wL2 gs wM2 t (λb=>D b\/b=bL) ρ2 (λb=>S b\/b=Wg) {frame:=c'.finish v',callers:=cs',status:= .running,dying:=none} q/\(∀b,D b->ρ2 b=ρ b)/\ρ2 bL=C:=by
 obtain⟨ρ2,h1,h2,h3⟩:=hW.join hL hM sL sM hbL hC ho hq hoM;have hfar:=hW.far;have hext:∀b,D b->(D b\/b=bL)/\ρ2 b=ρ b:=λb hb=>⟨.inl hb,h2 b hb⟩;refine⟨ρ2, ?_,h2,h3⟩;exact
  {rel:=h1
   grel:=zD (λρ' hA=>hcs ρ' (hA.less hext)) oks λρ' hA=>hv ρ' ((hA.2 bL (.inr rfl)).trans h3)
   at0:=at0
   first:=λb hb=>⟨.inl (hfirst b hb).1,(h2 b (hfirst b hb).1).trans (hfirst b hb).2⟩
   shun:=λb hb=>by
    rcases hb with hb|rfl
    ·rw[h2 b hb];rintro(hs|hs)
     ·exact hshun b hb hs
     ·have:=hW.ltM hb;omega
    ·rw[h3];rintro(hs|hs)
     ·have:=(hlow _ hs).2;omega
     ·exact hWg.2.2 hs.symm
   shunLow:=λr hr=>by
    rcases hr with hr|rfl
    ·exact⟨(hlow r hr).1,by have:=(hlow r hr).2;omega⟩
    ·exact⟨by omega,hWg.2.1⟩
   past:=hpast
   quiet:=hquiet
   who:=hwho
   tab:=htab
   calm:=hcalm
   leave:=hlv
   same:=hsame
   tabW:=htW}
end
end
section
open Go.RowKit
theorem g8(op:BinOp)(x y:Int):0<=bits op .u32 x y/\bits op .u32 x y<4294967296:=by
 unfold bits;simp only[IntKind.wrap_u32];omega
theorem jD(x:Int):0<=IntKind.u32.wrap x/\IntKind.u32.wrap x<4294967296:=by
 rw[IntKind.wrap_u32];omega
theorem eN(a:Nat)(b:a<9223372036854775808):(BitVec.ofInt 64 (a:Int)).toNat=a:=by
 rw[BitVec.ofInt_natCast,BitVec.toNat_ofNat];exact Nat.mod_eq_of_lt (by omega)
theorem jd(a b:Nat)(d:a<9223372036854775808)(c:b<9223372036854775808):bits .and .i64 (a:Int) (b:Int)=((a&&&b:Nat):Int):=by
 have e:a&&&b<2^63:=Nat.and_lt_two_pow _ (by omega);show IntKind.i64.wrap ((BitVec.ofInt 64 (a:Int)&&&BitVec.ofInt 64 (b:Int)).toNat:Int)=_;rw[BitVec.toNat_and,eN a d,eN b c,IntKind.wrap_i64];omega
theorem kS(a b:Nat)(d:a<9223372036854775808)(c:b<9223372036854775808):bits .or .i64 (a:Int) (b:Int)=((a|||b:Nat):Int):=by
 have e:a|||b<2^63:=Nat.or_lt_two_pow (by omega) (by omega);show IntKind.i64.wrap ((BitVec.ofInt 64 (a:Int)|||BitVec.ofInt 64 (b:Int)).toNat:Int)=_;rw[BitVec.toNat_or,eN a d,eN b c,IntKind.wrap_i64];omega
theorem xq(a b:Nat)(d:a<9223372036854775808)(c:b<9223372036854775808):bits .xor .i64 (a:Int) (b:Int)=((a^^^b:Nat):Int):=by
 have e:a^^^b<2^63:=Nat.xor_lt_two_pow (by omega) (by omega);show IntKind.i64.wrap ((BitVec.ofInt 64 (a:Int)^^^BitVec.ofInt 64 (b:Int)).toNat:Int)=_;rw[BitVec.toNat_xor,eN a d,eN b c,IntKind.wrap_i64];omega
def Wd(x:Int):Prop:=0<=x/\x<4294967296
theorem qH{x y:Int}(d:Wd x)(c:Wd y):bits .xor .i64 x y=bits .xor .u32 x y:=by
 obtain⟨a,rfl⟩:=Int.eq_ofNat_of_zero_le d.1;obtain⟨b,rfl⟩:=Int.eq_ofNat_of_zero_le c.1;have:=d.2;have:=c.2;rw[xq _ _ (by omega) (by omega),u32_xor_nat _ _ (by omega) (by omega)]
theorem xR{x y:Int}(d:Wd x)(c:Wd y):bits .and .i64 x y=bits .and .u32 x y:=by
 obtain⟨a,rfl⟩:=Int.eq_ofNat_of_zero_le d.1;obtain⟨b,rfl⟩:=Int.eq_ofNat_of_zero_le c.1;have:=d.2;have:=c.2;rw[jd _ _ (by omega) (by omega),u32_and_nat _ _ (by omega) (by omega)]
theorem oL{x:Int}(b:0<=x)(c:x<9223372036854775808):bits .and .i64 x 4294967295=x%4294967296:=by
 obtain⟨a,rfl⟩:=Int.eq_ofNat_of_zero_le b;have e:=jd a 4294967295 (by omega) (by omega);rw[show((4294967295:Nat):Int)=4294967295 from rfl]at e;rw[e,show(4294967295:Nat)=2^32- 1 from rfl,Nat.and_two_pow_sub_one_eq_mod];omega
theorem JZ{x:Int}(b:Wd x):bits .xor .u32 4294967295 x=4294967295- x:=by
 obtain⟨a,rfl⟩:=Int.eq_ofNat_of_zero_le b.1;have d:=b.2;have e:=u32_xor_nat 4294967295 a (by omega) (by omega);rw[show((4294967295:Nat):Int)=4294967295 from rfl]at e;rw[e];have c:4294967295^^^a=4294967295- a:=by
  apply Nat.eq_of_testBit_eq;intro i;rw[Nat.testBit_xor,show 4294967295- a=2^32-(a+1)from by omega,Nat.testBit_two_pow_sub_succ (by omega),show(4294967295:Nat)=2^32- 1 from rfl,Nat.testBit_two_pow_sub_one];by_cases h:i<32
  ·simp[h]
  ·have:a.testBit i=false:=Nat.testBit_lt_two_pow (Nat.lt_of_lt_of_le (show a<2^32 by omega) (Nat.pow_le_pow_right (by decide) (by omega)));simp[h,this]
 rw[c];omega
theorem HY{x:Int}(a:Wd x):Wd (4294967295- x):=⟨by have:=a.2;omega,by have:=a.1;omega⟩
theorem Fx(x k:Nat)(a:x<4294967296)(j:1<=k)(i:k<=31):rl (x:Int) (-(k:Int))=(((x*2^(32- k))%4294967296|||x/2^k:Nat):Int):=by
 have b:IntKind.u64.wrap (-(k:Int))=((18446744073709551616- k:Nat):Int):=by rw[IntKind.wrap_u64];omega
 have d:bits .and .u64 (IntKind.u64.wrap (-(k:Int))) 31=((32- k:Nat):Int):=by
  rw[b];have e:=u64_and_nat (18446744073709551616- k) 31 (by omega) (by omega);rw[show((31:Nat):Int)=31 from rfl]at e;rw[e,show(31:Nat)=2^5- 1 from rfl,Nat.and_two_pow_sub_one_eq_mod];omega
 have c:IntKind.u64.wrap (32-((32- k:Nat):Int))=(k:Int):=by rw[IntKind.wrap_u64];omega
 have h:2^(32- k)*2^k=4294967296:=by rw[←Nat.pow_add,show 32- k+k=32 from by omega]
 unfold rl;rw[d,c,Int.toNat_natCast,Int.toNat_natCast,show min (32- k) 32=32- k from by omega,show min k 32=k from by omega];have g:IntKind.u32.wrap ((x:Int)*2^(32- k))=((x*2^(32- k)%4294967296:Nat):Int):=by
  rw[IntKind.wrap_u32,Int.natCast_emod,Int.natCast_mul,Int.natCast_pow];rfl
 have f:(x:Int)/2^k=((x/2^k:Nat):Int):=by rw[Int.natCast_ediv,Int.natCast_pow];rfl
 rw[g,f,u32_or_nat _ _ (Nat.mod_lt _ (by decide)) (Nat.lt_of_le_of_lt (Nat.div_le_self _ _) a)]
theorem Bz(x k:Nat)(b:x<4294967296):(x/2^k|||x*2^(32- k))%4294967296=((x*2^(32- k))%4294967296|||x/2^k):=by
 rw[show(4294967296:Nat)=2^32 from rfl,Nat.or_mod_two_pow,Nat.mod_eq_of_lt (a:=x/2^k) (Nat.lt_of_le_of_lt (Nat.div_le_self _ _) b),Nat.or_comm]
theorem Fz(x:Int)(k:Nat)(b:Wd x)(h:2<=k)(e:k<=31):bits .and .i64 (bits .or .i64 (x/2^k) (x*2^(32- k))) 4294967295=rl x (-(k:Int)):=by
 obtain⟨a,rfl⟩:=Int.eq_ofNat_of_zero_le b.1;have c:=b.2;have f:(a:Int)/2^k=((a/2^k:Nat):Int):=by rw[Int.natCast_ediv,Int.natCast_pow];rfl
 have g:(a:Int)*2^(32- k)=((a*2^(32- k):Nat):Int):=by rw[Int.natCast_mul,Int.natCast_pow];rfl
 have j:a*2^(32- k)<4611686018427387904:=by
  have d:2^(32- k)<=2^30:=Nat.pow_le_pow_right (by decide) (by omega)
  calc a*2^(32- k)<=a*2^30:=Nat.mul_le_mul_left _ d
   _<4611686018427387904:=by omega
 have i:a/2^k<4294967296:=Nat.lt_of_le_of_lt (Nat.div_le_self _ _) (by omega);have b:a/2^k|||a*2^(32- k)<2^63:=Nat.or_lt_two_pow (by omega) (by omega);rw[Fx a k (by omega) (by omega) e,g,f,kS _ _ (by omega) (by omega),oL (by omega) (by omega),←Bz a k (by omega)];rfl
theorem JM(x:Int)(k:Nat)(b:Wd x)(g:2<=k):wrap64 (x*2^(32- k))=x*2^(32- k):=by
 obtain⟨a,rfl⟩:=Int.eq_ofNat_of_zero_le b.1;have c:=b.2;have f:(a:Int)*2^(32- k)=((a*2^(32- k):Nat):Int):=by rw[Int.natCast_mul,Int.natCast_pow];rfl
 have e:a*2^(32- k)<4611686018427387904:=by
  have d:2^(32- k)<=2^30:=Nat.pow_le_pow_right (by decide) (by omega)
  calc a*2^(32- k)<=a*2^30:=Nat.mul_le_mul_left _ d
   _<4611686018427387904:=by omega
 rw[f];generalize a*2^(32- k)=q at e;unfold wrap64;omega
theorem rk(x k:Int):Wd (rl x k):=g8 _ _ _
theorem tj(x a b c:Int):Wd (cS x a b c):=g8 _ _ _
theorem qZ(x a b c:Int):Wd (fD x a b c):=g8 _ _ _
theorem Is{x:Int}(b:Wd x)(k:Nat):Wd (x/2^k):=by
 obtain⟨a,rfl⟩:=Int.eq_ofNat_of_zero_le b.1;have c:=b.2;have e:(a:Int)/2^k=((a/2^k:Nat):Int):=by rw[Int.natCast_ediv,Int.natCast_pow];rfl
 have d:a/2^k<=a:=Nat.div_le_self _ _;rw[e];generalize a/2^k=q at d;exact⟨by omega,by omega⟩
def gW(L:List Int):Prop:=∀i:Nat,Wd (L.getD i 0)
theorem Ju:Wd 0:=⟨by decide,by decide⟩
theorem CQ{L:List Int}{x:Int}(h:gW L)(a:Wd x):gW (L++[x]):=by
 intro i;by_cases c:i<L.length
 ·have:=h i;rw[List.getD_eq_getElem?_getD]at this⊢;rwa [List.getElem?_append_left c]
 ·rw[List.getD_eq_getElem?_getD,List.getElem?_append_right (by omega)];by_cases b:i- L.length=0
  ·rw[b];exact a
  ·rw[List.getElem?_eq_none (by simp;omega)];exact Ju
theorem iq(B:List UInt8):∀k,gW (aW B k)
 |0=>λi=>by rw[aW];exact Ju
 |k+1=>by
  rw[aW];refine CQ (iq B k) ?_;split
  ·exact jD _
  ·exact jD _
structure St.Wd (s:St):Prop where
 a:Go.Proofs.YtkmoglhgkcnalaaGreatDoor.Wd s.a
 b:Go.Proofs.YtkmoglhgkcnalaaGreatDoor.Wd s.b
 c:Go.Proofs.YtkmoglhgkcnalaaGreatDoor.Wd s.c
 d:Go.Proofs.YtkmoglhgkcnalaaGreatDoor.Wd s.d
 e:Go.Proofs.YtkmoglhgkcnalaaGreatDoor.Wd s.e
 f:Go.Proofs.YtkmoglhgkcnalaaGreatDoor.Wd s.f
 g:Go.Proofs.YtkmoglhgkcnalaaGreatDoor.Wd s.g
 h:Go.Proofs.YtkmoglhgkcnalaaGreatDoor.Wd s.h
theorem F3{s:St}(h:s.Wd)(k w:Int):(s.next k w).Wd:=⟨jD _,h.a,h.b,h.c,jD _,h.e,h.f,h.g⟩
theorem JA{H:List Int}(h:gW H):(St.of H).Wd:=⟨h 0,h 1,h 2,h 3,h 4,h 5,h 6,h 7⟩
theorem uI(K W:List Int){H:List Int}(h:gW H):∀i,(bI K W H i).Wd
 |0=>JA h
 |i+1=>F3 (uI K W h i) _ _
theorem B4(H G:List Int)(h:gW H)(k:Nat):gW (dB H G k):=by
 intro i;rw[dB];by_cases a:i<8
 ·rw[List.getD_eq_getElem?_getD,List.getElem?_map,List.getElem?_range a];simp only[Option.map_some,Option.getD_some];split
  ·exact jD _
  ·exact h i
 ·rw[List.getD_eq_getElem?_getD,List.getElem?_eq_none (by simp;omega)];exact Ju
theorem H8:gW H0:=by
 intro i;by_cases h:i<8
 ·have:i=0\/i=1\/i=2\/i=3\/i=4\/i=5\/i=6\/i=7:=by omega
  rcases this with rfl|rfl|rfl|rfl|rfl|rfl|rfl|rfl<;>exact⟨by decide,by decide⟩
 ·rw[List.getD_eq_getElem?_getD,List.getElem?_eq_none (by simp[H0];omega)];exact Ju
theorem qL(KS:List Int)(L:List UInt8):∀n,gW (i8 KS L n)
 |0=>H8
 |n+1=>by rw[i8,kP];exact B4 _ _ (qL KS L n) _
theorem JW(s:St)(a:s.Wd)(k w:Int):(s.h+cS s.e 6 11 25+bits .xor .u32 (bits .and .u32 s.e s.f) (bits .and .u32 (4294967295- s.e) s.g)+k+w)%4294967296=s.t k w:=by
 rw[St.t,JZ a.e];simp only[IntKind.wrap_u32];omega
theorem H7(x0 a b c:UInt8):bits .or .i64 (bits .or .i64 (bits .or .i64 ((x0.toNat:Int)*16777216) ((a.toNat:Int)*65536)) ((b.toNat:Int)*256)) (c.toNat:Int)=fM [x0,a,b,c]:=by
 have j:=x0.toNat_lt;have i:=a.toNat_lt;have h:=b.toNat_lt;have g:=c.toNat_lt;have f:(x0.toNat:Int)*16777216=((x0.toNat*16777216:Nat):Int):=by omega
 have e:(a.toNat:Int)*65536=((a.toNat*65536:Nat):Int):=by omega
 have d:(b.toNat:Int)*256=((b.toNat*256:Nat):Int):=by omega
 rw[f,e,d,kS _ _ (by omega) (by omega),nat_join 24 (x0.toNat*16777216) (a.toNat*65536) (by omega) (by omega),kS _ _ (by omega) (by omega),
  nat_join 16 (x0.toNat*16777216+a.toNat*65536) (b.toNat*256) (by omega) (by omega),kS _ _ (by omega) (by omega),nat_join 8 _ c.toNat (by omega) (by omega)]
 simp only[fM,List.foldl];omega
theorem wV(k:Nat):∀n i,i<k->(cg n k)[i]?=some (UInt8.ofNat (n/256^(k- 1- i))):=by
 induction k with
 |zero=>intro n i h;omega
 |succ k a=>
  intro n i h;rw[tS];cases i with
  |zero=>simp
  |succ i=>rw[List.getElem?_cons_succ,a n i (by omega),show k+1- 1-(i+1)=k- 1- i from by omega]
end
end Go.Proofs.YtkmoglhgkcnalaaGreatDoor
