/- A part of what the last text of the claim imports: texts laid together, and made small, by a program. -/
import Derived.Conc.CrowdStepC2
import Derived.Conc.CrowdRun
import Derived.ProofKit
import Derived.WalkKit
import Derived.WalkSpells
import Derived.WalkLawsBesides
import Derived.Deep.MidRow
import Derived.Deep.OwnRows
import Derived.StillTail
import Derived.Conc.CompanyDraw
import Derived.AtR
import Derived.Test.YtkmoglhgkcnalaaGreatDoorOwn2
set_option maxHeartbeats 16000000
set_option maxRecDepth 100000
open Array renaming getElem?_eq_getElem->i7,mem_of_getElem?->Qv,ext->RL
open Go.Extern renaming findNext->RY,find->Sr
open Go.Extern.AbiNoEscape renaming same->Sf
open Go.Extern.BytealgMakeNoZero renaming makeNoZero->Rh
open Go.Frame renaming enter->Qc,finish_atR->Ql
open Go.GStep renaming after->AS
open Go.Instr renaming endLoop->QO,getLoop->Re
open Go.IntKind renaming u32->Qk,wrap_u32->Qn,wrap_u64->QZ,u64->R4
open Go.Obj renaming isChan->Sl
open Go.Region renaming wanted->mw
open Go.Sem renaming bind->Qo,runT_eq->QI,runT->QL
open Go.World renaming rangeAt_setCells_same->AI,setCell->Q6,rangeAt_setCells_apart->Qi,rangeAt_alloc->Qr,there_setCells->QD,cell?_alloc_at->QE,there_alloc->Ro
open Iff renaming rfl->SR
open Int renaming natCast_pow->Q1
open List renaming getElem?_eq_some_iff->mx,not_mem_nil->If,replicate->OF,getElem?_append_right->PY,mem_cons->PZ,getElem?_eq_getElem->Q0,getElem?_append_left->Q9,mem_toArray->Qw,mem_singleton->QN,take_of_length_le->QQ,map_append->QW,getElem?_map->R2,set_append_right->Ra,mem_map->Rs,append_assoc->Ru
open Nat renaming le_refl->d5,lt_of_lt_of_le->d6,zero_add->IS,not_lt->RS
open Option renaming map_some->eZ,map_eq_some_iff->Qh,bind_eq_some_iff->Qt,bind_some->QA
open Or renaming inl->S8
open UInt8 renaming ofNat->RR
namespace Go.Proofs.YtkmoglhgkcnalaaGreatDoor
open Go
variable{n b i N l m k j b3 b4 b7 b9 Wg wd:Nat}{w w' w0 wL wM wE:World}{fr:Frame}{v:Value}{cs:List Frame}{args cv:Array Value}{V RO D V0:Nat->Prop}{q main listen ql:Bool}{g:Goroutine}{a:Act}{K:List Item}{P PL PM:Program}{x:Operand}{ops:Array Oper}{KS:List Int}{t u:TypeId}{o:Oper}{f:FuncId}{es:Array Event}{Goal:Goroutine->World->Prop}{fn:Func}{rest:List Nat}{ds:List Deferred}{X:aW}{F:List (Nat×Value)}{e:Event}{listed:Array Bool}{c:Int}{s msg key sig:ByteArray}{ρ:Nat->Nat}{ev:Operand->Value}{Post:Value->World->Prop}
section
open Go Go.Conc
open Go.ConcN (sumTo upd sumTo_upd upd_ne upd_same CT Apart PermW WgLive RelBy WD ShN OkW Ok0 norel_of)
open Go.ConcR (KK WgAt stA smA rd wr mk DC0)
section
variable{S:Nat->Prop}{gs:Array Goroutine}{t:Trace}{D:Nat->WD}{Nd:Nat->fm}{d0:Nat}{q:Nat->Nat}
theorem fY(f:Goroutine->Goroutine)(x:Goroutine){a:Nat}(h:a≠b):((gs.map f).setIfInBounds a x)[b]?=(gs[b]?).map f:=by rw[sN h,Array.getElem?_map]
theorem qa(f:Goroutine->Goroutine)(x:Goroutine){a:Nat}(h:a<gs.size):((gs.map f).setIfInBounds a x)[a]?=some x:=by simp[h]
theorem pw{b:WD}{x:fm}(h:(b.stage=7/\b.fuel=0/\b.deaf=0/\g=x.g/\aX X i x/\bQ X i x.V x.w w)\/(b.stage<=6/\Ah X b.stage b.fuel b.deaf g w))(a a':Goroutine)(v:World):woken X.P a a' v g=g:=by
 rcases h with⟨_,_,_,rfl,h,_⟩|⟨_,h⟩
 ·exact woken_run h.running
 ·exact @Go.ConcN.WSit.woken ep _ _ _ _ _ _ _ _ _ _ _ _ _ _ _ h a a' v
theorem sL{a:WD}{x:fm}(h:(a.stage=7/\a.fuel=0/\a.deaf=0/\g=x.g/\aX X i x/\bQ X i x.V x.w w)\/(a.stage<=6/\Ah X a.stage a.fuel a.deaf g w))
 (d:bQ X i x.V w w') (e:wI X.ty X.Wg w w'):(a.stage=7/\a.fuel=0/\a.deaf=0/\g=x.g/\aX X i x/\bQ X i x.V x.w w')\/(a.stage<=6/\Ah X a.stage a.fuel a.deaf g w'):=by
 rcases h with⟨c,b,l,k,j,f⟩|⟨c,b⟩
 ·exact .inl ⟨c,b,l,k,j,f.trans d⟩
 ·exact .inr ⟨c, @Go.ConcN.WSit.rely ep _ _ _ _ _ _ _ _ _ _ _ _ _ _ _ _ b e⟩
theorem tO{u:Trace}(f:∀op∈u,op.g=k)(s:k=0\/m<k)(h:∀(i g:Nat),t.g? i=some g->g≠0->g<=m->t.counts i->∃k,t.g? k=some 0/\HappensBefore t i k):
 ∀(i g:Nat),(t++u).g? i=some g->g≠0->g<=m->(t++u).counts i->∃k,(t++u).g? k=some 0/\HappensBefore (t++u) i k:=by
 intro i g d r l p;rcases Nat.lt_or_ge i t.size with b|o
 ·obtain⟨n,a,q⟩:=h i g (by rw[←g?_old (u:=u) b];exact d) r l ((counts_old b).1 p);have j:n<t.size:=by unfold Trace.g? at a;obtain⟨z,c,_⟩:=Qh.1 a;exact lt_size_of_getElem? c
  exact⟨n,by rw[g?_old j];exact a,hb_app u q⟩
 ·exfalso;unfold Trace.g? at d;obtain⟨z,c,e⟩:=Qh.1 d;rcases getElem?_append_cases c with⟨a,_⟩|⟨_,a⟩
  ·omega
  ·have:=f z a;omega
theorem qJ{o:Loc->Prop}{u:Trace}(p:∀op∈u,op.g=k)(c:k=0\/m<k)(h:∀(i:Nat) (a:Touch) (g:Nat),touchAt t i=some a->t.g? i=some g->g<=m->a.loc.isMemory=true->Knows t 0 i\/(o a.loc/\a.kind= .atomic)):
 ∀(i:Nat) (a:Touch) (g:Nat),touchAt (t++u) i=some a->(t++u).g? i=some g->g<=m->a.loc.isMemory=true->Knows (t++u) 0 i\/(o a.loc/\a.kind= .atomic):=by
 intro i a g s d q b;obtain⟨x,l,f⟩:=touch_of s;rcases getElem?_append_cases l with⟨n,j⟩|⟨_,n⟩
 ·exact(h i a g (by rw[touchAt_of j];exact f) (by rw[←g?_old (u:=u) n];exact d) q b).imp (·.app u) id
 ·have e:=p x n;have r:g=x.g:=by unfold Trace.g? at d;rw[l]at d;exact(Option.some.inj d).symm
  rcases c with c|c
  ·have:=knows_own l;rw[e,c]at this;exact .inl this
  ·omega
theorem nF{f:Loc->Prop}{u:Trace}(n:∀op∈u,op.g<=m\/∀x,op.act.touch?=some x->x.kind= .atomic->f x.loc)(h:∀(i:Nat) (a:Touch) (g:Nat),touchAt t i=some a->t.g? i=some g->m<g->a.kind= .atomic->f a.loc):
 ∀(i:Nat) (a:Touch) (g:Nat),touchAt (t++u) i=some a->(t++u).g? i=some g->m<g->a.kind= .atomic->f a.loc:=by
 intro i a g q c o k;obtain⟨x,j,b⟩:=touch_of q;rcases getElem?_append_cases j with⟨e,d⟩|⟨_,e⟩
 ·exact h i a g (by rw[touchAt_of d];exact b) (by rw[←g?_old (u:=u) e];exact c) o k
 ·have p:g=x.g:=by unfold Trace.g? at c;rw[j]at c;exact(Option.some.inj c).symm
  rcases n x e with l|l
  ·omega
  ·exact l a b k
theorem jp.work(h:jp X S m j gs w t D Nd V0 d0 q)(hi:i<j){g':Goroutine}(hg:gs[1+m+i]?=some g)(h7:(D i).stage=7)(hfd:(D i).fuel=0/\(D i).deaf=0)
 (hws:kg X i (Nd i).V w w' es) (hn:aX X i ((Nd i).next w g' w')):
 jp X S m j ((gs.map (woken X.P g g' w')).setIfInBounds (1+m+i) g') w' (t++MemOp.ofEvents (1+m+i) g.frame.fn g.frame.place es) D (upd Nd i ((Nd i).next w g' w')) V0 d0 q:=by
 obtain⟨_,hrw,hlate,hlist,hcells,hsize,_⟩:=t5 h.lies h.list hi hws;have hlt:1+m+i<gs.size:=by rw[h.size];omega
 have hL':jo X S j (upd Nd i ((Nd i).next w g' w')) V0 w':=h.lies.work hi hsize;have hanew:CT (ik S X.Wg) (pS X m j (upd Nd i ((Nd i).next w g' w'))) (xk X m) t (m+j):=by
  refine Ko h.ct (λn a ha k=> ?_) λ_ _ _ _=>SR;have hlow:=rq h.seen ha;have hV:∀k,k<j->(eq (upd Nd i ((Nd i).next w g' w') k).V a.loc↔eq (Nd k).V a.loc):=by
   intro k _;by_cases e:k=i
   ·subst e;rw[upd_same];cases hl:a.loc with
    |cell b=>
     rw[hl]at hlow;exact⟨λx=>x.elim id λy=>absurd hlow (RS.2 y.1), .inl⟩
    |obj b=>
     rw[hl]at hlow;exact⟨λx=>x.elim id λy=>absurd hlow (RS.2 y.1), .inl⟩
    |_=>exact SR
   ·rw[upd_ne Nd _ e]
  exact⟨λ⟨x,hx,hk,ho⟩=>⟨x,hx,hk,ho.imp (hV x hx).1 id⟩,λ⟨x,hx,hk,ho⟩=>⟨x,hx,hk,ho.imp (hV x hx).2 id⟩⟩
 have hev:∀e∈es,(∀fn pos,OkW (ik S X.Wg) (pS X m j (upd Nd i ((Nd i).next w g' w'))) (xk X m) (1+m+i) {g:=1+m+i,fn,pos,act:= .ofEvent e})/\(MemAct.ofEvent e).low w'.heap.size/\e.loc≠ .mark .disable/\e.loc≠ .mark .enable/\∀a,e.loc≠ .mark (.release a):=by
  intro e he;rcases hws with hws|⟨c,v,hc,rfl,rfl⟩
  ·have h1:=hws.ev e he;refine⟨λfn pos=>JD (λl hl=>⟨i,hi,rfl, .inl (by rw[upd_same];exact hl)⟩) (λl hl=>⟨o_,hl⟩) h1 fn pos,xl (λb hb=> ?_) (λb hb=>(hL'.ro b hb).1) h1,jw h1⟩;rcases hb with hb|hb
   ·exact d6 (h.lies.priv i hi b hb).1 hsize
   ·exact hb.2
  ·rw[Array.mem_singleton]at he;subst he;refine⟨λfn pos=>⟨rfl,λx hx=> ?_⟩, ?_,s_,s_,s_⟩
   ·simp only[ofEvent_cell0,MemAct.touch?,Option.some.injEq]at hx;subst hx;exact .inr (.inl ⟨i,hi,rfl, .inr ⟨c,hc,rfl⟩⟩)
   ·show X.C<_;exact hL'.wgl.2
 refine
  {size:=by simp[h.size]
   old:=λk h0 hk=> ?_
   wk:=λk hk=> ?_
   lies:=hL'
   tabRO:=h.tabRO
   ct:=hanew.appW hL'.apart (k:=1+m+i) o_ o_ λop hop=> ?_
   norel:=h.norel.app (norel_of λe he=>(hev e he).2.2.2.2 _)
   deaf0:=by rw[Deaf_other t o_ _ cy];exact h.deaf0
   deafW:=λk hk=> ?_
   rel:=λk hk hs=> ?_
   has:=λk hk hs c hc=> ?_
   list:=hlist
   seen:=λop hop=> ?_
   over:=tO cy (.inr o_) h.over
   known:=qJ cy (.inr o_) h.known
   atom:=nF (λop hop=> .inr λx hx hk=> ?_) h.atom}
 ·obtain⟨x,hx,hq⟩:=h.old k h0 hk;refine⟨x,by rw[fY _ _ o_,hx,eZ,woken_quitsD hq], ?_⟩;rw[Deaf_other t o_ _ cy];exact hq
 ·by_cases e:k=i
  ·subst e;exact⟨g',qa _ _ hlt, .inl ⟨h7,hfd.1,hfd.2,by rw[upd_same];rfl,by rw[upd_same];exact hn,by rw[upd_same];exact bQ.refl _ _ _ _⟩⟩
  ·obtain⟨x,hx,hs⟩:=h.wk k hk;refine⟨x,by rw[fY _ _ o_,hx,eZ,pw hs], ?_⟩;rw[upd_ne Nd _ e];exact sL hs (hrw k hk e) (hlate h.tabRO)
 ·obtain⟨e,he,rfl⟩:=Go.Conc.mem_ofEvents hop;exact(hev e he).1 _ _
 ·by_cases e:k=i
  ·subst e;rw[Deaf_own,deafBehind_still λe he=>⟨(hev e he).2.2.1,(hev e he).2.2.2.1⟩];exact h.deafW k hk
  ·rw[Deaf_other t o_ _ cy];exact h.deafW k hk
 ·have e:k≠i:=λe=>by rw[e]at hs;omega
  obtain⟨r,hr⟩:=h.rel k hk hs;exact⟨r,hr.appOther cy o_⟩
 ·have e:k≠i:=λe=>by rw[e]at hs;omega
  rw[hcells k e c hc];exact h.has k hk hs c hc
 ·rcases Array.mem_append.1 hop with hop|hop
  ·exact MemAct.low_mono hsize (h.seen op hop)
  ·obtain⟨e,he,rfl⟩:=Go.Conc.mem_ofEvents hop;exact(hev e he).2.1
 ·obtain⟨e,he,rfl⟩:=Go.Conc.mem_ofEvents hop;rcases hws with hws|⟨c,v,hc,rfl,rfl⟩
  ·rw[Er (hws.ev e he) hx]at hk;cases hk
  ·rw[Array.mem_singleton]at he;subst he;have hx':(MemAct.access ⟨.cell (X.at c),true,false⟩).touch?=some x:=hx;simp only[MemAct.touch?,Option.some.injEq]at hx';subst hx';cases hk
end
section
variable{S:Nat->Prop}{gs:Array Goroutine}{t:Trace}{D:Nat->WD}{Nd:Nat->fm}{d0:Nat}{q:Nat->Nat}
theorem t6(i:jo X S j Nd V0 w)(q:X.list w)(l:kh (· =X.Wg) w w')(f:WgLive X.ty X.Wg w'):
 bW X V0 w w'/\(∀k,k<j->bQ X k (Nd k).V w w')/\(X.RO 0->wI X.ty X.Wg w w')/\X.list w'/\(∀c,w'.cell? (X.at c)=w.cell? (X.at c)):=by
 have p:¬X.C=X.Wg:=λe=>i.wgc e.symm;have m:=l.list p i.wgl.2 q;have h:∀c,w'.cell? (X.at c)=w.cell? (X.at c):=λc=>l.cell (a:=X.at c) p i.wgl.2;have g:∀b,X.RO b->¬b=X.Wg/\b<w.heap.size:=λb d=>⟨(i.ro b d).2.1,(i.ro b d).1⟩;refine⟨⟨l.kept λb d=> ?_,λ_=>f⟩,λk n=>⟨l.kept λb d=> ?_,λ_=>f,λ_=>m,λc _=>h c⟩,λo=> @Go.ConcN.RW.mk ep _ _ _ _ _ _ _ _ (λb d=>absurd d (Nat.not_lt_zero _)) (λ_=>f) (λ⟨t,s,r⟩=>⟨t,(l.keep 0 (g 0 o).2 (g 0 o).1).trans s,r⟩) (l.cell (g 0 o).1 (g 0 o).2),m,h⟩
 ·rcases d with d|d
  ·exact⟨(i.v0 b d).2.2.1,(i.v0 b d).1⟩
  ·exact g b d
 ·rcases d with d|d
  ·exact⟨(i.priv k n b d).2.2.1,(i.priv k n b d).1⟩
  ·exact g b d
theorem yg(A:Nat->Prop)(w:World):kh A w w:=⟨λ_ _ _=>rfl,d5 _,rfl,rfl,rfl⟩
theorem jp.stepW(h:jp X S m j gs w t D Nd V0 d0 q)(N:i<j){g':Goroutine}{s' f' v:Nat}(B:kh (· =X.Wg) w w')(n:WgLive X.ty X.Wg w')(L:s'<=6)(E:Ah X s' f' v g' w')
 (l:∀e∈es,(∀fn pos,OkW (ik S X.Wg) (pS X m j Nd) (xk X m) (1+m+i) {g:=1+m+i,fn,pos,act:= .ofEvent e})/\(MemAct.ofEvent e).low w.heap.size/\e.loc≠ .mark (.release (stA X.Wg)))
 (H:∀e∈es,∀x,(MemAct.ofEvent e).touch?=some x->ik S X.Wg x.loc) (u:deafBehind (D i).deaf es=v) (z:∃r,RelBy (stA X.Wg) (t++MemOp.ofEvents (1+m+i) g.frame.fn g.frame.place es) (1+m+i) r) (A:∀c,X.mine i c->w.cell? (X.at c)=some (X.val c)):
 jp X S m j ((gs.map (woken X.P g g' w')).setIfInBounds (1+m+i) g') w' (t++MemOp.ofEvents (1+m+i) g.frame.fn g.frame.place es) (upd D i ⟨s',f',v⟩) Nd V0 d0 q:=by
 obtain⟨_,F,p,o,d⟩:=t6 h.lies h.list B n;have G:1+m+i<gs.size:=by rw[h.size];omega
 refine
  {size:=by simp[h.size]
   old:=λk M b=> ?_
   wk:=λk b=> ?_
   lies:=h.lies.grow B.size
   tabRO:=h.tabRO
   ct:=h.ct.appW h.lies.apart (k:=1+m+i) o_ o_ λC a=> ?_
   norel:=h.norel.app (norel_of λe s=>(l e s).2.2)
   deaf0:=by rw[Deaf_other t o_ _ cy];exact h.deaf0
   deafW:=λk b=> ?_
   rel:=λk b f=> ?_
   has:=λk b f c J=> ?_
   list:=o
   seen:=λC a=> ?_
   over:=tO cy (.inr o_) h.over
   known:=qJ cy (.inr o_) h.known
   atom:=nF (λC a=> .inr λx y _=>by obtain⟨e,s,rfl⟩:=Go.Conc.mem_ofEvents a;exact H e s x y) h.atom}
 ·obtain⟨x,y,I⟩:=h.old k M b;refine⟨x,by rw[fY _ _ o_,y,eZ,woken_quitsD I], ?_⟩;rw[Deaf_other t o_ _ cy];exact I
 ·by_cases e:k=i
  ·subst e;exact⟨g',qa _ _ G, .inr (by rw[upd_same];exact⟨L,E⟩)⟩
  ·obtain⟨x,y,f⟩:=h.wk k b;refine⟨x,by rw[fY _ _ o_,y,eZ,pw f], ?_⟩;rw[upd_ne D _ e];exact sL f (F k b) (p h.tabRO)
 ·obtain⟨e,s,rfl⟩:=Go.Conc.mem_ofEvents a;exact(l e s).1 _ _
 ·by_cases e:k=i
  ·subst e;rw[Deaf_own,h.deafW k b,upd_same];exact u
  ·rw[Deaf_other t o_ _ cy,upd_ne D _ e];exact h.deafW k b
 ·by_cases e:k=i
  ·subst e;exact z
  ·rw[upd_ne D _ e]at f;obtain⟨r,K⟩:=h.rel k b f;exact⟨r,K.appOther cy o_⟩
 ·rw[d];by_cases e:k=i
  ·subst e;exact A c J
  ·rw[upd_ne D _ e]at f;exact h.has k b f c J
 ·rcases Array.mem_append.1 a with a|a
  ·exact MemAct.low_mono B.size (h.seen C a)
  ·obtain⟨e,s,rfl⟩:=Go.Conc.mem_ofEvents a;exact MemAct.low_mono B.size (l e s).2.1
structure Om (X:aW) (j:Nat) (Nd:Nat->fm) (w w':World):Prop where
 wk:∀i',i'<j->bQ X i' (Nd i').V w w'
 late:X.RO 0->wI X.ty X.Wg w w'
 list:X.list w'
 cells:∀c,w'.cell? (X.at c)=w.cell? (X.at c)
 size:w.heap.size<=w'.heap.size
theorem jp.step0(h:jp X S m j gs w t D Nd V0 d0 q){o:Nat->Prop}{a a':Goroutine}(n:Om X j Nd w w')(v:jo X S j Nd o w')
 (f:∀e∈es,(∀fn pos,Ok0 (ik S X.Wg) (pS X m j Nd) (xk X m) (m+j) {g:=0,fn,pos,act:= .ofEvent e})/\(MemAct.ofEvent e).low w'.heap.size/\e.loc≠ .mark (.release (stA X.Wg))):
 jp X S m j ((gs.map (woken X.P a a' w')).setIfInBounds 0 a') w' (t++MemOp.ofEvents 0 a.frame.fn a.frame.place es) D Nd o (deafBehind d0 es) q:=by
 refine
  {size:=by simp[h.size]
   old:=λk A d=> ?_
   wk:=λk d=> ?_
   lies:=v
   tabRO:=h.tabRO
   ct:=h.ct.app0 v.apart λp b=> ?_
   norel:=h.norel.app (norel_of λe l=>(f e l).2.2)
   deaf0:=by rw[Deaf_own,h.deaf0]
   deafW:=λk d=>by rw[Deaf_other t o_ _ cy];exact h.deafW k d
   rel:=λk d i=> ?_
   has:=λk d i c z=>by rw[n.cells];exact h.has k d i c z
   list:=n.list
   seen:=λp b=> ?_
   over:=tO cy (.inl rfl) h.over
   known:=qJ cy (.inl rfl) h.known
   atom:=nF (λp b=> .inl (by rw[cy p b];exact Nat.zero_le _)) h.atom}
 ·obtain⟨x,s,u⟩:=h.old k A d;refine⟨x,by rw[fY _ _ o_,s,eZ,woken_quitsD u], ?_⟩;rw[Deaf_other t o_ _ cy];exact u
 ·obtain⟨x,s,i⟩:=h.wk k d;exact⟨x,by rw[fY _ _ o_,s,eZ,pw i],sL i (n.wk k d) (n.late h.tabRO)⟩
 ·obtain⟨e,l,rfl⟩:=Go.Conc.mem_ofEvents b;exact(f e l).1 _ _
 ·obtain⟨r,y⟩:=h.rel k d i;exact⟨r,y.appOther cy o_⟩
 ·rcases Array.mem_append.1 b with b|b
  ·exact MemAct.low_mono n.size (h.seen p b)
  ·obtain⟨e,l,rfl⟩:=Go.Conc.mem_ofEvents b;exact(f e l).2.1
theorem Gz(i:jo X S j Nd V0 w)(s:X.list w)(h:cC V0 X.RO w w' es):Om X j Nd w w'/\jo X S j Nd (co V0 w w') w'/\w'.heap[X.Wg]?=w.heap[X.Wg]?:=by
 have k:=h.turns;have l:¬V0 X.Wg:=λm=>(i.v0 _ m).2.2.1 rfl;have r:¬V0 X.C:=λm=>(i.v0 _ m).2.2.2.1 rfl;have e:=k.live (ty:=X.ty) l i.wgl.1;have d:∀b,X.RO b->¬V0 b/\b<w.heap.size:=λb g=>⟨λm=>(i.v0 b m).2.1 g,(i.ro b g).1⟩;have f:∀c,w'.cell? (X.at c)=w.cell? (X.at c):=λc=>k.cell (a:=X.at c) r i.wgl.2;have n:=k.list r i.wgl.2 s;refine⟨⟨λq o=>⟨k.kept λb g=> ?_,e,λ_=>n,λc _=>f c⟩,λp=> @Go.ConcN.RW.mk ep _ _ _ _ _ _ _ _ (λb g=>absurd g (Nat.not_lt_zero _)) e (λ⟨v,u,t⟩=>⟨v,(k.keep 0 (d 0 p).2 (d 0 p).1).trans u,t⟩) (k.cell (d 0 p).1 (d 0 p).2),n,f,k.size⟩,i.maiN k.size,k.keep _ i.wgl.1 l⟩;rcases g with g|g
 ·exact⟨(i.priv q o b g).2.2.2.2.2,(i.priv q o b g).1⟩
 ·exact d b g
theorem JF(s:jo X S j Nd (co V0 w w') w')(u:gt (co V0 w w') X.RO e)(fn:FuncId)(pos:String):Ok0 (ik S X.Wg) (pS X m j Nd) (xk X m) (m+j) {g:=0,fn,pos,act:= .ofEvent e}:=by
 have n:∀l:Loc,(eq (co V0 w w') l\/eq X.RO l)->¬ik S X.Wg l/\∀k,¬pS X m j Nd k l:=by
  intro l d;refine⟨λE=> ?_,λk ⟨i,F,_,y⟩=> ?_⟩
  ·rcases d with d|d
   ·obtain⟨b,q,o⟩:=wY d E;exact o.elim (s.v0 b q).2.2.2.2 (s.v0 b q).2.2.1
   ·obtain⟨b,q,o⟩:=wY d E;exact o.elim (λo=>(s.sh b o).2.1 q) (s.ro b q).2.1
  ·rcases y with y|⟨c,_,rfl⟩
   ·rcases d with d|d
    ·obtain⟨b,q,o⟩:=fX d y;exact(s.priv i F b o).2.2.2.2.2 q
    ·obtain⟨b,q,o⟩:=fX d y;exact(s.priv i F b o).2.1 q
   ·rcases d with d|d
    ·exact(s.v0 _ d).2.2.2.1 rfl
    ·exact(s.ro _ d).2.2 rfl
 have t:∀l:Loc,eq (co V0 w w') l->∀k,¬xk X m k l:=λl d k ⟨_,G⟩=>by obtain⟨b,q,o⟩:=fX d G;exact(s.v0 b q).2.1 o
 refine⟨rfl,λx v=> ?_⟩;obtain⟨A,z,I⟩:=e;cases A with
 |cell a=>
  obtain⟨rfl,h⟩:=u;have p:(MemAct.access ⟨.cell a,z,false⟩).touch?=some x:=v;simp only[MemAct.touch?,Option.some.injEq]at p;subst p;rcases h with h|⟨h,o⟩
  ·exact .inr ⟨(n (.cell a) (.inl h)).1,λk _ _=>(n (.cell a) (.inl h)).2 k,λ_ k _ _=>t (.cell a) h k⟩
  ·have B:z=false:=o;exact .inr ⟨(n (.cell a) (.inr h)).1,λk _ _=>(n (.cell a) (.inr h)).2 k,λD=>by rw[B]at D;cases D⟩
 |obj r=>
  obtain⟨rfl,h⟩:=u;have p:(MemAct.ofEvent ⟨.obj r,z,false⟩).touch?=some x:=v;simp only[MemAct.ofEvent,MemAct.touch?,Option.some.injEq]at p;subst p;exact .inr ⟨(n (.obj r) (.inl h)).1,λk _ _=>(n (.obj r) (.inl h)).2 k,λ_ k _ _=>t (.obj r) h k⟩
 |mark C=>
  have H:fD C=true:=u;cases C with
  |extern f=>cases v
  |noRoom=>cases v
  |_=>simp[fD]at H
 |output=>exact u.elim
 |goroutines=>exact u.elim
end
section
variable{S:Nat->Prop}{gs:Array Goroutine}{t u:Trace}{D:Nat->WD}{Nd:Nat->fm}{d0:Nat}{q:Nat->Nat}
theorem bQ.at(X:aW)(i:Nat)(V:Nat->Prop)(w:World)(d:Nat):bQ X i V w (w.at d):=⟨eB.at _ w d,id,id,λ_ _=>rfl⟩
theorem bW.at(X:aW)(V:Nat->Prop)(w:World)(d:Nat):bW X V w (w.at d):=⟨eB.at _ w d,id⟩
theorem jp.at(h:jp X S m j gs w t D Nd V0 d0 q)(d:Nat):jp X S m j gs (w.at d) t D Nd V0 d0 q:=
 {size:=h.size
  old:=h.old
  wk:=λi a=>let ⟨g,hg,hs⟩:=h.wk i a;⟨g,hg,sL hs (bQ.at X i _ w d) (@Go.ConcN.RW.at ep _ _ _ _ _ _ w d)⟩
  lies:=h.lies.grow (d5 _)
  tabRO:=h.tabRO
  ct:=h.ct
  norel:=h.norel
  deaf0:=h.deaf0
  deafW:=h.deafW
  rel:=h.rel
  has:=h.has
  list:=h.list
  seen:=h.seen
  over:=h.over
  known:=h.known
  atom:=h.atom}
theorem vO(l:∀op∈u,op.act.touch?=none)(h:∀(i g:Nat),t.g? i=some g->g≠0->g<=m->t.counts i->∃k,t.g? k=some 0/\HappensBefore t i k):
 ∀(i g:Nat),(t++u).g? i=some g->g≠0->g<=m->(t++u).counts i->∃k,(t++u).g? k=some 0/\HappensBefore (t++u) i k:=by
 intro i g r v p e;rcases Nat.lt_or_ge i t.size with c|q
 ·obtain⟨n,a,s⟩:=h i g (by rw[←g?_old (u:=u) c];exact r) v p ((counts_old c).1 e);have o:n<t.size:=by unfold Trace.g? at a;obtain⟨z,f,_⟩:=Qh.1 a;exact lt_size_of_getElem? f
  exact⟨n,by rw[g?_old o];exact a,hb_app u s⟩
 ·exfalso;obtain⟨x,j,_⟩:=e;obtain⟨op,d,b⟩:=touch_of j;rcases getElem?_append_cases d with⟨a,_⟩|⟨_,a⟩
  ·omega
  ·rw[l op a]at b;cases b
theorem tX{f:Loc->Prop}(k:∀op∈u,op.act.touch?=none)(h:∀(i:Nat) (a:Touch) (g:Nat),touchAt t i=some a->t.g? i=some g->g<=m->a.loc.isMemory=true->Knows t 0 i\/(f a.loc/\a.kind= .atomic)):
 ∀(i:Nat) (a:Touch) (g:Nat),touchAt (t++u) i=some a->(t++u).g? i=some g->g<=m->a.loc.isMemory=true->Knows (t++u) 0 i\/(f a.loc/\a.kind= .atomic):=by
 intro i a g o n l c;obtain⟨x,j,b⟩:=touch_of o;rcases getElem?_append_cases j with⟨e,d⟩|⟨_,e⟩
 ·exact(h i a g (by rw[touchAt_of d];exact b) (by rw[←g?_old (u:=u) e];exact n) l c).imp (·.app u) id
 ·rw[k x e]at b;cases b
theorem Be(h:e.mute=true)(a:Addr):e.loc≠ .mark (.release a):=by obtain⟨b,d,f⟩:=e;intro c;cases c;simp[Event.mute]at h
theorem jp.oldStep(h:jp X S m j gs w t D Nd V0 d0 q)(A:0<i)(B:i<=m){g':Goroutine}(s:∀e∈es,e.mute=true)(z:QuitsD X.P k (deafBehind (Deaf t i) es) g'):
 jp X S m j ((gs.map (woken X.P g g' w)).setIfInBounds i g') w (t++MemOp.ofEvents i g.frame.fn g.frame.place es) D Nd V0 d0 (upd q i k):=by
 have u:i<gs.size:=by rw[h.size];omega
 have b:∀c∈MemOp.ofEvents i g.frame.fn g.frame.place es,c.act.touch?=none:=λc a=>by obtain⟨e,o,rfl⟩:=Go.Conc.mem_ofEvents a;exact touch_mute (s e o)
 refine
  {size:=by simp[h.size]
   old:=λf v l=> ?_
   wk:=λf l=> ?_
   lies:=h.lies
   tabRO:=h.tabRO
   ct:=h.ct.appW h.lies.apart (k:=i) A o_ λc a=>⟨cy c a,λx d=>by rw[b c a]at d;cases d⟩
   norel:=h.norel.app (norel_of λe o=>Be (s e o) _)
   deaf0:=by rw[Deaf_other t o_ _ cy];exact h.deaf0
   deafW:=λf l=>by rw[Deaf_other t o_ _ cy];exact h.deafW f l
   rel:=λf l p=> ?_
   has:=h.has
   list:=h.list
   seen:=λc a=> ?_
   over:=vO b h.over
   known:=tX b h.known
   atom:=nF (λc a=> .inr λx d _=>by rw[b c a]at d;cases d) h.atom}
 ·by_cases e:f=i
  ·subst e;refine⟨g',qa _ _ u, ?_⟩;rw[upd_same,Deaf_own];exact z
  ·obtain⟨x,d,n⟩:=h.old f v l;refine⟨x,by rw[fY _ _ o_,d,eZ,woken_quitsD n], ?_⟩;rw[Deaf_other t o_ _ cy,upd_ne q _ e];exact n
 ·obtain⟨x,d,p⟩:=h.wk f l;exact⟨x,by rw[fY _ _ o_,d,eZ,pw p],p⟩
 ·obtain⟨r,y⟩:=h.rel f l p;exact⟨r,y.appOther cy o_⟩
 ·rcases Array.mem_append.1 a with a|a
  ·exact h.seen c a
  ·obtain⟨e,o,rfl⟩:=Go.Conc.mem_ofEvents a;exact low_mute (s e o) _
theorem Kn{f:Loc->Prop}{Own Own' Rd:Nat->Loc->Prop}(h:CT f Own Rd t n)(e:∀k,k<=n->∀l,Own' k l↔Own k l):CT f Own' Rd t n:=
 {quiet:=h.quiet
  own:=λk b a l c=>h.own k b a l ((e k a l).1 c)
  rd:=h.rd
  free:=λl d c=>h.free l d λk b a=>⟨λx=>(c k b a).1 ((e k a l).2 x),(c k b a).2⟩
  mine:=λl d c=>h.mine l d λk b a x=>c k b a ((e k a l).2 x)
  nr:=h.nr
  gs:=h.gs}
theorem jo.spawn(h:jo X S j Nd V0 w){l:Nat->Prop}(hv:∀b,l b->V0 b)(g:Goroutine):jo X S (j+1) (upd Nd j ⟨l,g,w⟩) (λb=>V0 b/\¬l b) w:=by
 refine⟨h.mine,h.wgc,h.wgl,h.ro,h.sh,λb a=>h.v0 b a.1,λi n b a=> ?_,λi f n m b a c=> ?_⟩
 ·by_cases e:i=j
  ·subst e;rw[upd_same]at a;have d:=h.v0 b (hv b a);exact⟨d.1,d.2.1,d.2.2.1,d.2.2.2.1,d.2.2.2.2,λx=>x.2 a⟩
  ·rw[upd_ne Nd _ e]at a;obtain⟨t,s,r,q,p,o⟩:=h.priv i o_ b a;exact⟨t,s,r,q,p,λx=>o x.1⟩
 ·by_cases e:i=j<;>by_cases k:f=j
  ·omega
  ·subst e;rw[upd_same]at a;rw[upd_ne Nd _ k]at c;exact absurd (hv b a) (h.priv f o_ b c).2.2.2.2.2
  ·subst k;rw[upd_same]at c;rw[upd_ne Nd _ e]at a;exact absurd (hv b c) (h.priv i o_ b a).2.2.2.2.2
  ·rw[upd_ne Nd _ e]at a;rw[upd_ne Nd _ k]at c;exact h.two i f o_ o_ b a c
theorem jp.spawn(h:jp X S m j gs w t D Nd V0 0 q){a' c:Goroutine}{x y:MemOp}{B:Nat->Prop}(u:x.g=0/\x.act= .go (1+m+j))(z:y.g=1+m+j/\y.act= .start)(hv:∀b,B b->V0 b)(M:aX X j ⟨B,c,w⟩):
 jp X S m (j+1) ((gs.setIfInBounds 0 a').push c) w (t++#[x,y]) (upd D j ⟨7,0,0⟩) (upd Nd j ⟨B,c,w⟩) (λb=>V0 b/\¬B b) 0 q:=by
 have I:=h.lies.spawn hv c;have n:∀d∈#[x,y],d=x\/d=y:=λd a=>by simpa using a
 have o:∀d∈#[x,y],d.act.touch?=none:=λd a=>by
  rcases n d a with rfl|rfl
  ·rw[u.2];rfl
  ·rw[z.2];rfl
 have f:∀d∈#[x,y],d.act≠ .mark .disable/\d.act≠ .mark .enable:=λd a=>by
  rcases n d a with rfl|rfl
  ·rw[u.2];exact⟨s_,s_⟩
  ·rw[z.2];exact⟨s_,s_⟩
 have p:∀k,0<k->k<1+m+j->((gs.setIfInBounds 0 a').push c)[k]?=gs[k]?:=λk v L=>by rw[Array.getElem?_push,if_neg (by simp[h.size];omega),sN o_]
 have H:CT (ik S X.Wg) (pS X m (j+1) (upd Nd j ⟨B,c,w⟩)) (xk X m) t (m+j):=Kn h.ct λk v l=>by
  constructor
  ·rintro⟨i,F,rfl,C⟩;have E:i≠j:=o_;rw[upd_ne Nd _ E]at C;exact⟨i,o_,rfl,C⟩
  ·rintro⟨i,F,rfl,C⟩;refine⟨i,o_,rfl, ?_⟩;rw[upd_ne Nd _ o_];exact C
 refine
  {size:=by simp[h.size];omega
   old:=λk A v=> ?_
   wk:=λk v=> ?_
   lies:=I
   tabRO:=h.tabRO
   ct:=H.fork I.apart (by rw[show m+j+1=1+m+j from o_];exact u) (by rw[show m+j+1=1+m+j from o_];exact z) h.deaf0
   norel:=h.norel.app λd a=> ?_
   deaf0:=by rw[Go.ConcN.Deaf_still t 0 _ f];exact h.deaf0
   deafW:=λk v=> ?_
   rel:=λk v s=> ?_
   has:=λk v s=> ?_
   list:=h.list
   seen:=λd a=> ?_
   over:=vO o h.over
   known:=tX o h.known
   atom:=nF (λd a=> .inr λx u _=>by rw[o d a]at u;cases u) h.atom}
 ·obtain⟨g,G,K⟩:=h.old k A v;refine⟨g,by rw[p k A o_];exact G, ?_⟩;rw[Go.ConcN.Deaf_still t k _ f];exact K
 ·by_cases e:k=j
  ·subst e;refine⟨c, ?_, .inl ⟨by rw[upd_same],by rw[upd_same],by rw[upd_same],by rw[upd_same],by rw[upd_same];exact M,by rw[upd_same];exact bQ.refl _ _ _ _⟩⟩;rw[Array.getElem?_push,if_pos (by simp[h.size])]
  ·obtain⟨g,G,s⟩:=h.wk k o_;refine⟨g,by rw[p _ o_ o_];exact G, ?_⟩;rw[upd_ne D _ e,upd_ne Nd _ e];exact s
 ·rcases n d a with rfl|rfl
  ·rw[u.2];simp
  ·rw[z.2];simp
 ·rw[Go.ConcN.Deaf_still t _ _ f];by_cases e:k=j
  ·subst e;rw[upd_same];exact Go.ConcN.Deaf_absent λi d F N=>by have:=h.ct.gs i d F;omega
  ·rw[upd_ne D _ e];exact h.deafW k o_
 ·by_cases e:k=j
  ·subst e;rw[upd_same]at s;exact absurd s s_
  ·rw[upd_ne D _ e]at s;obtain⟨r,J⟩:=h.rel k o_ s;refine⟨r,J.appNot λd a=> ?_⟩;rcases n d a with rfl|rfl
   ·rw[u.1];omega
   ·rw[z.1];omega
 ·by_cases e:k=j
  ·subst e;rw[upd_same]at s;exact absurd s s_
  ·rw[upd_ne D _ e]at s;exact h.has k o_ s
 ·rcases Array.mem_append.1 a with a|a
  ·exact h.seen d a
  ·rcases n d a with rfl|rfl
   ·rw[u.2];trivial
   ·rw[z.2];trivial
end
end
section
open Go Go.Conc
open Go.ConcN (sumTo upd sumTo_upd upd_ne upd_same CT Apart PermW WgLive RelBy WD ShN OkW Ok0 norel_of CTag phi Vc Ssum Fsum)
open Go.ConcR (KK WgAt stA smA rd wr mk DC0 again_blocked)
section
variable(X:aW)(Fin Anch:(Nat->Prop)->Goroutine->World->Prop)(N:Nat)
def FC:CTag->Nat->Nat->Nat->Nat->(Nat->Prop)->Goroutine->World->Prop
 | .sp r s,u,j,f,d,V,g,w=>u=0/\r<N/\j=N-(r+1)/\
   ((s=5/\d=0/\cD X (Aj X j (kW X Anch N r)) f V g w)\/(s=4/\d=1/\cD X (Oz X j (kW X Anch N r)) f V g w)\/(s=3/\d=1/\cD X (Oy X j (kW X Anch N r)) f V g w)\/
     (s=2/\d=1/\cD X (IK X j (kW X Anch N r)) f V g w)\/(s=1/\d=0/\cD X (Nk X j (kW X Anch N r)) f V g w))
 | .kd,u,j,f,d,V,g,w=>u=0/\j=N/\d=0/\cD X (IL X Anch) f V g w
 | .anch,u,j,f,d,V,g,w=>u=0/\j=N/\d=1/\cD X Anch f V g w
 | .w1,u,j,f,d,V,g,w=>u=0/\j=N/\d=1/\cD X (sK X Fin Anch) f V g w
 | .w2 vs,u,j,f,d,V,g,w=>u=0/\j=N/\d=1/\cD X (Ox X Fin Anch vs) f V g w
 | .w3,u,j,f,d,V,g,w=>j=N/\d=1/\((u=0/\∃k,f=k+1/\cD X (Nh X Fin) k V g w)\/(u=1/\cD X (Ov X Fin) f V g w))
 | .blk,u,j,f,d,V,g,w=>u=0/\j=N/\d=1/\f=0/\∃g0:Goroutine,g={g0 with status:= .blocked}/\∀w₁,bW X V w w₁->Nh X Fin V g0 w₁
 | .w4,u,j,f,d,V,g,w=>u=0/\j=N/\d=1/\cD X (Ow X Fin) f V g w
 | .ke,u,j,f,d,V,g,w=>u=0/\j=N/\d=1/\cD X (Nj X Fin) f V g w
 | .acq,u,j,f,d,V,g,w=>u=0/\j=N/\d=0/\cD X (L9 X Fin) f V g w
 | .ret,u,j,f,d,V,g,w=>u=0/\j=N/\d=0/\cD X Fin f V g w
end
section
variable{Fin Anch:(Nat->Prop)->Goroutine->World->Prop}{tag:CTag}{u f d:Nat}
theorem FC.rely(h:FC X Fin Anch N tag u j f d V g w)(e:bW X V w w'):FC X Fin Anch N tag u j f d V g w':=by
 cases tag with
 |sp r s=>
  obtain⟨l,i,o,h⟩:=h;refine⟨l,i,o, ?_⟩;rcases h with⟨a,b,c⟩|⟨a,b,c⟩|⟨a,b,c⟩|⟨a,b,c⟩|⟨a,b,c⟩
  ·exact .inl ⟨a,b,c.rely e⟩
  ·exact .inr (.inl ⟨a,b,c.rely e⟩)
  ·exact .inr (.inr (.inl ⟨a,b,c.rely e⟩))
  ·exact .inr (.inr (.inr (.inl ⟨a,b,c.rely e⟩)))
  ·exact .inr (.inr (.inr (.inr ⟨a,b,c.rely e⟩)))
 |w3=>
  obtain⟨l,i,h⟩:=h;rcases h with⟨a,k,b,c⟩|⟨a,c⟩
  ·exact⟨l,i, .inl ⟨a,k,b,c.rely e⟩⟩
  ·exact⟨l,i, .inr ⟨a,c.rely e⟩⟩
 |blk=>
  obtain⟨l,i,o,t,v,q,p⟩:=h;exact⟨l,i,o,t,v,q,λm n=>p m (e.trans n)⟩
 |_=>
  obtain⟨l,i,o,h⟩:=h;exact⟨l,i,o,h.rely e⟩
theorem FC.status(l:∀V g w,Fin V g w->g.status= .running)(m:∀V g w,Anch V g w->g.status= .running)(h:FC X Fin Anch N tag u j f d V g w):(g.status= .running/\tag≠ .blk)\/(g.status= .blocked/\tag= .blk):=by
 cases tag with
 |sp r s=>
  obtain⟨i,e,n,h⟩:=h;rcases h with⟨a,b,c⟩|⟨a,b,c⟩|⟨a,b,c⟩|⟨a,b,c⟩|⟨a,b,c⟩<;>exact .inl ⟨c.running λ_ _ _ x=>x.1,s_⟩
 |w3=>
  obtain⟨i,e,h⟩:=h;rcases h with⟨a,k,b,c⟩|⟨a,c⟩<;>exact .inl ⟨c.running λ_ _ _ x=>x.1,s_⟩
 |blk=>
  obtain⟨i,e,n,p,q,rfl,o⟩:=h;exact .inr ⟨rfl,rfl⟩
 |anch=>exact .inl ⟨h.2.2.2.running m,s_⟩
 |ret=>exact .inl ⟨h.2.2.2.running l,s_⟩
 |_=>exact .inl ⟨h.2.2.2.running λ_ _ _ x=>x.1,s_⟩
theorem FC.wokenBy(p:∀V g w,Fin V g w->g.status= .running)(q:∀V g w,Anch V g w->g.status= .running){a:Goroutine}(h:FC X Fin Anch N tag u j f d V a w)(n:bW X V w w')(g g':Goroutine):
 ∃tag' f',FC X Fin Anch N tag' u j f' d V (woken X.P g g' w' a) w'/\f'<=f+1/\(tag'=tag\/(tag= .blk/\tag'= .w3))/\(mayWake X.P g=true->g'.status= .running->tag'≠ .blk):=by
 have b:=h.rely n;unfold Go.Conc.woken;split
 ·rcases b.status p q with⟨m,c⟩|⟨_,rfl⟩
  ·exact⟨tag,f,by rw[again_running _ (.inl m)];exact b,o_, .inl rfl,λ_ _=>c⟩
  ·obtain⟨r,i,e,s,t,rfl,l⟩:=b;have k:=l w' (bW.refl X V w');refine⟨.w3,0+1, ?_,o_, .inr ⟨rfl,rfl⟩,λ_ _=>s_⟩;rw[again_blocked k.1 k.2.1];exact⟨i,e, .inl ⟨r,0,rfl,cD.stop l⟩⟩
 ·rename_i o;exact⟨tag,f,b,o_, .inl rfl,λi e=>absurd (by simp[i,e]) o⟩
theorem FC.bound(h:FC X Fin Anch N tag u j f d V g w):j+Go.ConcN.pend tag<=N:=by
 cases tag with
 |sp r s=>
  obtain⟨_,b,a,_⟩:=h;simp only[Go.ConcN.pend];split<;>omega
 |w3=>
  have:=h.1;simp only[Go.ConcN.pend];omega
 |_=>
  have:=h.2.1;simp only[Go.ConcN.pend];omega
end
def xP(X:aW)(m j:Nat)(t:Trace):Prop:=
 ∃k,t.act? k=some (.mark (.acquire (stA X.Wg)))/\t.g? k=some 0/\t.heard k/\∀i,i<j->∃r,RelBy (stA X.Wg) t (1+m+i) r/\r<k
theorem xP.app{t u:Trace}(h:xP X m j t)(d:∀i r,i<j->RelBy (stA X.Wg) t (1+m+i) r->RelBy (stA X.Wg) (t++u) (1+m+i) r):xP X m j (t++u):=by obtain⟨k,c,g,f,e⟩:=h;have a:=lt_of_act? c;exact⟨k,by rw[act?_old a];exact c,by rw[g?_old a];exact g,(heard_old a).2 f,λi b=>let ⟨r,hr,hrk⟩:=e i b;⟨r,d i r b hr,hrk⟩⟩
structure eD (X:aW) (Fin Anch:(Nat->Prop)->Goroutine->World->Prop) (N:Nat) (S:Nat->Prop) (m j:Nat) (gs:Array Goroutine) (w:World) (t:Trace) (D:Nat->WD) (Nd:Nat->fm) (V0:Nat->Prop) (d0:Nat) (q:Nat->Nat) (tag:CTag) (u f0:Nat) (a:Goroutine) (st sm:Int):Prop where
 at0:gs[0]?=some a
 sit:FC X Fin Anch N tag u j f0 d0 V0 a w
 crew:jp X S m j gs w t D Nd V0 d0 q
 wg:WgAt X.ty X.Wg w st sm
 mode:Go.ConcN.Mode j D tag st sm
 acq:tag= .ret->xP X m j t
 acc:∀i,i<j->Acc (l0 X i) (Nd i)
def gS(N j:Nat)(D:Nat->WD)(tag:CTag)(u:Nat):Nat:=2*phi N (Vc j D) tag+u+2*Ssum j D
def mX(m j:Nat)(D:Nat->WD)(f0:Nat)(q:Nat->Nat):Nat:=f0+2*Fsum j D+2*sumTo (m+1) q
def L4(X:aW)(j' j r1' r1:Nat)(Nd' Nd:Nat->fm)(r3' r3:Nat):Prop:=
 r1'<r1\/(r1'=r1/\j'=j/\((∃i x,i<j/\l0 X i x (Nd i)/\Nd'=upd Nd i x)\/(Nd'=Nd/\r3'<r3)))
def MW(X:aW)(Fin Anch:(Nat->Prop)->Goroutine->World->Prop)(N:Nat)(S:Nat->Prop)(m:Nat)(Post:Value->World->Prop)(j:Nat)(Nd:Nat->fm)(r1 r3:Nat):Prop:=
 ∀j' gs' w' sl' t' D' Nd' V0' d0' q' tag' u' f' a' st' sm',eD X Fin Anch N S m j' gs' w' t' D' Nd' V0' d0' q' tag' u' f' a' st' sm'->L4 X j' j (gS N j' D' tag' u') r1 Nd' Nd (mX m j' D' f' q') r3->dW X.P Post (crowd gs' w' sl') t'
section
variable{Fin Anch:(Nat->Prop)->Goroutine->World->Prop}{S:Nat->Prop}{gs:Array Goroutine}{t:Trace}{D D':Nat->WD}{Nd Nd':Nat->fm}{d0:Nat}{q q':Nat->Nat}{tag:CTag}{u f0:Nat}{a:Goroutine}{st sm st' sm':Int}
theorem eD.at(h:eD X Fin Anch N S m j gs w t D Nd V0 d0 q tag u f0 a st sm)(d:Nat):eD X Fin Anch N S m j gs (w.at d) t D Nd V0 d0 q tag u f0 a st sm:=
 ⟨h.at0,h.sit.rely (bW.at X V0 w d),h.crew.at d,h.wg,h.mode,h.acq,h.acc⟩
theorem eD.other(x:∀V g w,Fin V g w->g.status= .running)(y:∀V g w,Anch V g w->g.status= .running)(h:eD X Fin Anch N S m j gs w t D Nd V0 d0 q tag u f0 a st sm)(z:0<k){g':Goroutine}{ops:Trace}
 (c:jp X S m j ((gs.map (woken X.P g g' w')).setIfInBounds k g') w' (t++ops) D' Nd' V0 d0 q') (o:bW X V0 w w') (l:WgAt X.ty X.Wg w' st' sm')
 (b:∀tag',(tag'=tag\/(tag= .blk/\tag'= .w3))->(mayWake X.P g=true->g'.status= .running->tag'≠ .blk)->Go.ConcN.Mode j D' tag' st' sm')
 (d:tag= .ret->xP X m j (t++ops)) (f:∀i,i<j->Acc (l0 X i) (Nd' i)):
 ∃tag' f' a',eD X Fin Anch N S m j ((gs.map (woken X.P g g' w')).setIfInBounds k g') w' (t++ops) D' Nd' V0 d0 q' tag' u f' a' st' sm'/\f'<=f0+1/\∀v,phi N v tag'=phi N v tag:=by
 obtain⟨tag',f',r,s,n,p⟩:=h.sit.wokenBy x y o g g';refine⟨tag',f',woken X.P g g' w' a,⟨by rw[fY _ _ o_,h.at0];rfl,r,c,l,b tag' n p,λe=> ?_,f⟩,s,λv=>Go.ConcN.phi_retag N v n⟩;rcases n with rfl|⟨_,rfl⟩
 ·exact d e
 ·cases e
end
end
section
open Go Go.Conc
open Go.ConcN (sumTo upd sumTo_upd upd_ne upd_same CT Apart PermW WgLive RelBy WD ShN OkW Ok0 norel_of CTag phi Vc Ssum Fsum cnt pend isOpen isW3 OpenSt AllQuit Vc_upd Vc_le others_uncounted le_sumTo bk_cell)
open Go.ConcR (KK WgAt stA smA rd wr mk DC0 Bk bk_of_mute ofEvent_loc_mark)
section
variable{Fin Anch:(Nat->Prop)->Goroutine->World->Prop}{S:Nat->Prop}{gs:Array Goroutine}{t:Trace}{D D':Nat->WD}{Nd Nd':Nat->fm}{d0:Nat}{q q':Nat->Nat}{tag:CTag}{u f0:Nat}{a:Goroutine}{st sm st' sm':Int}{sl:Option (Nat×Nat)}
theorem nG(h:Aside b w w'):kh (· =b) w w':=⟨λk _ a=>h.block k a,by rw[h.size];exact d5 _,h.os,h.output,h.tape⟩
theorem MJ{Own Rd:Nat->Loc->Prop}(h:Bk X.Wg e)(fn:FuncId)(pos:String):OkW (ik S X.Wg) Own Rd k {g:=k,fn,pos,act:= .ofEvent e}:=by
 refine⟨rfl,λx c=> ?_⟩;rcases h with d|d|⟨a,f,rfl,i⟩
 ·simp[ofEvent_loc_mark d]at c;cases c
 ·simp[ofEvent_loc_mark d]at c;cases c
 ·have b:(MemAct.access ⟨.cell a,f,true⟩).touch?=some x:=c;simp[MemAct.touch?,Option.some.injEq]at b;subst b;exact .inl ⟨.inl (.inr i),s_,s_⟩
theorem MK{Own Rd:Nat->Loc->Prop}(h:Bk X.Wg e)(fn:FuncId)(pos:String):Ok0 (ik S X.Wg) Own Rd k {g:=0,fn,pos,act:= .ofEvent e}:=by
 refine⟨rfl,λx c=> ?_⟩;rcases h with d|d|⟨a,f,rfl,i⟩
 ·simp[ofEvent_loc_mark d]at c;cases c
 ·simp[ofEvent_loc_mark d]at c;cases c
 ·have b:(MemAct.access ⟨.cell a,f,true⟩).touch?=some x:=c;simp[MemAct.touch?,Option.some.injEq]at b;subst b;exact .inl ⟨.inl (.inr i),s_⟩
theorem Oj(h:Bk X.Wg e){x:Touch}(c:(MemAct.ofEvent e).touch?=some x):ik S X.Wg x.loc:=by
 rcases h with d|d|⟨a,f,rfl,g⟩
 ·rw[ofEvent_loc_mark d]at c;cases c
 ·rw[ofEvent_loc_mark d]at c;cases c
 ·have b:(MemAct.access ⟨.cell a,f,true⟩).touch?=some x:=c;simp[MemAct.touch?,Option.some.injEq]at b;subst b;exact .inl (.inr g)
theorem I5{B:Nat}(f:X.Wg<B)(h:Bk X.Wg e):(MemAct.ofEvent e).low B:=by
 rcases h with b|b|⟨a,c,rfl,d⟩
 ·rw[ofEvent_loc_mark b];trivial
 ·rw[ofEvent_loc_mark b];trivial
 ·show a.block<B;omega
theorem zP(h:Bk X.Wg e)(b:Addr):e.loc≠ .mark (.release b):=by rcases h with c|c|⟨a,d,rfl,f⟩<;>grind
theorem eD.worker(hF:∀V g w,Fin V g w->g.status= .running)(hA:∀V g w,Anch V g w->g.status= .running)(hN:N<2147483648)(h:eD X Fin Anch N S m j gs w t D Nd V0 d0 q tag u f0 a st sm)
 (au:MW X Fin Anch N S m Post j Nd (gS N j D tag u) (mX m j D f0 q))  (B:i<j)  (hg:gs[1+m+i]?=some g) (a0:g.status= .running):
 ∃o ops,runT X.P (crowd gs w sl) (1+m+i)=(.next o,ops)/\dW X.P Post o (t++ops):=by
 letI:Go.ConcR.Payload:=ep
 have hb:=h.sit.bound;have b9:=Vc_le j D;have b6:(1+m+i==0)=false:=s_
 have l:=h.mode;have n:=h.wg;have fin:∀{z:Goroutine} {E:World} {es:Array Event} {D':Nat->WD} {Nd':Nat->fm} {I J:Int},stepG X.P false g w= .go z E es->
  jp X S m j ((gs.map (woken X.P g z E)).setIfInBounds (1+m+i) z) E (t++MemOp.ofEvents (1+m+i) g.frame.fn g.frame.place es) D' Nd' V0 d0 q->bW X V0 w E->WgAt X.ty X.Wg E I J->
  (∀p,(p=tag\/(tag= .blk/\p= .w3))->(mayWake X.P g=true->z.status= .running->p≠ .blk)->Go.ConcN.Mode j D' p I J)->(tag= .ret->xP X m j (t++MemOp.ofEvents (1+m+i) g.frame.fn g.frame.place es))->
  (∀i,i<j->Acc (l0 X i) (Nd' i))->(∀f',f'<=f0+1->L4 X j j (gS N j D' tag u) (gS N j D tag u) Nd' Nd (mX m j D' f' q) (mX m j D f0 q))->∃o ops,runT X.P (crowd gs w sl) (1+m+i)=(.next o,ops)/\dW X.P Post o (t++ops):=by intro z E es D' Nd' I J b hc ag hw hm Y b1 aw;obtain⟨p,f',a',hS,hf,a_⟩:=h.other hF hA (k:=1+m+i) o_ hc ag hw hm Y b1;refine⟨_,_,runT_crowd_go (P:=X.P) (sl:=sl) (i:=1+m+i) hg (by rw[b6];exact b),au _ _ _ _ _ _ _ _ _ _ _ _ _ _ _ _ hS ?_⟩;have:=aw f' hf;unfold gS at this⊢;rw[a_];exact this
 obtain⟨b2,a4,hs⟩:=h.crew.wk i B;obtain rfl:g=b2:=by rw[hg]at a4;exact Option.some.inj a4
 rcases hs with⟨h7,az,a1,ay,hW,hR⟩|⟨h6,hs⟩
 ·
  have nr:tag≠ .ret:=l.not_ret B o_;by_cases a6:wO X i (Nd i)
  ·obtain⟨_,ap⟩:=a6;obtain⟨ax,z,b,k,hk⟩:=ap w hR;rw[←ay]at b;have a8:Deaf t (1+m+i)=0:=(by rw[h.crew.deafW i B,a1]);have e1:=sumTo_upd D (⟨6,k,0⟩:WD) cnt B;have e2:=sumTo_upd D (⟨6,k,0⟩:WD) WD.stage B;have c1:cnt (D i)=1:=(by simp[cnt,h7]);have c2:cnt (⟨6,k,0⟩:WD)=1:=(by simp[cnt]);refine fin (D':=upd D i ⟨6,k,0⟩) (Nd':=Nd) b ?_ (bW.refl X V0 w) n (λ_ ht _=>(l.counted B o_ (.inl rfl) _ _).retag ht) (λe=>absurd e nr) h.acc λf' _=> .inl ?_
   ·refine h.crew.stepW B (yg _ w) ⟨_,_,n⟩ o_ (Go.ConcN.WSit.k1 hk) (λe d=> ?_) (λe d x hx=>by simp only[Qw,QN]at d;subst d;cases hx) (by rw[a1];rfl) ⟨t.size,RelBy.new a8 _ _⟩ ax;simp only[Qw,QN]at d;subst d;refine⟨λfn am=>⟨rfl,λx hx=>by cases hx⟩, ?_,by simp[Go.ConcR.mk]⟩;show X.Wg<_;exact h.crew.lies.wgl.1
   ·have:=Go.ConcN.phi_mono N (v':=Vc j (upd D i ⟨6,k,0⟩)) (v:=Vc j D) (by simp only[Vc]at*;omega) tag;simp only[gS,Vc,Ssum]at*;omega
  ·obtain⟨_,c⟩:=hW.cases.resolve_left a6;obtain⟨z,E,es,b,ao,hn⟩:=c w hR;have aa:=b;rw[←ay]at aa;obtain⟨ag,_,_,_,_,_,b0⟩:=t5 h.crew.lies h.crew.list B ao;have ab:l0 X i ((Nd i).next w z E) (Nd i):=⟨a6,w,z,E,es,hR,b,rfl⟩;refine fin (D':=D) (Nd':=upd Nd i ((Nd i).next w z E)) aa (h.crew.work B hg h7 ⟨az,a1⟩ ao hn) ag (n.of_block b0) (λ_ ht _=>l.retag ht) (λe=>absurd e nr) (λk hk=> ?_) λf' _=> .inr ⟨rfl,rfl, .inl ⟨i,_,B,ab,rfl⟩⟩;by_cases e:k=i
   ·subst e;rw[upd_same];exact(h.acc k hk).inv ab
   ·rw[upd_ne Nd _ e];exact h.acc k hk
 ·generalize W:(D i).stage=s at hs h6;generalize az:(D i).fuel=fu at hs;generalize a1:(D i).deaf=dd at hs;have a8:Deaf t (1+m+i)=dd:=by rw[h.crew.deafW i B,a1]
  have nr:s≠1->tag≠ .ret:=λh=>l.not_ret B o_;have a7:∀{z:Goroutine} {E:World} {es:Array Event} {K C A:Nat} {I J:Int},stepG X.P false g w= .go z E es->Aside X.Wg w E->WgAt X.ty X.Wg E I J->(∀e∈es,Bk X.Wg e)->
   (∀G e,es[G]?=some e->(MemAct.ofEvent e).touch?=none\/0<deafBehind dd (es.extract 0 G))->Ah X K C A z E->K<=6->deafBehind dd es=A->
   (∀p,(p=tag\/(tag= .blk/\p= .w3))->(mayWake X.P g=true->z.status= .running->p≠ .blk)->Go.ConcN.Mode j (upd D i ⟨K,C,A⟩) p I J)->(tag= .ret->xP X m j (t++MemOp.ofEvents (1+m+i) g.frame.fn g.frame.place es))->
   ((K<s/\cnt ⟨K,C,A⟩<=cnt (D i))\/(K=s/\C+1=fu))->∃o ops,runT X.P (crowd gs w sl) (1+m+i)=(.next o,ops)/\dW X.P Post o (t++ops):=by
   intro z E es K C A I J b a9 U M hd a2 aj ai Q Z ah;have e1:=sumTo_upd D (⟨K,C,A⟩:WD) cnt B;have e2:=sumTo_upd D (⟨K,C,A⟩:WD) WD.stage B;have e3:=sumTo_upd D (⟨K,C,A⟩:WD) WD.fuel B;obtain⟨r,hr⟩:=h.crew.rel i B o_;refine fin (D':=upd D i ⟨K,C,A⟩) (Nd':=Nd) b (h.crew.stepW B (nG a9) ⟨_,_,U⟩ aj a2 (λe d=>⟨λfn am=>MJ (M e d) fn am,I5 h.crew.lies.wgl.1 (M e d),zP (M e d) _⟩) (λe d x hx=>Oj (M e d) hx) (by rw[a1];exact ai) ⟨r,hr.book a8 _ _ M hd⟩ (h.crew.has i B o_))
    (t6 h.crew.lies h.crew.list (nG a9) ⟨_,_,U⟩).1 U Q Z h.acc λf' hf=> ?_
   rcases ah with⟨h1,h2⟩|⟨h1,h2⟩
   ·refine .inl ?_;have:=Go.ConcN.phi_mono N (v':=Vc j (upd D i ⟨K,C,A⟩)) (v:=Vc j D) (by simp only[Vc]at*;omega) tag;simp only[gS,Vc,Ssum]at*;omega
   ·have ec:cnt (⟨K,C,A⟩:WD)=cnt (D i):=(by simp only[cnt,h1,W]);have ev:Vc j (upd D i ⟨K,C,A⟩)=Vc j D:=(by simp only[Vc]at*;omega);refine .inr ⟨?_,rfl, .inr ⟨rfl, ?_⟩⟩
    ·simp only[gS,ev,Ssum]at*;omega
    ·simp only[mX,Fsum]at*;omega
  have F:∀{z:Goroutine} {E:World} {es:Array Event} {K C A:Nat} {I J:Int},stepG X.P false g w= .go z E es->Aside X.Wg w E->WgAt X.ty X.Wg E I J->(∀e∈es,Bk X.Wg e)->
   (∀G e,es[G]?=some e->(MemAct.ofEvent e).touch?=none\/0<deafBehind dd (es.extract 0 G))->Ah X K C A z E->K<=6->deafBehind dd es=A->
   Go.ConcN.Mode j (upd D i ⟨K,C,A⟩) tag I J->(tag= .ret->xP X m j (t++MemOp.ofEvents (1+m+i) g.frame.fn g.frame.place es))->
   ((K<s/\cnt ⟨K,C,A⟩<=cnt (D i))\/(K=s/\C+1=fu))->∃o ops,runT X.P (crowd gs w sl) (1+m+i)=(.next o,ops)/\dW X.P Post o (t++ops):=
   λb a9 U M hd a2 aj ai Q Z ah=>a7 b a9 U M hd a2 aj ai (λ_ ht _=>Q.retag ht) Z ah
  have T:∀{z:Goroutine} {C:Nat},stepG X.P false g w= .go z w #[]->Ah X s C dd z w->C+1=fu->s≠1->∃o ops,runT X.P (crowd gs w sl) (1+m+i)=(.next o,ops)/\dW X.P Post o (t++ops):=by intro z C b a2 hm h1;exact F b (.refl X.Wg w) n s_ s_ a2 h6 rfl (by have:=l.same (i:=i) C dd;rwa [W]at this) (λe=>absurd e (nr h1)) (.inr ⟨rfl,hm⟩)
  cases hs with
  |r0 _=>exact absurd h6 d_
  |k1 h=>
   rcases Goes.cases h with y|⟨C,rfl,c⟩
   ·obtain⟨_,z,b,O,hk⟩:=y w (@Go.ConcN.RW.refl ep _ _ _ _ _ _ w);exact F b (.refl X.Wg w) n (by intro e d;simp at d;subst d;exact .inl rfl) (by intro G e d;exact .inl (by have:=Qv d;simp at this;subst this;rfl)) (.d1 hk) o_ rfl
     (l.counted B o_ (.inr rfl) _ _) (λe=>absurd e (nr o_)) (.inl ⟨o_,by simp[cnt,W]⟩)
   ·obtain⟨z,E,es,b,⟨rfl,rfl⟩,R⟩:=c w (@Go.ConcN.RW.refl ep _ _ _ _ _ _ w);exact T b (.k1 R) rfl o_
  |d1 h=>
   rcases Goes.cases h with y|⟨C,rfl,c⟩
   ·obtain⟨_,ac⟩:=y w (@Go.ConcN.RW.refl ep _ _ _ _ _ _ w);have b7:cnt (D i)=1:=(by simp[cnt,W]);have ba:1<=Vc j D:=(by have:=le_sumTo (f:=λx=>cnt (D x)) B;simp only[Vc];omega);have al:∀e∈#[rd (stA X.Wg),wr (stA X.Wg)],Bk X.Wg e:=(by intro e d;simp at d;rcases d with rfl|rfl<;>exact bk_cell _ _ rfl);have ak:∀G e,(#[rd (stA X.Wg),wr (stA X.Wg)]:Array Event)[G]?=some e->(MemAct.ofEvent e).touch?=none\/0<deafBehind 1 ((#[rd (stA X.Wg),wr (stA X.Wg)]:Array Event).extract 0 G):=by
     intro G e d
     match G,d with
     |0,_=>exact .inr (by simp[deafBehind])
     |1,_=>exact .inr (by simp[deafBehind,rd])
     |G+2,d=>simp at d
    have ar:∀q,cnt (⟨1,q,1⟩:WD)=0:=λ_=>rfl;have an:∀q,OpenSt j D->OpenSt j (upd D i ⟨1,q,1⟩):=λq h a ha=>by
     by_cases e:a=i
     ·subst e;rw[upd_same];simp
     ·rw[upd_ne D _ e];exact h a ha
    cases l with
    |opn h1 h2 h3=>
     obtain⟨v,hv⟩:∃v,Vc j D+pend tag=v+1:=⟨Vc j D+pend tag- 1,o_⟩;rw[hv]at n;have ad:WgAt X.ty X.Wg w (((v:Nat)+1)*KK+((0:Nat):Int)) 0:=(by simpa using n);obtain⟨z,b,_,Y⟩:=ac v 0 o_ o_ ad;obtain⟨q,Y⟩:=Y o_;have ae:Vc j (upd D i ⟨1,q,1⟩)+pend tag=v:=(by have:=Vc_upd D (⟨1,q,1⟩:WD) B;have:=ar q;omega);refine F b (aside_setCell w (stA X.Wg) _) (n.setSt _) al ak (.quit Y) o_ rfl ?_ (λe=>absurd e (nr o_)) (.inl ⟨o_,by simp[cnt]⟩);have e:((v:Nat):Int)*KK+((0:Nat):Int)=((Vc j (upd D i ⟨1,q,1⟩)+pend tag:Nat):Int)*KK:=(by rw[ae];simp);rw[e];exact .opn h1 (an q h2) (λvs ev=>by have:=h3 vs ev;omega)
    |reg h1 h2 h3=>
     obtain⟨v,hv⟩:∃v,Vc j D=v+1:=⟨Vc j D- 1,o_⟩;rw[hv]at n;have hp:pend tag=0:=by cases tag<;>first|rfl|exact h1.elim
     have ad:WgAt X.ty X.Wg w (((v:Nat)+1)*KK+((1:Nat):Int)) 0:=(by simpa using n);obtain⟨z,b,hl,Y⟩:=ac v 1 o_ o_ ad;by_cases b3:v=0
     ·subst b3;obtain⟨O,hk⟩:=hl ⟨rfl,rfl⟩;refine F b (aside_setCell w (stA X.Wg) _) (n.setSt _) al ak (.d2 hk) o_ rfl ?_ (λe=>absurd e (nr o_)) (.inl ⟨o_,by simp[cnt]⟩);have H:∀a,a<j->a≠i->(D a).stage=1:=λa ha e=>by have c0:=others_uncounted B hv b7 a ha e;have:=h2 a ha;simp only[cnt]at c0;split at c0<;>omega
      have:=Go.ConcN.Mode.last (j:=j) (D:=upd D i ⟨4,O,1⟩) (tag:=tag) i h1 B (by rw[upd_same];simp) (λa ha e=>by rw[upd_ne D _ e];exact H a ha e);rw[upd_same]at this;simpa using this
     ·obtain⟨q,Y⟩:=Y o_;have ae:Vc j (upd D i ⟨1,q,1⟩)=v:=(by have:=Vc_upd D (⟨1,q,1⟩:WD) B;have:=ar q;omega);refine F b (aside_setCell w (stA X.Wg) _) (n.setSt _) al ak (.quit Y) o_ rfl ?_ (λe=>absurd e (nr o_)) (.inl ⟨o_,by simp[cnt]⟩);have e:((v:Nat):Int)*KK+((1:Nat):Int)=((Vc j (upd D i ⟨1,q,1⟩):Nat):Int)*KK+1:=(by rw[ae];simp);rw[e];exact .reg h1 (an q h2) o_
    |last L _ h2 h3 h4=>
     by_cases e:i=L
     ·subst e;omega
     ·have:=h4 i B e;omega
    |sema h2=>have:=h2 i B;omega
    |fin _ h2=>have:=h2 i B;omega
   ·obtain⟨z,E,es,b,⟨rfl,rfl⟩,R⟩:=c w (@Go.ConcN.RW.refl ep _ _ _ _ _ _ w);exact T b (.d1 R) rfl o_
  |d2 h=>
   rcases Goes.cases h with y|⟨C,rfl,c⟩
   ·obtain⟨_,hx⟩:=y w (@Go.ConcN.RW.refl ep _ _ _ _ _ _ w);obtain⟨a5,H,rfl,rfl⟩:=l.isLast B o_;simp only[W]at n;obtain⟨z,b,O,hk⟩:=hx (by simpa using n);refine F b (.refl X.Wg w) n (by intro e d;simp at d;subst d;exact bk_cell _ _ rfl) (by intro G e d;match G,d with|0,_=>exact .inr (by simp[deafBehind])|G+1,d=>simp at d) (.d3 hk) o_ rfl ?_ (λe=>absurd e (nr o_)) (.inl ⟨o_,by simp[cnt]⟩);have:=Go.ConcN.Mode.last (j:=j) (D:=upd D i ⟨3,O,1⟩) (tag:=tag) i a5 B (by rw[upd_same];simp) (λa ha e=>by rw[upd_ne D _ e];exact H a ha e);rw[upd_same]at this;simpa using this
   ·obtain⟨z,E,es,b,⟨rfl,rfl⟩,R⟩:=c w (@Go.ConcN.RW.refl ep _ _ _ _ _ _ w);exact T b (.d2 R) rfl o_
  |d3 h=>
   rcases Goes.cases h with y|⟨C,rfl,c⟩
   ·obtain⟨_,hx⟩:=y w (@Go.ConcN.RW.refl ep _ _ _ _ _ _ w);obtain⟨a5,H,rfl,rfl⟩:=l.isLast B o_;simp only[W]at n;obtain⟨z,b,O,hk⟩:=hx (by simpa using n);refine F b (aside_setCell w (stA X.Wg) _) (n.setSt 0) (by intro e d;simp at d;subst d;exact bk_cell _ _ rfl) (by intro G e d;match G,d with|0,_=>exact .inr (by simp[deafBehind])|G+1,d=>simp at d) (.d4 hk) o_ rfl ?_ (λe=>absurd e (nr o_)) (.inl ⟨o_,by simp[cnt]⟩);have:=Go.ConcN.Mode.last (j:=j) (D:=upd D i ⟨2,O,1⟩) (tag:=tag) i a5 B (by rw[upd_same];simp) (λa ha e=>by rw[upd_ne D _ e];exact H a ha e);rw[upd_same]at this;simpa using this
   ·obtain⟨z,E,es,b,⟨rfl,rfl⟩,R⟩:=c w (@Go.ConcN.RW.refl ep _ _ _ _ _ _ w);exact T b (.d3 R) rfl o_
  |d4 h=>
   rcases Goes.cases h with y|⟨C,rfl,c⟩
   ·obtain⟨_,b5,hx⟩:=y w (@Go.ConcN.RW.refl ep _ _ _ _ _ _ w);obtain⟨a5,H,rfl,rfl⟩:=l.isLast B o_;simp only[W]at n;obtain⟨z,b,q,Y⟩:=hx (by simpa using n);have af:z.status= .running:=by
     cases q with
     |zero=>exact absurd Y.2 d_
     |succ q=>exact Y.elim (λx=>absurd x.2 d_) (λx=>x.1)
    refine a7 b (aside_setCell w (smA X.Wg) _) (n.setSm 1) (es:=semEvents (smA X.Wg)) ?_ ?_ (.quit Y) o_ (by simp[deafBehind,semEvents]) ?_ (λe=>absurd e (nr o_)) (.inl ⟨o_,by simp[cnt]⟩)
    ·exact Go.ConcN.bk_sem
    ·intro G e d
     match G,d with
     |0,d=>simp[semEvents]at d;subst d;exact .inl rfl
     |1,_=>exact .inr (by simp[deafBehind,semEvents])
     |2,_=>exact .inr (by simp[deafBehind,semEvents])
     |3,d=>simp[semEvents]at d;subst d;exact .inl rfl
     |G+4,d=>simp[semEvents]at d
    ·intro p ht hw;have b4:=hw b5 af;have e3:p= .w3:=by
      rcases ht with rfl|⟨_,rfl⟩
      ·cases p<;>first|rfl|exact a5.elim|exact absurd rfl b4
      ·rfl
     subst e3;simp only[if_true];exact .sema λa ha=>by
      by_cases e:a=i
      ·subst e;rw[upd_same]
      ·rw[upd_ne D _ e];exact H a ha e
   ·obtain⟨z,E,es,b,⟨rfl,rfl⟩,R⟩:=c w (@Go.ConcN.RW.refl ep _ _ _ _ _ _ w);exact T b (.d4 R) rfl o_
  |quit aq=>
   cases fu with
   |zero=>rw[aq.1]at a0;cases a0
   |succ k=>
    rcases aq with⟨hf,_⟩|⟨_,z,es,a3,c,Y⟩
    ·rw[hf]at a0;cases a0
    ·have M:∀e∈es,Bk X.Wg e:=λe d=>bk_of_mute (a3 e d);have av:∀G e,es[G]?=some e->(MemAct.ofEvent e).touch?=none\/0<deafBehind dd (es.extract 0 G):=λG e d=> .inl (touch_mute (a3 e (Qv d)));refine F (c w) (.refl X.Wg w) n M av (.quit Y) o_ rfl (by have:=l.same (i:=i) k (deafBehind dd es);rwa [W]at this) (λe=>(h.acq e).app λi' r b8 hr=> ?_) (.inr ⟨rfl,rfl⟩);by_cases e':i'=i
     ·subst e';exact hr.book a8 _ _ M av
     ·exact hr.appOther cy o_
end
end
section
open Go Go.Conc
open Go.ConcN (sumTo upd sumTo_upd upd_ne upd_same sumTo_upd_out CT Apart PermW WgLive RelBy WD ShN OkW Ok0 norel_of CTag phi Vc Ssum Fsum cnt pend isOpen isW3 OpenSt AllQuit Vc_upd Vc_le bk_cell bk_dis bk_en bk_rd bk_rw bk_sem allQuit_of)
open Go.ConcR (KK WgAt stA smA rd wr DC0 Bk bk_of_mute ofEvent_loc_mark)
section
variable{Fin Anch:(Nat->Prop)->Goroutine->World->Prop}{S:Nat->Prop}{gs:Array Goroutine}{t:Trace}{D D':Nat->WD}{Nd Nd':Nat->fm}{d0:Nat}{q q':Nat->Nat}{tag:CTag}{u f0:Nat}{a:Goroutine}{st sm st' sm':Int}{sl:Option (Nat×Nat)}
theorem cD.cases{a:(Nat->Prop)->Goroutine->World->Prop}{f:Nat}(h:cD X a f V g w):
 (∀b,bW X V w b->a V g b)\/∃f',f=f'+1/\∃g' w' es,stepG X.P true g w= .go g' w' es/\cC V X.RO w w' es/\cD X a f' (co V w w') g' w':=by
 cases f with
 |zero=>exact .inl h
 |succ f=>exact h.imp id λ⟨_,h⟩=>⟨f,rfl,h w (bW.refl X V w)⟩
def MR(X:aW)(e:Event):Prop:=Bk X.Wg e\/e=Go.ConcR.mk (.acquire (stA X.Wg))\/e=Go.ConcR.mk (.read (smA X.Wg))\/e=Go.ConcR.mk (.write (smA X.Wg))
theorem IU{Own Rd:Nat->Loc->Prop}(h:MR X e)(fn:FuncId)(pos:String):Ok0 (ik S X.Wg) Own Rd k {g:=0,fn,pos,act:= .ofEvent e}:=by
 rcases h with h|rfl|rfl|rfl
 ·exact MK h fn pos
 ·exact⟨rfl,λx b=>by cases b⟩
 ·refine⟨rfl,λx b=> ?_⟩;have a:(MemAct.mark _).touch?=some x:=b;simp[MemAct.touch?,Option.some.injEq]at a;subst a;exact .inl ⟨.inl (.inr rfl),s_⟩
 ·refine⟨rfl,λx b=> ?_⟩;have a:(MemAct.mark _).touch?=some x:=b;simp only[MemAct.touch?,Option.some.injEq]at a;subst a;exact .inl ⟨.inl (.inr rfl),s_⟩
theorem Ld{B:Nat}(a:X.Wg<B)(h:MR X e):(MemAct.ofEvent e).low B:=by
 rcases h with h|rfl|rfl|rfl
 ·exact I5 a h
 ·exact a
 ·exact a
 ·exact a
theorem FN(h:MR X e)(b:Addr):e.loc≠ .mark (.release b):=by
 rcases h with h|rfl|rfl|rfl
 ·exact zP h b
 ·simp[Go.ConcR.mk]
 ·simp[Go.ConcR.mk]
 ·simp[Go.ConcR.mk]
theorem Ar(h:MR X e):∀x∈#[e],MR X x:=by grind
theorem eD.starter(a_:∀V g w,Anch V g w->∃k,cD X (sK X Fin Anch) k V g w)(hN:N<2147483648)(h:eD X Fin Anch N S m j gs w t D Nd V0 d0 q tag u f0 a st sm)
 (Q:MW X Fin Anch N S m Post j Nd (gS N j D tag u) (mX m j D f0 q)) (af:a.status= .running):
 (∃B ops,runT X.P (crowd gs w sl) 0=(.next B,ops)/\dW X.P Post B (t++ops))\/(tag= .ret/\∀a1,bW X V0 w a1->Fin V0 a a1):=by
 have hb:=h.sit.bound;have aw:=Vc_le j D;have f:=h.mode;have o:=h.wg;have C:=h.sit;have Y:0<gs.size:=by rw[h.crew.size];omega
 have E:∀{a':Goroutine} {G:World} {es:Array Event} {tag':CTag} {u' f':Nat},stepG X.P true a w= .go a' G es->cC V0 X.RO w G es->FC X Fin Anch N tag' u' j f' d0 (co V0 w G) a' G->Go.ConcN.Mode j D tag' st sm->(tag'= .ret->tag= .ret)->
  (2*phi N (Vc j D) tag'+u'<2*phi N (Vc j D) tag+u\/(2*phi N (Vc j D) tag'+u'=2*phi N (Vc j D) tag+u/\f'<f0))->∃B ops,runT X.P (crowd gs w sl) 0=(.next B,ops)/\dW X.P Post B (t++ops):=by
  intro a' G es tag' u' f' d l aa ad ag Z;obtain⟨a9,F,R⟩:=Gz h.crew.lies h.crew.list l;have ar:deafBehind d0 es=d0:=deafBehind_still (λe T=>⟨(jw (l.ev e T)).1,(jw (l.ev e T)).2.1⟩) d0;have hc:=h.crew.step0 (a:=a) (a':=a') (es:=es) a9 F λe T=>⟨λfn pos=>JF F (l.ev e T) fn pos,xl (λb hb=>(F.v0 b hb).1) (λb hb=>(F.ro b hb).1) (l.ev e T),(jw (l.ev e T)).2.2 _⟩;rw[ar]at hc;refine⟨_,_,runT_crowd_go (P:=X.P) (sl:=sl) (i:=0) h.at0 (show stepG X.P (0==0) a w=_ from d),Q _ _ _ _ _ _ _ _ _ _ _ _ _ _ _ _ ⟨qa _ _ Y,aa,hc,o.of_block R,ad,λe=>(h.acq (ag e)).app λi r _ K=>K.appOther cy o_,h.acc⟩ ?_⟩;rcases Z with Z|⟨h1,h2⟩
  ·exact .inl (by simp only[gS];omega)
  ·exact .inr ⟨by simp only[gS];omega,rfl, .inr ⟨rfl,by simp only[mX];omega⟩⟩
 have p:∀{a':Goroutine} {G:World} {es:Array Event} {tag':CTag} {u' f':Nat} {a5 a6:Int},stepG X.P true a w= .go a' G es->Aside X.Wg w G->WgAt X.ty X.Wg G a5 a6->(∀e∈es,MR X e)->FC X Fin Anch N tag' u' j f' (deafBehind d0 es) V0 a' G->Go.ConcN.Mode j D tag' a5 a6->
  (tag'= .ret->xP X m j (t++MemOp.ofEvents 0 a.frame.fn a.frame.place es))->
  (2*phi N (Vc j D) tag'+u'<2*phi N (Vc j D) tag+u\/(2*phi N (Vc j D) tag'+u'=2*phi N (Vc j D) tag+u/\f'<f0))->∃B ops,runT X.P (crowd gs w sl) 0=(.next B,ops)/\dW X.P Post B (t++ops):=by
  intro a' G es tag' u' f' a5 a6 d am a3 a7 aa ad ak Z;obtain⟨_,h1,h2,h3,h4⟩:=t6 h.crew.lies h.crew.list (nG am) ⟨_,_,a3⟩;have ae:w.heap.size<=G.heap.size:=by rw[am.size];exact d5 _
  have F:=h.crew.lies.grow ae;have hc:=h.crew.step0 (a:=a) (a':=a') (es:=es) ⟨h1,h2,h3,h4,ae⟩ F λe T=>⟨λfn pos=>IU (a7 e T) fn pos,Ld F.wgl.1 (a7 e T),FN (a7 e T) _⟩;refine⟨_,_,runT_crowd_go (P:=X.P) (sl:=sl) (i:=0) h.at0 (show stepG X.P (0==0) a w=_ from d),Q _ _ _ _ _ _ _ _ _ _ _ _ _ _ _ _ ⟨qa _ _ Y,aa,hc,a3,ad,ak,h.acc⟩ ?_⟩;rcases Z with Z|⟨h1,h2⟩
  ·exact .inl (by simp only[gS];omega)
  ·exact .inr ⟨by simp only[gS];omega,rfl, .inr ⟨rfl,by simp only[mX];omega⟩⟩
 have H:∀{es:Array Event},(∀e∈es,Bk X.Wg e)->∀e∈es,MR X e:=λh e T=> .inl (h e T);have a2:∀f1,cD X (sK X Fin Anch) f1 V0 a w->j=N->d0=1->u=0->Go.ConcN.Mode j D .w1 st sm->(tag= .anch\/(tag= .w1/\f1=f0))->∃B ops,runT X.P (crowd gs w sl) 0=(.next B,ops)/\dW X.P Post B (t++ops):=by
  intro f1 A v hd hu hm ai;subst hd hu;have O:2*phi N (Vc j D) .w1+0<2*phi N (Vc j D) tag+0\/(2*phi N (Vc j D) .w1+0=2*phi N (Vc j D) tag+0/\f1=f0):=by
   rcases ai with rfl|⟨rfl,rfl⟩
   ·exact .inl (by simp only[phi];omega)
   ·exact .inr ⟨rfl,rfl⟩
  rcases A.cases with c|⟨f',rfl,a',G,es,d,l,n⟩
  ·obtain⟨_,I⟩:=c w (bW.refl X V0 w);obtain⟨ho,rfl,rfl,_⟩:=hm.open_inv trivial;obtain⟨a',d,h0,ab⟩:=I (Vc j D) o_ (by simpa[pend]using o);by_cases hv:Vc j D=0
   ·obtain⟨k,z⟩:=h0 hv;refine p d (.refl X.Wg w) o (H bk_rd) (tag':= .ke) (u':=0) (f':=k) ⟨rfl,v,rfl,z⟩ ?_ s_ (.inl (by simp only[phi]at O⊢;omega));have e:((Vc j D+pend .w1:Nat):Int)*KK=0:=(by rw[hv];simp[pend]);rw[e];exact .fin trivial (allQuit_of ho hv)
   ·obtain⟨k,z⟩:=ab hv;exact p d (.refl X.Wg w) o (H bk_rd) (tag':= .w2 (Vc j D)) (u':=0) (f':=k) ⟨rfl,v,rfl,z⟩ (hm.reopen trivial trivial rfl (λvs e=>by cases e;omega)) s_ (.inl (by simp only[phi]at O⊢;omega))
  ·exact E d l (tag':= .w1) (u':=0) (f':=f') ⟨rfl,v,rfl,n⟩ hm s_ (by rcases O with O|⟨h1,h2⟩<;>omega)
 cases tag with
 |sp r s=>
  obtain⟨rfl,K,v,hs⟩:=C;rcases hs with⟨rfl,rfl,A⟩|⟨rfl,rfl,A⟩|⟨rfl,rfl,A⟩|⟨rfl,rfl,A⟩|⟨rfl,rfl,A⟩
  ·rcases A.cases with c|⟨f',rfl,a',G,es,d,l,n⟩
   ·obtain⟨_,a',d,k,z⟩:=c w (bW.refl X V0 w);exact .inl (p d (.refl X.Wg w) o (H bk_dis) (tag':= .sp r 4) (u':=0) (f':=k) ⟨rfl,K,v, .inr (.inl ⟨rfl,rfl,z⟩)⟩ (f.reopen trivial trivial rfl s_) s_ (.inl (by simp only[phi];omega)))
   ·exact .inl (E d l (tag':= .sp r 5) (u':=0) (f':=f') ⟨rfl,K,v, .inl ⟨rfl,rfl,n⟩⟩ f s_ (.inr ⟨rfl,o_⟩))
  ·rcases A.cases with c|⟨f',rfl,a',G,es,d,l,n⟩
   ·obtain⟨_,I⟩:=c w (bW.refl X V0 w);obtain⟨ho,rfl,rfl,_⟩:=f.open_inv trivial;obtain⟨a',d,h0,ab⟩:=I (Vc j D) o_ (by simpa[pend]using o);have e3:(((Vc j D:Nat):Int)+1)*KK=((Vc j D+pend (.sp r 3):Nat):Int)*KK:=(by simp[pend]);have e2:(((Vc j D:Nat):Int)+1)*KK=((Vc j D+pend (.sp r 2):Nat):Int)*KK:=(by simp[pend]);by_cases hv:Vc j D=0
    ·obtain⟨k,z⟩:=h0 hv;refine .inl (p d (aside_setCell w (stA X.Wg) _) (o.setSt _) (H bk_rw) (tag':= .sp r 3) (u':=0) (f':=k) ⟨rfl,K,v, .inr (.inr (.inl ⟨rfl,rfl,z⟩))⟩ ?_ s_ (.inl (by simp only[phi];omega)));rw[e3];exact .opn trivial ho s_
    ·obtain⟨k,z⟩:=ab hv;refine .inl (p d (aside_setCell w (stA X.Wg) _) (o.setSt _) (H bk_rw) (tag':= .sp r 2) (u':=0) (f':=k) ⟨rfl,K,v, .inr (.inr (.inr (.inl ⟨rfl,rfl,z⟩)))⟩ ?_ s_ (.inl (by simp only[phi];omega)));rw[e2];exact .opn trivial ho s_
   ·exact .inl (E d l (tag':= .sp r 4) (u':=0) (f':=f') ⟨rfl,K,v, .inr (.inl ⟨rfl,rfl,n⟩)⟩ f s_ (.inr ⟨rfl,o_⟩))
  ·rcases A.cases with c|⟨f',rfl,a',G,es,d,l,n⟩
   ·obtain⟨_,a',d,k,z⟩:=c w (bW.refl X V0 w);exact .inl (p d (.refl X.Wg w) o (Ar (.inr (.inr (.inl rfl)))) (tag':= .sp r 2) (u':=0) (f':=k) ⟨rfl,K,v, .inr (.inr (.inr (.inl ⟨rfl,rfl,z⟩)))⟩ (f.reopen trivial trivial rfl s_) s_ (.inl (by simp only[phi];omega)))
   ·exact .inl (E d l (tag':= .sp r 3) (u':=0) (f':=f') ⟨rfl,K,v, .inr (.inr (.inl ⟨rfl,rfl,n⟩))⟩ f s_ (.inr ⟨rfl,o_⟩))
  ·rcases A.cases with c|⟨f',rfl,a',G,es,d,l,n⟩
   ·obtain⟨_,a',d,k,z⟩:=c w (bW.refl X V0 w);exact .inl (p d (.refl X.Wg w) o (H bk_en) (tag':= .sp r 1) (u':=0) (f':=k) ⟨rfl,K,v, .inr (.inr (.inr (.inr ⟨rfl,rfl,z⟩)))⟩ (f.reopen trivial trivial rfl s_) s_ (.inl (by simp only[phi];omega)))
   ·exact .inl (E d l (tag':= .sp r 2) (u':=0) (f':=f') ⟨rfl,K,v, .inr (.inr (.inr (.inl ⟨rfl,rfl,n⟩)))⟩ f s_ (.inr ⟨rfl,o_⟩))
  ·rcases A.cases with c|⟨f',rfl,a',G,es,d,l,n⟩
   ·obtain⟨_,a',M,au,aq,a4,ao,W⟩:=c w (bW.refl X V0 w);obtain⟨ho,rfl,rfl,_⟩:=f.open_inv trivial;have U:=ao h.crew.list λb hb=>(h.crew.lies.v0 b (a4 b hb)).1;have J:=runT_crowd_spawn (P:=X.P) (sl:=sl) (i:=0) h.at0 (show stepG X.P (0==0) a w=_ from aq);rw[h.crew.size]at J;have hc:=h.crew.spawn (a':=a') (x:={g:=0,fn:=a.frame.fn,pos:=a.frame.place,act:= .go (1+m+j)}) (y:={g:=1+m+j,fn:=M.frame.fn,pos:=a.frame.place,act:= .start}) ⟨rfl,rfl⟩ ⟨rfl,rfl⟩ a4 U;have eV:Vc (j+1) (upd D j ⟨7,0,0⟩)=Vc j D+1:=by simp only[Vc,sumTo,upd_same];rw[sumTo_upd_out D _ cnt (d5 _)];rfl
    have eS:Ssum (j+1) (upd D j ⟨7,0,0⟩)=Ssum j D+7:=by simp only[Ssum,sumTo,upd_same];rw[sumTo_upd_out D _ WD.stage (d5 _)]
    have ah:OpenSt (j+1) (upd D j ⟨7,0,0⟩):=λi A=>by
     by_cases e:i=j
     ·subst e;rw[upd_same];simp
     ·rw[upd_ne D _ e];exact ho i o_
    have a0:∀i,i<j+1->Acc (l0 X i) (upd Nd j ⟨au,M,w⟩ i):=λi A=>by
     by_cases e:i=j
     ·subst e;rw[upd_same];exact U.acc
     ·rw[upd_ne Nd _ e];exact h.acc i o_
    have al:((gs.setIfInBounds 0 a').push M)[0]?=some a':=by rw[Array.getElem?_push,if_neg (by simp only[Array.size_setIfInBounds];omega)];simp[Y]
    have an:∀tag',pend tag'=0->((Vc j D+pend (.sp r 1):Nat):Int)*KK=((Vc (j+1) (upd D j ⟨7,0,0⟩)+pend tag':Nat):Int)*KK:=λtag' hp=>by rw[eV,hp];simp[pend]
    cases r with
    |zero=>
     obtain⟨k,z⟩:=W;refine .inl ⟨_,_,J,Q (j+1) _ _ _ _ _ _ _ _ _ .kd 0 k a' _ _ ⟨al,⟨rfl,o_,rfl,z⟩,hc,o, ?_,s_,a0⟩ (.inl ?_)⟩
     ·rw[an .kd rfl];exact .opn trivial ah s_
     ·simp only[gS,phi,eS];omega
    |succ r'=>
     obtain⟨k,z⟩:=W;have ej:N-(r'+1)=j+1:=o_;rw[ej]at z;refine .inl ⟨_,_,J,Q (j+1) _ _ _ _ _ _ _ _ _ (.sp r' 5) 0 k a' _ _ ⟨al,⟨rfl,o_,o_, .inl ⟨rfl,rfl,z⟩⟩,hc,o, ?_,s_,a0⟩ (.inl ?_)⟩
     ·rw[an (.sp r' 5) rfl];exact .opn trivial ah s_
     ·simp only[gS,phi,eS];omega
   ·exact .inl (E d l (tag':= .sp r 1) (u':=0) (f':=f') ⟨rfl,K,v, .inr (.inr (.inr (.inr ⟨rfl,rfl,n⟩)))⟩ f s_ (.inr ⟨rfl,o_⟩))
 |kd=>
  obtain⟨rfl,v,rfl,A⟩:=C;rcases A.cases with c|⟨f',rfl,a',G,es,d,l,n⟩
  ·obtain⟨_,a',d,k,z⟩:=c w (bW.refl X V0 w);exact .inl (p d (.refl X.Wg w) o (H bk_dis) (tag':= .anch) (u':=0) (f':=k) ⟨rfl,v,rfl,z⟩ (f.reopen trivial trivial rfl s_) s_ (.inl (by simp only[phi];omega)))
  ·exact .inl (E d l (tag':= .kd) (u':=0) (f':=f') ⟨rfl,v,rfl,n⟩ f s_ (.inr ⟨rfl,o_⟩))
 |anch=>
  obtain⟨rfl,v,rfl,A⟩:=C;rcases A.cases with c|⟨f',rfl,a',G,es,d,l,n⟩
  ·obtain⟨k,z⟩:=a_ _ _ _ (c w (bW.refl X V0 w));exact .inl (a2 k z v rfl rfl (f.reopen trivial trivial rfl s_) (.inl rfl))
  ·exact .inl (E d l (tag':= .anch) (u':=0) (f':=f') ⟨rfl,v,rfl,n⟩ f s_ (.inr ⟨rfl,o_⟩))
 |w1=>
  obtain⟨rfl,v,rfl,A⟩:=C;exact .inl (a2 f0 A v rfl rfl f (.inr ⟨rfl,rfl⟩))
 |w2 vs=>
  obtain⟨rfl,v,rfl,A⟩:=C;rcases A.cases with c|⟨f',rfl,a',G,es,d,l,n⟩
  ·obtain⟨_,I⟩:=c w (bW.refl X V0 w);obtain⟨ho,rfl,rfl,ap⟩:=f.open_inv trivial;obtain⟨ai,h1⟩:=ap vs rfl;obtain⟨aj,ac⟩:=I (Vc j D) o_ (by simpa[pend]using o);by_cases e:Vc j D=vs
   ·obtain⟨a',d,k,z⟩:=aj e;exact .inl (p d (aside_setCell w (stA X.Wg) _) (o.setSt _) (H bk_rw) (tag':= .w3) (u':=1) (f':=k) ⟨v,rfl, .inr ⟨rfl,z⟩⟩ (.reg trivial ho o_) s_ (.inl (by simp only[phi];omega)))
   ·obtain⟨a',d,k,z⟩:=ac e;exact .inl (p d (.refl X.Wg w) o (H bk_rd) (tag':= .anch) (u':=0) (f':=k) ⟨rfl,v,rfl,z⟩ (f.reopen trivial trivial rfl s_) s_ (.inl (by simp only[phi];omega)))
  ·exact .inl (E d l (tag':= .w2 vs) (u':=0) (f':=f') ⟨rfl,v,rfl,n⟩ f s_ (.inr ⟨rfl,o_⟩))
 |w3=>
  obtain⟨v,rfl,hs⟩:=C;rcases hs with⟨rfl,k0,rfl,A⟩|⟨rfl,A⟩
  ·rcases A.cases with c|⟨f',rfl,a',G,es,d,l,n⟩
   ·obtain⟨_,av,R,a8⟩:=c w (bW.refl X V0 w);cases f with
    |opn h1 _ _=>exact h1.elim
    |reg h1 h2 h3=>exact .inl (p (R ⟨_,o⟩) (.refl X.Wg w) o s_ (tag':= .blk) (u':=0) (f':=0) ⟨rfl,v,rfl,rfl,a,rfl,c⟩ (.reg trivial h2 h3) s_ (.inr ⟨rfl,o_⟩))
    |last L h1 h2 h3 h4=>exact .inl (p (R ⟨_,o⟩) (.refl X.Wg w) o s_ (tag':= .blk) (u':=0) (f':=0) ⟨rfl,v,rfl,rfl,a,rfl,c⟩ (.last L trivial h2 h3 h4) s_ (.inr ⟨rfl,o_⟩))
    |sema h2=>
     obtain⟨a',d,k,z⟩:=a8 o;exact .inl (p d (aside_setCell w (smA X.Wg) _) (o.setSm 0) (H bk_sem) (tag':= .w4) (u':=0) (f':=k) ⟨rfl,v,by simp[deafBehind,semEvents],z⟩ (.fin trivial h2) s_ (.inl (by simp only[phi];omega)))
    |fin h1 _=>exact h1.elim
   ·exact .inl (E d l (tag':= .w3) (u':=0) (f':=f'+1) ⟨v,rfl, .inl ⟨rfl,f',rfl,n⟩⟩ f s_ (.inr ⟨rfl,o_⟩))
  ·rcases A.cases with c|⟨f',rfl,a',G,es,d,l,n⟩
   ·obtain⟨_,a',d,k,z⟩:=c w (bW.refl X V0 w);exact .inl (p d (.refl X.Wg w) o (Ar (.inr (.inr (.inr rfl)))) (tag':= .w3) (u':=0) (f':=k+1) ⟨v,rfl, .inl ⟨rfl,k,rfl,z⟩⟩ f s_ (.inl o_))
   ·exact .inl (E d l (tag':= .w3) (u':=1) (f':=f') ⟨v,rfl, .inr ⟨rfl,n⟩⟩ f s_ (.inr ⟨rfl,o_⟩))
 |blk=>
  obtain⟨_,_,_,_,g0,rfl,_⟩:=C;cases af
 |w4=>
  obtain⟨rfl,v,rfl,A⟩:=C;rcases A.cases with c|⟨f',rfl,a',G,es,d,l,n⟩
  ·obtain⟨_,hx⟩:=c w (bW.refl X V0 w);obtain⟨hq,rfl,rfl⟩:=f.fin_inv trivial;obtain⟨a',d,k,z⟩:=hx o;exact .inl (p d (.refl X.Wg w) o (H bk_rd) (tag':= .ke) (u':=0) (f':=k) ⟨rfl,v,rfl,z⟩ (.fin trivial hq) s_ (.inl (by simp only[phi];omega)))
  ·exact .inl (E d l (tag':= .w4) (u':=0) (f':=f') ⟨rfl,v,rfl,n⟩ f s_ (.inr ⟨rfl,o_⟩))
 |ke=>
  obtain⟨rfl,v,rfl,A⟩:=C;rcases A.cases with c|⟨f',rfl,a',G,es,d,l,n⟩
  ·obtain⟨_,a',d,k,z⟩:=c w (bW.refl X V0 w);obtain⟨hq,rfl,rfl⟩:=f.fin_inv trivial;exact .inl (p d (.refl X.Wg w) o (H bk_en) (tag':= .acq) (u':=0) (f':=k) ⟨rfl,v,rfl,z⟩ (.fin trivial hq) s_ (.inl (by simp only[phi];omega)))
  ·exact .inl (E d l (tag':= .ke) (u':=0) (f':=f') ⟨rfl,v,rfl,n⟩ f s_ (.inr ⟨rfl,o_⟩))
 |acq=>
  obtain⟨rfl,v,rfl,A⟩:=C;rcases A.cases with c|⟨f',rfl,a',G,es,d,l,n⟩
  ·obtain⟨_,a',d,k,z⟩:=c w (bW.refl X V0 w);obtain⟨hq,rfl,rfl⟩:=f.fin_inv trivial;refine .inl (p d (.refl X.Wg w) o (Ar (.inr (.inl rfl))) (tag':= .ret) (u':=0) (f':=k) ⟨rfl,v,rfl,z⟩ (.fin trivial hq) (λ_=> ?_) (.inl (by simp only[phi];omega)));have e1:MemOp.ofEvents 0 a.frame.fn a.frame.place #[Go.ConcR.mk (.acquire (stA X.Wg))]=#[{g:=0,fn:=a.frame.fn,pos:=a.frame.place,act:= .mark (.acquire (stA X.Wg))}]:=(by rw[ofEvents_eq];simp[Go.ConcR.ofEvent_mk]);have hy:(t++#[({g:=0,fn:=a.frame.fn,pos:=a.frame.place,act:= .mark (.acquire (stA X.Wg))}:MemOp)])[t.size]?=some {g:=0,fn:=a.frame.fn,pos:=a.frame.place,act:= .mark (.acquire (stA X.Wg))}:=s_;refine⟨t.size,by rw[e1,act?_of hy],by rw[e1];simp[Trace.g?],by rw[e1];exact⟨0,by simp[Trace.g?],by rw[deaf_old (d5 _)];exact h.crew.deaf0⟩,λi A=> ?_⟩;obtain⟨r,K⟩:=h.crew.rel i A (by rw[hq i A];omega);exact⟨r,K.appOther cy o_,lt_of_act? K.act⟩
  ·exact .inl (E d l (tag':= .acq) (u':=0) (f':=f') ⟨rfl,v,rfl,n⟩ f s_ (.inr ⟨rfl,o_⟩))
 |ret=>
  obtain⟨rfl,v,rfl,A⟩:=C;rcases A.cases with c|⟨f',rfl,a',G,es,d,l,n⟩
  ·exact .inr ⟨rfl,c⟩
  ·exact .inl (E d l (tag':= .ret) (u':=0) (f':=f') ⟨rfl,v,rfl,n⟩ f s_ (.inr ⟨rfl,o_⟩))
end
end
section
open Go Go.Conc
open Go.ConcN (sumTo upd sumTo_upd upd_ne upd_same sumTo_upd_out CT Apart PermW WgLive RelBy WD ShN OkW Ok0 norel_of CTag phi Vc Ssum Fsum cnt pend isOpen isW3 OpenSt AllQuit Vc_upd Vc_le)
open Go.ConcR (KK WgAt stA smA rd wr DC0 Bk)
section
variable{Fin Anch:(Nat->Prop)->Goroutine->World->Prop}{S:Nat->Prop}{gs:Array Goroutine}{t:Trace}{D D':Nat->WD}{Nd Nd':Nat->fm}{d0:Nat}{q q':Nat->Nat}{tag:CTag}{u f0:Nat}{a:Goroutine}{st sm st' sm':Int}{sl:Option (Nat×Nat)}
theorem jp.status(h:jp X S m j gs w t D Nd V0 d0 q)(c:i<j):∃g,gs[1+m+i]?=some g/\(g.status= .running\/(g.status= .finished/\(D i).stage=1)):=by
 letI:Go.ConcR.Payload:=ep
 obtain⟨g,d,a⟩:=h.wk i c;refine⟨g,d, ?_⟩;rcases a with⟨_,_,_,rfl,e,_⟩|⟨_,a⟩
 ·exact .inl e.running
 ·by_cases b:(D i).stage=1
  ·exact(Go.ConcN.WSit.status a).imp id λx=>⟨x,b⟩
  ·exact .inl (Go.ConcN.WSit.running_of a b)
theorem eD.someone(k:∀V g w,Fin V g w->g.status= .running)(l:∀V g w,Anch V g w->g.status= .running)(h:eD X Fin Anch N S m j gs w t D Nd V0 d0 q tag u f0 a st sm):∃(i:Nat) (g:Goroutine),gs[i]?=some g/\g.status= .running:=by
 letI:Go.ConcR.Payload:=ep
 rcases h.sit.status k l with⟨b,_⟩|⟨_,rfl⟩
 ·exact⟨0,a,h.at0,b⟩
 ·cases h.mode with
  |opn d _ _=>exact d.elim
  |reg _ _ e=>
   obtain⟨i,f,o⟩:=Go.ConcN.exists_counted e;obtain⟨g,c,b⟩:=h.crew.status f;exact⟨_,g,c,b.resolve_right λx=>o_⟩
  |last L _ n e _=>
   obtain⟨g,c,b⟩:=h.crew.status n;exact⟨_,g,c,b.resolve_right λx=>o_⟩
  |fin d _=>exact d.elim
theorem eD.awake(o:∀V g w,Fin V g w->g.status= .running)(p:∀V g w,Anch V g w->g.status= .running)(h:eD X Fin Anch N S m j gs w t D Nd V0 d0 q tag u f0 a st sm):∀g∈gs,Conc.awake g:=by
 intro g n;obtain⟨i,d⟩:=Array.mem_iff_getElem?.1 n;have l:i<1+m+j:=by have:=(gA d).1;rw[h.crew.size]at this;exact this
 by_cases r:i=0
 ·subst r;rw[h.at0]at d;cases d;rcases h.sit.status o p with⟨c,_⟩|⟨c,_⟩
  ·exact awake_of (.inl c)
  ·exact awake_of (.inr (.inl c))
 ·by_cases f:i<=m
  ·obtain⟨x,b,e⟩:=h.crew.old i o_ f;rw[d]at b;cases b;exact awake_of (e.status.elim .inl λx=> .inr (.inr x))
  ·obtain⟨k,rfl⟩:∃k,i=1+m+k:=⟨i-(1+m),o_⟩;obtain⟨x,b,c⟩:=h.crew.status (i:=k) o_;rw[d]at b;cases b;exact awake_of (c.elim .inl λx=> .inr (.inr x.1))
theorem eD.step(hF:∀V g w,Fin V g w->g.status= .running)(hA:∀V g w,Anch V g w->g.status= .running)(hAn:∀V g w,Anch V g w->∃k,cD X (sK X Fin Anch) k V g w)(hN:N<2147483648)
 (hfin:∀gs w sl t D Nd V0 q f0 a,eD X Fin Anch N S m N gs w t D Nd V0 0 q .ret 0 f0 a 0 0->(∀w₁,bW X V0 w w₁->Fin V0 a w₁)->dW X.P Post (crowd gs w sl) t)
 (h:eD X Fin Anch N S m j gs w t D Nd V0 d0 q tag u f0 a st sm) (hope:MW X Fin Anch N S m Post j Nd (gS N j D tag u) (mX m j D f0 q)):dW X.P Post (crowd gs w sl) t:=by
 obtain⟨i,g,d,sl',hi,hrun,hst⟩:=crowd_pick (P:=X.P) (w:=w) (sl:=sl) (h.awake hF hA) (h.someone hF hA);have hlt:i<1+m+j:=by have:=(gA hi).1;rw[h.crew.size]at this;exact this
 have hd:=h.at d;by_cases h0:i=0
 ·subst h0;rw[h.at0]at hi;cases hi;rcases hd.starter (sl:=sl') hAn hN hope hrun with⟨m₁,ops,h1,h2⟩|⟨rfl,hstop⟩
  ·exact dW.next (hst.trans h1) h2
  ·obtain⟨rfl,hj,rfl,_⟩:=h.sit;obtain⟨_,rfl,rfl⟩:=h.mode.fin_inv trivial;subst hj;exact hfin _ _ _ _ _ _ _ _ _ _ h λw₁ h₁=>hstop w₁ ⟨⟨h₁.own.keep,h₁.own.size,h₁.own.os,h₁.own.output,h₁.own.tape⟩,h₁.live⟩
 ·by_cases hm:i<=m
  ·obtain⟨x,hx,hq⟩:=hd.crew.old i o_ hm;rw[hi]at hx;cases hx;have hib:(i==0)=false:=(by simpa using h0);cases hqi:q i with
   |zero=>rw[hqi]at hq;rw[hq.1]at hrun;cases hrun
   |succ k=>
    rw[hqi]at hq;rcases hq with⟨hf,_⟩|⟨_,g',es,hmu,hstp,hq'⟩
    ·rw[hf]at hrun;cases hrun
    ·have hrunT:=runT_crowd_go (P:=X.P) (sl:=sl') (i:=i) hi (by rw[hib];exact hstp (w.at d));have hc:=hd.crew.oldStep (i:=i) (k:=k) o_ hm (g:=g) hmu hq';obtain⟨tag',f',a',hS,hf',hphi⟩:=hd.other hF hA (k:=i) o_ hc (bW.refl X V0 _) hd.wg (λ_ ht _=>hd.mode.retag ht) (λe=>(hd.acq e).app λi' r _ hr=>hr.appOther cy o_) hd.acc;refine dW.next (hst.trans hrunT) (hope _ _ _ _ _ _ _ _ _ _ _ _ _ _ _ _ hS (.inr ⟨by simp only[gS,hphi],rfl, .inr ⟨rfl, ?_⟩⟩));have hs:sumTo (m+1) (upd q i k)+q i=sumTo (m+1) q+k:=sumTo_upd q k id o_;simp only[mX];omega
  ·obtain⟨k,rfl⟩:∃k,i=1+m+k:=⟨i-(1+m),o_⟩;obtain⟨m₁,ops,h1,h2⟩:=hd.worker (sl:=sl') hF hA hN hope (i:=k) o_ hi hrun;exact dW.next (hst.trans h1) h2
def IJ(X:aW)(y x:Nat×fm):Prop:=y.1=x.1/\l0 X x.1 y.2 x.2
theorem Ck{x:fm}(h:Acc (l0 X i) x):Acc (IJ X) (i,x):=by
 induction h with
 |intro x _ b=>
  refine⟨_,λy c=> ?_⟩;obtain⟨k,y⟩:=y;obtain⟨e,d⟩:=c;have a:k=i:=e;subst a;exact b y d
theorem Fc(R:∀V g w,Fin V g w->g.status= .running)(T:∀V g w,Anch V g w->g.status= .running)(H:∀V g w,Anch V g w->∃k,cD X (sK X Fin Anch) k V g w)(Q:N<2147483648)
 (r:∀gs w sl t D c V0 q f a,eD X Fin Anch N S m N gs w t D c V0 0 q .ret 0 f a 0 0->(∀d,bW X V0 w d->Fin V0 a d)->dW X.P Post (crowd gs w sl) t):
 ∀(p j:Nat) (gs:Array Goroutine) (w:World) (sl:Option (Nat×Nat)) (t:Trace) (D:Nat->WD) (c:Nat->fm) (V0:Nat->Prop) (v:Nat) (q:Nat->Nat) (tag:CTag) (u f:Nat) (a:Goroutine) (n o:Int),
  gS N j D tag u=p->eD X Fin Anch N S m j gs w t D c V0 v q tag u f a n o->dW X.P Post (crowd gs w sl) t:=by
 intro p;induction p using Nat.strongRecOn with
 |ind p E=>
  have A:∀(j:Nat) (F:Nat->Nat×fm),Acc (CM (IJ X) j) F->∀(y:Nat) (gs:Array Goroutine) (w:World) (sl:Option (Nat×Nat)) (t:Trace) (D:Nat->WD) (c:Nat->fm) (V0:Nat->Prop) (v:Nat) (q:Nat->Nat) (tag:CTag) (u f:Nat) (a:Goroutine) (n o:Int),
   F=(λi=>(i,c i))->gS N j D tag u=p->mX m j D f q=y->eD X Fin Anch N S m j gs w t D c V0 v q tag u f a n o->dW X.P Post (crowd gs w sl) t:=by
   intro j F s;induction s with
   |intro F _ C=>
    intro y;induction y using Nat.strongRecOn with
    |ind y B=>
     intro gs w sl t D c V0 v q tag u f a n o l z e3 h;refine h.step R T H Q r λj' U w' O t' D' Z Y W q' J u' f' a' L M I b=> ?_;rcases b with b|⟨K,rfl,b⟩
     ·exact E _ o_ _ _ _ _ _ _ _ _ _ _ _ _ _ _ _ _ rfl I
     ·rcases b with⟨i,x,G,P,rfl⟩|⟨rfl,b⟩
      ·refine C (λk=>(k,upd c i x k)) ⟨i,(i,x),G, ?_, ?_⟩ _ _ _ _ _ _ _ _ _ _ _ _ _ _ _ _ rfl (K.trans z) rfl I
       ·rw[l];exact⟨rfl,P⟩
       ·rw[l]
        funext k
        by_cases e:k=i
        ·subst e;rw[upd_same,upd_same]
        ·rw[upd_ne _ _ e,upd_ne _ _ e]
      ·exact B _ o_ _ _ _ _ _ _ _ _ _ _ _ _ _ _ _ l (K.trans z) rfl I
  intro j gs w sl t D c V0 v q tag u f a n o z h;exact A j (λi=>(i,c i)) (rc j _ λi G=>Ck (h.acc i G)) _ _ _ _ _ _ _ _ _ _ _ _ _ _ _ _ rfl z rfl h
end
end
section
open Go Go.Conc
open Go.ConcN (sumTo upd sumTo_upd upd_ne upd_same CT Apart PermW WgLive RelBy WD CTag AllQuit)
open Go.ConcR (KK WgAt stA smA rd wr DC0 Bk)
section
variable{Fin Anch:(Nat->Prop)->Goroutine->World->Prop}{S:Nat->Prop}{gs:Array Goroutine}{t:Trace}{D:Nat->WD}{Nd:Nat->fm}{q:Nat->Nat}{f0:Nat}{a:Goroutine}
def Jb(S:Nat->Prop)(Wg b:Nat):Prop:=S b\/b=Wg
def leaving(m:Nat)(D:Nat->WD)(q:Nat->Nat)(i:Nat):Nat:=if i<=m then q i else(D (i-(1+m))).fuel
theorem eD.over(h:eD X Fin Anch N S m N gs w t D Nd V0 0 q .ret 0 f0 a 0 0):t.HandedOver:=by
 obtain⟨k,z,o,y,x⟩:=h.acq rfl;intro i g e j n;by_cases u:g<=m
 ·exact h.crew.over i g e j u n
 ·have l:g<=m+N:=by unfold Trace.g? at e;obtain⟨p,s,rfl⟩:=Qh.1 e;exact h.crew.ct.gs i p s
  obtain⟨r,d,f⟩:=x (g-(1+m)) o_;rw[show 1+m+(g-(1+m))=g from o_]at d;have b:HappensBefore t r k:= .single (.inr ⟨.marked f (.inr d.act) z (λk _ _=>h.crew.norel k),d.heard,y⟩);have l:i<=r:=Nat.le_of_not_lt λc=>d.after i c e n;rcases Nat.lt_or_ge i r with c|v
  ·exact⟨k,o, .trans (.single (.inl ⟨c,g,e,d.g⟩)) b⟩
  ·obtain rfl:i=r:=o_
   exact⟨k,o,b⟩
theorem eD.past(h:eD X Fin Anch N S m N gs w t D Nd V0 0 q .ret 0 f0 a 0 0):Past (dq (Jb S X.Wg)) w.heap.size t:=by
 refine⟨h.crew.ct.nr,λi x d b=> ?_,h.over,h.crew.deaf0,h.crew.seen⟩;obtain⟨c,r,p⟩:=touch_of d;have g:t.g? i=some c.g:=by unfold Trace.g?;rw[r];rfl
 by_cases s:c.g<=m
 ·exact h.crew.known i x c.g d g s b
 ·by_cases j:t.counts i
  ·obtain⟨k,n,u⟩:=h.over i c.g g o_ j;unfold Trace.g? at n;obtain⟨y,o,f⟩:=Qh.1 n;exact .inl ⟨k,y,o,f, .inr u⟩
  ·have e:x.kind= .atomic:=by
    cases l:x.kind with
    |atomic=>rfl
    |plain=>exact absurd ⟨x,d,b, .inl (by rw[l];simp)⟩ j
    |said=>exact absurd ⟨x,d,b, .inl (by rw[l];simp)⟩ j
   exact .inr ⟨h.crew.atom i x c.g d g o_ e,e⟩
theorem eD.leavers(h:eD X Fin Anch N S m N gs w t D Nd V0 0 q .ret 0 f0 a 0 0):Leavers X.P t gs (leaving m D q):=by
 letI:Go.ConcR.Payload:=ep
 obtain⟨r,_,_⟩:=h.mode.fin_inv trivial;refine⟨λi g n o=> ?_,λj u=> ?_⟩
 ·have s:i<1+m+N:=by have:=(gA o).1;rw[h.crew.size]at this;exact this
  unfold leaving;by_cases f:i<=m
  ·rw[if_pos f];obtain⟨x,b,d⟩:=h.crew.old i n f;rw[o]at b;cases b;exact d
  ·rw[if_neg f];obtain⟨k,rfl⟩:∃k,i=1+m+k:=⟨i-(1+m),o_⟩;have l:k<N:=o_;rw[show 1+m+k-(1+m)=k from o_,h.crew.deafW k l];obtain⟨x,b,c⟩:=h.crew.wk k l;rw[o]at b;cases b;have v:=r k l;rcases c with⟨y,_⟩|⟨_,c⟩
   ·omega
   ·exact Go.ConcN.WSit.quits c v
 ·rw[h.crew.size]at u;exact Go.ConcN.Deaf_absent λi p n e=>by have:=h.crew.ct.gs i p n;omega
end
section
variable{S:Nat->Prop}{Next:(Nat->Prop)->Goroutine->World->Prop}
theorem sS{B:Nat}(hv:∀b,V b->b<B/\¬S b)(n:∀b,RO b->b<B/\¬S b)(d:gt V RO e):EvL (dq S) B e:=by
 refine⟨λx i m=> ?_,(jw d).1,(jw d).2.1,xl (λb k=>(hv b k).1) (λb k=>(n b k).1) d⟩;exfalso;obtain⟨j,o,q⟩:=e;cases j with
 |cell a=>
  obtain⟨rfl,h⟩:=d;have g:(MemAct.access ⟨.cell a,o,false⟩).touch?=some x:=i;simp only[MemAct.touch?,Option.some.injEq]at g;subst g;have c:S a.block:=m.elim id λh=>by cases h
  rcases h with h|⟨h,_⟩
  ·exact(hv _ h).2 c
  ·exact(n _ h).2 c
 |obj r=>
  obtain⟨rfl,h⟩:=d;simp only[MemAct.ofEvent,MemAct.touch?,Option.some.injEq]at i;subst i;have c:S r:=m.elim id λh=>by cases h
  exact(hv _ h).2 c
 |mark l=>
  have p:fD l=true:=d;cases l with
  |extern f=>cases i
  |noRoom=>cases i
  |_=>simp[fD]at p
 |output=>exact d.elim
 |goroutines=>exact d.elim
structure nN (P:Program) (S V RO:Nat->Prop) (gs:Array Goroutine) (w:World) (t:Trace) (q:Nat->Nat) (a:Goroutine):Prop where
 at0:gs[0]?=some a
 leave:Leavers P t gs q
 past:Past (dq S) w.heap.size t
 quiet:Quiet (dq S) t
 who:∀op∈t,op.g<gs.size
 low:∀b,S b->b<w.heap.size
 own:∀b,V b->b<w.heap.size/\¬S b
 ro:∀b,RO b->b<w.heap.size/\¬S b
theorem EN(U:∀V g w,Next V g w->g.status= .running)
 (j:∀V gs w sl t q a,nN X.P S V X.RO gs w t q a->(∀m,bW X V w m->Next V a m)->dW X.P Post (crowd gs w sl) t):
 ∀(k:Nat) (V:Nat->Prop) (gs:Array Goroutine) (w:World) (sl:Option (Nat×Nat)) (t:Trace) (q:Nat->Nat) (a:Goroutine),nN X.P S V X.RO gs w t q a->cD X Next k V a w->dW X.P Post (crowd gs w sl) t:=by
 intro k;induction k with
 |zero=>exact λV gs w sl t q a f r=>j V gs w sl t q a f r
 |succ k N=>
  intro V gs w sl t q a f r;have y:=r.running U;rcases r with r|⟨_,r⟩
  ·exact j V gs w sl t q a f r
  ·refine G1 y w _ gs w.drawn sl t q (d5 _) f.at0 f.leave f.past f.quiet f.who ?_;intro H d0 L d v Y M I W T R Q C;have u:0<H.size:=(gA I).1;obtain⟨J,n,K,E,A,G⟩:=r (w.at d) (bW.at X V w d);have l:w.heap.size<=n.heap.size:=A.size;have o:∀b,co V (w.at d) n b->b<n.heap.size/\¬S b:=λb h=>by
    rcases h with h|h
    ·exact⟨d6 (f.own b h).1 l,(f.own b h).2⟩
    ·refine⟨h.2,λD=> ?_⟩;have h1:=f.low b D;have Z:w.heap.size<=b:=h.1;omega
   have z:∀b,X.RO b->b<n.heap.size/\¬S b:=λb h=>⟨d6 (f.ro b h).1 l,(f.ro b h).2⟩;have p:∀e∈K,EvL (dq S) n.heap.size e:=λe F=>sS o z (A.ev e F);have s:=runT_crowd_go (P:=X.P) (sl:=v) (i:=0) I (show stepG X.P (0==0) a (w.at d)=_ from E);refine dW.next (C.trans s) (N (co V (w.at d) n) _ n v _ M J ?_ G);exact
    {at0:=by simp[u]
     leave:=nc W a J n _ _ K u
     past:=(T.mono l).own p
     quiet:=R.app λB c x O D=>by obtain⟨e,F,rfl⟩:=Go.Conc.mem_ofEvents c;exact⟨(p e F).1 x O D,λ_=>rfl⟩
     who:=λB c=>by
        rw[Array.size_setIfInBounds,Array.size_map];rcases Array.mem_append.1 c with c|c
        ·exact Q B c
        ·rw[cy B c];exact u
     low:=λb h=>d6 (f.low b h) l
     own:=o
     ro:=z}
theorem nN.crew{gs:Array Goroutine}{t:Trace}{q:Nat->Nat}{a:Goroutine}{F:Nat->fm}{D:Nat->WD}{V0:Nat->Prop}(o:nN X.P S V (λ_=>False) gs w t q a)(H:gs.size=1+m)(J:jo X S 0 F V0 w)
 (p:∀op∈t,op.act.low X.Wg) (v:X.RO 0) (s:X.list w):jp X S m 0 gs w t D F V0 0 q:=by
 have f:∀i x,touchAt t i=some x->¬ik S X.Wg x.loc->Knows t 0 i:=λi x j b=>by
  have n:x.loc.isMemory=true:=by
   cases h:x.loc.isMemory with
   |true=>rfl
   |false=>exact absurd (.inr h) b
  rcases o.past.known i x j n with h|⟨h,_⟩
  ·exact h
  ·refine absurd ?_ b;rcases h with h|h
   ·left;cases u:x.loc with
    |cell a=>rw[u]at h;exact S8 h
    |obj r=>rw[u]at h;exact S8 h
    |_=>rw[u]at h;exact h.elim
   ·exact .inr h
 have y:∀l,dq S l->ik S X.Wg l:=λl h=>by
  rcases h with h|h
  ·left;cases l with
   |cell a=>exact S8 h
   |obj r=>exact S8 h
   |_=>exact h.elim
  ·exact .inr h
 exact
  {size:=by rw[H];omega
   old:=λi E c=>by have z:i<gs.size:=o_;exact⟨gs[i],i7 z,o.leave.old i _ E (i7 z)⟩
   wk:=λi c=>absurd c (Nat.not_lt_zero i)
   lies:=J
   tabRO:=v
   ct:=
    {quiet:=λi op x c j b=>by
       have d:=rq p (i:=i) (a:=x) (by rw[touchAt_of c];exact j);rcases b with b|b
       ·have:eq S x.loc:=by
         cases u:x.loc with
         |cell a=>
          rw[u]at b d;rcases b with b|b
          ·exact b
          ·have:a.block<X.Wg:=d;omega
         |obj r=>
          rw[u]at b d;rcases b with b|b
          ·exact b
          ·have:r<X.Wg:=d;omega
         |_=>rw[u]at b;exact b.elim
        exact o.quiet i op x c j (.inl this)
       ·exact o.quiet i op x c j (.inr b)
     own:=λk _ _ l ⟨i,c,_⟩=>absurd c (Nat.not_lt_zero i)
     rd:=λk _ L l ⟨K,_⟩=>absurd K o_
     free:=λl b _ i x j e=>f i x j (by rw[e];exact b)
     mine:=λl b _ i x j e _=>f i x j (by rw[e];exact b)
     nr:=o.past.clean
     gs:=λi op c=>by have:=o.who op (Qv c);omega}
   norel:=λi c=>by unfold Trace.act? at c;obtain⟨op,C,B⟩:=Qh.1 c;have:=p op (Qv C);rw[B]at this;exact absurd this (Nat.lt_irrefl _)
   deaf0:=o.past.hears
   deafW:=λi c=>absurd c (Nat.not_lt_zero i)
   rel:=λi c=>absurd c (Nat.not_lt_zero i)
   has:=λi c=>absurd c (Nat.not_lt_zero i)
   list:=s
   seen:=o.past.seen
   over:=λi g A E _ I=>o.past.over i g A E I
   known:=λi x g j _ _ n=>(o.past.known i x j n).imp id λh=>⟨y _ h.1,h.2⟩
   atom:=λi x g j A G=>by unfold Trace.g? at A;obtain⟨op,C,rfl⟩:=Qh.1 A;have:=o.who op (Qv C);omega}
end
end
section
open Go Go.Conc
open Go.ConcN (sumTo upd sumTo_upd upd_ne upd_same)
def cK(P:Program)(Post:Value->World->Prop)(S:Nat->Prop)(g:Goroutine)(w:World):Prop:=
 ∀gs d sl t q,nN P S (λ_=>False) (λ_=>False) gs (w.at d) t q g->dW P Post (crowd gs (w.at d) sl) t
section
variable{S:Nat->Prop}
theorem cK.at(h:cK P Post S g w)(d:Nat):cK P Post S g (w.at d):=λc e a t q b=>h c e a t q b
theorem cK.step(n:g.status= .running)(h:∀d,∃g' w' es,stepG P true g (w.at d)= .go g' w' es/\w.heap.size<=w'.heap.size/\(∀e∈es,EvL (dq S) w'.heap.size e)/\cK P Post S g' w'):cK P Post S g w:=by
 intro L z sl t q k;refine G1 n (w.at z) _ L z sl t q (d5 _) k.at0 k.leave k.past k.quiet k.who ?_;intro y M C d l B E A K J I r u;obtain⟨g',w',es,D,m,o,f⟩:=h d;have j:0<y.size:=(gA A).1;have c:=runT_crowd_go (P:=P) (sl:=l) (i:=0) A (show stepG P (0==0) g ((w.at z).at d)=_ from D);refine dW.next (u.trans c) (f _ w'.drawn l _ E ?_);have v:Past (dq S) w'.heap.size B:=J.mono m;exact
  {at0:=by simp[j]
   leave:=nc K g g' w' _ _ es j
   past:=v.own o
   quiet:=I.app λs a x F G=>by obtain⟨e,H,rfl⟩:=Go.Conc.mem_ofEvents a;exact⟨(o e H).1 x F G,λ_=>rfl⟩
   who:=λs a=>by
    rw[Array.size_setIfInBounds,Array.size_map];rcases Array.mem_append.1 a with a|a
    ·exact r s a
    ·rw[cy s a];exact j
   low:=λb p=>d6 (k.low b p) m
   own:=λb p=>p.elim
   ro:=λb p=>p.elim}
end
end
section
open Go
def fF(P:Program)(fs:Array Func):Program:={P with funcs:=fs,inits:=#[]}
section
variable(P:Program)(fs:Array Func)
theorem lQ:(fF P fs).types=P.types:=by unfold fF;rfl
theorem yp:(fF P fs).cutTypes=P.cutTypes:=by unfold fF;rfl
theorem ry:∀(f:Nat) (t:TypeId),Made.infoAt (fF P fs).toTables f t=Made.infoAt P.toTables f t
 |0,_=>rfl
 |f+1,t=>by have a:Made.infoAt (fF P fs).toTables f=Made.infoAt P.toTables f:=funext (ry f);simp only[Made.infoAt,lQ,a]
theorem fo(t:TypeId):(fF P fs).info? t=P.info? t:=by simp only[Tables.info?,lQ,ry]
theorem dc(t:TypeId):(fF P fs).underlying t=P.underlying t:=by simp only[Program.underlying,fo]
theorem lP(t:TypeId):(fF P fs).underlyingId t=P.underlyingId t:=by simp only[Program.underlyingId,fo]
theorem eT(t:TypeId):(fF P fs).cellsOf t=P.cellsOf t:=by simp only[Program.cellsOf,fo]
theorem fI(t:TypeId):(fF P fs).bytesOf t=P.bytesOf t:=by simp only[Program.bytesOf,fo]
theorem dM:(fF P fs).depth=P.depth:=by simp only[Program.depth,lQ]
theorem qx:∀(n:Nat) (t u:TypeId),(fF P fs).alikeButTags n t u=P.alikeButTags n t u
 |0,_,_=>rfl
 |n+1,t,u=>by simp only[Program.alikeButTags,fo,qx n]
theorem lR(t:TypeId):(fF P fs).stoodInHeld t=P.stoodInHeld t:=by simp only[Program.stoodInHeld,Program.stoodInAs,dc,lP,fo,yp,dM,qx]
theorem yo(t:TypeId):(fF P fs).packed t=P.packed t:=by simp only[Program.packed,Program.packedAs,Program.ownRow,dc,lP,fo,yp,dM,qx]
theorem kt:∀(d:Nat) (t:TypeId) (o:Nat),byteOfCell (fF P fs) d t o=byteOfCell P d t o
 |0,_,_=>rfl
 |d+1,t,o=>by simp only[byteOfCell,dc,eT,fI,kt d]
theorem pD:∀(d:Nat) (t:TypeId) (o:Nat),cellHolding (fF P fs) d t o=cellHolding P d t o
 |0,_,_=>rfl
 |d+1,t,o=>by simp only[cellHolding,dc,eT,fI,pD d]
theorem tB:∀(d:Nat) (t:TypeId) (o:Nat),plainCell (fF P fs) d t o=plainCell P d t o
 |0,_,_=>rfl
 |d+1,t,o=>by simp only[plainCell,dc,eT,tB d]
theorem rv:∀(d:Nat) (t:TypeId) (o:Nat),cellOfByte (fF P fs) d t o=cellOfByte P d t o
 |0,_,_=>rfl
 |d+1,t,o=>by simp only[cellOfByte,dc,eT,fI,rv d]
theorem tA:∀(d:Nat) (t:TypeId),tight (fF P fs) d t=tight P d t
 |0,_=>rfl
 |d+1,t=>by simp only[tight,dc,fI,tA d]
theorem vB:∀(d:Nat) (t:TypeId),(fF P fs).holdsStoodIn d t=P.holdsStoodIn d t
 |0,_=>rfl
 |d+1,t=>by simp only[Program.holdsStoodIn,dc,lR,vB d]
theorem lh:∀(d:Nat) (t:TypeId),(fF P fs).holdsPacked d t=P.holdsPacked d t
 |0,_=>rfl
 |d+1,t=>by simp only[Program.holdsPacked,dc,yo,lh d]
theorem tC:∀(d:Nat) (t:TypeId),(fF P fs).eqGuardType d t=P.eqGuardType d t
 |0,_=>rfl
 |d+1,t=>by simp only[Program.eqGuardType,dc,tC d]
theorem rx:∀(d:Nat) (t u:TypeId),sameLayout (fF P fs) d t u=sameLayout P d t u
 |0,_,_=>rfl
 |d+1,t,u=>by simp only[sameLayout,dc,lP,lR,rx d]
theorem yn(a:TypeId->Bool):∀(d:Nat) (e:TypeId) (c o n:Nat),rowAt (fF P fs) a d e c o n=rowAt P a d e c o n
 |0,_,_,_,_=>rfl
 |d+1,e,c,o,n=>by simp only[rowAt,dc,eT,lR,yn a d]
theorem vA:∀(d:Nat) (e:TypeId) (n o:Nat) (u:TypeId) (m:Nat),liesAt (fF P fs) d e n o u m=liesAt P d e n o u m
 |0,_,_,_,_,_=>rfl
 |d+1,e,n,o,u,m=>by simp only[liesAt,dc,yn,rx,dM,vA d]
theorem wZ(d:Nat)(e:TypeId)(n o:Nat)(b:Int):cellAtBytes (fF P fs) d e n o b=cellAtBytes P d e n o b:=by simp only[cellAtBytes,eT,fI,kt,rv]
theorem Ec(a:∀t i z,P.info? t=some i->i.zero=some z->bD z=true):bH (fF P fs) P:=
 ⟨fo P fs,dc P fs,λt i z h=>a t i z (by rw[←fo P fs];exact h),by unfold fF;rfl,eT P fs,fI P fs,λt o=>by rw[dM,kt],λe n o u m=>by rw[dM,vA],λe n o b=>by rw[dM,wZ],λe=>by rw[dM,vB],λt=>by rw[dM,tC],lR P fs,by rw[lQ],λt=>by rw[dM,lh]⟩
theorem mV(c:Array Value)(e:TypeId):∀(f x a:Nat),seenCells (fF P fs) c e f x a=seenCells P c e f x a
 |0,_,_=>rfl
 |f+1,x,a=>by simp only[seenCells,eT,fI,dM,pD,mV c e f]
theorem vz(w:World)(a:Addr)(u:TypeId)(k:Addr)(b:Bool):w.seen (fF P fs) a u k b=w.seen P a u k b:=by simp only[World.seen,tB,kt,eT,fI,mV,dM]
theorem Ed(w:World)(a:Addr)(b:Bool):w.farLoad P a b=w.farLoad (fF P fs) a b:=by simp only[World.farLoad,World.viewLoad,vz]
theorem AD(w:World)(a:Addr)(v:Value)(b:Bool):w.farStore P a v b=w.farStore (fF P fs) a v b:=by simp only[World.farStore,World.viewStore,vz,tA,dM]
end
def oB(f:Func):Func:={f with name:= "none",origin:= "none",body:=none}
theorem CP:(Extern.allGenericRows.lookup "none").isNone=true∧(Extern.allTypedRows.lookup "none").isNone=true∧(Extern.allRows.lookup "none").isNone=true∧(Extern.allNextRows.lookup "none").isNone=true:=by refine⟨?_, ?_, ?_, ?_⟩<;>kernel_rfl
theorem Fa(f:Func):Sr (oB f)=none:=by obtain⟨c,b,a,_⟩:=CP;rw[Option.isNone_iff_eq_none]at c b a;simp only[Sr,oB,c,b,a];rfl
theorem F8(f:Func):RY (oB f)=none:=by obtain⟨_,_,_,a⟩:=CP;rw[Option.isNone_iff_eq_none]at a;simp only[RY,oB,a];rfl
theorem F9(f:Func):((oB f).name.endsWith ".init" && !(oB f).name.startsWith "(" && !(oB f).name.startsWith "gosem.")=false:=by show("none".endsWith ".init" && ! "none".startsWith "(" && ! "none".startsWith "gosem.")=false;kernel_rfl
def Cw(info:TypeId->Option TypeInfo):Prop:=∀t i z,info t=some i->i.zero=some z->bD z=true
theorem vL:∀{l:List Value},(∀v∈l,bD v=true)->jO l=true
 |[],_=>rfl
 |x::r,h=>by simp only[jO,Bool.and_eq_true];exact⟨h x List.mem_cons_self,vL λv hv=>h v (List.mem_cons_of_mem _ hv)⟩
theorem vK{cs:Array Value}(h:∀x∈cs,bD x=true):bD (.agg cs)=true:=by obtain⟨l⟩:=cs;simp only[bD];exact vL λv a=>h v (by simpa using a)
theorem rJ(h:bD v=true):∀x∈v.cells,bD x=true:=by
 intro x a;cases v with
 |agg b=>
  simp only[Value.cells]at a;obtain⟨l⟩:=b;simp only[bD]at h;exact iB h x (by simpa using a)
 |_=>simp only[Value.cells,Array.mem_singleton]at a;rw[a];exact h
theorem we{d c:Type}(p:c->Prop)(f:d->c->Option (ForInStep c))(g:∀a s r,p s->f a s=some r->p r.value):∀(l:List d) (s r:c),p s->forIn l s f=some r->p r
 |[],s,r,hs,e=>by simp only[List.forIn_nil]at e;cases e;exact hs
 |a::l,s,r,hs,e=>by
  simp only[List.forIn_cons]at e;cases h:f a s with
  |none=>rw[h]at e;cases e
  |some q=>
   rw[h]at e;have:=g a s q hs h;cases q with
   |done b=>cases e;exact this
   |yield b=>exact we p f g l b r this e
theorem DL{c:TypeId->Option TypeInfo}(j:Cw c){i:TypeInfo}(k:c t=some i){z:Option (Array Value)}(g:∀d,z=some d->∀x∈d,bD x=true){d:Array Value}
 (h:(if n>m then none else(do let a←z;let b←i.zero;pure (a++b.cells):Option (Array Value)))=some d):∀x∈d,bD x=true:=by
 split at h
 ·cases h
 ·cases z with
  |none=>cases h
  |some a=>
   cases f:i.zero with
   |none=>rw[f]at h;cases h
   |some b=>
    rw[f]at h;cases h;intro x e;rcases Array.mem_append.1 e with e|e
    ·exact g a rfl x e
    ·exact rJ (j t i b k f) x e
theorem xS{info:TypeId->Option TypeInfo}(hi:Cw info){fs:Array Field}{i:TypeInfo}{z:Value}(h:Made.reckonStruct info fs=some i)(hz:i.zero=some z):bD z=true:=by
 unfold Made.reckonStruct at h;rw[Option.bind_eq_bind,Qt]at h;obtain⟨r,hr,h⟩:=h;rw[←Array.forIn_toList]at hr;have key:=we (λs:Array Field×Nat×Nat×Nat×Nat×Bool×Bool×Option (Array Value)×String=>∀zs,s.2.2.2.2.2.2.2.1=some zs->∀x∈zs,bD x=true) _ (λf s r hs e=> ?_) fs.toList _ r (λzs hzs x hx=> ?_) hr
 ·simp only[Option.pure_def]at h;split at h<;>cases h<;>(simp only[Qh]at hz;obtain⟨zs,h1,rfl⟩:=hz;exact vK (key zs h1))
 ·cases he:info f.type with
  |none=>rw[he]at e;cases e
  |some j=>
   rw[he]at e;simp only[Option.bind_eq_bind,QA]at e;intro zs hzs;refine DL hi he hs (n:=s.2.1+j.size) (m:=Made.mostCells) ?_;rw[←hzs];revert e
   (repeat' split)<;>intro e<;>first
     |(cases e;done)
     |(simp only[Qt,Option.pure_def,Option.some.injEq,exists_eq_left']at e;obtain rfl:=e;rfl)
     |(simp only[Qt]at e;obtain⟨_,_,e⟩:=e;revert e;(repeat' split)<;>intro e<;>cases e<;>rfl)
 ·cases hzs;simp at hx
theorem DN{g:TypeId->Option TypeInfo}(o:Cw g){d:TypeDesc}{i:TypeInfo}{z:Value}(h:Made.reckon g d=some i)(c:i.zero=some z):bD z=true:=by
 unfold Made.reckon at h;have b:∀{x:Option String} {f:String->TypeInfo} {v:Value},(∀s,(f s).zero=some v)->bD v=true->(x.bind λs=>some (f s))=some i->bD z=true:=by
  intro x f v A t e;cases x with
  |none=>cases e
  |some s=>
   cases e;rw[A s]at c;cases c;exact t
 cases d with
 |struct H=>exact xS o h c
 |pointer e=>
  simp only[Option.bind_eq_bind,Option.pure_def]at h;rw[Qt]at h;obtain⟨j,m,h⟩:=h;split at h
  ·cases h
  ·split at h
   ·cases h
   ·exact b (v:= .pointer none) (λ_=>rfl) rfl h
  ·exact b (v:= .pointer none) (λ_=>rfl) rfl h
 |slice e=>
  simp only[Option.bind_eq_bind,Option.pure_def]at h;rw[Qt]at h;obtain⟨j,m,h⟩:=h;exact b (v:= .slice none 0 0) (λ_=>rfl) rfl h
 |map k e=>
  simp only[Option.bind_eq_bind,Option.pure_def]at h;rw[Qt]at h;obtain⟨j,m,h⟩:=h;rw[Qt]at h;obtain⟨F,w,h⟩:=h;rw[Qt]at h;obtain⟨E,u,h⟩:=h;exact b (v:= .map none) (λ_=>rfl) rfl h
 |chan B e=>
  simp only[Option.bind_eq_bind,Option.pure_def]at h;rw[Qt]at h;obtain⟨j,m,h⟩:=h;exact b (v:= .chan none) (λ_=>rfl) rfl h
 |func D C v=>
  simp only[Option.bind_eq_bind,Option.pure_def]at h;exact b (v:= .nilFunc) (λ_=>rfl) rfl h
 |array n e=>
  simp only[Option.bind_eq_bind,Option.pure_def]at h;rw[Qt]at h;obtain⟨j,m,h⟩:=h;rw[Qt]at h;obtain⟨s,G,h⟩:=h;cases h;simp only at c;split at c
  ·cases c
  ·split at c
   ·cases c;rfl
   ·rw[Qh]at c;obtain⟨y,q,rfl⟩:=c;refine vK λx r=> ?_;obtain⟨a,p,l⟩:=Array.mem_flatten.1 r;rw[Array.mem_replicate]at p;rw[p.2]at l;exact rJ (o e j y m q) x l
 |_=>cases h
theorem rk(P:Program)(b:∀i∈P.types,∀z,i.zero=some z->bD z=true):∀f,Cw (Made.infoAt P.toTables f)
 |0=>λ_ _ _ h=>by cases h
 |f+1=>λt i z h a=>by
  unfold Made.infoAt at h;split at h
  ·exact b i (Qv h) z a
  ·rw[Qt]at h;obtain⟨d,_,h⟩:=h;exact DN (rk P b f) h a
theorem DO(P:Program)(b:∀i∈P.types,∀z,i.zero=some z->bD z=true)(t:TypeId)(i:TypeInfo)(z:Value)(h:P.info? t=some i)(a:i.zero=some z):bD z=true:=by
 unfold Tables.info? at h;split at h
 ·exact b i (Qv h) z a
 ·exact rk P b _ t i z h a
theorem A2(args:Array Value):aG ρ PL PM (PI ρ) (Sf args) (Sf (args.map (PI ρ))):=by
 obtain⟨l⟩:=args;cases l with
 |nil=>exact .dead trivial
 |cons x l=>
  cases l with
  |nil=>
   rw[show Array.map (PI ρ) ⟨[x]⟩=#[PI ρ x]from s_];exact .pure x
  |cons y l=>exact .dead trivial
theorem qb:∀(n t:Nat) (a:Array Value),(∀v∈a,bD v=true)->∀v∈Extern.BytealgMakeNoZero.digits n t a,bD v=true
 |0,_,_,h=>h
 |n+1,t,a,h=>qb n _ _ λv hv=>by
  rcases Array.mem_push.1 hv with hv|hv
  ·exact h v hv
  ·rw[hv];rfl
theorem vd(j:bH PL PM)(h rs:Array TypeId)(args:Array Value):aG ρ PL PM (PI ρ) (Rh h rs args) (Rh h rs (args.map (PI ρ))):=by
 obtain⟨l⟩:=args;cases l with
 |nil=>exact .dead trivial
 |cons x l=>
  cases l with
  |cons y l=>cases x<;>exact .dead trivial
  |nil=>
   cases x with
   |int k n=>
    cases k with
    |i64=>
     rw[show Array.map (PI ρ) ⟨[.i n]⟩=#[.i n]from by simp[PI]];unfold Rh;cases rs[0]? with
     |none=>exact .dead trivial
     |some t=>
      dsimp only;refine(aK j t).bind λd=> ?_;cases d with
      |slice e=>
       dsimp only[id];have g:aG ρ PL PM (PI ρ) (do let c←choose (.appendCap n.toNat 0 e);askRoom c;let bytes←choose (.extern "internal/bytealg.MakeNoZero.bytes" 0);let a←newRow e (Extern.BytealgMakeNoZero.digits c bytes #[]);pure (.slice (some a) n.toNat c)) (do let c←choose (.appendCap n.toNat 0 e);askRoom c;let bytes←choose (.extern "internal/bytealg.MakeNoZero.bytes" 0);let a←newRow e (Extern.BytealgMakeNoZero.digits c bytes #[]);pure (.slice (some a) n.toNat c)):=by refine aG.bind (f:=id) (.choose λn=> .pure n) λc=> ?_;refine(my c).bind λ_=> ?_;refine aG.bind (f:=id) (.choose λn=> .pure n) λb=> ?_;have o:(Extern.BytealgMakeNoZero.digits c b #[]).map (PI ρ)=Extern.BytealgMakeNoZero.digits c b #[]:=jQ λv m=>bI ρ v (qb c b #[] s_ v m);have i:=fB (ρ:=ρ) (PL:=PL) (PM:=PM) e (Extern.BytealgMakeNoZero.digits c b #[]);rw[o]at i;exact i.bind λa=>aD _ (by simp[PI])
       split
       ·exact(io (f:=id) j rfl).bind λ_=>g
       ·exact g
      |_=>exact .dead trivial
    |_=>exact .dead trivial
   |_=>exact .dead trivial
def rT(K:FuncId)(sk:Func)(ext:FuncId->Bool)(i:Nat)(f:Func):Func:=
 if i=K then sk else if ext i then f else match f.body with
  |some c=>if rN i c then f else oB f
  |none=>oB f
def gi(P:Program)(K:FuncId)(sk:Func)(ext:FuncId->Bool):Program:=fF P (P.funcs.mapIdx (rT K sk ext))
structure uB (P:Program) (K:FuncId) (sk:Func) (ext:FuncId->Bool) (G:Nat):Prop where
 zero:∀i∈P.types,∀z,i.zero=some z->bD z=true
 glob:P.globals.size=G
 tab:fh<G
 names:∀f∈P.funcs,f.name≠ "runtime.NumGoroutine"
 ty:Dz P
 ex:jU<P.funcs.size
 lw:BN<P.funcs.size
 lwr:∀fn,P.funcs[BN]?=some fn->fn.results.all (IM 2)=true
 exr:∀fn,P.funcs[jU]?=some fn->fn.results.all (IM 1)=true
 kex:dX K=0
 kfn:∃fn,P.funcs[K]?=some fn/\fn.body.isSome=true/\sk.results=fn.results
 kbody:∃c,sk.body=some c/\ji 0 c=true
 kname:sk.name≠ "runtime.NumGoroutine"
 ext:∀i fn,ext i=true->P.funcs[i]?=some fn->fn.body=none/\RY fn=none/\∃e,Sr fn=some e/\∀(ρ:Nat->Nat) (PL PM:Program),bH PL PM->∀args,aG ρ PL PM (PI ρ) (e args) (e (args.map (PI ρ)))
section
variable{K:FuncId}{sk:Func}{ext:FuncId->Bool}{G:Nat}
theorem tV(f:Nat):(gi P K sk ext).funcs[f]?=(P.funcs[f]?).map (rT K sk ext f):=by unfold gi fF;simp only[Array.getElem?_mapIdx]
theorem Et(r:ResultVar):IM 0 r=true:=by cases r<;>rfl
theorem lv(a:(gi P K sk ext).funcs[f]?=some fn):∃b,P.funcs[f]?=some b/\
 ((f=K/\fn=sk)\/(f≠K/\ext f=true/\fn=b)\/(f≠K/\fn=b/\∃c,fn.body=some c/\rN f c=true)\/(f≠K/\fn=oB b)):=by
 rw[tV]at a;cases i:P.funcs[f]? with
 |none=>rw[i]at a;cases a
 |some g=>
  rw[i]at a;simp only[eZ,Option.some.injEq]at a;refine⟨g,rfl, ?_⟩;unfold rT at a;split at a
  ·rename_i e;exact .inl ⟨e,a.symm⟩
  ·rename_i d;split at a
   ·rename_i e;exact .inr (.inl ⟨d,e,a.symm⟩)
   ·cases h:g.body with
    |none=>rw[h]at a;exact .inr (.inr (.inr ⟨d,a.symm⟩))
    |some c=>
     rw[h]at a;simp only at a;split at a
     ·rename_i j;subst a;exact .inr (.inr (.inl ⟨d,rfl,c,h,j⟩))
     ·exact .inr (.inr (.inr ⟨d,a.symm⟩))
theorem o8(h:uB P K sk ext G):bH (gi P K sk ext) P:=Ec P _ λt i z b a=>DO P h.zero t i z b a
theorem vC{PL PM:Program}(h:bH PL PM):bH PL PL:=⟨λ_=>rfl,λ_=>rfl,h.zero,rfl,λ_=>rfl,λ_=>rfl,λ_ _=>rfl,λ_ _ _ _ _=>rfl,λ_ _ _ _=>rfl,λ_=>rfl,λ_=>rfl,λ_=>rfl,rfl,λ_=>rfl⟩
theorem CX(h:uB P K sk ext G){PM:Program}(u:bH (gi P K sk ext) PM)(v:∀(f:FuncId) (fn:Func),(gi P K sk ext).funcs[f]?=some fn->∃a:Func,PM.funcs[f]?=some a/\(a=fn\/P.funcs[f]?=some a))(r:Nat->Nat)(g:FuncId):iK r (gi P K sk ext) PM g:=by
 intro fn s;obtain⟨a,j,m⟩:=lv s;obtain⟨q,l,d⟩:=v g fn s;have b:a.name≠ "runtime.NumGoroutine" :=h.names a (Qv j);rcases m with⟨rfl,rfl⟩|⟨m,t,rfl⟩|⟨m,rfl,c,k,_⟩|⟨m,rfl⟩
 ·obtain⟨c,k,_⟩:=h.kbody;refine⟨h.kname, .inl ⟨by rw[k];rfl,q,l, ?_⟩⟩;rcases d with rfl|o
  ·exact⟨by rw[k];rfl,h.kname⟩
  ·rw[j]at o;cases o;obtain⟨x,n,p,_⟩:=h.kfn;rw[j]at n;cases n;exact⟨p,b⟩
 ·obtain⟨w,o,e,n,p⟩:=h.ext g fn t j;refine⟨b, .inr (.inr ⟨w,o, ?_,e,n,p r _ _ u⟩)⟩;rcases d with rfl|i
  ·exact l
  ·rw[j]at i;cases i;exact l
 ·refine⟨b, .inl ⟨by rw[k];rfl,q,l, ?_⟩⟩;have:q=fn:=by
   rcases d with i|i
   ·exact i
   ·rw[j]at i;cases i;rfl
  subst this;exact⟨by rw[k];rfl,b⟩
 ·exact⟨by show "none" ≠ "runtime.NumGoroutine";decide, .inr (.inl ⟨rfl,F8 _,Fa _,F9 _⟩)⟩
theorem zi(h:uB P K sk ext G)(l:(gi P K sk ext).funcs[f]?=some fn):∃a,P.funcs[f]?=some a/\a.results=fn.results/\fn.results.all (IM (dX f))=true:=by
 obtain⟨a,c,k⟩:=lv l;have b:a.results.all (IM (dX f))=true:=by
  by_cases g:f=jU
  ·subst g;rw[kS];exact h.exr a c
  ·by_cases e:f=BN
   ·have d:dX f=2:=(by unfold dX;rw[if_neg g,if_pos e]);rw[d];exact h.lwr a (e▸c)
   ·have d:dX f=0:=(by unfold dX;rw[if_neg g,if_neg e]);rw[d,Array.all_eq_true'];exact λr _=>Et r
 refine⟨a,c, ?_⟩;rcases k with⟨rfl,rfl⟩|⟨_,_,rfl⟩|⟨_,rfl,_⟩|⟨_,rfl⟩
 ·obtain⟨m,j,_,i⟩:=h.kfn;rw[c]at j;cases j;exact⟨i.symm,by rw[i];exact b⟩
 ·exact⟨rfl,b⟩
 ·exact⟨rfl,b⟩
 ·exact⟨rfl,b⟩
theorem CW(h:uB P K sk ext G):Dz (gi P K sk ext):=by obtain⟨d,b,a⟩:=h.ty;exact⟨d,by unfold gi;rw[dc];exact b,a⟩
theorem o7:(gi P K sk ext).funcs.size=P.funcs.size:=by unfold gi fF;simp
theorem zC(h:uB P K sk ext G):ko (gi P K sk ext) P G where
 same:=o8 h
 gl:=h.glob
 tab:=h.tab
 gm:=h.glob
 load w a b:=Ed P _ w a b
 store w a v b:=AD P _ w a v b
 fn ρ g:=CX h (o8 h) (λf fn hf=>by obtain⟨fn',hp,_⟩:=lv hf;exact⟨fn',hp, .inr hp⟩) ρ g
 ty:=CW h
 mix:=rfl
 ex:=by rw[o7];exact h.ex
 lw:=by rw[o7];exact h.lw
 res f fn hf:=zi h hf
 none f hf:=by rw[tV]at hf;simpa using hf
 inits:=rfl
theorem zB(h:uB P K sk ext G):ko (gi P K sk ext) (gi P K sk ext) G where
 same:=vC (o8 h)
 gl:=h.glob
 tab:=h.tab
 gm:=h.glob
 load _ _ _:=rfl
 store _ _ _ _:=rfl
 fn ρ g:=CX h (vC (o8 h)) (λf fn hf=>⟨fn,hf, .inl rfl⟩) ρ g
 ty:=CW h
 mix:=rfl
 ex:=by rw[o7];exact h.ex
 lw:=by rw[o7];exact h.lw
 res f fn hf:=by obtain⟨_,_,_,h3⟩:=zi h hf;exact⟨fn,hf,rfl,h3⟩
 none f hf:=hf
 inits:=rfl
theorem rS(h:uB P K sk ext G)(f:FuncId)(fn:Func)(c:Code)(i:(gi P K sk ext).funcs[f]?=some fn)(d:fn.body=some c):rN f c=true:=by
 obtain⟨l,e,g⟩:=lv i;rcases g with⟨rfl,rfl⟩|⟨_,j,rfl⟩|⟨_,rfl,m,b,a⟩|⟨_,rfl⟩
 ·obtain⟨m,b,a⟩:=h.kbody;rw[d]at b;cases b;exact LB h.kex a
 ·obtain⟨k,_⟩:=h.ext f fn j e;rw[k]at d;cases d
 ·rw[d]at b;cases b;exact a
 ·cases d
theorem rR(h:uB P K sk ext G)(f:FuncId)(fn:Func)(d:(gi P K sk ext).funcs[f]?=some fn)(b:fn.body.isSome=true)(j:f≠K):kH (gi P K sk ext) P f:=by
 obtain⟨l,c,e⟩:=lv d;rcases e with⟨rfl,_⟩|⟨_,g,rfl⟩|⟨_,rfl,m,i,a⟩|⟨_,rfl⟩
 ·exact absurd rfl j
 ·obtain⟨k,_⟩:=h.ext f fn g c;rw[k]at b;cases b
 ·exact⟨fn,fn,d,c,rfl,rfl,m,i,a⟩
 ·cases b
end
end
section
open Go.RowKit
theorem sH(op:BinOp)(x y:Int):0<=bits op .u64 x y:=by unfold bits;simp only[QZ];omega
def tG(x k:Int):Int:=
 bits .or .u32 (Qk.wrap (x*2^min (bits .and .u64 (R4.wrap k) 31).toNat 32)) (x/2^min (R4.wrap (32- bits .and .u64 (R4.wrap k) 31)).toNat 32)
def dT(x a b c:Int):Int:=bits .xor .u32 (bits .xor .u32 (tG x (-a)) (tG x (-b))) (tG x (-c))
def gO(x a b c:Int):Int:=bits .xor .u32 (bits .xor .u32 (tG x (-a)) (tG x (-b))) (x/2^c.toNat)
theorem pK{a b:List UInt8}(h:a=b):Ending.returned (.string ⟨a.toArray⟩)= .returned (.string ⟨b.toArray⟩):=by rw[h]
def cZ(l:List UInt8):Int:=l.foldl (λn b=>256*n+(b.toNat:Int)) 0
theorem o6(l:List UInt8)(b:UInt8):cZ (l++[b])=256*cZ l+(b.toNat:Int):=by simp[cZ,List.foldl_append]
theorem yT(n:Nat):∀l:List UInt8,l.length=n->0<=cZ l/\cZ l<256^n:=by
 induction n with
 |zero=>intro l h;rw[List.length_eq_zero_iff]at h;subst h;simp[cZ]
 |succ n a=>
  intro l h;obtain⟨r,b,rfl⟩:∃r b,l=r++[b]:=⟨l.dropLast,l.getLast (by intro c;simp[c]at h),(List.dropLast_concat_getLast _).symm⟩;have:=a r (by simp at h;omega);rw[o6];have d:=b.toNat_lt;rw[Int.pow_succ];omega
theorem jj(l:List UInt8)(n:Nat)(h:l.length<=n):0<=cZ l/\cZ l<256^n:=by have a:=yT _ l rfl;refine⟨a.1,Int.lt_of_lt_of_le a.2 ?_⟩;have d:=Nat.pow_le_pow_right (n:=256) d_ h;have c:=Q1 256 l.length;have b:=Q1 256 n;rw[show((256:Nat):Int)=256 from rfl]at c b;rw[←c,←b];exact Int.ofNat_le.2 d
theorem GF(n:Int)(b:UInt8)(a:0<=n)(d:n<72057594037927936):bits .or .u64 (n*256) (R4.wrap (b.toNat:Int))=256*n+(b.toNat:Int):=by
 have c:=b.toNat_lt;obtain⟨m,rfl⟩:=Int.eq_ofNat_of_zero_le a;rw[QZ,Int.emod_eq_of_lt o_ o_];have e:((m:Int)*256)=((m*256:Nat):Int):=o_
 rw[e,u64_or_nat _ _ o_ o_,nat_join 8 (m*256) b.toNat o_ o_];omega
theorem sR{k:IntKind}{a b:Int}(h:a=b):Ending.returned (.int k a)= .returned (.int k b):=by rw[h]
def da(n:Nat):Nat->List UInt8
 |0=>[]
 |k+1=>da (n/256) k++[RR n]
theorem cR(k:Nat):∀n,(da n k).length=k:=by
 induction k with
 |zero=>intro n;rfl
 |succ k a=>intro n;simp[da,a]
theorem vP(j:Nat):∀n,da n (j+1)=RR (n/256^j)::da n j:=by
 induction j with
 |zero=>intro n;simp[da]
 |succ j a=>
  intro n;rw[da,a (n/256),da,Nat.div_div_eq_div_mul,←Nat.pow_succ',List.cons_append]
def aV(l:List UInt8):List Value:=l.map λb=>Value.int .u8 (b.toNat:Int)
theorem cj(l:List UInt8):(aV l).length=l.length:=by simp[aV]
def DY(n k m:Nat):List Value:=OF m (Value.int .u8 0)++aV (da n (k- m))
theorem Aw(n k m:Nat)(h:m<=k):(DY n k m).length=k:=by simp[DY,cj,cR];omega
theorem DX(n k:Nat):DY n k k=OF k (Value.int .u8 0):=by simp[DY,da,aV]
theorem J4(n k:Nat):DY n k 0=aV (da n k):=by simp[DY]
theorem J3(n k p:Nat):(DY n k (p+1))[p]?=some (Value.int .u8 0):=by rw[DY,Q9 s_];simp
theorem J2(n k p:Nat)(h:p<k)(v:Int)(hv:v=((n/256^(k-(p+1)))%256:Nat)):(DY n k (p+1)).set p (Value.int .u8 v)=DY n k p:=by subst hv;rw[DY,DY,show k- p=(k-(p+1))+1 from o_,vP,List.replicate_succ',aV,aV,List.map_cons,Ru,Ra _ _ s_];simp
def aM(l:List Int):List Value:=l.map λx=>Value.int .u32 x
theorem aZ(l:List Int):(aM l).length=l.length:=by simp[aM]
def rl(B:List UInt8)(i:Nat):Int:=Qk.wrap (cZ ((B.drop (4*i)).take 4))
def rQ(W:List Int)(i:Nat):Int:=
 Qk.wrap (Qk.wrap (Qk.wrap (W.getD (i- 16) 0+gO (W.getD (i- 15) 0) 7 18 3)+W.getD (i- 7) 0)+gO (W.getD (i- 2) 0) 17 19 10)
theorem yW(W:List Int)(m:Nat):rQ W (m+16)=Qk.wrap (Qk.wrap (Qk.wrap (W.getD m 0+gO (W.getD (m+1) 0) 7 18 3)+W.getD (m+9) 0)+gO (W.getD (m+14) 0) 17 19 10):=by rw[rQ,show m+16- 16=m from o_,show m+16- 15=m+1 from o_,show m+16- 7=m+9 from o_,show m+16- 2=m+14 from o_]
def bZ(B:List UInt8):Nat->List Int
 |0=>[]
 |k+1=>bZ B k++[if k<16 then rl B k else rQ (bZ B k) k]
theorem cn(B:List UInt8)(k:Nat):(bZ B k).length=k:=by
 induction k with
 |zero=>rfl
 |succ k a=>simp[bZ,a]
def cO(B:List UInt8)(k:Nat):List Int:=bZ B k++OF (64- k) 0
theorem uN(B:List UInt8)(k:Nat)(h:k<=64):(cO B k).length=64:=by simp[cO,cn];omega
theorem tE(B:List UInt8)(k:Nat)(h:k<64)(v:Int)(hv:v=if k<16 then rl B k else rQ (bZ B k) k):(aM (cO B k)).set k (.int .u32 v)=aM (cO B (k+1)):=by subst hv;rw[cO,cO,show 64- k=(64-(k+1))+1 from o_,List.replicate_succ,aM,aM,bZ];rw[QW,Ra _ _ (by simp[cn])];simp[cn]
theorem lV(B:List UInt8)(k j:Nat)(h:j<k):(aM (cO B k))[j]?=some (.int .u32 ((bZ B k).getD j 0)):=by rw[cO,aM,QW,Q9 (by simp[cn];omega)];simp[cn,h]
theorem rB(B:List UInt8)(k:Nat)(a:k<64):(aM (cO B k))[k]?=some (.int .u32 0):=by rw[cO,aM,QW,PY (by simp[cn])];rw[List.map_replicate,List.getElem?_replicate,if_pos (by simp[cn];omega)]
theorem rC(B:List UInt8):cO B 64=bZ B 64:=by simp[cO]
theorem iH(l:List Int):∀v∈aM l,v.oneCell'=true:=by intro v a;simp only[aM,Rs]at a;obtain⟨x,_,rfl⟩:=a;rfl
theorem ul(l:List UInt8):∀v∈aV l,v.oneCell'=true:=by intro v a;simp only[aV,Rs]at a;obtain⟨x,_,rfl⟩:=a;rfl
theorem fS{p:Tmp}{ty:TypeId}(h:fn.results=#[.cell p ty])(tmps:Array Value)(w:World)(b o:Nat)(cs:List Value)(d:TypeDesc)
 (e:tmps.getD p undef= .pk b o) (i:w.rangeAt b o cs)
 (c:P.underlying ty=some d) (g:d.isRow=true) (f:(P.info? ty).map (·.size)=some cs.length):
 (results fn tmps).run P w= .ok (.agg cs.toArray) w:=by
 have a:tmps[p]?.getD undef= .pk b o:=by simpa using e
 simp[results,h,a,asAddr,run_loadVar_mid w b o ty cs d i c g f]
theorem bN{B:Nat}(a:B<=b):∀(c:List Value) (o:Nat) (w0 w:World),Below B w0 w->Below B w0 (w.setCells b o c)
 |[],_,_,_,h=>h
 |v::r,o,w0,w,h=>by rw[World.setCells];exact bN a r (o+1) w0 _ (h.setCell (p:=⟨b,o,none⟩) a v)
theorem Jx{a b:List Value}(h:a=b):Ending.returned (.agg a.toArray)= .returned (.agg b.toArray):=by rw[h]
theorem dt(z:Value)(n:Nat):madeCells #[z] n=(OF n z).toArray:=by
 apply RL
 ·simp[madeCells]
 ·intro i b a;simp[madeCells,Nat.mod_one]
theorem dm(w:World)(L:List Value)(t:TypeId)(b:Nat)(c:b=w.heap.size):(w.alloc (.cells L.toArray t)).rangeAt b 0 L:=λj v a=>by rw[IS,QE _ _ _ _ c];simpa using a
theorem cX(w:World)(c:Array Value)(t:TypeId)(b n:Nat)(a:b=w.heap.size)(d:c.size=n):(w.alloc (.cells c t)).there b 0 n:=λj e=>by rw[IS,QE _ _ _ _ a,World.frozen?_alloc_at _ _ _ _ a];simp[d,e]
theorem bC{B o:Nat}{L:List Value}(h:Below B w w')(d:b<B)(c:w.rangeAt b o L):w'.rangeAt b o L:=λj v a=>by rw[h.cell (p:=⟨b,o+j,none⟩) d];exact c j v a
theorem eO{B o:Nat}(h:Below B w w')(a:b<B)(c:w.there b o n):w'.there b o n:=λj d=>by rw[h.cell (p:=⟨b,o+j,none⟩) a,h.frozen (p:=⟨b,o+j,none⟩) a];exact c j d
theorem kw{o:Nat}{L:List Value}(h:w.rangeAt b o L):(w.drewN n).rangeAt b o L:=h
theorem rr{o:Nat}(h:w.there b o k):(w.drewN n).there b o k:=h
end
end Go.Proofs.YtkmoglhgkcnalaaGreatDoor
namespace Go.Proofs.YtkmoglhgkcnalaaGreatDoor
open Go.RowKit
structure St where
 a:Int
 b:Int
 c:Int
 d:Int
 e:Int
 f:Int
 g:Int
 h:Int
def St.t(s:St)(k w:Int):Int:=
 Qk.wrap (Qk.wrap (Qk.wrap (Qk.wrap (s.h+dT s.e 6 11 25)+bits .xor .u32 (bits .and .u32 s.e s.f) (bits .and .u32 (bits .xor .u32 4294967295 s.e) s.g))+k)+w)
def St.u(s:St):Int:=
 Qk.wrap (dT s.a 2 13 22+bits .xor .u32 (bits .xor .u32 (bits .and .u32 s.a s.b) (bits .and .u32 s.a s.c)) (bits .and .u32 s.b s.c))
def St.next(s:St)(k w:Int):St:=
 ⟨Qk.wrap (s.t k w+s.u),s.a,s.b,s.c,Qk.wrap (s.d+s.t k w),s.e,s.f,s.g⟩
def St.of(H:List Int):St:=⟨H.getD 0 0,H.getD 1 0,H.getD 2 0,H.getD 3 0,H.getD 4 0,H.getD 5 0,H.getD 6 0,H.getD 7 0⟩
def St.list(s:St):List Int:=[s.a,s.b,s.c,s.d,s.e,s.f,s.g,s.h]
def cG(K W H:List Int):Nat->St
 |0=>St.of H
 |i+1=>(cG K W H i).next (K.getD i 0) (W.getD i 0)
def BH(K H:List Int)(B:List UInt8):List Int:=(cG K (bZ B 64) H 64).list
def eK(H G:List Int)(k:Nat):List Int:=(List.range 8).map λi=>if i<k then Qk.wrap (H.getD i 0+G.getD i 0)else H.getD i 0
def mg(K H:List Int)(B:List UInt8):List Int:=eK H (BH K H B) 8
theorem mf(H G:List Int)(k:Nat):(eK H G k).length=8:=by simp[eK]
theorem nb(K H:List Int)(B:List UInt8):(mg K H B).length=8:=mf _ _ _
theorem yY(H G:List Int)(h:H.length=8):eK H G 0=H:=by
 apply List.ext_getElem
 ·simp[eK,h]
 ·intro i h1 h2;simp[eK,List.getD,Q0 h2]
theorem EA(H G:List Int)(k:Nat)(h:k<8):(aM (eK H G k))[k]?=some (.int .u32 (H.getD k 0)):=by simp[eK,aM,h]
theorem Ez(H G:List Int)(k:Nat)(v:Int)(hv:v=Qk.wrap (H.getD k 0+G.getD k 0)):(aM (eK H G k)).set k (.int .u32 v)=aM (eK H G (k+1)):=by
 subst hv;apply List.ext_getElem
 ·simp[eK,aM]
 ·intro i h1 h2;simp only[eK,aM,List.map_map,List.getElem_set,List.getElem_map,List.getElem_range,Function.comp];by_cases e:k=i
  ·subst e;simp
  ·rw[if_neg e];by_cases e2:i<k
   ·rw[if_pos e2,if_pos o_]
   ·rw[if_neg e2,if_neg o_]
theorem NG(s:St)(k w:Int):(s.h+dT s.e 6 11 25+bits .xor .u32 (bits .and .u32 s.e s.f) (bits .and .u32 (bits .xor .u32 (if Qk.signed=true then-1 else Qk.max) s.e) s.g)+k+w)%4294967296=s.t k w:=by
 have e:(if Qk.signed=true then-1 else Qk.max)=(4294967295:Int):=d_
 rw[e,St.t];simp only[Qn];omega
theorem OQ(s:St):(dT s.a 2 13 22+bits .xor .u32 (bits .xor .u32 (bits .and .u32 s.a s.b) (bits .and .u32 s.a s.c)) (bits .and .u32 s.b s.c))%4294967296=s.u:=by rw[St.u,Qn]
theorem LE(s:St)(k w:Int):((s.h+dT s.e 6 11 25+bits .xor .u32 (bits .and .u32 s.e s.f) (bits .and .u32 (bits .xor .u32 (if Qk.signed=true then-1 else Qk.max) s.e) s.g)+k+w)%4294967296+
 (dT s.a 2 13 22+bits .xor .u32 (bits .xor .u32 (bits .and .u32 s.a s.b) (bits .and .u32 s.a s.c)) (bits .and .u32 s.b s.c))%4294967296)%4294967296=(s.next k w).a:=by rw[NG,OQ,St.next,Qn]
theorem LD(s:St)(k w:Int):(s.d+(s.h+dT s.e 6 11 25+bits .xor .u32 (bits .and .u32 s.e s.f) (bits .and .u32 (bits .xor .u32 (if Qk.signed=true then-1 else Qk.max) s.e) s.g)+k+w)%4294967296)%4294967296=(s.next k w).e:=by rw[NG,St.next,Qn,Qn]
end Go.Proofs.YtkmoglhgkcnalaaGreatDoor
namespace Go.Proofs.YtkmoglhgkcnalaaGreatDoor
open Go
variable{n b i N l m k j b3 b4 b7 b9 Wg wd:Nat}{w w' w0 wL wM wE:World}{fr:Frame}{v:Value}{cs:List Frame}{args cv:Array Value}{V RO D V0:Nat->Prop}{q main listen ql:Bool}{g:Goroutine}{a:Act}{K:List Item}{P PL PM:Program}{x:Operand}{ops:Array Oper}{KS:List Int}{t u:TypeId}{o:Oper}{f:FuncId}{es:Array Event}{Goal:Goroutine->World->Prop}{fn:Func}{rest:List Nat}{ds:List Deferred}{X:aW}{F:List (Nat×Value)}{e:Event}{listed:Array Bool}{c:Int}{s msg key sig:ByteArray}{ρ:Nat->Nat}{ev:Operand->Value}{Post:Value->World->Prop}
section
open Go.RowKit
theorem LO(L:List Int)(k:Nat)(h:k<L.length):(aM L)[k]?=some (.int .u32 (L.getD k 0)):=by simp[aM,h]
theorem Lw{o:Nat}{L:List Int}(h:w.rangeAt b o (aM L))(k:Nat)(a:k<L.length):w.cell? ⟨b,o+k,none⟩=some (.int .u32 (L.getD k 0)):=h k _ (LO L k a)
theorem gU{L:List Int}(h:w.rangeAt b 0 (aM L))(k:Nat)(a:k<L.length):w.cell? ⟨b,k,none⟩=some (.int .u32 (L.getD k 0)):=by have:=Lw h k a;rwa [IS]at this
structure MV (w M:World) (H KS S:List Int) (c:Nat):Prop where
 below:Bw w M
 hrow:M.rangeAt w.heap.size 0 (aM H)
 hthere:M.there w.heap.size 0 8
 res:M.there (w.heap.size+1+1) 0 8
 srow:M.rangeAt c 0 (aM S)
 krow:M.rangeAt 0 0 (aM KS)
theorem Ey(w b:World)(H KS S:List Int)(B:List UInt8)(T i h:TypeId)(e a:Array Value)(n:e.size=8)(g:a.size=64)(k:S.length=64)(m:H.length=8)
 (l:w.rangeAt 0 0 (aM KS)) (o:0<w.heap.size)
 (d:Below (((w.alloc (.cells (aM H).toArray T)).alloc (.cells (aV B).toArray i)).alloc (.cells e T)).heap.size (((w.alloc (.cells (aM H).toArray T)).alloc (.cells (aV B).toArray i)).alloc (.cells e T)) b):
 MV w ((b.alloc (.cells a h)).setCells b.heap.size 0 (aM S)) H KS S b.heap.size:=by
 have j:=d.size;simp at j;have c:Bw w b:=((((Below.refl _ _).alloc (d5 _) _).alloc s_ _).alloc (by simp;omega) _).trans (d.mono (by simp;omega));have f:(b.alloc (.cells a h)).there b.heap.size 0 (aM S).length:=by rw[aZ,k];exact cX _ _ _ _ _ rfl g
 refine⟨bN o_ _ _ _ _ (c.alloc o_ _), ?_, ?_, ?_, ?_, ?_⟩
 ·refine Qi (Qr (bC d (by simp;omega) (Qr (Qr (dm _ _ _ _ rfl) _) _)) _) _ _ _ (S8 o_)
 ·refine QD (Ro (eO d (by simp;omega) (Ro (Ro (cX _ _ _ _ _ rfl (by simp[aZ,m])) _) _)) _) _ _ _
 ·refine QD (Ro (eO d s_ (cX _ _ _ _ _ s_ n)) _) _ _ _
 ·exact AI _ _ _ _ f
 ·refine Qi (Qr (bC c o l) _) _ _ _ (S8 o_)
theorem wQ{c:Code}{Q:Exit->Act->World->Prop}{W:World}(b:World->Prop)(h:b W)(k:∀M,b M->Code.wp P c Q a M):Code.wp P c Q a W:=k W h
theorem fR{o:Nat}(h:w.there b o n)(a k:Nat)(v:Value):(w.setCell ⟨a,k,none⟩ v).there b o n:=QD h a k [v]
theorem jv{L:List Value}(h:w.rangeAt b 0 L)(v:Value):(w.setCell ⟨b,k,none⟩ v).rangeAt b 0 (L.set k v):=λj u a=>by
 rw[IS];have d:j<L.length:=by have:=(mx.1 a).1;simpa using this
 have c:=h j _ (Q0 d);rw[IS]at c;by_cases e:k=j
 ·subst e;rw[World.cell?_setCell_same _ _ _ c];simp[d]at a;rw[a]
 ·rw[World.cell?_setCell_other _ _ _ _ (λh=>e (by injection h)),c];rw[List.getElem?_set_ne e,Q0 d]at a;exact a
def H0:List Int:=[1779033703,3144134277,1013904242,2773480762,1359893119,2600822924,528734635,1541459225]
def cx(KS:List Int)(L:List UInt8):Nat->List Int
 |0=>H0
 |n+1=>mg KS (cx KS L n) ((L.drop (64*n)).take 64)
theorem cW(KS:List Int)(L:List UInt8)(n:Nat):(cx KS L n).length=8:=by
 cases n with
 |zero=>rfl
 |succ n=>exact nb _ _ _
theorem kR(KS:List Int)(L p:List UInt8):∀n,64*n<=L.length->cx KS (L++p) n=cx KS L n
 |0,_=>rfl
 |n+1,h=>by rw[cx,cx,kR KS L p n o_,List.drop_append_of_le_length o_,List.take_append_of_le_length (by simp;omega)]
def il(blk q:List UInt8)(h:Nat):List UInt8:=blk.take h++q++blk.drop (h+q.length)
theorem gV(a q:List UInt8)(h:Nat)(b:a.length=64)(c:h+q.length<=64):(il a q h).length=64:=by simp[il,b];omega
theorem PS(a q:List UInt8)(h:Nat)(c:a.length=64)(b:h+q.length<=64):(il a q h).take (h+q.length)=a.take h++q:=by rw[il,List.take_append_of_le_length (by simp;omega),QQ (by simp;omega)]
theorem E4(a L q:List UInt8)(e:a.length=64)(d:a.take (L.length%64)=L.drop (64*(L.length/64)))(f:L.length%64+q.length<64):
 (L++q).length/64=L.length/64/\(L++q).length%64=L.length%64+q.length/\
 (il a q (L.length%64)).take ((L++q).length%64)=(L++q).drop (64*((L++q).length/64)):=by
 have c:(L++q).length/64=L.length/64:=by simp;omega
 have b:(L++q).length%64=L.length%64+q.length:=by simp;omega
 refine⟨c,b, ?_⟩;rw[c,b,PS _ _ _ e o_,d,List.drop_append_of_le_length o_]
theorem E5(KS:List Int)(a L q:List UInt8)(c:a.length=64)(d:a.take (L.length%64)=L.drop (64*(L.length/64)))(f:L.length%64+q.length=64):
 (L++q).length/64=L.length/64+1/\(L++q).length%64=0/\(L++q).drop (64*((L++q).length/64))=[]/\
 cx KS (L++q) ((L++q).length/64)=mg KS (cx KS L (L.length/64)) (il a q (L.length%64)):=by
 have b:(L++q).length/64=L.length/64+1:=by simp;omega
 have g:(L++q).length%64=0:=by simp;omega
 refine⟨b,g, ?_, ?_⟩
 ·rw[b,List.drop_eq_nil_iff];simp;omega
 ·rw[b,cx,kR _ _ _ _ o_]
  congr 1
  have e:(il a q (L.length%64)).take 64=a.take (L.length%64)++q:=by
   have:=PS a q (L.length%64) c o_
   rwa [f]at this
  rw[QQ (by rw[gV _ _ _ c o_];omega)]at e;rw[e,d,List.drop_append_of_le_length o_,QQ (by simp;omega)]
structure ff (w:World) (b:Nat) (KS:List Int) (L blk:List UInt8) (n:Nat):Prop where
 len:blk.length=64
 words:w.rangeAt b 0 (aM (cx KS L (L.length/64)))
 block:w.rangeAt b 8 (aV blk)
 length:w.cell? ⟨b,72,none⟩=some (.int .u64 (n:Int))
 tail:blk.take (L.length%64)=L.drop (64*(L.length/64))
 there:w.there b 0 73
theorem iu{o o' a:Nat}(h:w.there b o n)(e:o<=o')(d:o'+a<=o+n):w.there b o' a:=λj c=>by
 have:=h (o'+j- o) o_
 rwa [show o+(o'+j- o)=o'+j from o_]at this
theorem pH(w:World)(T ty e:TypeId)(p:P.underlying T=some (.slice e))(k:(P.info? e).isSome=true)(q:TypeId)(b o a d n:Nat)(s:ByteArray)(l:Nat.min s.size a=n)(f:w.there b o n):
 (Builtin.copy_ #[T,q] ty #[.slice (some ⟨b,o,none⟩) a d, .s s]).run P w= .ok (goInt n) (w.setCells b o (aV (s.data.toList.take n))):=by
 cases g:P.info? e with
 |none=>simp[g]at k
 |some i=>
  have h:(s.data.toList.take n).map (λb:UInt8=>Value.int .u8 (b.toNat:Int))=aV (s.data.toList.take n):=rfl;have r:(aV (s.data.toList.take n)).length<=n:=by simp[aV];omega
  have c:=run_storeCells_cells (P:=P) b o (aV (s.data.toList.take n)) 0 w (λj m=>by simpa using(f j o_).1) (λj m=>by simpa using(f j o_).2) (ul _);simp only[Nat.add_zero]at c;simp[Builtin.copy_,run_underlying p,Builtin.lenOf,l,sizeOf,typeInfo,g,Builtin.firstCells];rw[List.map_take]at h;rw[h,c];rfl
theorem ff.copied{L c:List UInt8}(h:ff w b KS L c n)(q:List UInt8)(g:L.length%64+q.length<=64):
 (w.setCells b (8+L.length%64) (aV q)).rangeAt b 8 (aV (il c q (L.length%64)))/\
 (w.setCells b (8+L.length%64) (aV q)).rangeAt b 0 (aM (cx KS L (L.length/64)))/\
 (w.setCells b (8+L.length%64) (aV q)).cell? ⟨b,72,none⟩=some (.int .u64 (n:Int))/\
 (w.setCells b (8+L.length%64) (aV q)).there b 0 73:=by
 have f:(aV q).length=q.length:=cj q;refine⟨?_, ?_, ?_,QD h.there _ _ _⟩
 ·intro j v d;have e:w.there b (8+L.length%64) (aV q).length:=iu h.there o_ o_;have k:j<64:=by
   have:=(mx.1 d).1
   rwa [cj,gV _ _ _ h.len g]at this
  rw[aV,R2,Qh]at d;obtain⟨x,a,rfl⟩:=d;by_cases i:j<L.length%64
  ·rw[World.cell?_setCells_out b _ _ _ _ (λ_ _=>S8 (by show 8+j<8+L.length%64;omega))];refine h.block j _ ?_;rw[il,Ru,Q9 (by simp[h.len];omega),List.getElem?_take_of_lt i]at a;rw[aV,R2,a];rfl
  ·by_cases l:j<L.length%64+q.length
   ·have:=AI w b (8+L.length%64) (aV q) e (j- L.length%64) (.int .u8 (x.toNat:Int)) (by rw[il,Ru,PY (by simp;omega),Q9 (by simp[h.len];omega)]at a;simp only[List.length_take,h.len]at a;rw[show min (L.length%64) 64=L.length%64 from o_]at a;rw[aV,R2,a];rfl)
    rwa [show 8+L.length%64+(j- L.length%64)=8+j from o_]at this
   ·rw[World.cell?_setCells_out b _ _ _ _ (λ_ _=>Or.inr (by show 8+L.length%64+(aV q).length<=8+j;omega))];refine h.block j _ ?_;rw[il,PY (by simp[h.len];omega),List.getElem?_drop]at a;simp only[List.length_append,List.length_take,h.len]at a;rw[show L.length%64+q.length+(j-(min (L.length%64) 64+q.length))=j from o_]at a;rw[aV,R2,a];rfl
 ·exact Qi h.words _ _ _ (Or.inr (S8 (by rw[aZ,cW];omega)))
 ·rw[World.cell?_setCells_out b _ _ _ _ (λ_ _=>Or.inr (by show 8+L.length%64+(aV q).length<=72;omega))];exact h.length
theorem ff.setLen{L a:List UInt8}(h:ff w b KS L a n)(m:Nat):ff (w.setCell ⟨b,72,none⟩ (.int .u64 (m:Int))) b KS L a m:=by
 have e:w.setCell ⟨b,72,none⟩ (.int .u64 (m:Int))=w.setCells b 72 [.int .u64 (m:Int)]:=rfl;rw[e];exact⟨h.len,Qi h.words _ _ _ (Or.inr (S8 (by rw[aZ,cW];omega))),Qi h.block _ _ _ (Or.inr (S8 (by rw[cj,h.len];omega))),
  by have:=AI w b 72 [.int .u64 (m:Int)] (iu h.there o_ s_) 0 _ rfl;exact this,h.tail,QD h.there _ _ _⟩
theorem eP{a b c:World}{row:Option Nat}(h:a.grownBy b row)(k:b.grownBy c row):a.grownBy c row:=
 ⟨k.os.trans h.os,k.tape.trans h.tape,k.output.trans h.output,Nat.le_trans h.size k.size,λi e d=>(k.block i (d6 e h.size) d).trans (h.block i e d)⟩
theorem rW{row:Option Nat}(h:Bw w w'):w.grownBy w' row:=⟨h.os,h.tape,h.output,h.size,λk a _=>h.block k a⟩
theorem ow(w:World)(b o:Nat)(v:Value):w.grownBy (w.setCell ⟨b,o,none⟩ v) (some b):=
 ⟨rfl,rfl,rfl,by simp[Q6],λk _ a=>Below.heap_setCell _ _ _ _ (λe=>a (by rw[e]))⟩
theorem eL(b:Nat):∀(a:List Value) (o:Nat) (w:World),w.grownBy (w.setCells b o a) (some b)
 |[],_,w=>World.grownBy.refl w _
 |v::r,o,w=>eP (ow w b o v) (eL b r (o+1) _)
theorem ff.more{L a:List UInt8}(h:ff w b KS L a n)(q:List UInt8)(e:L.length%64+q.length<64):
 ff (w.setCells b (8+L.length%64) (aV q)) b KS (L++q) (il a q (L.length%64)) n:=by obtain⟨j,i,g,f⟩:=h.copied q o_;obtain⟨d,k,c⟩:=E4 a L q h.len h.tail e;exact⟨gV _ _ _ h.len o_,by rw[d,kR _ _ _ _ o_];exact i,j,g,c,f⟩
theorem ff.full{e:World}{L a:List UInt8}(h:ff w b KS L a n)(q:List UInt8)(k:L.length%64+q.length=64)
 (d:Below w.heap.size (w.setCells b (8+L.length%64) (aV q)) e) (c:b<w.heap.size):
 ff (e.setCells b 0 (aM (mg KS (cx KS L (L.length/64)) (il a q (L.length%64))))) b KS (L++q) (il a q (L.length%64)) n:=by
 obtain⟨r,u,o,m⟩:=h.copied q o_;obtain⟨s,j,i,g⟩:=E5 KS a L q h.len h.tail k;have t:(aM (mg KS (cx KS L (L.length/64)) (il a q (L.length%64)))).length=8:=by rw[aZ,nb]
 have l:=bC d c r;have f:=eO d c m;refine⟨gV _ _ _ h.len o_, ?_,Qi l _ _ _ (Or.inr (Or.inr o_)), ?_, ?_,QD f _ _ _⟩
 ·rw[g];exact AI _ _ _ _ (iu f o_ o_)
 ·rw[World.cell?_setCells_out b _ _ _ _ (λ_ _=>Or.inr (by show 0+_<=72;omega)),d.cell (p:=⟨b,72,none⟩) c];exact o
 ·rw[j,i];rfl
theorem ge(b:Nat):∀(a:List Value) (o:Nat) (w:World),(w.setCells b o a).heap.size=w.heap.size
 |[],_,_=>rfl
 |v::r,o,w=>by rw[World.setCells,ge b r (o+1)];simp[Q6]
theorem yG{row:Option Nat}{o:Nat}{L:List Value}(h:w.grownBy w' row)(d:w.rangeAt b o L)(a:some b≠row):w'.rangeAt b o L:=λj v c=>h.cell (d j v c) a
theorem dD{K:Act->World->Prop}{Q:Exit->Act->World->Prop}(f:FuncId)(args:Array Value)(c:(execOp a.eval o).run P w= .ok (.enter f args) w)(v:Value)(R:World->Prop)
 (g:Calls P f args w λe b=>e= .returned v/\R b) (h:∀b,R b->K (a.put o.dst v) b):o.wp P a w K Q:=by unfold Oper.wp;rw[c,Oper.upon_enter];refine g.mono λe b d=> ?_;obtain⟨rfl,i⟩:=d;exact h _ i
theorem eU{o:Nat}{L:List Value}(h:w.rangeAt b o L):(World.drew w).rangeAt b o L:=(World.rangeAt_drew w b o L).2 h
theorem cr{Q:Exit->Act->World->Prop}{K:Act->World->Prop}(b:ops[i]?=some o)(c:o.guard=none)(h:o.wp P a w K Q):wpOp P ops Q i K a w:=by unfold wpOp;simp only[b];rw[if_pos (by simp[mw,c])];exact .inl h
theorem vl{Q:Exit->Act->World->Prop}{K:Act->World->Prop}(d:ops[i]?=some o)(g:o.guard=none)(f:FuncId)(args:Array Value)(c:(execOp a.eval o).run P w= .ok (.enter f args) w)(v:Value)(R:World->Prop)
 (j:Calls P f args w λe b=>e= .returned v/\R b) (h:∀b,R b->K (a.put o.dst v) b):wpOp P ops Q i K a w:=cr d g (dD f args c v R j h)
theorem wT{md:Region.Mode}{Q:Exit->Act->World->Prop}{d:Oper}{b:Nat}(i:Nat)(v:Value)
 (h:wpAny P md ops Q b (listed.setIfInBounds i true) (a.put d.dst v) w) (j:ops[i]?=some d:=by rfl) (f:Region.noSelect ops=true:=by kernel_rfl) (k:Region.free md ops listed i=true:=by kernel_rfl) (g:(Region.ready md ops listed).contains i=true:=by kernel_rfl)
 (l:∀c a w,Q (.panic c) (a.put d.dst v) w->Q (.panic c) a w:=by exact λ_ _ _ h=>h) (e:Yields P ops d v a:=by exact Or.inl ⟨by rfl,by intro w;go_simp⟩):wpAny P md ops Q (b+1) listed a w:=wpAny_take j f k g l e h
theorem kE{p:Nat->Prop}{x y:Nat}(c:p x)(b:p y):∀i∈[x,y],p i:=by
 intro i a;rcases PZ.1 a with rfl|a
 ·exact c
 ·rw[QN]at a;subst a;exact b
theorem cH{p:Nat->Prop}{x:Nat}(b:p x):∀i∈[x],p i:=by intro i a;rw[QN]at a;subst a;exact b
end
section
open Go.Conc
section
variable{G:Nat}{Stop:Goroutine->World->Prop}{base:List Frame}
theorem gt.mono{d:Nat->Prop}(h:gt V RO e)(hv:∀b,V b->d b):gt d RO e:=by
 obtain⟨c,f,g⟩:=e;cases c with
 |cell a=>exact⟨h.1,h.2.imp (hv _) id⟩
 |obj b=>exact⟨h.1,hv _ h.2⟩
 |_=>exact h
theorem cC.mono{c:Nat->Prop}(h:cC V RO w w' es)(hv:∀b,V b->c b):cC c RO w w' es:=
 ⟨λb a d=>h.keep b a λx=>d (hv b x),h.size,h.os,h.output,h.tape,λe f=>(h.ev e f).mono λb a=>a.imp (hv b) id⟩
end
end
section
open Go Go.Conc
open Go.ConcR (DC0)
section
variable{Stop:Goroutine->World->Prop}
theorem pR(h:∀e∈es,gt V RO e):cC V RO w w es:=⟨λ_ _ _=>rfl,d5 _,rfl,rfl,rfl,λe a=>(h e a).mono λ_ b=> .inl b⟩
theorem nY(V RO:Nat->Prop)(w:World)(o:Obj):cC V RO w (w.alloc o) #[]:=
 ⟨λb c _=>by show(w.heap.push o)[b]?=_;rw[Array.getElem?_push,if_neg (Nat.ne_of_lt c)],by show _<=(w.heap.push o).size;rw[Array.size_push];omega,rfl,rfl,rfl,λe a=>by simp at a⟩
theorem CL{a:Addr}(d:V a.block)(v:Value):cC V RO w (w.setCell a v) #[⟨.cell a,true,false⟩]:=
 ⟨λb _ f=>by simp only[Q6];exact kM λe=>f (e▸d),by simp[Q6],rfl,rfl,rfl,λe c=>by simp only[Qw,QN]at c;subst c;exact⟨rfl, .inl (.inl d)⟩⟩
theorem aX.own(c:g.status= .running)(h:∀a,bQ X i V w a->∃g' w' es,stepG X.P false g a= .go g' w' es/\cC V X.RO a w' es/\aX X i ⟨co V a w',g',w'⟩):aX X i ⟨V,g,w⟩:=
 aX.step c λa b=>let ⟨g',w',es,h1,h2,h3⟩:=h a b;⟨g',w',es,h1, .inl h2,h3⟩
theorem aX.put(f:g.status= .running)(h:∀a,bQ X i V w a->∃g' c v,X.mine i c/\stepG X.P false g a= .go g' (a.setCell (X.at c) v) #[⟨.cell (X.at c),true,false⟩]/\aX X i ⟨V,g',a.setCell (X.at c) v⟩):aX X i ⟨V,g,w⟩:=by
 refine aX.step f λa d=> ?_;obtain⟨g',c,v,l,k,j⟩:=h a d;refine⟨g',_,_,k, .inr ⟨c,v,l,rfl,rfl⟩, ?_⟩;have e:co V a (a.setCell (X.at c) v)=V:=by
  funext b
  apply propext;exact⟨λh=>h.elim id λh=>absurd h.2 (by simpa[Q6]using h.1), .inl⟩
 show aX X i ⟨co V a (a.setCell (X.at c) v),g',_⟩;rw[e];exact j
end
end
section
open Go Go.Conc
open Go.ConcN (WgLive)
open Go.ConcR (KK WgAt stA smA rd wr DC0)
section
variable{R R':World->World->Prop}{D':World->World->Array Event->Prop}{Stop:Goroutine->World->Prop}{rel:Mark}
def L8(P:Program)(main:Bool)(g:Goroutine)(w:World):Prop:=∃g',stepG P main g w= .go g' w #[Go.ConcR.mk .disable]
def Ct(P:Program)(main:Bool)(R:World->World->Prop)(rel:Mark)(g:Goroutine)(w:World):Prop:=
 g.status= .running/\∃g',stepG P main g w= .go g' w #[Go.ConcR.mk rel]/\∃m,Goes P main R DC0 (L8 P main) m g' w
theorem GJ{a b:Mark}(h:(#[Go.ConcR.mk a]:Array Event)=#[Go.ConcR.mk b]):a=b:=by simpa[Go.ConcR.mk]using h
theorem JG(c:rel≠ .disable)(p:∀w,R w w)(i:∀w,R' w w)(u:∀g w,Stop g w->∃g',stepG P main g w= .go g' w #[Go.ConcR.mk rel])(s:∀w w',¬D' w w' #[Go.ConcR.mk .disable]):
 ∀(m n:Nat) (g:Goroutine) (w:World),Goes P main R DC0 (L8 P main) m g w->Goes P main R' D' Stop n g w->False:=by
 have a:∀n g w,Goes P main R' D' Stop n g w->∀g' k,stepG P main g w= .go g' w k->k≠#[Go.ConcR.mk rel]->D' w w k/\∃f,n=f+1/\Goes P main R' D' Stop f g' w:=by
  intro n g w h g' k b o;rcases Goes.cases h with d|⟨f,rfl,d⟩
  ·obtain⟨v,j⟩:=u g w (d w (i w));rw[b]at j;cases j;exact absurd rfl o
  ·obtain⟨v,y,x,j,r,q⟩:=d w (i w);rw[b]at j;cases j;exact⟨r,f,rfl,q⟩
 intro m;induction m with
 |zero=>
  intro n g w h l;obtain⟨g',b⟩:=h w (p w);exact s _ _ (a n g w l g' _ b λe=>c (GJ e).symm).1
 |succ m t=>
  intro n g w h l;rcases Goes.cases h with d|⟨z,e,d⟩
  ·obtain⟨g',b⟩:=d w (p w);exact s _ _ (a n g w l g' _ b λe=>c (GJ e).symm).1
  ·cases e;obtain⟨g',w',k,b,⟨rfl,rfl⟩,r⟩:=d w (p w);obtain⟨_,f,rfl,q⟩:=a n g w' l g' _ b s_;exact t f g' w' r q
theorem C4(p:rel≠ .disable)(G:∀w,R w w)(j:∀w,R' w w)(i:∀w w',R w w'->R' w w')(l:∀a b c,R' a b->R' b c->R' a c)(A:∀g w,Stop g w->∃g',stepG P main g w= .go g' w #[Go.ConcR.mk rel])(H:∀w w',¬D' w w' #[Go.ConcR.mk .disable]):
 ∀(m n:Nat) (g:Goroutine) (w:World),Goes P main R DC0 (Ct P main R rel) m g w->Goes P main R' D' Stop n g w->Goes P main R DC0 Stop m g w:=by
 have k:∀n g w,Ct P main R rel g w->Goes P main R' D' Stop n g w->Stop g w:=by
  intro n g w ⟨_,g',f,m,F⟩ h;rcases Goes.cases h with o|⟨u,rfl,o⟩
  ·exact o w (j w)
  ·exfalso;obtain⟨C,D,z,s,B,x⟩:=o w (j w);rw[f]at s;cases s;exact JG p G j A H m u _ _ F x
 intro m;induction m with
 |zero=>exact λn g w h t d e=>k n g d (h d e) (Goes.rely l t (i _ _ e))
 |succ m E=>
  intro n g w h t;rcases h with h|⟨o,h⟩
  ·exact .inl λd e=>k n g d (h d e) (Goes.rely l t (i _ _ e))
  ·refine .inr ⟨o,λd e=> ?_⟩;have r:=h d e;cases f:stepG P main g d with
   |go g' w' J=>
    rw[f,goes_go]at r;rw[goes_go];obtain⟨⟨s,B⟩,x⟩:=r;subst s B;refine⟨⟨rfl,rfl⟩, ?_⟩;have y:=Goes.rely l t (i _ _ e);rcases Goes.cases y with v|⟨u,rfl,v⟩
    ·obtain⟨C,q⟩:=A g _ (v _ (j _));rw[f]at q;simp at q
    ·obtain⟨C,D,z,q,_,I⟩:=v _ (j _);rw[f]at q;cases q;exact E u _ _ x I
   |_=>rw[f]at r;exact r.elim
end
end
section
open Go Go.Conc
open Go.ConcN (WgLive)
section
variable{G:Nat}
theorem gH{c:Frame}(d:fr.kind= .normal)(h:fr.defers=[])(b:fr.mode= .returning)(e:P.funcs[fr.fn]?=some fn)(a:(results fn fr.tmps).run P w= .ok v w)(f:(results fn fr.tmps).events P w #[]=#[])
 (main:Bool)  (j:g.frame=fr/\g.callers=c::cs/\g.status= .running/\g.dying=none):stepG P main g w= .go {frame:=c.finish v,callers:=cs,status:= .running,dying:=none} w:=by obtain⟨k,l,m,n,i⟩:=g;obtain⟨rfl,rfl,rfl,rfl⟩:=j;simp only at d h b e a f;simp[stepG,unwind,doReturn,d,h,b,e,a,f,seen,AS]
def pq(f:FuncId)(r:Nat)(Val:Value->Prop)(g:Goroutine)(_:World):Prop:=
 g.frame.fn=f/\g.frame.mode= .returning/\g.frame.defers=[]/\g.callers=[]/\∃v,g.frame.tmps[r]?=some v/\Val v
structure Iv (X:aW) (i:Nat) (G:Nat) (base:List Frame) (V0:Nat->Prop) (w0:World) (gL:Goroutine) (wL:World) (x:fm):Prop where
 rel:∃D ρ,cT G 0 D ρ wL x.w/\eN G D ρ base gL x.g/\∀b,D b->x.V (ρ b)/\w0.heap.size<=ρ b
 tab:kj wL x.w
 calm:aT wL
 since:bQ X i V0 w0 x.w
 more:∀b,V0 b->x.V b
theorem Aq(E:ko PL X.P G)(S:X.RO fh)(a8:∀f (fn:Func),PL.funcs[f]?=some fn->fn.body.isSome=true->kH PL X.P f){r:Nat}(hf:X.P.funcs[f]?=some fn)(a6:dX f=0)
 (I:∀(tmps:Array Value) v w,tmps[r]?=some v->(results fn tmps).run X.P w= .ok v w/\(results fn tmps).events X.P w #[]=#[]) {Val:Value->Prop} (B:∀v,Val v->bD v=true) {c:Frame}  {V0:Nat->Prop} {w0:World}
 (k:(∀b,V0 b\/X.RO b->b<w0.heap.size)/\X.Wg<w0.heap.size/\X.C<w0.heap.size)
 (Q:∀v V w,Val v->(∀b,V0 b->V b)->bQ X i V0 w0 w->aX X i ⟨V,{frame:=c.finish v,callers:=cs,status:= .running,dying:=none},w⟩)
 {K:Goroutine} {wL:World} (ht:gn PL (pq f r Val) K wL):∀x,Iv X i G (c::cs) V0 w0 K wL x->aX X i x:=by
 induction ht with
 | @stop K wL hs=>
   intro x hx;obtain⟨⟨D,t,h1,C,h3⟩,F,A,m,l⟩:=hx;obtain⟨s1,s2,s3,s4,v,s5,s6⟩:=hs;have z:=C.frame t h1.self;have a0:=C.callers t h1.self;rw[s4]at a0;have hv:x.g.frame.tmps[r]?=some v:=by rw[z];show(ig t K.frame.fn K.frame.tmps)[r]?=_;rw[ek t _ _ r (by rw[s1,a6];rfl),s5];simp[bI t v (B v s6)]
   refine aX.step C.run.2.1 λj y=> ?_;have a5:=gH (P:=X.P) (fr:=x.g.frame) (c:=c) (cs:=cs) (by rw[z];exact C.ok.kind) (by rw[z];show K.frame.defers.map _=[];rw[s3];rfl) (by rw[z];exact s2) (by rw[z];show X.P.funcs[K.frame.fn]?=_;rw[s1];exact hf) (I _ v j hv).1 (I _ v j hv).2 false
    (g:=x.g) ⟨rfl,by simpa using a0,C.run.2.1,C.run.2.2.2⟩
   refine⟨_,j,_,a5, .inl (dV _ _ _), ?_⟩;show aX X i ⟨co x.V j j,_,j⟩;rw[cI];exact Q v x.V j s6 l (m.trans ⟨y.own.mono λb s=>s.imp (l b) id,y.live,y.list,y.cells⟩)
 | @go K wL n hn a3 _ ih=>
   intro x hx;obtain⟨⟨D,t,h1,C,h3⟩,F,A,m,l⟩:=hx;refine aX.step C.run.2.1 λj y=> ?_;have hk:eB (ov D t) x.w j:=y.own.mono λb ⟨d,hd,e⟩=> .inl (e▸(h3 d hd).1);have a7:=h1.kept hk;obtain⟨ac,hl⟩:=hn j.tape j.drawn;generalize Z:(n j.tape j.drawn).1=g1 at hl;generalize a4:(n j.tape j.drawn).2=a2 at hl;have N:gk g1:=(by rw[←Z];exact a3 _ _);have hW:cT G a2.drawn D t (jJ wL j.tape j.drawn) j:=cT.re (wL':=jJ wL j.tape j.drawn) (wM':=j) a7 rfl rfl λi _=>rfl;have q:aT (jJ wL j.tape j.drawn):=λb o ho=>A b o ho;have u:kj (jJ wL j.tape j.drawn) j:=by obtain⟨c,e,f,q1,q2,R⟩:=F;exact⟨c,e,f,q1,q2,(y.own.keep _ (.inr S)).trans R⟩
   obtain⟨D1,L,a1,M,a9,q1,q2,R,q4⟩:=oP (mM:=false) E hW q u C hl (d5 _) N λf aa w2 he=>by obtain⟨fn,hf,s⟩:=mo (E.fn t) he;exact a8 f fn hf s
   obtain⟨U,W⟩:=AW R S q4;have H:∀b,ov D t b->x.V b:=λb ⟨d,hd,e⟩=>e▸(h3 d hd).1;have J:∀b,ov D t b->w0.heap.size<=b:=λb ⟨d,hd,e⟩=>e▸(h3 d hd).2;have T:bQ X i V0 w0 j:=m.trans ⟨y.own.mono λb s=>s.imp (l b) id,y.live,y.list,y.cells⟩;have ab:w0.heap.size<=j.heap.size:=T.own.size;have hT:=U.turns;have p:∀b,b<w0.heap.size->¬ov D t b:=λb s hi=>by have:=J b hi;omega
   have O:bQ X i V0 j M:=
    ⟨hT.kept λb s=>⟨p b (k.1 b s),by have:=k.1 b s;omega⟩,hT.live (p _ k.2.1) (by have:=k.2.1;omega),hT.list (p _ k.2.2) (by have:=k.2.2;omega),λc _=>hT.cell (a:=X.at c) (p _ k.2.2) (by show X.C<_;have:=k.2.2;omega)⟩
   refine⟨a1,M,a9,q1, .inl (U.mono H), ?_⟩;have Y:=ih j.tape j.drawn (x.next j a1 M);rw[Z,a4]at Y;refine Y ⟨⟨D1,L,R.rel.re rfl rfl λi hi=>o_,q2,λb s=>⟨(W (L b) ⟨b,s,rfl⟩).imp (H _) id, ?_⟩⟩,u.ran E.tab hW R,R.quiet q,T.trans O,λb s=> .inl (l b s)⟩;rcases W (L b) ⟨b,s,rfl⟩with h|h
   ·exact J _ h
   ·omega
theorem yI(h:bD v=true):lx v=false:=by
 cases v with
 |pointer p=>
  cases p with
  |none=>rfl
  |some a=>simp[bD]at h
 |_=>rfl
theorem px(u:∃fn d,PL.funcs[f]?=some fn/\X.P.funcs[f]?=some d/\fn.ntmps=d.ntmps/\fn.body=d.body/\∃c,fn.body=some c/\rN f c=true)(n:∀v∈args,bD v=true){base:List Frame}{wL:World}
 (y:2<=G/\G<=wL.heap.size/\G<=w.heap.size) (j:kj wL w) (g:aT wL):Iv X i G base V w (bS PL f args []) wL ⟨V,bS X.P f args base,w⟩:=by
 obtain⟨fn,d,m,r,q,p,c,o,l⟩:=u;refine⟨⟨λ_=>False,id,⟨λ_ _ e=>e,λb h=>h.elim,λi A=>o_,λb=>SR,y,λb h=>h.elim⟩,⟨λa _=> ?_,λa _=>rfl, ?_,λx s=>absurd s If,rfl,rfl,rfl,rfl⟩,λb h=>h.elim⟩,j,g,bQ.refl X i V w,λb h=>h⟩
 ·have e:args=args.map (PI a):=by
   apply RL
   ·simp
   ·intro k z B;simp[bI a _ (n _ (Array.getElem_mem z))]
  show Qc X.P f args .normal=bU a (Qc PL f args .normal);have:=qP (ρ:=a) (PL:=PL) (PM:=X.P) (f:=f) ⟨fn,d,m,r,q,p⟩ args (λv t=>yI (n v t)) (GC l);rw[←e]at this;exact this
 ·refine⟨?_,rfl, .inl rfl,rfl,λ_=>rfl⟩;simp only[bS,Qc,m,QA,o,Option.getD_some,List.all_cons,List.all_nil,Bool.and_true];exact GD l
end
end
section
open Go.Conc
theorem js(a:fr.mode= .run)(main:Bool)(cs:List Frame)(w:World):stepG P main {frame:=fr,callers:=cs,status:= .running,dying:=none} w=stepG.exec P main true fr cs none w:=by unfold stepG;simp only[a]
theorem aX.exec(c:fr.mode= .run)(h:∀a,bQ X i V w a->∃g' w' es,stepG.exec X.P false true fr cs none a= .go g' w' es/\cC V X.RO a w' es/\aX X i ⟨co V a w',g',w'⟩):
 aX X i ⟨V,{frame:=fr,callers:=cs,status:= .running,dying:=none},w⟩:=
 aX.own rfl λa b=>let ⟨g',w',es,h1,h2,h3⟩:=h a b;⟨g',w',es,(js c false cs a).trans h1,h2,h3⟩
theorem aX.plain{t:List Item}(d:fr.mode= .run)(c:ca fr=some t)(h:∀a,bQ X i V w a->aX X i ⟨V,{frame:={fr with todo:=t},callers:=cs,status:= .running,dying:=none},a⟩):
 aX X i ⟨V,{frame:=fr,callers:=cs,status:= .running,dying:=none},w⟩:=by refine aX.exec d λa b=>⟨_,a,#[],j0 c,dV _ _ _, ?_⟩;rw[cI];exact h a b
theorem cC.sub{a:Array Event}(h:cC V RO w w' es)(b:∀e∈a,e∈es):cC V RO w w' a:=⟨h.keep,h.size,h.os,h.output,h.tape,λe c=>h.ev e (b e c)⟩
theorem jR(P:Program)(fr:Frame)(es:Array Event):∀e∈seen P fr.fn (if fr.kind== .early then #[]else es),e∈es:=λe b=>by
 have a:=dZ _ _ _ e b;split at a
 ·simp at a
 ·exact a
theorem aX.oper{k:List Item}(p:fr.mode= .run)(j:fr.todo= .inRegion ops (n::rest)::k)(m:ops[n]?=some o)(l:mw o (yielded ops fr.tmps)=true)(g:∀c,o.op≠ .defer c)
 (h:∀a,bQ X i V w a->∃f w' es,(execOp fr.eval o).runT X.P a #[]=(.ok f w',es)/\xR f=true/\cC V X.RO a w' es/\aX X i ⟨co V a w',gB X.P fr cs f,w'⟩):
 aX X i ⟨V,{frame:=fr,callers:=cs,status:= .running,dying:=none},w⟩:=by
 refine aX.exec p λa b=> ?_;obtain⟨f,w',es,x,v,u,t⟩:=h a b;have q:eJ fr:=λd w r s k e=>by rw[j]at e;cases e
 exact⟨_,w',_,(dJ j m l g).trans (dF (cs:=cs) q x v),u.sub (jR _ _ _),t⟩
section
variable{c:Frame}{k:List Item}
theorem aX.range{f:Operand}{q:Array Tmp}{a b:Code}(u:fr.mode= .run)(t:fr.todo= .code (.rangeFunc f q a b)::k)
 (h:∀g,bQ X i V w g->∃l c p j o w' es1,(Instr.enterLoop fr.fn fr.tmps q a b fr.roundOf).runT X.P g #[]=(.ok (l,c) p,j)/\(cM (bY fr k l c) f l).runT X.P p #[]=(.ok o w',es1)/\xR o=true/\
   cC V X.RO g w' (j++es1)/\aX X i ⟨co V g w',gB X.P (bY fr k l c) cs o,w'⟩):
 aX X i ⟨V,{frame:=fr,callers:=cs,status:= .running,dying:=none},w⟩:=by
 refine aX.exec u λg m=> ?_;obtain⟨l,c,p,j,o,w',es1,B,A,z,y,x⟩:=h g m;have v:eJ (bY fr k l c):=λd w r s k e=>by cases e
 refine⟨_,w',seen X.P fr.fn j++seen X.P (bY fr k l c).fn (if (bY fr k l c).kind== .early then #[]else es1), ?_,y.sub λe n=> ?_,x⟩
 ·rw[fN t B,dF (cs:=cs) v A z];rfl
 ·rcases Array.mem_append.1 n with n|n
  ·exact Array.mem_append.2 (.inl (dZ _ _ _ e n))
  ·exact Array.mem_append.2 (.inr (jR _ _ _ e n))
theorem aX.round(g:fr.mode= .run)(f:fr.todo= .beginRound::k)
 (h:∀a,bQ X i V w a->∃c w' es,(gy fr).runT X.P a #[]=(.ok c w',es)/\xR c=true/\cC V X.RO a w' es/\aX X i ⟨co V a w',gB X.P fr cs c,w'⟩):
 aX X i ⟨V,{frame:=fr,callers:=cs,status:= .running,dying:=none},w⟩:=by
 refine aX.exec g λa b=> ?_;obtain⟨c,w',es,o,n,m,l⟩:=h a b;have j:eJ fr:=λd w r s k e=>by rw[f]at e;cases e
 exact⟨_,w',_,(jT f).trans (dF (cs:=cs) j o n),m.sub (jR _ _ _),l⟩
theorem aX.roundEnds{j:Option Code}(d:fr.mode= .run)(g:gC fr j)(e:fr.roundOf=some l)(f:fr.kind= .normal)
 (h:∀a,bQ X i V w a->∃v w' es,(Instr.endRound l j).runT X.P a #[]=(.ok v w',es)/\cC V X.RO a w' es/\aX X i ⟨co V a w',{frame:=c.finish v,callers:=cs,status:= .running,dying:=none},w'⟩):
 aX X i ⟨V,{frame:=fr,callers:=c::cs,status:= .running,dying:=none},w⟩:=by refine aX.exec d λa b=> ?_;obtain⟨v,w',es,n,m,k⟩:=h a b;exact⟨_,w',_,ml g e f n,m.sub (dZ _ _ _),k⟩
theorem aX.rangeEnds(e:fr.mode= .run)(d:fr.todo= .endRangeFunc l::k)
 (h:∀a,bQ X i V w a->∃b w' es,(QO l).runT X.P a #[]=(.ok b w',es)/\cC V X.RO a w' es/\aX X i ⟨co V a w',{frame:={fr with todo:=(b.map Item.code).toList++k},callers:=cs,status:= .running,dying:=none},w'⟩):
 aX X i ⟨V,{frame:=fr,callers:=cs,status:= .running,dying:=none},w⟩:=by refine aX.exec e λa c=> ?_;obtain⟨b,w',es,j,g,f⟩:=h a c;exact⟨_,w',_,jl d j,g.sub (dZ _ _ _),f⟩
theorem aX.store(t:fr.mode= .run)(l:fr.todo= .inRegion ops (n::rest)::k)(q:ops[n]?=some o)(m:mw o (yielded ops fr.tmps)=true)(g:∀c,o.op≠ .defer c)(u:fr.kind= .normal)
 (p:∀e:Event,(∃a,e.loc= .cell a)->seen X.P fr.fn #[e]=#[e])
 (h:∀b,bQ X i V w b->∃c v,X.mine i c/\(execOp fr.eval o).runT X.P b #[]=(.ok .skip (b.setCell (X.at c) v),#[⟨.cell (X.at c),true,false⟩])/\aX X i ⟨V,{frame:=fr.finish undef,callers:=cs,status:= .running,dying:=none},b.setCell (X.at c) v⟩):
 aX X i ⟨V,{frame:=fr,callers:=cs,status:= .running,dying:=none},w⟩:=by
 refine aX.put rfl λb f=> ?_;obtain⟨c,v,A,z,y⟩:=h b f;have x:eJ fr:=λd w r s k e=>by rw[l]at e;cases e
 refine⟨{frame:=fr.finish undef,callers:=cs,status:= .running,dying:=none},c,v,A, ?_,y⟩;rw[js t,dJ l q m g,dF (cs:=cs) x z rfl];have j:(fr.kind==CallKind.early)=false:=by rw[u];rfl
 simp only[j,Bool.false_eq_true,↓reduceIte];rw[p _ ⟨_,rfl⟩];rfl
end
section
variable(P:Program){r:Loop}
theorem vE(h:w.heap[l]?=some (.loop r))(b:args.size=r.params.size):
 (Instr.yield l args).runT P w #[]=(.ok (.round l r.fn ((r.params.zip args).foldl (λtmps (t,a)=>tmps.setIfInBounds t a) r.tmps) r.assign r.body) w,#[⟨.obj l,false,false⟩]):=by simp[-QI,Instr.yield,Re,getObj,bind,Qo,QL,pure,Sl,h,b]
theorem lX(h:w.heap[l]?=some (.loop r))(j:Option Code):
 (Instr.endRound l j).runT P w #[]=(.ok (.bool j.isNone) {w with heap:=w.heap.setIfInBounds l (.loop {r with state:=if j.isNone then .ready else .done,pending:=j})},#[⟨.obj l,false,false⟩,⟨.obj l,true,false⟩]):=by simp[-QI,Instr.endRound,Re,getObj,setObj,bind,Qo,QL,pure,Sl,h]
theorem rF(h:w.heap[l]?=some (.loop r))(a:r.state= .ready):
 (QO l).runT P w #[]=(.ok r.pending {w with heap:=w.heap.setIfInBounds l (.loop {r with state:= .exhausted})},#[⟨.obj l,false,false⟩,⟨.obj l,true,false⟩]):=by simp[-QI,QO,Re,getObj,setObj,bind,Qo,QL,pure,Sl,h,a]
end
section
variable(P:Program)
theorem om(fn:FuncId)(tmps:Array Value)(c:Array Tmp)(a b:Code):
 (Instr.enterLoop fn tmps c a b none).runT P w #[]=(.ok (w.heap.size+1,[{target:= .collected w.heap.size,args:=#[]}])
   ((w.alloc (.deferred (some []))).alloc (.loop {state:= .ready,pending:=none,fn,tmps,params:=c,assign:=a,body:=b,defers:=w.heap.size})),#[]):=by simp[-QI,Instr.enterLoop,newObj,bind,Qo,QL,pure];rfl
theorem yu(h:w.heap[l]?=some (.deferred (some ds))):
 (Instr.takeDeferred l).runT P w #[]=(.ok ds {w with heap:=w.heap.setIfInBounds l (.deferred none)},#[⟨.obj l,false,false⟩,⟨.obj l,true,false⟩]):=by simp[-QI,Instr.takeDeferred,getObj,setObj,bind,Qo,QL,pure,Sl,h]
end
theorem aX.take{a:Array Value}{rest:List Deferred}(m:fr.mode= .returning)(o:fr.defers={target:= .collected l,args:=a}::rest)(j:V l)(n:w.heap[l]?=some (.deferred (some ds)))
 (h:∀c,bQ X i V w c->aX X i ⟨V,{frame:={fr with defers:=ds++rest},callers:=cs,status:= .running,dying:=none},{c with heap:=c.heap.setIfInBounds l (.deferred none)}⟩):
 aX X i ⟨V,{frame:=fr,callers:=cs,status:= .running,dying:=none},w⟩:=by
 refine aX.own rfl λc d=> ?_;have g:c.heap[l]?=some (.deferred (some ds)):=(d.own.keep l (.inl j)).trans n;refine⟨{frame:={fr with defers:=ds++rest},callers:=cs,status:= .running,dying:=none},{c with heap:=c.heap.setIfInBounds l (.deferred none)},seen X.P fr.fn #[⟨.obj l,false,false⟩,⟨.obj l,true,false⟩], ?_, ?_, ?_⟩
 ·unfold stepG;simp only[m,unwind,o,yu X.P g,AS,Array.append_empty]
 ·refine cC.sub (es:=#[⟨.obj l,false,false⟩,⟨.obj l,true,false⟩]) ⟨λb _ p=> ?_,s_,rfl,rfl,rfl,λe k=> ?_⟩ (dZ _ _ _)
  ·have f:l≠b:=λe=>p (e▸j);exact sN f
  ·simp only[Qw,PZ,If,or_false]at k;rcases k with rfl|rfl<;>exact⟨rfl, .inl j⟩
 ·have e:co V c {c with heap:=c.heap.setIfInBounds l (.deferred none)}=V:=by
   funext b
   apply propext;exact⟨λh=>h.elim id λh=>absurd h.2 (by simpa using h.1), .inl⟩
  rw[e];exact h c d
section
theorem BG{a:Nat->Prop}(h:∀b,V b->a b)(w w':World)(b:Nat):co V w w' b->co a w w' b:=λc=>c.imp (h b) id
theorem bQ.less{c:Nat->Prop}(h:∀b,V b->c b){a:World}(r:bQ X i c w a):bQ X i V w a:=⟨r.own.mono λb d=>d.imp (h b) id,r.live,r.list,r.cells⟩
theorem aX.more{x:fm}(j:aX X i x):∀d,(∀b,x.V b->d b)->aX X i ⟨d,x.g,x.w⟩:=by
 refine j (λx=>∀d,(∀b,x.V b->d b)->aX X i ⟨d,x.g,x.w⟩) (λx f d e=> ?_) λx k l d e=> ?_
 ·exact aX.stop ⟨f.1,λa c=>f.2 a (c.less e)⟩
 ·refine aX.step k λa c=> ?_;obtain⟨p,g,q,o,n,m⟩:=l a (c.less e);exact⟨p,g,q,o,n.imp (λh=>h.mono e) id,m _ (BG e _ _)⟩
abbrev dN(fr:Frame)(cs:List Frame):Goroutine:={frame:=fr,callers:=cs,status:= .running,dying:=none}
def Wk(X:aW)(i:Nat)(V:Nat->Prop)(fr:Frame)(cs:List Frame)(w0:World):Prop:=∀w,bQ X i V w0 w->aX X i ⟨V,dN fr cs,w⟩
theorem Wk.now(h:Wk X i V fr cs w):aX X i ⟨V,dN fr cs,w⟩:=h w (bQ.refl X i V w)
variable{b:Frame}{k:List Item}
theorem Wk.plain{t:List Item}(f:ca (b.atR a k)=some t)(h:Wk X i V (b.atR a t) cs w0):Wk X i V (b.atR a k) cs w0:=λ_ e=>aX.plain rfl f λc d=>h c (e.trans d)
theorem Wk.value(v:Value)(l:ops[n]?=some o)(m:mw o (yielded ops a.tmps)=true)(j:∀c,o.op≠ .defer c)
 (p:∀w,bQ X i V w0 w->(execOp a.eval o).run X.P w= .ok (.value v) w/\∀e∈(execOp a.eval o).events X.P w #[],gt V X.RO e)
 (h:Wk X i V (b.atR (a.put o.dst v) (.inRegion ops rest::k)) cs w0):Wk X i V (b.atR a (.inRegion ops (n::rest)::k)) cs w0:=λw g=>by
 refine aX.oper rfl rfl l m j λd f=> ?_;obtain⟨r,q⟩:=p d (g.trans f);refine⟨.value v,d,(execOp a.eval o).events X.P d #[], ?_,rfl,pR q, ?_⟩
 ·rw[Frame.eval_atR,QI,r]
 ·rw[cI];show aX X i ⟨V,dN ((b.atR a (.inRegion ops (n::rest)::k)).finish v) cs,d⟩;rw[Ql,l];exact h d (g.trans f)
theorem Wk.make(h:ops[n]?=some o)(j:mw o (yielded ops a.tmps)=true)(g:∀c,o.op≠ .defer c)
 (l:∀w,bQ X i V w0 w->∃v w',(execOp a.eval o).run X.P w= .ok (.value v) w'/\cC V X.RO w w' ((execOp a.eval o).events X.P w #[])/\
   Wk X i (co V w w') (b.atR (a.put o.dst v) (.inRegion ops rest::k)) cs w'):Wk X i V (b.atR a (.inRegion ops (n::rest)::k)) cs w0:=λw f=>by
 refine aX.oper rfl rfl h j g λd e=> ?_;obtain⟨v,w',q,p,m⟩:=l d (f.trans e);refine⟨.value v,w',(execOp a.eval o).events X.P d #[], ?_,rfl,p, ?_⟩
 ·rw[Frame.eval_atR,QI,q]
 ·show aX X i ⟨co V d w',dN ((b.atR a (.inRegion ops (n::rest)::k)).finish v) cs,w'⟩;rw[Ql,h];exact m.now
theorem Wk.enter(q:ops[n]?=some o)(m:mw o (yielded ops a.tmps)=true)(l:∀c,o.op≠ .defer c)
 (p:∀w,bQ X i V w0 w->(execOp a.eval o).run X.P w= .ok (.enter f args) w/\∀e∈(execOp a.eval o).events X.P w #[],gt V X.RO e)
 (h:Wk X i V (Qc X.P f args .normal) (b.atR a (.inRegion ops (n::rest)::k)::cs) w0):Wk X i V (b.atR a (.inRegion ops (n::rest)::k)) cs w0:=λw j=>by
 refine aX.oper rfl rfl q m l λd g=> ?_;obtain⟨s,r⟩:=p d (j.trans g);refine⟨.enter f args,d,(execOp a.eval o).events X.P d #[], ?_,rfl,pR r, ?_⟩
 ·rw[Frame.eval_atR,QI,s]
 ·rw[cI];exact h d (j.trans g)
theorem Wk.yields{r:Loop}(x:ops[n]?=some o)(s:mw o (yielded ops a.tmps)=true)(j:∀c,o.op≠ .defer c)(q:V l)(y:w0.heap[l]?=some (.loop r))(u:args.size=r.params.size)
 (v:∀w,(execOp a.eval o).runT X.P w #[]=(Instr.yield l args).runT X.P w #[])
 (h:Wk X i V (Frame.round l r.fn ((r.params.zip args).foldl (λtmps (t,a)=>tmps.setIfInBounds t a) r.tmps) r.assign r.body .normal) (b.atR a (.inRegion ops (n::rest)::k)::cs) w0):Wk X i V (b.atR a (.inRegion ops (n::rest)::k)) cs w0:=λw g=>by
 refine aX.oper rfl rfl x s j λd f=> ?_;have m:d.heap[l]?=some (.loop r):=((g.trans f).own.keep l (.inl q)).trans y;refine⟨.round l r.fn ((r.params.zip args).foldl (λtmps (t,a)=>tmps.setIfInBounds t a) r.tmps) r.assign r.body,d,_, ?_,rfl,pR (es:=#[⟨.obj l,false,false⟩]) ?_, ?_⟩
 ·rw[Frame.eval_atR,v,vE X.P m u]
 ·intro e p;simp only[Qw,QN]at p;subst p;exact⟨rfl,q⟩
 ·rw[cI];exact h d (g.trans f)
end
end
end Go.Proofs.YtkmoglhgkcnalaaGreatDoor
