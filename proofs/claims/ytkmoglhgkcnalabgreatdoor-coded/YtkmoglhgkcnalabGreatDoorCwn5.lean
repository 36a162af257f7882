/- A part of what the last text of the claim imports: texts laid together, and made small, by a program. -/
import Derived.KernelRfl
import Derived.Laws.Tables
import Derived.Deep.MidRow
import Derived.Test.YtkmoglhgkcnalabGreatDoorProg
import Derived.Conc.WalkWords
import Derived.Laws.Slices
import Derived.Conc.EventLaws2
import Derived.RowKit
import Derived.Test.YtkmoglhgkcnalabGreatDoorRows
import Derived.WalkKit
import Derived.WalkSpells
import Derived.WalkLawsBesides
import Derived.Deep.QuietTactic
import Derived.BigQuiet
import Derived.Deep.OwnRows
import Derived.Deep.RegionHeld3
import Derived.Great.BuildSlice
import Derived.Shelf.Strings.Builder1
import Derived.Shelf.Strings.Builder2
import Derived.Shelf.Strings.OnBuilder
import Derived.Shelf.Strings.BuilderF
import Derived.Shelf.Strings.BuilderK
import Derived.Shelf.LaysM
import Derived.Shelf.Strconv.Clone
import Derived.Shelf.Strings.Prefix
import Derived.Shelf.Bits.Mul64
import Derived.Shelf.Strings.Repeat
import Derived.Test.YtkmoglhgkcnalabGreatDoorCwn4
set_option maxHeartbeats 16000000
set_option maxRecDepth 100000
open Array renaming getElem?_eq_getElem->a4_,getElem?_setIfInBounds_self_of_lt->a40,replicate->a41,getD_eq_getD_getElem?->a43,all_eq_true'->ET,getElem?_replicate->Fh,length_toList->LO,getElem?_append_left->Pk
open BitVec renaming ofInt->VK
open Bool renaming and_eq_true->a35,false_eq_true->a45,or_eq_true->No,not_eq_true'->VB
open Go.Act renaming put->Rf
open Go.Addr renaming add_mid->CH,add->Vu
open Go.Extern.AbiNoEscape renaming same->WY
open Go.Extern.BytealgMakeNoZero renaming makeNoZero->Ve
open Go.Frame renaming enter->a49,finish_atR->BR,round->OX,atR->Yj
open Go.Instr renaming loadAt->a47,fieldAt->a53,alloc->Ee,endLoop->Iz,sliceAt->JR,sliceBounds->Kg,sliceBound->LY,storeAt->Rl,slice->Vh,index->WC,box->YQ
open Go.IntKind renaming wrap_i64->a5_,i64->A8,wrap_u32->QY
open Go.Lib renaming repeatL->YM
open Go.Region renaming wanted->a39,linearise->Bt,ready->CL,schedule->Nu,binds->QZ
open Go.Result renaming andThen_ok->Vp
open Go.RowKit.Below renaming refl->WT,drew->Z5
open Go.Sem renaming runT_eq->AT,run_bind->K8
open Go.Shelf renaming Ren->Zl
open Go.StepsIn renaming steps->Wu
open Go.Value renaming agg->Wa
open Go.World renaming cell?->AB,rangeAt_setCells_same->J3,drew->OM,cell?_alloc_at->Pf,rangeAt_alloc->R3,frozen?_alloc_at->Xl,cell?_drewN->Zk
open Go.YieldsIf renaming wpOp->Yd
open Int renaming toNat_natCast->VC,eq_ofNat_of_zero_le->WZ,le_refl->a73
open List renaming getElem?_eq_some_iff->a44,map_cons->a48,getD_eq_getElem?_getD->a50,lookup->a51,not_mem_nil->Af,range->Ak,mem_cons->AI,getElem?_eq_getElem->AS,getElem?_append_right->BP,replicate->C2,getElem?_append_left->G7,size_toArray->Gh,getElem?_map->IS,length_append->LL,take_of_length_le->LP,append_assoc->ML,mem_range->Pi,all_eq_true->Vk,mem_cons_of_mem->Vl,take_succ_eq_append_getElem->Vq,map_append->Vt,cons_ne_nil->VL,mem_cons_self->VO,mem_filter->Wp,flatMap_append->WJ,append_nil->WS,mem_map_of_mem->XO,getElem_mem->Yg,getElem?_eq_none->YF,getElem_inj->Zr,take_length->Zs
open Nat renaming le_refl->a36,lt_of_lt_of_le->a38,zero_add->a46,le_of_not_lt->OC,le_antisymm->VH,zero_le->W2,mul_one->a74
open Ne renaming symm->LZ
open Option renaming map_some->a37,getD_some->a55,bind_some->Hk
open UInt8 renaming ofNat->XE
namespace Go.Proofs.YtkmoglhgkcnalabGreatDoor
open Go
variable{n b i N l m k j b3 b4 b7 b9 Wg wd:Nat}{w w' w0 wL wM wE:World}{fr:Frame}{v:Value}{cs:List Frame}{args cv:Array Value}{V RO D V0:Nat->Prop}{q main listen ql:Bool}{g:Goroutine}{a:Act}{K:List Item}{P PL PM:Program}{x:Operand}{ops:Array Oper}{KS:List Int}{t u:TypeId}{o:Oper}{f:FuncId}{es:Array Event}{Goal:Goroutine->World->Prop}{fn:Func}{rest:List Nat}{ds:List Deferred}{X:bS}{F:List (Nat×Value)}{e:Event}{listed:Array Bool}{c:Int}{s msg key sig:ByteArray}{ρ:Nat->Nat}{ev:Operand->Value}{Post:Value->World->Prop}
section
open Go.Conc Go.RowKit
def qJ(P:Program)(a:Act)(o:Oper)(w:World)(R:Value->World->Prop):Prop:=
 (∃v w',(execOp a.eval o).run P w= .ok (.value v) w'/\R v w')\/∃f args,(execOp a.eval o).run P w= .ok (.enter f args) w/\Calls P f args w λe w'=>∃v,e= .returned v/\R v w'
structure uU (df:List Deferred) (fx:List (Nat×Value)) (ds:List Nat) (G:Nat->Value->World->Prop) (N:Nat) (w0:World) (a:Act) (w:World) (L:Nat->Prop):Prop where
 defers:a.defers=df
 size:N<=a.tmps.size
 fixed:∀p∈fx,a.tmps[p.1]?=some p.2
 old:Bw w0 w
 come:∀n d,ds[n]?=some d->L n->∃v,a.tmps[d]?=some v/\G n v w
def zW:Op->Bool
 | .defer _=>false
 |_=>true
def DU(ops:Array Oper):Nat->Nat->Nat->Bool
 |0,_,_=>false
 |fuel+1,n,k=>ii ops n k||(Ak n).any λm=>ii ops n m&&DU ops fuel m k
def mD(ops:Array Oper)(listed:Array Bool):Prop:=∀(n:Nat) (o:Oper),ops[n]?=some o->listed[n]?=some true->∀e∈o.after,QZ .any e=true->listed[e.on]?=some true
theorem mD.reach{ops:Array Oper}{listed:Array Bool}(h:mD ops listed):∀(fuel n k:Nat) (o:Oper),ops[n]?=some o->(∀e∈o.after,QZ .any e=true->listed[e.on]?=some true)->DU ops fuel n k=true->listed[k]?=some true
 |0,_,_,_,_,_,hr=>by cases hr
 |fuel+1,n,k,o,ho,hdep,hr=>by
  simp only[Go.Proofs.YtkmoglhgkcnalabGreatDoor.DU,No,List.any_eq_true,Pi,a35]at hr;rcases hr with h1|⟨m,hm,h1,h2⟩
  ·exact p5 h1 ho hdep
  ·have hl:=p5 h1 ho hdep;cases hm2:ops[m]? with
   |none=>
    exfalso;cases fuel with
    |zero=>cases h2
    |succ f=>
     have hz:∀k,ii ops m k=false:=λk=>by unfold ii;rw[hm2];rfl
     simp[Go.Proofs.YtkmoglhgkcnalabGreatDoor.DU,hz]at h2
   |some om=>exact h.reach fuel m k om hm2 (h m om hm2 hl) h2
theorem mD.set(h:mD ops listed)(l:ops[m]?=some o)(a:∀e∈o.after,QZ .any e=true->listed[e.on]?=some true):mD ops (listed.setIfInBounds m true):=by
 have c:∀k,listed[k]?=some true->(listed.setIfInBounds m true)[k]?=some true:=λk f=>by
  by_cases e:m=k
  ·subst e;exact a40 (gA f).1
  ·rw[sN e];exact f
 intro n j b d e g i;by_cases q:m=n
 ·subst q;rw[l]at b;cases b;exact c _ (a e g i)
 ·rw[sN q]at d;exact c _ (h n j b d e g i)
def CZ(ops:Array Oper):Bool:=(Ak ops.size).all λn=>((ops[n]?).map λo=>o.after.all λe=> !Region.binds .any e||decide (e.on<n)).getD true
theorem wV(h:CZ ops=true)(n:Nat)(o:Oper)(a:ops[n]?=some o):∀e∈o.after,QZ .any e=true->e.on<n:=by intro e c d;have b:n<ops.size:=(gA a).1;have:=Vk.1 h n (Pi.2 b);rw[a]at this;simp only[a37,a55]at this;have:=ET.1 this e c;rw[d]at this;simpa using this
def nA(ops:Array Oper)(ds:List Nat)(fx:List Nat)(N:Nat):Bool:=
 CZ ops&&decide (ds.length<=ops.size)&&((Ak ds.length).all λn=>((ops[n]?).map λo=>o.dst==ds[n]?&&o.guard.isNone&&zW o.op).getD false)&&decide ds.Nodup&&(ds.all λd=>decide (d<N)&& !fx.contains d)&&
 ((Ak ops.size).all λn=>decide (n<ds.length)||((Ak n).all λk=>DU ops ops.size n k))
section
variable{b:Frame}{k:List Item}
theorem Rn.orderly{md:Region.Mode}(r:∀(n:Nat) (o:Oper),ops[n]?=some o->∀e∈o.after,QZ md e=true->e.on<n)(g:Array Bool->Act->World->Prop)
 (p:∀c a w,(∀n,n<ops.size->c[n]?=some true)->g c a w->Rn P Goal (b.atR a (.inRegion ops []::k)) cs w)
 (j:∀c a w n o rest,c.size=ops.size->ops[n]?=some o->c[n]?=some false->(∀e∈o.after,QZ md e=true->c[e.on]?=some true)->g c a w->
   (∀a' w',g (c.setIfInBounds n true) a' w'->Rn P Goal (b.atR a' (.inRegion ops rest::k)) cs w')->Rn P Goal (b.atR a (.inRegion ops (n::rest)::k)) cs w)
 (t:Nat) (a:Act) (w:World) (F:g (a41 ops.size false) a w):Rn P Goal (b.atR a (.inRegion ops (Bt md ops t)::k)) cs w:=by
 unfold Bt;refine Rn.order (md:=md) (λf c a w=>c.size=ops.size/\j5 c=f/\g c a w) (λc a w h=> ?_) (λf c a w h B=> ?_) (λf c a w n rest h m l=> ?_) ops.size t _ a w ⟨s_, ?_,F⟩
 ·exact p c a w (λn m=>oT h.2.1 n (by rw[h.1];exact m)) h.2.2
 ·exfalso;obtain⟨n,E,D,C⟩:=mV h.2.1;have d:n<ops.size:=by rw[←h.1];exact E
  have x:n∈CL md ops c:=by
   unfold CL;rw[Wp];refine⟨Pi.2 d, ?_⟩;rw[a4_ d];have H:c.getD n true=false:=(by simp[a43,D]);rw[H];simp only[Bool.not_false,a37,a55,Bool.true_and];rw[ET];intro e u;cases v:QZ md e with
   |false=>rfl
   |true=>
    have:=r n _ (a4_ d) e u v;simp[a43,C _ this]
  rw[B]at x;simp at x
 ·unfold CL at m;rw[Wp]at m;obtain⟨s,i⟩:=m;have d:=Pi.1 s;rw[a4_ d]at i;simp only[a37,a55,a35,VB]at i;have y:n<c.size:=by rw[h.1];exact d
  have z:c[n]?=some false:=by have:=i.1;rw[a43,a4_ y]at this;rw[a4_ y];simpa using this
  refine j c a w n _ rest h.1 (a4_ d) z (λe u v=> ?_) h.2.2 λa' w' G=>l a' w' ⟨by simp[h.1],oR h.2.1 z,G⟩;have:=ET.1 i.2 e u;rw[v]at this;simp only[Bool.not_true,Bool.false_or]at this;rw[a43]at this;cases A:c[e.on]? with
  |none=>rw[A]at this;simp at this
  |some q=>rw[A]at this;simp at this;rw[this]
 ·simp[j5]
theorem Rn.does{R:Value->World->Prop}(j:ops[n]?=some o)(i:a39 o (yielded ops a.tmps)=true)(d:∀c,o.op≠ .defer c)(h:qJ P a o w R)(next:∀v w',R v w'->Rn P Goal (b.atR (a.put o.dst v) (.inRegion ops rest::k)) cs w'):Rn P Goal (b.atR a (.inRegion ops (n::rest)::k)) cs w:=by
 rcases h with⟨v,w',g,e⟩|⟨f,l,g,e⟩
 ·exact Rn.ran j i d g (next v w' e)
 ·exact Rn.call j i d g e next
theorem Rn.grows{id:Nat}{df:List Deferred}{fx:List (Nat×Value)}{ds:List Nat}{G:Nat->Value->World->Prop}(T:P.follows .mixedOrders=true)(J:nA ops ds (fx.map (·.1)) N=true)(L:∀n v w w',G n v w->Bw w w'->G n v w')
 (a2:∀n o a w',n<ds.length->ops[n]?=some o->Bw w w'->(∀p∈fx,a.tmps[p.1]?=some p.2)->(∀m d,ds[m]?=some d->ii ops n m=true->∃v,a.tmps[d]?=some v/\G m v w')->qJ P a o w' λv i=>G n v i/\Bw w' i)
 (l:Nat->Act->World->Prop) (S:∀a w',uU df fx ds G N w a w' (λ_=>True)->l ds.length a w')
 (Q:∀n o a w' rest,ds.length<=n->ops[n]?=some o->l n a w'->(∀a' i,l (n+1) a' i->Rn P Goal (b.atR a' (.inRegion ops rest::k)) cs i)->Rn P Goal (b.atR a (.inRegion ops (n::rest)::k)) cs w')
 (V:∀a w',l ops.size a w'->Rn P Goal (b.atR a k) cs w') (a5:a.defers=df) (hN:N<=a.tmps.size) (a4:∀p∈fx,a.tmps[p.1]?=some p.2):Rn P Goal (b.atR a (.code (.region id ops true)::k)) cs w:=by
 simp only[nA,a35,decide_eq_true_eq,Vk,Pi,No]at J;obtain⟨⟨⟨⟨⟨c1,c3⟩,c4⟩,c5⟩,c6⟩,c7⟩:=J;refine Rn.draw λt=> ?_;have R:Nu (P.follows .mixedOrders) ops t=Bt .any ops t:=by unfold Nu;rw[T];simp
 rw[R];have O:∀{f:Array Bool} {m:Nat} {o:Oper},mD ops f->ds.length<=m->ops[m]?=some o->(∀e∈o.after,QZ .any e=true->f[e.on]?=some true)->∀n,n<m->f[n]?=some true:=λ{f m o} D hm z s n B=>by have g:m<ops.size:=(gA z).1;exact D.reach ops.size m n o z s (((c7 m g).resolve_left o_) n B)
 refine Rn.orderly (wV c1) (λf a w'=>mD ops f/\(((∀n,ds.length<=n->n<ops.size->f[n]?=some false)/\uU df fx ds G N w a w' λn=>f[n]?=some true)\/∃j,ds.length<j/\j<=ops.size/\(∀n,n<j->f[n]?=some true)/\(∀n,j<=n->n<ops.size->f[n]?=some false)/\l j a w'))
  (λf a w' E h=> ?_) (λf a w' m o rest a7 z hm s h C=> ?_) t a _ ⟨λn o _ A=> ?_, .inl ⟨λn _ B=>by simp[B],a5,hN,a4,jS w,λn d y A=> ?_⟩⟩
 ·refine Rn.p rfl (V a w' ?_);obtain⟨D,h⟩:=h;rcases h with⟨H,q⟩|⟨j,H,q,h3,Y,Z⟩
  ·have hK:ds.length=ops.size:=by refine VH c3 (OC λg=> ?_);have:=H ds.length (a36 _) g;rw[E _ g]at this;cases this
   rw[←hK];exact S a w' ⟨q.defers,q.size,q.fixed,q.old,λn d y _=>q.come n d y (E n (by have:=(a44.1 y).1;omega))⟩
  ·have hj:j=ops.size:=by refine VH q (OC λg=> ?_);have:=Y j (a36 _) g;rw[E _ g]at this;cases this
   rw[←hj];exact Z
 ·have a6:m<ops.size:=(gA z).1;obtain⟨D,h⟩:=h;have C:=λa' i x=>C a' i ⟨D.set z s,x⟩;by_cases F:m<ds.length
  ·rcases h with⟨H,q⟩|⟨j,H,q,h3,Y,Z⟩
   ·have hc:=c4 m F;rw[z]at hc;simp only[a37,a55,a35,beq_iff_eq]at hc;obtain⟨⟨e1,e2⟩,e3⟩:=hc;have W:ds[m]?=some ds[m]:=AS F;refine Rn.does z (by unfold a39;rw[Option.isNone_iff_eq_none.1 e2]) (λc e=>by rw[e]at e3;cases e3) (a2 m o a w' F z q.old q.fixed λn d y B=>q.come n d y (p5 B z s)) λv i hv=> ?_;rw[e1,W];have X:=c6 ds[m] (Yg F);refine C _ _ (.inl ⟨λn B g=> ?_,q.defers,by simpa[Rf]using q.size,λp hp=> ?_,aB q.old q.old.size hv.2,λn d y A=> ?_⟩)
    ·rw[sN o_];exact H n B g
    ·show(a.tmps.setIfInBounds ds[m] v)[p.1]?=_;rw[sN (λe=>by have h6:ds[m]∉fx.map (·.1):=(by simpa using X.2);exact h6 (by rw[e];exact XO hp))]
     exact q.fixed p hp
    ·by_cases K:n=m
     ·subst K;rw[W]at y;cases y;refine⟨v, ?_,hv.1⟩;show(a.tmps.setIfInBounds ds[n] v)[ds[n]]?=_;exact a40 (a38 X.1 q.size)
     ·rw[sN (LZ K)]at A;obtain⟨u,a1,a0⟩:=q.come n d y A;refine⟨u, ?_,L n u w' i a0 hv.2⟩;show(a.tmps.setIfInBounds ds[m] v)[d]?=_;rw[sN (λe=>by obtain⟨B,rfl⟩:=a44.1 y;exact K ((Zr c5).1 e).symm)]
      exact a1
   ·have:=h3 m o_;rw[hm]at this;cases this
  ·have r:=O D o_ z s;have I:∀n,n<m+1->(f.setIfInBounds m true)[n]?=some true:=λn B=>by
    by_cases e:m=n
    ·subst e;exact a40 o_
    ·rw[sN e];exact r n o_
   rcases h with⟨H,q⟩|⟨j,H,q,h3,Y,Z⟩
   ·have U:m=ds.length:=by refine VH (OC λg=> ?_) o_;have:=H ds.length (a36 _) o_;rw[r _ g]at this;cases this
    have hS:l m a w':=by rw[U];exact S a w' ⟨q.defers,q.size,q.fixed,q.old,λn d y _=>q.come n d y (r n (by have:=(a44.1 y).1;omega))⟩
    refine Q m o a w' rest o_ z hS λa' i M=>C a' i (.inr ⟨m+1,o_,o_,I,λn B g=> ?_,M⟩);rw[sN o_];exact H n o_ g
   ·have a3:m=j:=by
     refine VH (OC λg=> ?_) (OC λg=> ?_)
     ·have:=Y j (a36 _) o_;rw[r _ g]at this;cases this
     ·have:=h3 m g;rw[hm]at this;cases this
    subst a3;refine Q m o a w' rest o_ z Z λa' i M=>C a' i (.inr ⟨m+1,o_,o_,I,λn B g=> ?_,M⟩);rw[sN o_];exact Y n o_ g
 ·rw[Fh]at A;split at A
  ·cases A
  ·cases A
 ·rw[Fh]at A;split at A
  ·cases A
  ·cases A
end
def JF:List (Nat×Value)->List (Nat×Value)->Prop
 |[],_=>True
 |p::r,F=>F.lookup p.1=some p.2/\JF r F
theorem JF.get:∀{G:List (Nat×Value)},JF G F->∀d v,G.lookup d=some v->F.lookup d=some v
 |[],_,_,_,h=>by cases h
 |p::r,h,d,v,hd=>by
  by_cases e:d=p.1
  ·subst e;have a:(p::r).lookup p.1=some p.2:=(by simp[a51]);rw[a]at hd;cases hd;exact h.1
  ·have a:(p::r).lookup d=r.lookup d:=(by simp[a51,show(d==p.1)=false from by simpa using e]);rw[a]at hd;exact JF.get h.2 d v hd
theorem aW.only{G:List (Nat×Value)}(c:aW F N ds a)(h:JF G F):aW G N ds a:=c.sub λd v b=>h.get d v b
section
variable{b:Frame}{k:List Item}
theorem cj{ev:Operand->Value}(a:o.op= .move x\/o.op= .assign x):(execOp ev o).run P w= .ok (.value (ev x)) w:=by rcases a with h|h<;>simp[execOp,h]
theorem Rn.mv(c:aW F N ds a)(d x:Nat)(g:d<N)(e:F.lookup x=some v)(h:(ops[m]?).map (λo=>(o.dst,o.op,o.guard))=some (some d, .move (.tmp x),none))
 (next:∀a',aW ((d,v)::F) N ds a'->Rn P Goal (b.atR a' (.inRegion ops rest::k)) cs w):Rn P Goal (b.atR a (.inRegion ops (m::rest)::k)) cs w:=
 Rn.op c d (.move (.tmp x)) g h s_ (λo f=>by rw[cj (.inl f),c.get e]) next
theorem Rn.as(c:aW F N ds a)(d x:Nat)(g:d<N)(e:F.lookup x=some v)(h:(ops[m]?).map (λo=>(o.dst,o.op,o.guard))=some (some d, .assign (.tmp x),none))
 (next:∀a',aW ((d,v)::F) N ds a'->Rn P Goal (b.atR a' (.inRegion ops rest::k)) cs w):Rn P Goal (b.atR a (.inRegion ops (m::rest)::k)) cs w:=
 Rn.op c d (.assign (.tmp x)) g h s_ (λo f=>by rw[cj (.inr f),c.get e]) next
theorem Rn.mvc(f:aW F N ds a)(d:Nat)(v:Value)(e:d<N)(h:(ops[m]?).map (λo=>(o.dst,o.op,o.guard))=some (some d, .move (.const v),none))
 (next:∀a',aW ((d,v)::F) N ds a'->Rn P Goal (b.atR a' (.inRegion ops rest::k)) cs w):Rn P Goal (b.atR a (.inRegion ops (m::rest)::k)) cs w:=
 Rn.op f d (.move (.const v)) e h s_ (λo c=>by rw[cj (.inl c)];rfl) next
theorem Rn.asc(f:aW F N ds a)(d:Nat)(v:Value)(e:d<N)(h:(ops[m]?).map (λo=>(o.dst,o.op,o.guard))=some (some d, .assign (.const v),none))
 (next:∀a',aW ((d,v)::F) N ds a'->Rn P Goal (b.atR a' (.inRegion ops rest::k)) cs w):Rn P Goal (b.atR a (.inRegion ops (m::rest)::k)) cs w:=
 Rn.op f d (.assign (.const v)) e h s_ (λo c=>by rw[cj (.inr c)];rfl) next
theorem Ki{ev:Operand->Value}(a:o.op= .box t x):(execOp ev o).run P w= .ok (.value (.pk w.heap.size 0)) (w.alloc (.cells (ev x).cells t)):=by simp[execOp,a,YQ,newVar,newRow,go_sem]
theorem Rn.boxes(c:aW F N ds a)(d x:Nat)(t:TypeId)(g:d<N)(e:F.lookup x=some v)(h:(ops[m]?).map (λo=>(o.dst,o.op,o.guard))=some (some d, .box t (.tmp x),none))
 (next:∀a',aW ((d, .pk w.heap.size 0)::F) N ds a'->Rn P Goal (b.atR a' (.inRegion ops rest::k)) cs (w.alloc (.cells v.cells t))):Rn P Goal (b.atR a (.inRegion ops (m::rest)::k)) cs w:=
 Rn.op c d (.box t (.tmp x)) g h s_ (λo f=>by rw[Ki f,c.get e]) next
theorem Rn.calls(r:aW F N ds a)(d:Nat){xs:Array Operand}{ats:Array TypeId}(n:d<N)(h:(ops[m]?).map (λo=>(o.dst,o.op,o.guard))=some (some d, .call {callee:= .value (.func f),args:=xs,argTypes:=ats},none))(q:xs.map a.eval=args)
 (l:P.funcs[f]?=some fn) (c:(fn.name== "runtime.NumGoroutine")=false) (p:fn.body.isNone=false) {R:Value→World→Prop} (s:Calls P f args w λe w'=>∃v,e= .returned v∧R v w')
 (next:∀v w',R v w'->∀a',aW ((d,v)::F) N ds a'->Rn P Goal (b.atR a' (.inRegion ops rest::k)) cs w'):Rn P Goal (b.atR a (.inRegion ops (m::rest)::k)) cs w:=by
 cases g:ops[m]? with
 |none=>rw[g]at h;simp at h
 |some o=>
  obtain⟨u,i,t⟩:=cC g h;refine Rn.call g (t _) (by rw[i];simp) (bU (w:=w) i q (dq l c p _)).1 s λv w' j=> ?_;rw[u];exact next v w' j _ (r.put n v)
theorem Rn.does0(i:aW F N ds a)(p:Op)(h:(ops[m]?).map (λo=>(o.dst,o.op,o.guard))=some (none,p,none))(e:∀c,p≠ .defer c)(g:∀o:Oper,o.op=p->(execOp a.eval o).run P w= .ok .skip w')
 (next:∀a',aW F N ds a'->Rn P Goal (b.atR a' (.inRegion ops rest::k)) cs w'):Rn P Goal (b.atR a (.inRegion ops (m::rest)::k)) cs w:=by
 cases d:ops[m]? with
 |none=>rw[d]at h;simp at h
 |some o=>
  obtain⟨l,f,j⟩:=cC d h;refine Rn.did d (j _) (λc=>by rw[f];exact e c) (g o f) ?_;rw[l];exact next a i
theorem Rn.gives(p:aW F N ds a)(d x:Nat){r:Loop}{xs:Array Operand}{ats:Array TypeId}(h:(ops[m]?).map (λo=>(o.dst,o.op,o.guard))=some (some d, .call {callee:= .value (.tmp x),args:=xs,argTypes:=ats},none))
 (g:F.lookup x=some (.func (.yield l) #[] #[])) (n:xs.map a.eval=args) (j:w.heap[l]?=some (.loop r)) (i:args.size=r.params.size)
 (c:(∀w',Rn P Goal ((b.atR a (.inRegion ops (m::rest)::k)).finish (.bool true)) cs w'↔Rn P Goal (b.atR (a.put (some d) (.bool true)) (.inRegion ops rest::k)) cs w')->
   Rn P Goal (OX l r.fn ((r.params.zip args).foldl (λtmps (t,a)=>tmps.setIfInBounds t a) r.tmps) r.assign r.body .normal) (b.atR a (.inRegion ops (m::rest)::k)::cs) w):Rn P Goal (b.atR a (.inRegion ops (m::rest)::k)) cs w:=by
 cases e:ops[m]? with
 |none=>rw[e]at h;simp at h
 |some o=>
  obtain⟨s,f,q⟩:=cC e h;refine Rn.yields (args:=args) e (q _) (by rw[f];simp) j i (λw=>jw f (p.get g) n w) (c λw'=> ?_);rw[BR,e,Hk,s]
structure sL (P:Program) (Goal:Goroutine->World->Prop) (cs:List Frame) (args:Nat->Array Value) (n l:Nat) (r:Loop) (Inv:Nat->World->Prop):Prop where
 below:∀c w w',Inv c w->Bw w w'->Inv c w'
 loop:∀c w,Inv c w->w.heap[l]?=some (.loop r)
 size:∀c,(args c).size=r.params.size
 round:∀c w cf,c<n->Inv c w->(∀w',Inv (c+1) w'->Rn P Goal (cf.finish (.bool true)) cs w')->Rn P Goal (OX l r.fn ((r.params.zip (args c)).foldl (λtmps (t,a)=>tmps.setIfInBounds t a) r.tmps) r.assign r.body .normal) (cf::cs) w
theorem Rn.given{args:Nat->Array Value}{c:Nat}{r:Loop}{e:Nat->World->Prop}(G:sL P Goal cs args n l r e)(j:aW F N ds a)(d x:Nat){xs:Array Operand}{ats:Array TypeId}(q:d<N)(h:(ops[m]?).map (λo=>(o.dst,o.op,o.guard))=some (some d, .call {callee:= .value (.tmp x),args:=xs,argTypes:=ats},none))
 (p:F.lookup x=some (.func (.yield l) #[] #[])) (t:xs.map a.eval=args c) (s:c<n) (i:e c w) (next:∀a' w',aW ((d, .bool true)::F) N ds a'->e (c+1) w'->Rn P Goal (b.atR a' (.inRegion ops rest::k)) cs w'):Rn P Goal (b.atR a (.inRegion ops (m::rest)::k)) cs w:=
 Rn.gives j d x h p t (G.loop c w i) (G.size c) λf=>G.round c w _ s i λw' g=>(f w').2 (next _ w' (j.put q _) g)
theorem ul:∀{F:List (Nat×Value)} {d:Nat} {v:Value},F.lookup d=some v->(d,v)∈F
 |p::r,d,v,h=>by
  by_cases e:d=p.1
  ·subst e;have a:(p::r).lookup p.1=some p.2:=(by simp[a51]);rw[a]at h;cases h;exact VO
  ·have a:(p::r).lookup d=r.lookup d:=(by simp[a51,show(d==p.1)=false from by simpa using e]);rw[a]at h;exact Vl _ (ul h)
theorem aW.mem{F:List (Nat×Value)}(e:a.defers=ds)(c:N<=a.tmps.size)(h:∀p∈F,a.tmps[p.1]?=some p.2):aW F N ds a:=⟨e,c,λd v b=>h (d,v) (ul b)⟩
theorem aW.more{F:List (Nat×Value)}(h:aW F N ds a){d:Nat}(hv:a.tmps[d]?=some v):aW ((d,v)::F) N ds a:=⟨h.defers,h.size,λe u b=>by
 by_cases q:e=d
 ·subst q;simp only[a51,beq_self_eq_true,Option.some.injEq]at b;subst b;exact hv
 ·simp only[a51,show(e==d)=false from by simpa using q]at b;exact h.slot e u b⟩
theorem aW.all{F:List (Nat×Value)}(h:aW F N ds a)(c:(F.map (·.1)).Nodup):∀p∈F,a.tmps[p.1]?=some p.2:=by
 intro p b;refine h.slot p.1 p.2 ?_;clear h;induction F with
 |nil=>cases b
 |cons q r d=>
  rw[a48,List.nodup_cons]at c;rcases AI.1 b with rfl|b
  ·simp[a51]
  ·have:p.1≠q.1:=λe=>c.1 (by rw[←e];exact XO b);simp only[a51,show(p.1==q.1)=false from by simpa using this];exact d c.2 b
theorem uU.base{df:List Deferred}{fx:List (Nat×Value)}{gs:List Nat}{G:Nat->Value->World->Prop}{w0:World}{L:Nat->Prop}(h:uU df fx gs G N w0 a w L):aW fx N df a:=aW.mem h.defers h.size h.fixed
theorem aJ{a:Act}{w:World}{R:Value->World->Prop}(h:(execOp a.eval o).run P w= .ok (.value v) w')(b:R v w'):qJ P a o w R:= .inl ⟨v,w',h,b⟩
theorem Rn.O(hF:aW F N ds a)(d:Tmp)(p:Op){v:Value}{w':World}(hy:∀o:Oper,o.op=p->(execOp a.eval o).run P w= .ok (.value v) w')
 (next:∀a',aW ((d,v)::F) N ds a'->Rn P Goal (b.atR a' (.inRegion ops rest::k)) cs w') (hd:d<N:=by decide) (h:(ops[m]?).map (λo=>(o.dst,o.op,o.guard))=some (some d,p,none):=by kernel_rfl) (hnd:∀c,p≠ .defer c:=by simp):Rn P Goal (b.atR a (.inRegion ops (m::rest)::k)) cs w:=Rn.op hF d p hd h hnd hy next
theorem Rn.y(f:aW F N ds a)(d x:Nat)(c:F.lookup x=some v)(next:∀a',aW ((d,v)::F) N ds a'->Rn P Goal (b.atR a' (.inRegion ops rest::k)) cs w)(e:d<N:=by decide)(h:(ops[m]?).map (λo=>(o.dst,o.op,o.guard))=some (some d, .move (.tmp x),none):=by kernel_rfl):Rn P Goal (b.atR a (.inRegion ops (m::rest)::k)) cs w:=Rn.mv f d x e c h next
theorem Rn.S(hF:aW F N ds a)(d x:Nat){v:Value}(hx:F.lookup x=some v)(next:∀a',aW ((d,v)::F) N ds a'->Rn P Goal (b.atR a' (.inRegion ops rest::k)) cs w)(hd:d<N:=by decide)(h:(ops[m]?).map (λo=>(o.dst,o.op,o.guard))=some (some d, .assign (.tmp x),none):=by kernel_rfl):Rn P Goal (b.atR a (.inRegion ops (m::rest)::k)) cs w:=Rn.as hF d x hd hx h next
theorem Rn.C(hF:aW F N ds a)(d:Nat)(v:Value)(next:∀a',aW ((d,v)::F) N ds a'->Rn P Goal (b.atR a' (.inRegion ops rest::k)) cs w)(hd:d<N:=by decide)(h:(ops[m]?).map (λo=>(o.dst,o.op,o.guard))=some (some d, .assign (.const v),none):=by kernel_rfl):Rn P Goal (b.atR a (.inRegion ops (m::rest)::k)) cs w:=Rn.asc hF d v hd h next
theorem Rn.z(f:aW F N ds a)(d x:Nat)(t:TypeId)(c:F.lookup x=some v)
 (next:∀a',aW ((d, .pk w.heap.size 0)::F) N ds a'->Rn P Goal (b.atR a' (.inRegion ops rest::k)) cs (w.alloc (.cells v.cells t))) (e:d<N:=by decide) (h:(ops[m]?).map (λo=>(o.dst,o.op,o.guard))=some (some d, .box t (.tmp x),none):=by kernel_rfl):Rn P Goal (b.atR a (.inRegion ops (m::rest)::k)) cs w:=Rn.boxes f d x t e c h next
theorem sD{a:Act}{w:World}{x:Nat}{R:Value->World->Prop}(e:o.op= .move (.tmp x)\/o.op= .assign (.tmp x))(h:a.tmps[x]?=some v)(b:R v w):qJ P a o w R:=aJ (by rw[cj e,aD h]) b
theorem nE{c:List Nat}{G:Nat->Value->World->Prop}(b:∀m d,c[m]?=some d->ii ops n m=true->∃v,a.tmps[d]?=some v/\G m v w)(i d:Nat)(f:c[i]?=some d:=by rfl)(e:ii ops n i=true:=by kernel_rfl):∃v,a.tmps[d]?=some v/\G i v w:=b i d f e
theorem rI(b:P.funcs[f]?=some fn)(args:Array Value)(a:(fn.name== "runtime.NumGoroutine")=false:=by kernel_rfl)(c:fn.body.isNone=false:=by kernel_rfl):(callFunc f args).runT P w #[]=(.ok (.enter f args) w,#[]):=dq b a c args
end
theorem ac{a:Act}{v:Value}:a.eval (.const v)=v:=rfl
theorem gX{a:Act}{F:List (Nat×Value)}{N:Nat}{ds:List Deferred}{x:Nat}{v:Value}(hF:aW F N ds a:=by assumption)(hx:F.lookup x=some v:=by rfl):a.eval (.tmp x)=v:=hF.get hx
theorem gx{p:Prop}(h:p:=by first|exact gX|exact ac):p:=h
theorem NT(hop:o.op= .move x)(hx:ev x=v):(execOp ev o).run P w= .ok (.value v) w:=hx▸cj (.inl hop)
theorem V5(hop:o.op= .assign x)(hx:ev x=v):(execOp ev o).run P w= .ok (.value v) w:=hx▸cj (.inr hop)
def nd:Op->Bool
 | .defer _=>false
 |_=>true
theorem oq{p:Prop}(h:p:=by
 first
 |exact NT ho gx
 |exact V5 ho gx
 |exact(aP (by first|exact cp|exact bM|exact fo|exact qZ|exact uf) ho gx ((aK (by assumption) _).trans rfl)).1
 |exact Mu _ d_ ho gx
 |exact ri_fkind _ d_ ho gx
 |exact QJ _ d_ ho gx
 |exact ri_im _ _ d_ ho gx
 |exact ey _ d_ ho gx
 |exact je _ _ d_ ho gx
 |exact ri_kd _ d_ ho gx
 |exact rw_f _ d_ ho gx
 |exact rs_f0 ho gx
 |exact rs_f1 ho gx
 |exact rs_f2 ho gx
 |exact rs_f4 ho gx
 |exact rs_f5 ho gx
 |exact(dw ho gx gx).1
 |exact zv ho gx rfl
 |exact tX ho gx gx o_
 |exact ca ho gx gx
 |exact nl ho gx gx
 |exact tV ho gx gx
 |exact kG ho gx gx
 |exact od ho rfl gx gx
 |exact t7 ho rfl gx gx
 |exact RH ho gx gx
 |exact RI ho gx gx
 |exact(tl ho gx).1
 |exact(mS ho gx gx o_).1
 |exact BU ho gx gx o_
 |exact j6 ho gx
 |exact RG ho gx
 |exact oe (ty:=46) (e:=4) k_ ho gx
 |exact oe (ty:=25) (e:=9) k_ ho gx
 |exact bI ho gx gx o_
 |exact xR ho gx gx d_ o_
 |exact NC ho gx gx o_ o_
 |exact ri_mulW ho gx gx o_
 |exact(fA ho gx gx gx o_ o_).1
 |exact t6 ho gx gx o_
 |exact pO ho gx gx o_
 |exact zA ho gx (by assumption)
 |exact rs_load ho gx (by assumption)
 |exact Kz ho gx (λ_=>gx) gx
 |exact cut_bools ho gx gx o_
 |exact cut_texts ho gx gx o_
 |exact RZ ho gx gx o_
 |exact xQ ho gx gx (by assumption)
 |exact ri_loadKd ho gx (by assumption)
 |exact rw_load ho gx (by assumption)
 |exact ri_loadC (Cst.two (by assumption)) ho gx (by assumption)
 |exact oe (ty:=46) (e:=4) k_ ho (gx.trans (by assumption))
 |exact oe (ty:=25) (e:=9) k_ ho (gx.trans (by assumption))
 |exact(eA (t:=46) (e:=4) k_ (λw=>k_) ho gx gx (by first|assumption|simpa using(by assumption)|omega)).1
 |exact(eA (t:=25) (e:=9) k_ (λw=>k_) ho gx gx (by first|assumption|simpa using(by assumption)|omega)).1
 |exact(oP ho gx gx o_).1
 |exact fs0 ho gx
 |exact fs1 ho gx
 |exact fs2 ho gx
 |exact fs3 ho gx
 |exact Sw ho gx
 |exact fk0 ho gx
 |exact fk1 ho gx
 |exact fk2 ho gx
 |exact fk3 ho gx
 |exact fk4 ho gx
 |exact fk5 ho gx
 |exact fk6 ho gx
 |exact fk7 ho gx):p:=h
section
variable{b:Frame}{k:List Item}
def gF(ops:Array Oper)(F:List (Nat×Value)):Option (Nat×Bool)->Bool
 |none=>true
 |some (g,q)=>match (ops[g]?).bind (·.dst)with
  |some s=>match F.lookup s with
   |some (.bool r)=>r==q
   |_=>false
  |none=>false
theorem lF{o:Oper}{gd:Option (Nat×Bool)}(hF:aW F N ds a)(h:o.guard=gd)(hw:gF ops F gd=true):a39 o (yielded ops a.tmps)=true:=by
 unfold a39 yielded;rw[h];cases gd with
 |none=>rfl
 |some gq=>
  obtain⟨g,q⟩:=gq;simp only[gF]at hw;cases hs:(ops[g]?).bind (·.dst)with
  |none=>rw[hs]at hw;simp at hw
  |some s=>
   rw[hs]at hw;simp only at hw;cases hr:F.lookup s with
   |none=>rw[hr]at hw;simp at hw
   |some u=>
    rw[hr]at hw;cases u with
    |bool r=>simpa[hs,hF.slot s _ hr]using hw
    |_=>simp at hw
theorem Rn.qq{d:Tmp}{p:Op}{v:Value}{gd:Option (Nat×Bool)}(hF:aW F N ds a)(next:∀a',aW ((d,v)::F) N ds a'->Rn P Goal (b.atR a' (.inRegion ops rest::k)) cs w)
 (h:(ops[m]?).map (λo=>(o.dst,o.op,o.guard))=some (some d,p,gd):=by rfl) (hw:gF ops F gd=true:=by rfl) (hy:∀o:Oper,o.op=p->(execOp a.eval o).run P w= .ok (.value v) w:=by intro o ho;exact oq) (hd:d<N:=by decide) (hnd:nd p=true:=by rfl):Rn P Goal (b.atR a (.inRegion ops (m::rest)::k)) cs w:=by
 cases ho:ops[m]? with
 |none=>rw[ho]at h;cases h
 |some o=>
  rw[ho]at h;simp only[Option.map_some,Option.some.injEq,Prod.mk.injEq]at h;obtain⟨e1,e2,e3⟩:=h;refine Rn.ran ho (lF hF e3 hw) (λc e=>by rw[←e2,e]at hnd;cases hnd) (hy o e2) ?_;rw[e1];exact next _ (hF.put hd v)
def mc:Nat->Frame->List Item
 |0,fr=>fr.todo
 |n+1,fr=>match fr.todo with
  | .inRegion _ (_::_)::_=>fr.todo
  |_=>match bZ fr with
   |some t=>mc n {fr with todo:=t}
   |none=>fr.todo
theorem Rn.runs:∀(n:Nat) (k:List Item),Rn P Goal (b.atR a (mc n (b.atR a k))) cs w->Rn P Goal (b.atR a k) cs w
 |0,_,h=>h
 |n+1,k,h=>by
  unfold mc at h;split at h
  ·exact h
  ·split at h
   ·rename_i t ht;exact Rn.p ht (Rn.runs n t h)
   ·exact h
theorem Rn.gr{k':List Item}(next:Rn P Goal (b.atR a (.inRegion ops (m::rest)::k')) cs w)(h:mc 6 (b.atR a k)= .inRegion ops (m::rest)::k':=by rfl):Rn P Goal (b.atR a k) cs w:=Rn.runs 6 k (by rw[h];exact next)
theorem Rn.uu{k':List Item}{d:Tmp}{p:Op}{v:Value}{gd:Option (Nat×Bool)}(hF:aW F N ds a)(next:∀a',aW ((d,v)::F) N ds a'->Rn P Goal (b.atR a' (.inRegion ops rest::k')) cs w)(h0:mc 6 (b.atR a k)= .inRegion ops (m::rest)::k':=by rfl)
 (h:(ops[m]?).map (λo=>(o.dst,o.op,o.guard))=some (some d,p,gd):=by rfl) (hw:gF ops F gd=true:=by rfl) (hy:∀o:Oper,o.op=p->(execOp a.eval o).run P w= .ok (.value v) w:=by intro o ho;exact oq) (hd:d<N:=by decide) (hnd:nd p=true:=by rfl):Rn P Goal (b.atR a k) cs w:=Rn.gr (Rn.qq hF next h hw hy hd hnd) h0
end
def EO(P:Program)(ops:Array Oper)(a:Act)(o:Oper)(w:World)(R:Value->World->Prop):Prop:=(a39 o (yielded ops a.tmps)=true/\qJ P a o w R)\/(a39 o (yielded ops a.tmps)=false/\R undef w)
def yl(ops:Array Oper)(ds:List Nat)(fx:List Nat)(N:Nat):Bool:=
 CZ ops&&decide (ds.length<=ops.size)&&((Ak ds.length).all λn=>((ops[n]?).map λo=>o.dst==ds[n]?&&zW o.op).getD false)&&decide ds.Nodup&&(ds.all λd=>decide (d<N)&& !fx.contains d)&&
 ((Ak ops.size).all λn=>decide (n<ds.length)||((Ak n).all λk=>DU ops ops.size n k))
section
variable{b:Frame}{k:List Item}
theorem Rn.skips(c:ops[n]?=some o)(d:a39 o (yielded ops a.tmps)=false)(h:Rn P Goal (b.atR (a.put o.dst undef) (.inRegion ops rest::k)) cs w):Rn P Goal (b.atR a (.inRegion ops (n::rest)::k)) cs w:=by refine Rn.exec rfl (jq (fr:=b.atR a (.inRegion ops (n::rest)::k)) rfl (by rw[c];exact d)) ?_;rw[BR,c];exact h
theorem Rn.doesG{R:Value->World->Prop}(ho:ops[n]?=some o)(hnd:∀c,o.op≠ .defer c)(h:EO P ops a o w R)(next:∀v w',R v w'->Rn P Goal (b.atR (a.put o.dst v) (.inRegion ops rest::k)) cs w'):Rn P Goal (b.atR a (.inRegion ops (n::rest)::k)) cs w:=by
 rcases h with⟨hw,h⟩|⟨hw,h⟩
 ·exact Rn.does ho hw hnd h next
 ·exact Rn.skips ho hw (next undef w h)
theorem Rn.growsG{id:Nat}{df:List Deferred}{fx:List (Nat×Value)}{ds:List Nat}{G:Nat->Value->World->Prop}(T:P.follows .mixedOrders=true)(J:yl ops ds (fx.map (·.1)) N=true)(L:∀n v w w',G n v w->Bw w w'->G n v w')
 (a2:∀n o a w',n<ds.length->ops[n]?=some o->Bw w w'->N<=a.tmps.size->(∀p∈fx,a.tmps[p.1]?=some p.2)->(∀m d,ds[m]?=some d->ii ops n m=true->∃v,a.tmps[d]?=some v/\G m v w')->EO P ops a o w' λv i=>G n v i/\Bw w' i)
 (q:Nat->Act->World->Prop) (S:∀a w',uU df fx ds G N w a w' (λ_=>True)->q ds.length a w')
 (Q:∀n o a w' rest,ds.length<=n->ops[n]?=some o->q n a w'->(∀a' i,q (n+1) a' i->Rn P Goal (b.atR a' (.inRegion ops rest::k)) cs i)->Rn P Goal (b.atR a (.inRegion ops (n::rest)::k)) cs w')
 (V:∀a w',q ops.size a w'->Rn P Goal (b.atR a k) cs w') (a5:a.defers=df) (hN:N<=a.tmps.size) (a4:∀p∈fx,a.tmps[p.1]?=some p.2):Rn P Goal (b.atR a (.code (.region id ops true)::k)) cs w:=by
 simp only[yl,a35,decide_eq_true_eq,Vk,Pi,No]at J;obtain⟨⟨⟨⟨⟨c1,c3⟩,c4⟩,c5⟩,c6⟩,c7⟩:=J;refine Rn.draw λt=> ?_;have R:Nu (P.follows .mixedOrders) ops t=Bt .any ops t:=by unfold Nu;rw[T];simp
 rw[R];have O:∀{f:Array Bool} {m:Nat} {o:Oper},mD ops f->ds.length<=m->ops[m]?=some o->(∀e∈o.after,QZ .any e=true->f[e.on]?=some true)->∀n,n<m->f[n]?=some true:=λ{f m o} D hm z s n B=>by have g:m<ops.size:=(gA z).1;exact D.reach ops.size m n o z s (((c7 m g).resolve_left o_) n B)
 refine Rn.orderly (wV c1) (λf a w'=>mD ops f/\(((∀n,ds.length<=n->n<ops.size->f[n]?=some false)/\uU df fx ds G N w a w' λn=>f[n]?=some true)\/∃j,ds.length<j/\j<=ops.size/\(∀n,n<j->f[n]?=some true)/\(∀n,j<=n->n<ops.size->f[n]?=some false)/\q j a w'))
  (λf a w' E h=> ?_) (λf a w' m o rest a7 z hm s h C=> ?_) t a _ ⟨λn o _ A=> ?_, .inl ⟨λn _ B=>by simp[B],a5,hN,a4,jS w,λn d y A=> ?_⟩⟩
 ·refine Rn.p rfl (V a w' ?_);obtain⟨D,h⟩:=h;rcases h with⟨H,l⟩|⟨j,H,l,h3,Y,Z⟩
  ·have hK:ds.length=ops.size:=by refine VH c3 (OC λg=> ?_);have:=H ds.length (a36 _) g;rw[E _ g]at this;cases this
   rw[←hK];exact S a w' ⟨l.defers,l.size,l.fixed,l.old,λn d y _=>l.come n d y (E n (by have:=(a44.1 y).1;omega))⟩
  ·have hj:j=ops.size:=by refine VH l (OC λg=> ?_);have:=Y j (a36 _) g;rw[E _ g]at this;cases this
   rw[←hj];exact Z
 ·have a6:m<ops.size:=(gA z).1;obtain⟨D,h⟩:=h;have C:=λa' i x=>C a' i ⟨D.set z s,x⟩;by_cases F:m<ds.length
  ·rcases h with⟨H,l⟩|⟨j,H,l,h3,Y,Z⟩
   ·have hc:=c4 m F;rw[z]at hc;simp only[a37,a55,a35,beq_iff_eq]at hc;obtain⟨e1,e3⟩:=hc;have W:ds[m]?=some ds[m]:=AS F;refine Rn.doesG z (λc e=>by rw[e]at e3;cases e3) (a2 m o a w' F z l.old l.size l.fixed λn d y B=>l.come n d y (p5 B z s)) λv i hv=> ?_;rw[e1,W];have X:=c6 ds[m] (Yg F);refine C _ _ (.inl ⟨λn B g=> ?_,l.defers,by simpa[Rf]using l.size,λp hp=> ?_,aB l.old l.old.size hv.2,λn d y A=> ?_⟩)
    ·rw[sN o_];exact H n B g
    ·show(a.tmps.setIfInBounds ds[m] v)[p.1]?=_;rw[sN (λe=>by have h6:ds[m]∉fx.map (·.1):=(by simpa using X.2);exact h6 (by rw[e];exact XO hp))]
     exact l.fixed p hp
    ·by_cases K:n=m
     ·subst K;rw[W]at y;cases y;refine⟨v, ?_,hv.1⟩;show(a.tmps.setIfInBounds ds[n] v)[ds[n]]?=_;exact a40 (a38 X.1 l.size)
     ·rw[sN (LZ K)]at A;obtain⟨u,a1,a0⟩:=l.come n d y A;refine⟨u, ?_,L n u w' i a0 hv.2⟩;show(a.tmps.setIfInBounds ds[m] v)[d]?=_;rw[sN (λe=>by obtain⟨B,rfl⟩:=a44.1 y;exact K ((Zr c5).1 e).symm)]
      exact a1
   ·have:=h3 m o_;rw[hm]at this;cases this
  ·have r:=O D o_ z s;have I:∀n,n<m+1->(f.setIfInBounds m true)[n]?=some true:=λn B=>by
    by_cases e:m=n
    ·subst e;exact a40 o_
    ·rw[sN e];exact r n o_
   rcases h with⟨H,l⟩|⟨j,H,l,h3,Y,Z⟩
   ·have U:m=ds.length:=by refine VH (OC λg=> ?_) o_;have:=H ds.length (a36 _) o_;rw[r _ g]at this;cases this
    have hS:q m a w':=by rw[U];exact S a w' ⟨l.defers,l.size,l.fixed,l.old,λn d y _=>l.come n d y (r n (by have:=(a44.1 y).1;omega))⟩
    refine Q m o a w' rest o_ z hS λa' i M=>C a' i (.inr ⟨m+1,o_,o_,I,λn B g=> ?_,M⟩);rw[sN o_];exact H n o_ g
   ·have a3:m=j:=by
     refine VH (OC λg=> ?_) (OC λg=> ?_)
     ·have:=Y j (a36 _) o_;rw[r _ g]at this;cases this
     ·have:=h3 m g;rw[hm]at this;cases this
    subst a3;refine Q m o a w' rest o_ z Z λa' i M=>C a' i (.inr ⟨m+1,o_,o_,I,λn B g=> ?_,M⟩);rw[sN o_];exact Y n o_ g
 ·rw[Fh]at A;split at A
  ·cases A
  ·cases A
 ·rw[Fh]at A;split at A
  ·cases A
  ·cases A
theorem tR{ev:Operand->Value}{y z:Operand}(a:o.op= .pick x y z)(b:ev x= .bool q):(execOp ev o).run P w= .ok (.value (if q then ev y else ev z)) w:=by cases q<;>simp[execOp,a,b,go_sem]
theorem zv{ev:Operand->Value}{b:Array Value}(a:o.op= .extract x i)(c:ev x= .tuple b)(hv:b[i]?=some v):(execOp ev o).run P w= .ok (.value v) w:=by simp[execOp,a,c,Instr.extract,hv]
theorem db{ev:Operand->Value}{y:Operand}{ty:TypeId}{g:Nat}{cells old:Array Value}(a:o.op= .store ty x y)(c:ev x= .pk g 0)(b:ev y= .agg cells)(f:w.heap[g]?=some (.cells old t))(e:(P.info? ty).map (·.size)=some cells.size)(d:old.size=cells.size)(i:cells.all (·.oneCell')=true):
 (execOp ev o).run P w= .ok .skip (w.setRow g cells):=by have h:=run_storeVar_row (P:=P) w g t ty old cells f e d i;simp[execOp,a,c,b,Rl,Instr.sureAddr,h]
theorem ei(w:World)(g:Nat)(cs:Array Value)(h:N<=g):Below N w (w.setRow g cs):=⟨rfl,rfl,rfl,by simp[World.setRow],λk a=>setRow_other w g k cs o_⟩
theorem qz{R:Ending->World->Prop}{t u:Tmp}{ty:TypeId}{d:TypeDesc}(s:P.funcs[f]?=some fn)(c:fn.results=#[.cell t ty, .tmp u])(m:P.underlying ty=some d)(y:d.isRow=true)(r:(P.info? ty).map (·.size)=some n)
 (h:∀cs,Rn P (λg w'=>∃(a:Act) (k:List Item) (b:Nat) (cells:Array Value) (e:TypeId) (v:Value),g=gB {(base f).atR a k with mode:= .returning} cs/\a.defers=[]/\a.tmps[t]?=some (.pk b 0)/\w'.heap[b]?=some (.cells cells e)/\cells.size=n/\a.tmps[u]?=some v/\R (.returned (.tuple #[.agg cells,v])) w') (a49 P f args .normal) cs w):Calls P f args w R:=λcs=>by
 obtain⟨G,w',F,a,k,b,cells,e,v,rfl,E,D,C,B,A,z⟩:=h cs;refine⟨.returned (.tuple #[.agg cells,v]),w',{(base f).atR a k with mode:= .returning},z,Wu F,rfl,rfl,E,rfl,fn,s, ?_⟩;have p:a.tmps[t]?.getD undef= .pk b 0:=by rw[D];rfl
 have l:a.tmps[u]?.getD undef=v:=by rw[A];rfl
 have o:w'.rangeAt b 0 cells.toList:=λj x i=>by
  rw[a46];have:w'.cell? ⟨b,j,none⟩=cells[j]?:=by simp[AB,C]
  rw[this,←i,Array.getElem?_toList]
 have q:=run_loadVar_mid (P:=P) w' b 0 ty cells.toList d o m y (by rw[r];simp[B]);show(results fn a.tmps).run P w'=_;simp[results,c,p,l,asAddr,q]
end
section
def kn(fx:List (Nat×Value))(ps:List (Nat×Value))(ops:Array Oper)(n x:Nat):Option Value:=
 match fx.lookup x with
 |some v=>some v
 |none=>(ps.zipIdx.find? λq=>q.1.1==x&&ii ops n q.2).map (·.1.2)
theorem uq{fx:List (Nat×Value)}{f:List (Nat×Value)}{x:Nat}(h:kn fx f ops n x=some v)(c:∀p∈fx,a.tmps[p.1]?=some p.2)(b:∀m p,f[m]?=some p->ii ops n m=true->a.tmps[p.1]?=some p.2):a.tmps[x]?=some v:=by
 unfold kn at h;cases e:fx.lookup x with
 |some u=>
  rw[e]at h;cases h;have:(x,v)∈fx:=by
   clear c b;induction fx with
   |nil=>cases e
   |cons p r j=>
    rw[a51]at e;split at e
    ·rename_i k;have:x=p.1:=(by simpa using k);cases e;rw[this];exact VO
    ·exact Vl _ (j e)
  exact c _ this
 |none=>
  rw[e]at h;simp only[Option.map_eq_some_iff]at h;obtain⟨q,g,l⟩:=h;have o:=List.mem_of_find?_eq_some g;have d:=List.find?_some g;simp only[a35,beq_iff_eq]at d;have i:=List.mem_zipIdx o;have:=b q.2 q.1 (by simpa using a44.2 ⟨by simpa using i.2.1,by simpa using i.2.2.symm⟩) d.2;rw[←d.1,←l];exact this
def lk(fx:List (Nat×Value))(ps:List (Nat×Value))(x:Nat):Option Value:=(fx++ps).lookup x
structure Rw (w:World) (fx ps:List (Nat×Value)) (ops:Array Oper) (n:Nat) (o:Oper) (a:Act) (w':World):Prop where
 ho:ops[n]?=some o
 e:∀{p},(h:(ops[n]?).map (·.op)=some p:=by kernel_rfl)->o.op=p
 b:Bw w w'
 k:∀x {u},(g:lk fx ps x=some u:=by rfl)->(h:kn fx ps ops n x=some u:=by kernel_rfl)->a.eval (.tmp x)=u
def Dv(P:Program)(a:Act)(o:Oper)(w:World)(v:Value):Prop:=qJ P a o w λu w'=>u=v/\Bw w w'
theorem dv(h:(execOp a.eval o).run P w= .ok (.value v) w):Dv P a o w v:=aJ h ⟨rfl,bR⟩
theorem CR{v':Value}(h:(execOp a.eval o).run P w= .ok (.value v') w)(e:v'=v):Dv P a o w v:=aJ h ⟨e,bR⟩
theorem kc:a.eval (.const v)=v:=rfl
def O6(o:Oper):Option Nat:=match o.op with
 | .move (.tmp x)=>some x
 | .assign (.tmp x)=>some x
 |_=>none
theorem MC{x:Nat}(h:O6 o=some x):o.op= .move (.tmp x)\/o.op= .assign (.tmp x):=by
 unfold O6 at h;split at h
 ·rename_i e;cases h;exact .inl e
 ·rename_i e;cases h;exact .inr e
 ·cases h
def jx(P:Program)(w:World)(fx ps:List (Nat×Value))(ms:List Nat)(ops:Array Oper):Nat->List (Nat×Value)->Prop
 |_,[]=>True
 |n,p::q=>(match ms.contains p.1 with|true=>jx P w fx ps ms ops (n+1) q|false=>(∀{o a w'},Rw w fx ps ops n o a w'->Dv P a o w' p.2)/\jx P w fx ps ms ops (n+1) q)
theorem tT{fx b:List (Nat×Value)}{c:List Nat}:∀(r:List (Nat×Value)) (k i:Nat) (p:Nat×Value),jx P w fx b c ops k r->r[i]?=some p->c.contains p.1=false->∀{o a w'},Rw w fx b ops (k+i) o a w'->Dv P a o w' p.2
 |[],_,i,_,_,h,_=>by simp at h
 |q::r,k,0,p,hr,h,hm=>by
  have:q=p:=by simpa using h
  subst this;unfold jx at hr;rw[hm]at hr;exact hr.1
 |q::r,k,i+1,p,hr,h,hm=>by
  have d:jx P w fx b c ops (k+1) r:=by
   unfold jx at hr;split at hr
   ·exact hr
   ·exact hr.2
  rw[show k+(i+1)=k+1+i from o_];exact tT r (k+1) i p d (by simpa using h) hm
def uk(fx ps:List (Nat×Value))(ms:List Nat)(ops:Array Oper):List (Option Value):=ps.zipIdx.map λq=>match ms.contains q.1.1 with
 |true=>((ops[q.2]?).bind O6).bind (kn fx ps ops q.2)
 |false=>none
def uj(ps:List (Nat×Value))(ms:List Nat):List (Option Value):=ps.map λp=>match ms.contains p.1 with
 |true=>some p.2
 |false=>none
theorem aW.grow{df:List Deferred}{fx b:List (Nat×Value)}(f:uU df fx (b.map (·.1)) (λn u _=>(b[n]?).map (·.2)=some u) N w a w' λ_=>True)(i:aW fx N df a):∀L:List (Nat×Value),(L.map λp=>b.lookup p.1)=L.map (λp=>some p.2)->aW (L++fx) N df a
 |[],_=>i
 |(d,v)::r,h=>by
  simp only[a48,List.cons.injEq]at h;refine(aW.grow f i r h.2).more ?_;have:∃m:Nat,b[m]?=some (d,v):=by
   have c:=h.1;clear f h;induction b with
   |nil=>cases c
   |cons p q j=>
    rw[a51]at c;split at c
    ·rename_i k;have:d=p.1:=(by simpa using k);cases c;exact⟨0,by rw[this];rfl⟩
    ·obtain⟨m,e⟩:=j c;exact⟨m+1,e⟩
  obtain⟨m,e⟩:=this;obtain⟨u,l,g⟩:=f.come m d (by rw[IS,e];rfl) trivial;rw[e]at g;cases g;exact l
theorem Rn.tabS{b:Frame}{k:List Item}{id:Nat}{df:List Deferred}{fx:List (Nat×Value)}(T:aW fx N df a)(d:List (Nat×Value))(E:List Nat)(L:List (Nat×Value))(j:jx P w fx d E ops 0 d)
 (c:Nat->Act->World->Prop) (J:∀a w',Bw w w'->aW (L++fx) N df a->c d.length a w')
 (I:∀n o a w' rest,d.length<=n->ops[n]?=some o->c n a w'->(∀a' g,c (n+1) a' g->Rn P Goal (b.atR a' (.inRegion ops rest::k)) cs g)->Rn P Goal (b.atR a (.inRegion ops (n::rest)::k)) cs w')
 (z:∀a w',c ops.size a w'->Rn P Goal (b.atR a k) cs w') (v:P.follows .mixedOrders=true:=by kernel_rfl) (Q:uk fx d E ops=uj d E:=by kernel_rfl) (A:nA ops (d.map (·.1)) (fx.map (·.1)) N=true:=by kernel_rfl) (hL:(L.map λp=>d.lookup p.1)=L.map (λp=>some p.2):=by kernel_rfl) (M:(fx.map (·.1)).Nodup:=by simp):Rn P Goal (b.atR a (.code (.region id ops true)::k)) cs w:=by
 refine Rn.grows (fx:=fx) (ds:=d.map (·.1)) (N:=N) (df:=df) (G:=λn u _=>(d[n]?).map (·.2)=some u) v A (λ_ _ _ _ h _=>h) (λn o a w' Z s hb y K=> ?_)
  c (λa w' S=> ?_) (λm o a w' rest H s hS R=>I m o a w' rest (by simpa using H) s hS R) z T.defers T.size (T.all M)
 ·have O:n<d.length:=by simpa using Z
  obtain⟨p,F⟩:∃p,d[n]?=some p:=⟨d[n],List.getElem?_eq_getElem O⟩;have r:∀m q,d[m]?=some q->ii ops n m=true->a.tmps[q.1]?=some q.2:=λm q W i=>by obtain⟨u,Y,X⟩:=K m q.1 (by rw[List.getElem?_map,W];rfl) i;rw[W]at X;cases X;exact Y
  have U:Dv P a o w' p.2->qJ P a o w' λu g=>(d[n]?).map (·.2)=some u/\Bw w' g:=λh=>by
   rcases h with⟨u,V,C,B,h3⟩|⟨f,D,C,B⟩
   ·exact .inl ⟨u,V,C,by rw[F,B];rfl,h3⟩
   ·exact .inr ⟨f,D,C,B.mono λe V ⟨u,e1,e2,e3⟩=>⟨u,e1,by rw[F,e2];rfl,e3⟩⟩
  refine U ?_;cases t:E.contains p.1 with
  |false=>
   refine tT d 0 n p j F t (o:=o) (a:=a) (w':=w') ?_;rw[Nat.zero_add];exact⟨s,λh=>by rw[s]at h;exact Option.some.inj h,hb,λx u _ h=>aD (uq h y r)⟩
  |true=>
   have H:=congrArg (λl=>l[n]?) Q;simp only[uk,uj,List.getElem?_map,List.getElem?_zipIdx,F,Option.map_some,Option.some.injEq,Nat.zero_add,t,s,Option.bind_some,Option.bind_eq_some_iff]at H;obtain⟨x,C,B⟩:=H;exact sD (MC C) (uq B y r) ⟨rfl,bR⟩
 ·have:=J a w' S.old (aW.grow S S.base L hL)
  rwa [List.length_map]
theorem Rn.tab{b:Frame}{k:List Item}{id:Nat}{df:List Deferred}{fx:List (Nat×Value)}(u:aW fx N df a)(c:List (Nat×Value))(j:List Nat)(d:Nat)(f:jx P w fx c j ops 0 c)
 (next:∀a w',Bw w w'/\aW ((d,v)::fx) N df a->Rn P Goal (b.atR a k) cs w') (g:P.follows .mixedOrders=true:=by kernel_rfl) (l:ops.size=c.length:=by kernel_rfl) (q:uk fx c j ops=uj c j:=by kernel_rfl) (i:nA ops (c.map (·.1)) (fx.map (·.1)) N=true:=by kernel_rfl) (e:c.lookup d=some v:=by kernel_rfl) (p:(fx.map (·.1)).Nodup:=by simp):Rn P Goal (b.atR a (.code (.region id ops true)::k)) cs w:=
 Rn.tabS u c j [(d,v)] f (λm a w'=>m=ops.size/\Bw w w'/\aW ((d,v)::fx) N df a) (λ_ _ y x=>⟨l.symm,y,x⟩) (λn o a w' r z s A t=>by have:=(gA s).1;omega) (λa w' h=>next a w' h.2) g q i (by simp[e]) p
theorem Rn.tab1{b:Frame}{k:List Item}{id:Nat}{df:List Deferred}{fx:List (Nat×Value)}{R:Act->World->Prop}(next:∀a w',R a w'->Rn P Goal (b.atR a k) cs w')(z:aW fx N df a)(c:List (Nat×Value))(i:List Nat)(L:List (Nat×Value))(e:jx P w fx c i ops 0 c)
 (t:∀a w' rest,Bw w w'->aW (L++fx) N df a->(∀a' d,R a' d->Rn P Goal (b.atR a' (.inRegion ops rest::k)) cs d)->Rn P Goal (b.atR a (.inRegion ops (c.length::rest)::k)) cs w') (f:P.follows .mixedOrders=true:=by kernel_rfl) (u:ops.size=c.length+1:=by kernel_rfl) (l:uk fx c i ops=uj c i:=by kernel_rfl) (g:nA ops (c.map (·.1)) (fx.map (·.1)) N=true:=by kernel_rfl) (y:(L.map λp=>c.lookup p.1)=L.map (λp=>some p.2):=by kernel_rfl) (j:(fx.map (·.1)).Nodup:=by simp):Rn P Goal (b.atR a (.code (.region id ops true)::k)) cs w:=
 Rn.tabS z c i L e (λm a w'=>(m=c.length/\Bw w w'/\aW (L++fx) N df a)\/(m=c.length+1/\R a w')) (λ_ _ s r=> .inl ⟨rfl,s,r⟩) (λn o a w' rest A v x q=>by
  rcases x with⟨rfl,s,r⟩|⟨rfl,_⟩
  ·exact t a w' rest s r λa' d h=>q a' d (.inr ⟨rfl,h⟩)
  ·have:=(gA v).1;omega) (λa w' h=>by
  rcases h with⟨h,_⟩|⟨_,h⟩
  ·omega
  ·exact next a w' h) f l g y j
def AO(ops:Array Oper)(n:Nat):Option (FuncId×Array Operand):=(ops[n]?).bind λo=>match o.op with
 | .call c=>match c.callee with
   | .value (.func f)=>some (f,c.args)
   |_=>none
 |_=>none
def nB(P:Program)(f:FuncId):Bool:=match P.funcs[f]? with
 |some fn=> !(fn.name== "runtime.NumGoroutine")&& !fn.body.isNone
 |none=>false
theorem Rw.calls{fx p:List (Nat×Value)}{xs:Array Operand}{l:Array Value}{v':Value}(h:Rw w fx p ops n o a w')(q:xs.map a.eval=l)(r:Calls P f l w' λe i=>e= .returned v'/\Bw w' i)(hv:v'=v)(b:AO ops n=some (f,xs))(d:nB P f=true):Dv P a o w' v:=by
 subst hv;unfold AO at b;rw[h.ho]at b;simp only[Hk]at b;split at b
 ·rename_i c j;split at b
  ·rename_i g m;simp only[Option.some.injEq,Prod.mk.injEq]at b;unfold nB at d;split at d
   ·rename_i y k;simp only[a35,VB]at d;obtain⟨z,A,u⟩:=c;simp only at m b;subst m;obtain⟨rfl,rfl⟩:=b;exact .inr ⟨_,_,(bU (w:=w') j q (dq k d.1 d.2 _)).1,r.mono λe x ⟨t,s⟩=>⟨_,t,rfl,s⟩⟩
   ·cases d
  ·cases b
 ·cases b
variable{fx ps:List (Nat×Value)}{v':Value}
theorem Rw.c1{x0:Operand}{g:Value}(h:Rw w fx ps ops n o a w')(j:a.eval x0=g)(i:Calls P f #[g] w' λe b=>e= .returned v'/\Bw w' b)(hv:v'=v:=by rfl)(d:AO ops n=some (f,#[x0]):=by kernel_rfl)(c:nB P f=true:=by kernel_rfl):Dv P a o w' v:=h.calls (by simp[j]) i hv d c
theorem Rw.c2{x0 g:Operand}{j i:Value}(h:Rw w fx ps ops n o a w')(m:a.eval x0=j)(l:a.eval g=i)(k:Calls P f #[j,i] w' λe b=>e= .returned v'/\Bw w' b)(hv:v'=v:=by rfl)(d:AO ops n=some (f,#[x0,g]):=by kernel_rfl)(c:nB P f=true:=by kernel_rfl):Dv P a o w' v:=h.calls (by simp[m,l]) k hv d c
theorem Rw.c3{x0 i g:Operand}{l k j:Value}(h:Rw w fx ps ops n o a w')(r:a.eval x0=l)(q:a.eval i=k)(p:a.eval g=j)(m:Calls P f #[l,k,j] w' λe b=>e= .returned v'/\Bw w' b)(hv:v'=v:=by rfl)(d:AO ops n=some (f,#[x0,i,g]):=by kernel_rfl)(c:nB P f=true:=by kernel_rfl):Dv P a o w' v:=h.calls (by simp[r,q,p]) m hv d c
theorem Rw.c6{x0 l k j i g:Operand}{t s r q p m:Value}(h:Rw w fx ps ops n o a w')(C:a.eval x0=t)(B:a.eval l=s)(A:a.eval k=r)(z:a.eval j=q)(y:a.eval i=p)(x:a.eval g=m)(u:Calls P f #[t,s,r,q,p,m] w' λe b=>e= .returned v'/\Bw w' b)(hv:v'=v:=by rfl)(d:AO ops n=some (f,#[x0,l,k,j,i,g]):=by kernel_rfl)(c:nB P f=true:=by kernel_rfl):Dv P a o w' v:=h.calls (by simp[C,B,A,z,y,x]) u hv d c
end
section
variable{b:Frame}{k:List Item}
theorem Rn.fi{f:FuncId}{t:Tmp}{v:Value}{R:Value->World->Prop}{k':List Item}(hF:aW F N [] a)(hR:R v w)(hv:F.lookup t=some v:=by rfl)(h0:mc 6 ((base f).atR a k)= .code .ret::k':=by rfl):
 Rn P (λg w'=>∃(a:Act) (k:List Item) (v:Value),g=gB {(base f).atR a k with mode:= .returning} cs/\a.defers=[]/\a.tmps[t]?=some v/\R v w') ((base f).atR a k) cs w:=
 Rn.runs 6 k (by rw[h0];exact Rn.ends rfl (.inr ⟨_,rfl⟩) (Rn.now ⟨a,_,_,rfl,hF.defers,hF.slot t _ hv,hR⟩))
theorem Rn.fj{f:FuncId}{t u:Tmp}{v x:Value}{R:Value->Value->World->Prop}{k':List Item}(hF:aW F N [] a)(hR:R v x w)(hv:F.lookup t=some v:=by rfl)(hx:F.lookup u=some x:=by rfl)(h0:mc 6 ((base f).atR a k)= .code .ret::k':=by rfl):
 Rn P (λg w'=>∃(a:Act) (k:List Item) (v x:Value),g=gB {(base f).atR a k with mode:= .returning} cs/\a.defers=[]/\a.tmps[t]?=some v/\a.tmps[u]?=some x/\R v x w') ((base f).atR a k) cs w:=
 Rn.runs 6 k (by rw[h0];exact Rn.ends rfl (.inr ⟨_,rfl⟩) (Rn.now ⟨a,_,_,_,rfl,hF.defers,hF.slot t _ hv,hF.slot u _ hx,hR⟩))
theorem Rn.vv{k':List Item}{d:Tmp}{p:Op}{v:Value}{w':World}{gd:Option (Nat×Bool)}(hF:aW F N ds a)(hy:∀o:Oper,o.op=p->(execOp a.eval o).run P w= .ok (.value v) w')(next:∀a',aW ((d,v)::F) N ds a'->Rn P Goal (b.atR a' (.inRegion ops rest::k')) cs w')(h0:mc 6 (b.atR a k)= .inRegion ops (m::rest)::k':=by rfl)
 (h:(ops[m]?).map (λo=>(o.dst,o.op,o.guard))=some (some d,p,gd):=by rfl) (hw:gF ops F gd=true:=by rfl) (hd:d<N:=by decide) (hnd:nd p=true:=by rfl):Rn P Goal (b.atR a k) cs w:=by
 refine Rn.gr ?_ h0;cases ho:ops[m]? with
 |none=>rw[ho]at h;cases h
 |some o=>
  rw[ho]at h;simp only[Option.map_some,Option.some.injEq,Prod.mk.injEq]at h;obtain⟨e1,e2,e3⟩:=h;refine Rn.ran ho (lF hF e3 hw) (λc e=>by rw[←e2,e]at hnd;cases hnd) (hy o e2) ?_;rw[e1];exact next _ (hF.put hd v)
theorem Rn.nn{k':List Item}{p:Op}{w':World}(hF:aW F N ds a)(hy:∀o:Oper,o.op=p->(execOp a.eval o).run P w= .ok .skip w')(next:∀a',aW F N ds a'->Rn P Goal (b.atR a' (.inRegion ops rest::k')) cs w')(h0:mc 6 (b.atR a k)= .inRegion ops (m::rest)::k':=by rfl)
 (h:(ops[m]?).map (λo=>(o.dst,o.op,o.guard))=some (none,p,none):=by rfl) (hnd:nd p=true:=by rfl):Rn P Goal (b.atR a k) cs w:=Rn.gr (Rn.does0 hF p h (λc e=>by rw[e]at hnd;cases hnd) hy next) h0
def Sx(F:List (Nat×Value)):Operand->Option Value
 | .tmp t=>F.lookup t
 | .const v=>some v
 |_=>none
def OB(F:List (Nat×Value)):List Operand->Option (List Value)
 |[]=>some []
 |x::r=>match Sx F x,OB F r with
  |some v,some l=>some (v::l)
  |_,_=>none
theorem OA{x:Operand}{v:Value}(hF:aW F N ds a)(h:Sx F x=some v):a.eval x=v:=by
 cases x with
 |tmp t=>exact hF.get h
 |const u=>exact Option.some.inj h
 |func f=>cases h
 |_=>cases h
theorem To(hF:aW F N ds a):∀(xs:List Operand) (vs:List Value),OB F xs=some vs->xs.map a.eval=vs
 |[],vs,h=>by cases h;rfl
 |x::r,vs,h=>by
  unfold OB at h;split at h
  ·rename_i v l h1 h2;cases h;rw[a48,OA hF h1,To hF r l h2]
  ·cases h
theorem Rn.cl{d:Tmp}{f:FuncId}{fn:Func}{xs:Array Operand}{ats:Array TypeId}{vs:List Value}{k':List Item}{R:Value->World->Prop}(hF:aW F N ds a)(hf:P.funcs[f]?=some fn)(hC:Calls P f vs.toArray w λe w'=>∃v,e= .returned v/\R v w')
 (next:∀v w',R v w'->∀a',aW ((d,v)::F) N ds a'->Rn P Goal (b.atR a' (.inRegion ops rest::k')) cs w') (h0:mc 6 (b.atR a k)= .inRegion ops (m::rest)::k':=by rfl)
 (h:(ops[m]?).map (λo=>(o.dst,o.op,o.guard))=some (some d, .call {callee:= .value (.func f),args:=xs,argTypes:=ats},none):=by rfl) (ha:OB F xs.toList=some vs:=by rfl) (hd:d<N:=by decide) (hname:(fn.name== "runtime.NumGoroutine")=false:=by kernel_rfl) (hb:fn.body.isNone=false:=by kernel_rfl):Rn P Goal (b.atR a k) cs w:=
 Rn.gr (Rn.calls hF d hd h (by rw[←To hF _ _ ha,←Array.toList_map,Array.toArray_toList]) hf hname hb hC next) h0
theorem Rn.cw{d:Tmp}{f:FuncId}{fn:Func}{xs:Array Operand}{ats:Array TypeId}{vs:List Value}{k':List Item}{v:Value}{B:World->Prop}(hF:aW F N ds a)(hf:P.funcs[f]?=some fn)(hC:Calls P f vs.toArray w λe w'=>e= .returned v/\B w')
 (next:∀w',B w'->∀a',aW ((d,v)::F) N ds a'->Rn P Goal (b.atR a' (.inRegion ops rest::k')) cs w') (h0:mc 6 (b.atR a k)= .inRegion ops (m::rest)::k':=by rfl)
 (h:(ops[m]?).map (λo=>(o.dst,o.op,o.guard))=some (some d, .call {callee:= .value (.func f),args:=xs,argTypes:=ats},none):=by rfl) (ha:OB F xs.toList=some vs:=by rfl) (hd:d<N:=by decide) (hname:(fn.name== "runtime.NumGoroutine")=false:=by kernel_rfl) (hb:fn.body.isNone=false:=by kernel_rfl):Rn P Goal (b.atR a k) cs w:=
 Rn.cl (R:=λu w'=>u=v/\B w') hF hf (hC.mono λ_ _ h=>⟨_,h.1,rfl,h.2⟩) (λu w' hu a' hF=>by obtain⟨rfl,hB⟩:=hu;exact next w' hB a' hF) h0 h ha hd hname hb
end
theorem Rw.qq{w:World}{fx ps:List (Nat×Value)}{ops:Array Oper}{n:Nat}{o:Oper}{a:Act}{w':World}{p:Op}(z:Rw w fx ps ops n o a w')(h:(ops[n]?).map (·.op)=some p:=by rfl):o.op=p:=z.e h
theorem zx{p:Prop}(h:p:=by first|exact z.k _|exact ac):p:=h
theorem zc{w w':World}{b k:Nat}{cs:Array Value}{t:TypeId}{v:Value}(hb:Bw w w')(h:w.heap[b]?=some (.cells cs t):=by assumption)(e:cs[k]?=some v:=by rfl):w'.cell? ⟨b,k,none⟩=some v:=by unfold World.cell?;simp[(hb.block _ (gA h).1).trans h,e]
theorem tq{p:Prop}(h:p:=by
 first|intro o a w' z|intro z
 first
 |exact dv (Mu _ d_ z.qq zx)
 |exact dv (ri_fkind _ d_ z.qq zx)
 |exact dv (QJ _ d_ z.qq zx)
 |exact dv (ri_im _ _ d_ z.qq zx)
 |exact dv (ey _ d_ z.qq zx)
 |exact dv (rs_f0 z.qq zx)
 |exact dv (rs_f1 z.qq zx)
 |exact dv (rs_f2 z.qq zx)
 |exact dv (rs_f4 z.qq zx)
 |exact dv (rs_f5 z.qq zx)
 |exact dv (rw_f _ d_ z.qq zx)
 |exact dv (aP (by first|exact cp|exact bM|exact fo|exact qZ|exact uf) z.qq zx (zc z.b)).1
 |exact dv (dw z.qq zx zx).1
 |exact dv (zv z.qq zx rfl)
 |exact dv (tX z.qq zx zx o_)
 |exact dv (BU z.qq zx zx o_)
 |exact dv (mS z.qq zx zx o_).1
 |exact dv (ca z.qq zx zx)
 |exact dv (j6 z.qq zx)
 |exact dv (ri_loadC (Cst.two (by assumption)) z.qq zx ((z.b.block _ (gA (by assumption)).1).trans (by assumption)))
 |exact dv (bI z.qq zx zx (by first|omega|(simp only[aG];omega)|(simp only[ByteArray.size_append,aG];omega)))):p:=h
section
variable{b:Frame}{k:List Item}
theorem Rn.al{k':List Item}{d:Tmp}{p:Op}{v:Value}{ob:Obj}{gd:Option (Nat×Bool)}(hF:aW F N ds a)(hy:∀o:Oper,o.op=p->(execOp a.eval o).run P w= .ok (.value v) (w.alloc ob))
 (next:∀w' a',Bw w w'->w'.heap[w.heap.size]?=some ob->w'.heap.size=w.heap.size+1->aW ((d,v)::F) N ds a'->Rn P Goal (b.atR a' (.inRegion ops rest::k')) cs w') (h0:mc 6 (b.atR a k)= .inRegion ops (m::rest)::k':=by rfl)
 (h:(ops[m]?).map (λo=>(o.dst,o.op,o.guard))=some (some d,p,gd):=by rfl) (hw:gF ops F gd=true:=by rfl) (hd:d<N:=by decide) (hnd:nd p=true:=by rfl):Rn P Goal (b.atR a k) cs w:=
 Rn.vv hF hy (λa' hF=>next _ a' (aZ w ob) (bJ w ob) (aQ w ob) hF) h0 h hw hd hnd
theorem Rn.zz{k':List Item}{d x:Tmp}{t:TypeId}{c:Array Value}(hF:aW F N ds a)
 (next:∀w' a',Bw w w'->w'.heap[w.heap.size]?=some (.cells c t)->w'.heap.size=w.heap.size+1->aW ((d, .pk w.heap.size 0)::F) N ds a'->Rn P Goal (b.atR a' (.inRegion ops rest::k')) cs w') (h0:mc 6 (b.atR a k)= .inRegion ops (m::rest)::k':=by rfl)
 (h:(ops[m]?).map (λo=>(o.dst,o.op,o.guard))=some (some d, .box t (.tmp x),none):=by rfl) (hx:F.lookup x=some (.agg c):=by rfl) (hd:d<N:=by decide):Rn P Goal (b.atR a k) cs w:=
 Rn.gr (Rn.boxes hF d x t hd hx h λa' hF=>next _ a' (aZ w _) (bJ w _) (aQ w _) hF) h0
end
theorem bk{w w':World}{b:Nat}{o:Obj}(hb:Bw w w')(h:w.heap[b]?=some o):w'.heap[b]?=some o:=(hb.block _ (gA h).1).trans h
end
section
open Go.RowKit
theorem fT(a:Nat)(b:a<9223372036854775808):(VK 64 (a:Int)).toNat=a:=by rw[BitVec.ofInt_natCast,BitVec.toNat_ofNat];exact Nat.mod_eq_of_lt o_
theorem dL(a b:Nat)(d:a<9223372036854775808)(c:b<9223372036854775808):bits .and .i64 (a:Int) (b:Int)=((a&&&b:Nat):Int):=by have e:a&&&b<2^63:=Nat.and_lt_two_pow _ o_;show A8.wrap ((VK 64 (a:Int)&&&VK 64 (b:Int)).toNat:Int)=_;rw[BitVec.toNat_and,fT a d,fT b c,a5_];omega
theorem pj(a b:Nat)(d:a<9223372036854775808)(c:b<9223372036854775808):bits .or .i64 (a:Int) (b:Int)=((a|||b:Nat):Int):=by have e:a|||b<2^63:=Nat.or_lt_two_pow o_ o_;show A8.wrap ((VK 64 (a:Int)|||VK 64 (b:Int)).toNat:Int)=_;rw[BitVec.toNat_or,fT a d,fT b c,a5_];omega
theorem Ae(a b:Nat)(d:a<9223372036854775808)(c:b<9223372036854775808):bits .xor .i64 (a:Int) (b:Int)=((a^^^b:Nat):Int):=by have e:a^^^b<2^63:=Nat.xor_lt_two_pow o_ o_;show A8.wrap ((VK 64 (a:Int)^^^VK 64 (b:Int)).toNat:Int)=_;rw[BitVec.toNat_xor,fT a d,fT b c,a5_];omega
theorem I7(k:Nat):∀n i,i<k->(cQ n k)[i]?=some (XE (n/256^(k- 1- i))):=by
 induction k with
 |zero=>intro n i h;omega
 |succ k a=>
  intro n i h;rw[wt];cases i with
  |zero=>simp
  |succ i=>rw[List.getElem?_cons_succ,a n i o_,show k+1- 1-(i+1)=k- 1- i from o_]
end
section
open Go.Conc Go.RowKit
section
variable{b:Frame}{k:List Item}
theorem Rn.quits{r:Loop}{c:Frame}(d:b.roundOf=some l)(e:b.kind= .normal)(f:w.heap[l]?=some (.loop r))(h:Rn P Goal (c.finish (.bool false)) cs (bP w l {r with state:= .done,pending:=some .ret})):Rn P Goal (b.atR a (.code .ret::k)) (c::cs) w:=
 Rn.exec rfl (po (fr:=b.atR a (.code .ret::k)) (j:=some .ret) (.ret rfl) d e (mb P f (some .ret))) h
theorem xL{r:Loop}(h:w.heap[l]?=some (.loop r))(hs:r.state= .done):
 (Iz l).runT P w #[]=(.ok r.pending {w with heap:=w.heap.setIfInBounds l (.loop {r with state:= .exhausted})},#[⟨.obj l,false,false⟩,⟨.obj l,true,false⟩]):=by simp[-AT,Iz,Instr.getLoop,getObj,setObj,bind,Sem.bind,Sem.runT,pure,Obj.isChan,h,hs]
theorem Rn.rangeQuit{r:Loop}(d:w.heap[l]?=some (.loop r))(hs:r.state= .done)(c:r.pending=some .ret)(h:Rn P Goal (b.atR a (.code .ret::k)) cs (bP w l {r with state:= .exhausted})):Rn P Goal (b.atR a (.endRangeFunc l::k)) cs w:=by
 have e:=jh (P:=P) (main:=true) (listen:=true) (cs:=cs) (fr:=b.atR a (.endRangeFunc l::k)) rfl (xL (P:=P) d hs);have f:(r.pending.map Item.code).toList++k= .code .ret::k:=by rw[c];rfl
 rw[f]at e;exact Rn.exec rfl e h
theorem yD{R:Ending->World->Prop}{t:Tmp}{ty:TypeId}(e:P.funcs[f]?=some fn)(b:fn.results=#[.cell t ty])(d:∀w:World,(isAgg ty).run P w= .ok false w)
 (h:∀cs,Rn P (λg w'=>∃(a:Act) (k:List Item) (ad:Addr) (v:Value),g=gB {(base f).atR a k with mode:= .returning} cs/\a.defers=[]/\a.tmps[t]?=some (.pointer (some ad))/\w'.cell? ad=some v/\R (.returned v) w') (a49 P f args .normal) cs w):Calls P f args w R:=λcs=>by obtain⟨n,w',m,a,k,ad,v,rfl,l,j,c,i⟩:=h cs;refine⟨.returned v,w',{(base f).atR a k with mode:= .returning},i,Wu m,rfl,rfl,l,rfl,fn,e, ?_⟩;show(results fn a.tmps).run P w'=_;simp[results,b,j,asAddr,loadVar,d,c,go_sem]
end
section
variable{b:Frame}{k:List Item}
theorem Rn.dfr{d:Tmp}{c:Call}{g:FuncId}{x y:Array Value}(h:aW F N ds a)(i:b.roundOf=none)(l:ops[m]?=some o)(r:o.guard=none)(s:o.dst=none)(j:o.op= .defer c)(p:c.callee= .value (.tmp d))(f:c.args=#[])(hv:F.lookup d=some (.func (.func g) x y))
 (next:∀a',aW F N (⟨.fn (.func g) y,x⟩::ds) a'->Rn P Goal (b.atR a' (.inRegion ops rest::k)) cs w):Rn P Goal (b.atR a (.inRegion ops (m::rest)::k)) cs w:=by
 have q:a39 o (yielded ops a.tmps)=true:=by simp[a39,r]
 have n:execOp a.eval o= .pure (.defer ⟨.fn (.func g) y,x⟩):=by unfold execOp resolve;rw[j];simp only[p,f,h.get hv,Deferred.ofValue];simp;rfl
 have e:stepG.exec P true true (b.atR a (.inRegion ops (m::rest)::k)) cs none w= .go (gB (b.atR ⟨a.tmps,⟨.fn (.func g) y,x⟩::a.defers⟩ (.inRegion ops rest::k)) cs) w:=by
  have t:stepG.exec P true true (b.atR a (.inRegion ops (m::rest)::k)) cs none w=stepG.apply P true (b.atR a (.inRegion ops (m::rest)::k)) cs none (execOp (b.atR a (.inRegion ops (m::rest)::k)).eval o) w:=by unfold stepG.exec;simp only[Yj,l,a37,a55,q,↓reduceIte];unfold stepG.oper;simp only[Frame.oper?,l,i]
  rw[t,Frame.eval_atR,n];unfold stepG.apply;simp[-AT,Sem.runT,GStep.after,seen,Frame.finish,Yj,l,s,gB]
 refine Rn.exec rfl e (next _ ⟨?_,h.size,h.slot⟩);show _::a.defers=_;rw[h.defers]
theorem Rn.dcall{g:FuncId}{b a_:Array Value}{es:List Deferred}(d:fr.mode≠ .run)(h:fr.defers=⟨.fn (.func g) b,a_⟩::es)(f:P.funcs[g]?=some fn)(i:fn.body.isSome=true)(c:fn.name≠ "runtime.NumGoroutine")
 (next:Rn P Goal (a49 P g (a_++b) .deferred) ({fr with defers:=es}::cs) w):Rn P Goal fr cs w:=by
 have e:stepG P true (gB fr cs) w=unwind P true fr cs none w:=by
  unfold stepG gB;cases a:fr.mode with
  |run=>exact absurd a d
  |_=>simp only[a]
 exact Rn.step (e.trans (kA h f i c)) next
theorem Rn.dback{c:Frame}(e:b.kind= .deferred)(i:a.defers=[])(g:P.funcs[b.fn]?=some fn)(f:(results fn a.tmps).run P w= .ok v w)(h:Rn P Goal (dJ c) cs w):Rn P Goal {b.atR a k with mode:= .returning} (c::cs) w:=by
 refine Rn.step (fr':=dJ c) (cs':=cs) (w':=w) (es:=seen P b.fn ((results fn a.tmps).events P w #[])) ?_ h;unfold stepG gB;have d:=vK (P:=P) (main:=true) (fr:={b.atR a k with mode:= .returning}) (c:=c) (cs:=cs) (w:=w) (w':=w) (v:=v) (es:=(results fn a.tmps).events P w #[]) (fn:=fn) i rfl (.inr e) g (by rw[AT];show(_,_)=_;rw[show(results fn ({b.atR a k with mode:= .returning}:Frame).tmps).run P w= .ok v w from f];rfl);have j:j2 b.kind c v=dJ c:=by rw[e];rfl
 rw[show({b.atR a k with mode:= .returning}:Frame).kind=b.kind from rfl,j]at d;exact d
def MP(f:FuncId):Frame:={base f with kind:= .deferred}
theorem Lu{c:Code}{N:Nat}(L:List Value)(a:P.funcs[f]?=some fn)(b:fn.body=some c)(d:fn.ntmps=N):a49 P f L.toArray .deferred=(MP f).atR ⟨L.toArray++a41 (N- L.toArray.size) undef,[]⟩ [.code c]:=by
 have:=aV (P:=P) L a b d;unfold a49 at this⊢;simp only[a]at this⊢;injection this with h1 h2 h3 h4 h5 h6 h7;simp only[MP,Yj]
 congr 1
end
structure dk where
 tree:ByteArray
 chains:ByteArray
 id:ByteArray
 root:ByteArray
 height:Int
 width:Int
 count:Nat
 shift:Int
 q:Int
 salt:ByteArray
 links:ByteArray
 path:ByteArray
def dk.cells(s:dk):Array Value:=#[.string s.tree, .string s.chains, .string s.id, .string s.root, .int .i64 s.height, .int .i64 s.width, .int .i64 s.count, .int .i64 s.shift, .int .i64 s.q, .string s.salt, .string s.links, .string s.path]
def Yl(P:Program)(ev:Operand->Value)(o:Oper)(w:World)(v:Value)(es:Array Event):Prop:=(execOp ev o).run P w= .ok (.value v) w/\(execOp ev o).events P w #[]=es
section
variable{s:dk}{y z:Operand}
theorem aK{cs:Array Value}(h:w.heap[b]?=some (.cells cs t))(k:Nat):w.cell? ⟨b,k,none⟩=cs[k]?:=by unfold AB;simp[h]
theorem cz(P:Program)(a:o.op= .move x\/o.op= .assign x):Yl P ev o w (ev x) #[]:=by rcases a with h|h<;>constructor<;>simp[execOp,h]
theorem fB(P:Program){f:Fn}{a:Array Operand}(b:o.op= .makeFunc f #[] a):Yl P ev o w (.func f #[] (a.map ev)) #[]:=by constructor<;>simp[execOp,b,Instr.makeFunc]
def Bq(P:Program)(t:TypeId):Prop:=∀w:World,(isAgg t).run P w= .ok false w/\(isAgg t).events P w #[]=#[]
theorem cp:Bq Tryz.prog 3:=λw=>⟨k_,k_⟩
theorem bM:Bq Tryz.prog 9:=λw=>⟨k_,k_⟩
theorem pV:Bq Tryz.prog 22:=λw=>⟨k_,k_⟩
theorem T1:Bq Tryz.prog 25:=λw=>⟨k_,k_⟩
theorem aP{ad:Addr}(d:Bq Tryz.prog t)(a:o.op= .load t x)(b:ev x= .pointer (some ad))(h:w.cell? ad=some v):Yl Tryz.prog ev o w v #[⟨.cell ad,false,false⟩]:=by
 obtain⟨c,e⟩:=d w;constructor
 ·simp[execOp,a,b,a47,loadVar,c,h,go_sem]
 ·simp[execOp,a,b,a47,loadVar,c,e,h,go_sem]
def mh(b:Nat):Array Event:=#[⟨.cell ⟨b,0,none⟩,false,false⟩,⟨.cell ⟨b,1,none⟩,false,false⟩,⟨.cell ⟨b,2,none⟩,false,false⟩,⟨.cell ⟨b,3,none⟩,false,false⟩,⟨.cell ⟨b,4,none⟩,false,false⟩,⟨.cell ⟨b,5,none⟩,false,false⟩,
 ⟨.cell ⟨b,6,none⟩,false,false⟩,⟨.cell ⟨b,7,none⟩,false,false⟩,⟨.cell ⟨b,8,none⟩,false,false⟩,⟨.cell ⟨b,9,none⟩,false,false⟩,⟨.cell ⟨b,10,none⟩,false,false⟩,⟨.cell ⟨b,11,none⟩,false,false⟩]
theorem C4{b:Nat}(h:e∈mh b):∃k,e=⟨.cell ⟨b,k,none⟩,false,false⟩:=by simp only[mh,List.mem_toArray,AI,Af,or_false]at h;rcases h with rfl|rfl|rfl|rfl|rfl|rfl|rfl|rfl|rfl|rfl|rfl|rfl<;>exact⟨_,rfl⟩
theorem kZ{ex:Array Value}(e:o.op= .load 149 x)(t:ev x= .pk b 0)(h:w.heap[b]?=some (.cells (s.cells++ex) 149)):Yl Tryz.prog ev o w (.agg s.cells) (mh b):=by
 have u:(isAgg 149).run Tryz.prog w= .ok true w:=k_
 have y:(isAgg 149).events Tryz.prog w #[]=#[]:=k_
 have a:∀k,k<12->w.cell? ⟨b,k,none⟩=s.cells[k]?:=λk v=>(aK h k).trans (Pk v);have r:w.cell? ⟨b,0,none⟩=some (.s s.tree):=a 0 d_;have q:w.cell? ⟨b,1,none⟩=some (.s s.chains):=a 1 d_;have p:w.cell? ⟨b,2,none⟩=some (.s s.id):=a 2 d_;have n:w.cell? ⟨b,3,none⟩=some (.s s.root):=a 3 d_;have m:w.cell? ⟨b,4,none⟩=some (.i s.height):=a 4 d_;have l:w.cell? ⟨b,5,none⟩=some (.i s.width):=a 5 d_;have j:w.cell? ⟨b,6,none⟩=some (.i s.count):=a 6 d_;have i:w.cell? ⟨b,7,none⟩=some (.i s.shift):=a 7 d_;have g:w.cell? ⟨b,8,none⟩=some (.i s.q):=a 8 d_;have f:w.cell? ⟨b,9,none⟩=some (.s s.salt):=a 9 d_;have d:w.cell? ⟨b,10,none⟩=some (.s s.links):=a 10 d_;have c:w.cell? ⟨b,11,none⟩=some (.s s.path):=a 11 d_;constructor
 ·simp[execOp,e,t,a47,loadVar,u,loadCells,loadCellsFrom,Vu,r,q,p,n,m,l,j,i,g,f,d,c,dk.cells,go_sem]
 ·simp[execOp,e,t,a47,loadVar,u,y,loadCells,loadCellsFrom,Vu,r,q,p,n,m,l,j,i,g,f,d,c,mh,go_sem]
theorem tn(a:o.op= .fieldAddr 149 x 0)(c:ev x= .pk b k):Yl Tryz.prog ev o w (.pk b k) #[]:=by
 have e:execOp ev o=(do pure (.value (←a53 149 (.pk b k) 0))):=by simp only[execOp,a,c]
 unfold Yl;rw[e];constructor<;>kernel_rfl
theorem yU(a:o.op= .fieldAddr 145 x 6)(c:ev x= .pk b 0):Yl Tryz.prog ev o w (.pk b 6) #[]:=by
 have e:execOp ev o=(do pure (.value (←a53 145 (.pk b 0) 6))):=by simp only[execOp,a,c]
 unfold Yl;rw[e];constructor<;>kernel_rfl
theorem GT(a:o.op= .fieldAddr 149 x 3)(c:ev x= .pk b 0):Yl Tryz.prog ev o w (.pk b 10) #[]:=by
 have e:execOp ev o=(do pure (.value (←a53 149 (.pk b 0) 3))):=by simp only[execOp,a,c]
 unfold Yl;rw[e];constructor<;>kernel_rfl
theorem dw{m n:Int}(a:o.op= .binOp .lss 3 x y u)(c:ev x= .i m)(b:ev y= .i n):Yl Tryz.prog ev o w (.bool (decide (m<n))) #[]:=by constructor<;>simp[execOp,a,c,b,go_sem]
theorem oP{m n:Int}(a:o.op= .binOp .add 3 x y u)(c:ev x= .i m)(b:ev y= .i n)(h: -9223372036854775808<=m+n/\m+n<9223372036854775808):Yl Tryz.prog ev o w (.i (m+n)) #[]:=by
 have e:A8.wrap (m+n)=m+n:=by rw[a5_];omega
 constructor<;>simp[execOp,a,c,b,go_sem,e]
theorem mS{m n:Int}(a:o.op= .binOp .mul 3 x y u)(c:ev x= .i m)(b:ev y= .i n)(h: -9223372036854775808<=m*n/\m*n<9223372036854775808):Yl Tryz.prog ev o w (.i (m*n)) #[]:=by
 have e:A8.wrap (m*n)=m*n:=by rw[a5_];omega
 constructor<;>simp[execOp,a,c,b,go_sem,e]
theorem tl(a:o.op= .unOp .not t x)(b:ev x= .bool q):Yl Tryz.prog ev o w (.bool (!q)) #[]:=by constructor<;>simp[execOp,a,b,go_sem,Op.unary]
theorem fA{t:ByteArray}(a:o.op= .slice 9 x (some y) (some z) none)(d:ev x= .s t)(c:ev y= .i m)(b:ev z= .i n)(h:m<=n)(f:n<=t.size):Yl Tryz.prog ev o w (.s (t.extract m n)) #[]:=by
 have e:Tryz.prog.underlying 9=some .string:=k_
 constructor
 ·simp[execOp,a,d,c,b,JR,Vh,Kg,run_underlying e,LY,asIntOf,h,f]
 ·simp[execOp,a,d,c,b,JR,Vh,Kg,run_underlying e,LY,asIntOf,h,f,go_sem]
theorem eA{e:TypeId}{a:Addr}{len cap:Nat}(f:Tryz.prog.underlying t=some (.slice e))(h:∀w:World,(sizeOf e).run Tryz.prog w= .ok 1 w)(b:o.op= .indexAddr t x y)(d:ev x= .slice (some a) len cap)(c:ev y= .i n)(g:n<len):
 Yl Tryz.prog ev o w (.pointer (some (a.add n))) #[]:=by have i:=h w;constructor<;>simp[execOp,b,d,c,go_sem,f,i,g]
def Mk(P:Program)(ev:Operand->Value)(o:Oper)(w:World)(cs:Array Value)(t:TypeId):Prop:=(execOp ev o).run P w= .ok (.value (.pk w.heap.size 0)) (w.alloc (.cells cs t))/\(execOp ev o).events P w #[]=#[]
theorem mo(P:Program)(a:o.op= .box t x):Mk P ev o w (ev x).cells t:=by constructor<;>simp[execOp,a,YQ,newVar,newRow,go_sem]
theorem jf(a:o.op= .alloc 3):Mk Tryz.prog ev o w #[.i 0] 3:=by
 have e:execOp ev o=(do pure (.value (←Ee 3 true (.tuple #[])))):=by simp only[execOp,a]
 unfold Mk;rw[e];constructor<;>kernel_rfl
theorem lD(a:o.op= .alloc 25):Mk Tryz.prog ev o w #[.slice none 0 0] 25:=by
 have e:execOp ev o=(do pure (.value (←Ee 25 true (.tuple #[])))):=by simp only[execOp,a]
 unfold Mk;rw[e];constructor<;>kernel_rfl
theorem eK{b:Nat}{v0:Value}(hv:v.cells=#[v])(a:v.oneCell'=true)(d:(sizeOf t).run Tryz.prog w= .ok 1 w)(c:o.op= .store t x y)(i:ev x= .pk b k)(g:ev y=v)(h:w.cell? ⟨b,k,none⟩=some v0)(f:w.frozen? ⟨b,k,none⟩=false):
 (execOp ev o).run Tryz.prog w= .ok .skip (w.setCell ⟨b,k,none⟩ v)/\(execOp ev o).events Tryz.prog w #[]=#[⟨.cell ⟨b,k,none⟩,true,false⟩]:=by
 have e:execOp ev o=(do Rl t (.pk b k) v;pure .skip):=by simp only[execOp,c,i,g]
 rw[e];simp only[Rl,storeVar,hv];constructor
 ·simp[d,storeCells,Vu,run_store _ _ _ _ _ a,h,f,go_sem]
 ·simp[d,storeCells,Vu,events_store (hv:=a),h,f,go_sem]
end
end
section
open Go
def eY(d:Option Tmp)(p:Op):Oper:={dst:=d,op:=p,type:=0,pos:= "",after:=#[],guard:=none}
def gp(x:Nat):Op:= .call {callee:= .builtin .len,args:=#[.tmp x],argTypes:=#[9]}
def gI(x:Nat)(n:Int):Op:= .binOp .lss 3 (.tmp x) (.const (.int .i64 n)) 3
def skA:Array Oper:=#[eY (some 6) (.field 149 (.tmp 0) 4),eY (some 2) (.box 149 (.tmp 0)),eY (some 3) (.load 149 (.tmp 2)),eY (some 5) (.field 149 (.tmp 3) 0),
 eY (some 6) (.field 145 (.tmp 5) 0),eY (some 7) (gp 6),eY (some 6) (.field 145 (.tmp 5) 1),eY (some 7) (gp 6),eY (some 8) (.field 145 (.tmp 5) 2),eY (some 9) (gp 8),eY (some 6) (.field 145 (.tmp 5) 3),eY (some 7) (gp 6),
 eY (some 6) (.field 145 (.tmp 5) 4),eY (some 7) (gI 6 0),eY (some 11) (.field 145 (.tmp 5) 5),eY (some 16) (gI 11 0),eY (some 10) (.field 145 (.tmp 5) 6),eY (some 15) (gI 10 65537),eY (some 6) (.field 145 (.tmp 5) 7),eY (some 7) (gI 6 0),
 eY (some 12) (.field 149 (.tmp 3) 1),eY (some 18) (gI 12 0),eY (some 6) (.field 149 (.tmp 3) 2),eY (some 7) (gp 6),eY (some 13) (.field 149 (.tmp 3) 3),eY (some 7) (gp 13),eY (some 6) (.field 149 (.tmp 3) 4),eY (some 7) (gp 6),
 eY (some 14) (gI 10 1),eY (some 17) (gI 11 9),eY (some 19) (gI 12 4294967296),eY (some 20) (gI 9 65536)]
def FM(x y:Nat):Op:= .binOp .lss 3 (.tmp x) (.tmp y) 3
def RU:Array Oper:=#[eY (some 21) (.binOp .mul 3 (.tmp 10) (.const (.int .i64 32)) 3),eY (some 7) (gp 13),eY (some 22) (FM 7 21),eY (some 26) (.call {callee:= .builtin .len,args:=#[.tmp 1],argTypes:=#[22]}),eY (some 27) (FM 26 10),eY (some 28) (.binOp .eql 22 (.tmp 1) (.const (.slice none 0 0)) 22)]
def RX:Array Oper:=#[eY (some 23) (.makeSlice 25 (.tmp 10) (.tmp 10)),eY (some 24) (.move (.const (.int .i64 0)))]
def skC:Array Oper:=#[eY (some 25) (.binOp .lss 3 (.tmp 24) (.tmp 10) 3)]
def skD:Array Oper:=#[eY (some 26) (.indexAddr 22 (.tmp 1) (.tmp 24)),eY (some 27) (.load 3 (.tmp 26)),eY (some 28) (gI 27 0),eY (some 29) (gI 27 256)]
def skE:Array Oper:=#[eY (some 30) (.binOp .mul 3 (.tmp 24) (.const (.int .i64 32)) 3),eY (some 31) (.binOp .add 3 (.tmp 24) (.const (.int .i64 1)) 3),eY (some 32) (.binOp .mul 3 (.tmp 31) (.const (.int .i64 32)) 3),
 eY (some 33) (.slice 9 (.tmp 13) (some (.tmp 30)) (some (.tmp 32)) none),eY (some 34) (.call {callee:= .value (.func 114),args:=#[.tmp 3, .tmp 24, .tmp 27, .tmp 33],argTypes:=#[149,3,3,9]}),
 eY (some 35) (.indexAddr 25 (.tmp 23) (.tmp 24)),eY none (.store 9 (.tmp 35) (.tmp 34)),eY (some 24) (.move (.tmp 31))]
def RV:Array Oper:=#[eY (some 4) (.move (.tmp 23))]
def oZ:Code:= .seq (.seq (.region 2 skC false) (.cond (.tmp 25) .skip (.exit 0))) (.seq (.region 3 skD false) (.seq (.cond (.tmp 28) (.refuse "") .skip) (.seq (.cond (.tmp 29) .skip (.refuse "")) (.region 4 skE false))))
def mY:Code:= .seq (.region 0 skA false) (.seq (.cond (.tmp 14) (.refuse "") .skip) (.seq (.cond (.tmp 15) .skip (.refuse "")) (.seq (.cond (.tmp 16) (.refuse "") .skip) (.seq (.cond (.tmp 17) .skip (.refuse "")) (.seq (.cond (.tmp 18) (.refuse "") .skip) (.seq (.cond (.tmp 19) .skip (.refuse "")) (.seq (.cond (.tmp 20) .skip (.refuse ""))
 (.seq (.region 6 RU false) (.seq (.cond (.tmp 22) (.refuse "") .skip) (.seq (.cond (.tmp 27) (.refuse "") .skip) (.seq (.cond (.tmp 28) (.refuse "") .skip) (.seq (.region 1 RX false) (.seq (.block 0 (.loop oZ)) (.seq (.region 5 RV false) .ret))))))))))))))
def tH:Func:={name:= "left",origin:= "",params:=#[149,22],resultTypes:=#[25],nfree:=0,ntmps:=36,results:=#[.tmp 4],body:=some mY,norace:=false,file:= "",endLine:=0,tmpNames:=#[]}
def uy(i:FuncId):Bool:=i==93||i==94
def aI(q:Bool)(P:Program):Program:=ge P (if q then 105 else 28) (if q then tH else(P.funcs[28]?).getD tH) uy
theorem ol(f:Nat):(aI q P).funcs[f]?=(P.funcs[f]?).map (qf (if q then 105 else 28) (if q then tH else(P.funcs[28]?).getD tH) uy f):=qe f
theorem JV:(Tryz.prog.types.all λi=>(i.zero.map bO).getD true)=true:=k_
theorem Ic:(Tryz.prog.funcs.all λf=>f.name != "runtime.NumGoroutine")=true:=k_
theorem Oz(i:FuncId)(fn:Func)(c:uy i=true)(b:Tryz.prog.funcs[i]?=some fn):fn.body=none/\Extern.findNext fn=none/\∃e,Extern.find fn=some e/\∀(a:Nat->Nat) (PL PM:Program),bN PL PM->∀args,aF a PL PM (aE a) (e args) (e (args.map (aE a))):=by
 have f:i=93\/i=94:=by simpa[uy]using c
 rcases f with rfl|rfl
 ·rw[Tryz.func93]at b;cases b;exact⟨rfl,k_,WY,k_,λa PL PM _ args=>B8 args⟩
 ·rw[Tryz.func94]at b;cases b;exact⟨rfl,k_,Ve Tryz.f94.params Tryz.f94.resultTypes,k_,λa PL PM d args=>vC d _ _ args⟩
theorem QV:(decide (yp=j7)||(Tryz.f55).results.all (JS 2))=true:=k_
theorem Eo{K:FuncId}{a:Func}{c:Code}(k:Tryz.prog.funcs[K]?=some fn)(p:fn.body.isSome=true)(e:a.results=fn.results)(o:a.body=some c)(g:jb 0 c=true)(j:a.name≠ "runtime.NumGoroutine")(q:dt K=0)(n:fM≠K):sX Tryz.prog K a uy 2 where
 zero:=λi l z d=>by have:=ET.1 JV i l;rw[d]at this;simpa using this
 glob:=k_
 tab:=d_
 names:=λf m=>by simpa using ET.1 Ic f m
 ty:=⟨.int .u32,k_,s_,s_⟩
 ex:=of_decide_eq_true k_
 lw:=of_decide_eq_true k_
 lwr:=λb fn h=>by rw[show yp=55 from rfl,Tryz.func55]at h;cases h;have:=QV;simpa[b]using this
 exr:=λfn h=>by rw[show j7=55 from rfl,Tryz.func55]at h;cases h;kernel_rfl
 kex:=q
 d1:=⟨n,d_,Tryz.f58,(Tryz.f58.body).getD .skip,Tryz.func58,rfl,k_⟩
 z3:=of_decide_eq_true k_
 kfn:=⟨fn,k,p,e⟩
 kbody:=⟨c,o,g⟩
 kname:=j
 ext:=Oz
theorem Ep:sX Tryz.prog 105 tH uy 2:=Eo Tryz.func105 rfl rfl (c:=mY) rfl k_ d_ d_ d_
theorem Er:∃c,sX Tryz.prog 28 Tryz.f28 uy 2/\Tryz.f28.body=some c:=
 ⟨_,Eo Tryz.func28 rfl rfl (c:=(Tryz.f28.body).getD .skip) rfl k_ d_ d_ d_,rfl⟩
theorem Le:aI true Tryz.prog=ge Tryz.prog 105 tH uy:=rfl
theorem Lg:aI false Tryz.prog=ge Tryz.prog 28 Tryz.f28 uy:=by unfold aI;simp only[a45,↓reduceIte,Tryz.func28,a55]
theorem yr:kh (aI true Tryz.prog) Tryz.prog 2:=by rw[Le];exact Aw Ep
theorem Se:kh (aI false Tryz.prog) Tryz.prog 2:=by rw[Lg];obtain⟨c,h,_⟩:=Er;exact Aw h
theorem tO:kh (aI true Tryz.prog) (aI true Tryz.prog) 2:=by rw[Le];exact Av Ep
theorem QC:kh (aI false Tryz.prog) (aI false Tryz.prog) 2:=by rw[Lg];obtain⟨c,h,_⟩:=Er;exact Av h
theorem aM{c:Code}(a:Tryz.prog.funcs[f]?=some fn)(h:f≠105)(b:uy f=false)(e:fn.body=some c)(d:pE f c=true):(aI q Tryz.prog).funcs[f]?=some fn:=by
 rw[ol,a];cases q with
 |true=>
  simp only[a37,qf,↓reduceIte,if_neg h,b,a45,e,d]
 |false=>
  by_cases g:f=28
  ·subst g;rw[Tryz.func28]at a;cases a;simp only[a37,qf,a45,↓reduceIte,Tryz.func28,a55]
  ·simp only[a37,qf,a45,↓reduceIte,if_neg g,b,e,d]
theorem so:(aI true Tryz.prog).funcs[105]?=some tH:=by rw[ol,Tryz.func105];simp[qf]
abbrev lT(P:Program:=Tryz.prog):Program:=aI true P
abbrev tP(P:Program:=Tryz.prog):Program:=P
abbrev eX(e:Operand->Value)(o:Oper)(w:World)(v:Value):Prop:=(execOp e o).run lT w= .ok (.value v) w
@[simp] theorem Ix(t:TypeId):(aI q P).info? t=P.info? t:=fm P _ t
@[simp] theorem bY(t:TypeId):(aI q P).underlying t=P.underlying t:=cX P _ t
@[simp] theorem qg(t:TypeId):(typeInfo t).run (aI q P) w=(typeInfo t).run P w:=by simp only[typeInfo,K8,run_program,Vp,Ix];cases P.info? t<;>simp
@[simp] theorem On(t:TypeId):(sizeOf t).run (aI q P) w=(sizeOf t).run P w:=by simp only[sizeOf,K8,qg];cases (typeInfo t).run P w<;>simp
@[simp] theorem yd(t:TypeId):(underlying t).run (aI q P) w=(underlying t).run P w:=by simp only[underlying,K8,run_program,Vp,bY];cases P.underlying t<;>simp
@[simp] theorem Qk(t:TypeId):(isAgg t).run (aI q P) w=(isAgg t).run P w:=by
 simp only[isAgg,K8,yd];cases (underlying t).run P w with
 |ok d a=>cases d<;>simp
 |halt x a=>simp
@[simp] theorem R6(t:TypeId):(zeroValue t).run (aI q P) w=(zeroValue t).run P w:=by
 simp only[zeroValue,K8,qg];cases (typeInfo t).run P w with
 |ok i a=>simp only[Vp];cases i.zero<;>simp
 |halt x a=>simp
theorem dI(c:P.funcs[f]?=some fn)(b:(fn.name== "runtime.NumGoroutine")=false)(a:fn.body.isNone=false)(args:Array Value)(w:World):(callFunc f args).run P w= .ok (.enter f args) w:=by
 have g:¬fn.name= "runtime.NumGoroutine" :=by simpa using b
 have d:¬fn.body=none:=λe=>by rw[e]at a;simp at a
 simp[callFunc,c,g,d]
@[simp] theorem Lf.func39:(aI q tP).funcs[39]?=some Tryz.f39:=aM Tryz.func39 d_ rfl rfl k_
@[simp] theorem Lf.call39(args:Array Value)(w:World):(callFunc 39 args).run (aI q tP) w= .ok (.enter 39 args) w:=dI Lf.func39 k_ rfl args w
@[simp] theorem Lf.func40:(aI q tP).funcs[40]?=some Tryz.f40:=aM Tryz.func40 d_ rfl rfl k_
@[simp] theorem Lf.call40(args:Array Value)(w:World):(callFunc 40 args).run (aI q tP) w= .ok (.enter 40 args) w:=dI Lf.func40 k_ rfl args w
@[simp] theorem Lf.func38:(aI q tP).funcs[38]?=some Tryz.f38:=aM Tryz.func38 d_ rfl rfl k_
@[simp] theorem Lf.call38(args:Array Value)(w:World):(callFunc 38 args).run (aI q tP) w= .ok (.enter 38 args) w:=dI Lf.func38 k_ rfl args w
@[simp] theorem Lf.func28:(aI q tP).funcs[28]?=some Tryz.f28:=aM Tryz.func28 d_ rfl rfl k_
@[simp] theorem Lf.call28(args:Array Value)(w:World):(callFunc 28 args).run (aI q tP) w= .ok (.enter 28 args) w:=dI Lf.func28 k_ rfl args w
@[simp] theorem Lf.func55:(aI q tP).funcs[55]?=some Tryz.f55:=aM Tryz.func55 d_ rfl rfl k_
@[simp] theorem Lf.call55(args:Array Value)(w:World):(callFunc 55 args).run (aI q tP) w= .ok (.enter 55 args) w:=dI Lf.func55 k_ rfl args w
@[simp] theorem Lf.func66:(aI q tP).funcs[66]?=some Tryz.f66:=aM Tryz.func66 d_ rfl rfl k_
@[simp] theorem Lf.call66(args:Array Value)(w:World):(callFunc 66 args).run (aI q tP) w= .ok (.enter 66 args) w:=dI Lf.func66 k_ rfl args w
@[simp] theorem Lf.func82:(aI q tP).funcs[82]?=some Tryz.f82:=aM Tryz.func82 d_ rfl rfl k_
@[simp] theorem Lf.call82(args:Array Value)(w:World):(callFunc 82 args).run (aI q tP) w= .ok (.enter 82 args) w:=dI Lf.func82 k_ rfl args w
@[simp] theorem Lf.func67:(aI q tP).funcs[67]?=some Tryz.f67:=aM Tryz.func67 d_ rfl rfl k_
@[simp] theorem Lf.call67(args:Array Value)(w:World):(callFunc 67 args).run (aI q tP) w= .ok (.enter 67 args) w:=dI Lf.func67 k_ rfl args w
@[simp] theorem Lf.func81:(aI q tP).funcs[81]?=some Tryz.f81:=aM Tryz.func81 d_ rfl rfl k_
@[simp] theorem Lf.call81(args:Array Value)(w:World):(callFunc 81 args).run (aI q tP) w= .ok (.enter 81 args) w:=dI Lf.func81 k_ rfl args w
@[simp] theorem Lf.func56:(aI q tP).funcs[56]?=some Tryz.f56:=aM Tryz.func56 d_ rfl rfl k_
@[simp] theorem Lf.call56(args:Array Value)(w:World):(callFunc 56 args).run (aI q tP) w= .ok (.enter 56 args) w:=dI Lf.func56 k_ rfl args w
@[simp] theorem Lf.func68:(aI q tP).funcs[68]?=some Tryz.f68:=aM Tryz.func68 d_ rfl rfl k_
@[simp] theorem Lf.call68(args:Array Value)(w:World):(callFunc 68 args).run (aI q tP) w= .ok (.enter 68 args) w:=dI Lf.func68 k_ rfl args w
@[simp] theorem Lf.func83:(aI q tP).funcs[83]?=some Tryz.f83:=aM Tryz.func83 d_ rfl rfl k_
@[simp] theorem Lf.call83(args:Array Value)(w:World):(callFunc 83 args).run (aI q tP) w= .ok (.enter 83 args) w:=dI Lf.func83 k_ rfl args w
@[simp] theorem Lf.func102:(aI q tP).funcs[102]?=some Tryz.f102:=aM Tryz.func102 d_ rfl rfl k_
@[simp] theorem Lf.func64:(aI q tP).funcs[64]?=some Tryz.f64:=aM Tryz.func64 d_ rfl rfl k_
@[simp] theorem Lf.func134:(aI q tP).funcs[134]?=some Tryz.f134:=aM Tryz.func134 d_ rfl rfl k_
@[simp] theorem Lf.func133:(aI q tP).funcs[133]?=some Tryz.f133:=aM Tryz.func133 d_ rfl rfl k_
@[simp] theorem Lf.func144:(aI q tP).funcs[144]?=some Tryz.f144:=aM Tryz.func144 d_ rfl rfl k_
@[simp] theorem Lf.func108:(aI q tP).funcs[108]?=some Tryz.f108:=aM Tryz.func108 d_ rfl rfl k_
@[simp] theorem Lf.func114:(aI q tP).funcs[114]?=some Tryz.f114:=aM Tryz.func114 d_ rfl rfl k_
theorem Lf.underlying108:type_of%((bY (q:=q) (P:=tP) 108).trans Tryz.underlying108):=(bY 108).trans Tryz.underlying108
theorem Lf.underlying66:type_of%((bY (q:=q) (P:=tP) 66).trans Tryz.underlying66):=(bY 66).trans Tryz.underlying66
theorem Lf.underlying65:type_of%((bY (q:=q) (P:=tP) 65).trans Tryz.underlying65):=(bY 65).trans Tryz.underlying65
theorem Lf.underlying62:type_of%((bY (q:=q) (P:=tP) 62).trans Tryz.underlying62):=(bY 62).trans Tryz.underlying62
theorem Lf.underlying69:type_of%((bY (q:=q) (P:=tP) 69).trans Tryz.underlying69):=(bY 69).trans Tryz.underlying69
theorem Lf.underlying9:type_of%((bY (q:=q) (P:=tP) 9).trans Tryz.underlying9):=(bY 9).trans Tryz.underlying9
theorem Lf.underlying5:type_of%((bY (q:=q) (P:=tP) 5).trans Tryz.underlying5):=(bY 5).trans Tryz.underlying5
end
section
open Go.RowKit
theorem F4(s:ByteArray)(k:Nat)(h:k<s.size):s.data.toList.take (k+1)=s.data.toList.take k++[s[k]]:=by rw[Vq (by simpa using h)];rfl
theorem zr(B:List UInt8):aH (dW B 0)=C2 64 (.int .u32 0):=by simp[dW,cZ,aH]
theorem JE(w:World)(B:List UInt8)(c:Array Value)(d:c.size=64):((w.alloc (.cells (bG B).toArray 66)).alloc (.cells c 108)).heap.size=w.heap.size+1+1/\
 ((w.alloc (.cells (bG B).toArray 66)).alloc (.cells c 108)).rangeAt w.heap.size 0 (bG B)/\
 ((w.alloc (.cells (bG B).toArray 66)).alloc (.cells c 108)).there (w.heap.size+1) 0 64/\
 Bw w ((w.alloc (.cells (bG B).toArray 66)).alloc (.cells c 108)):=by
 refine⟨s_,R3 (λj v a=> ?_) _,λj b=>⟨?_, ?_⟩,((WT _ _).alloc (a36 _) _).alloc s_ _⟩
 ·rw[Pf _ _ _ _ rfl];simpa using a
 ·rw[Pf _ _ _ _ s_];simp[d,b]
 ·rw[Xl _ _ _ _ s_]
theorem rK{M a:World}{L:List Value}(d:M=(a.alloc (.cells L.toArray 108)).drewN n)(c:a.heap.size=b)(h:L[j]?=some v):M.cell? ⟨b,j,none⟩=some v:=by subst d;simp only[Zk];rw[Pf _ _ _ _ c.symm];simpa using h
theorem JH{M a:World}{L:List Value}(d:M=(a.alloc (.cells L.toArray 108)).drewN n)(c:a.heap.size=b)(j:Nat):M.frozen? ⟨b,j,none⟩=false:=by subst d;simp only[World.frozen?_drewN];rw[Xl _ _ _ _ c.symm]
theorem Ry{M c:World}{L:List Value}(e:M=(c.alloc (.cells L.toArray 108)).drewN n)(d:c.heap.size=b)(a j:Nat)(v:Value):(M.drewN a).setCell ⟨b,j,none⟩ v=(c.alloc (.cells (L.set j v).toArray 108)).drewN (n+a):=by subst e;rw[World.drewN_drewN];show((c.alloc (.cells L.toArray 108)).setCell ⟨b,j,none⟩ v).drewN (n+a)=_;rw[World.setCell_alloc_at _ _ _ _ _ d.symm];simp
def ld(ty:TypeId)(b o:Nat):Sem Value:=a47 ty (.pk b o)
def st(ty:TypeId)(b o:Nat)(v:Value):Sem Unit:=Rl ty (.pk b o) v
theorem mU{Q:Exit->Act->World->Prop}{K:Act->World->Prop}(j:ops[i]?=some o)(k:o.guard=none)(ty:TypeId)(x y:Operand)(g:o.op= .store ty x y)
 (b p:Nat) (cells:Array Value) (d:a.eval x= .pk b p) (c:a.eval y= .agg cells) (e:w.there b p cells.size) (f:(P.info? ty).map (·.size)=some cells.size) (m:cells.all (·.oneCell')=true) (l:o.dst=none)
 (h:K a (w.setCells b p cells.toList)):wpOp P ops Q i K a w:=
 yV j k (wp_store_mid ty x y g b p cells d c e f m (by rw[l];exact h))
def oV:Value->Nat
 | .string t=>t.size
 |_=>0
theorem qQ(rest:List UInt8)(n:Nat):(ByteArray.mk rest.toArray).extract n rest.length=⟨(rest.drop n).toArray⟩:=by apply ByteArray.ext;simp;exact LP s_
def jR(H:List Int)(blk:List UInt8)(n:Nat):List Value:=aH H++(bG blk++[.int .u64 (n:Int)])
def lC:List Value:=jR H0 (C2 64 0) 0
theorem fG:lC.length=73:=by simp[lC,jR,bB,cq,H0]
theorem AE(H:List Int)(b:List UInt8)(n:Nat):∀v∈jR H b n,v.oneCell'=true:=by
 intro v a;simp only[jR,List.mem_append,List.mem_singleton]at a;rcases a with a|a|rfl
 ·exact iH _ v a
 ·exact uG _ v a
 ·rfl
end
end Go.Proofs.YtkmoglhgkcnalabGreatDoor
namespace Go.Proofs
open Go.Shelf
def Tryz.laysM316_ren : Zl := ⟨fun | 316 => 100 | n => n, fun | 9 => 9 | 3 => 3 | 4 => 4 | 37 => 62 | 0 => 0 | 127 => 124 | 5 => 5 | n => n, fun | n => n⟩
def Tryz.lays105_ren : Zl := ⟨fun | 105 => 57 | 212 => 69 | 99 => 70 | 165 => 71 | 166 => 63 | 170 => 72 | 169 => 65 | 263 => 84 | 264 => 85 | 206 => 86 | 240 => 80 | 241 => 87 | 276 => 93 | 277 => 94 | n => n, fun | 9 => 9 | 3 => 3 | 4 => 4 | 20 => 20 | 0 => 0 | 46 => 55 | 109 => 112 | 5 => 5 | 72 => 102 | 76 => 105 | 51 => 64 | 146 => 127 | 53 => 67 | 148 => 129 | 70 => 100 | 37 => 62 | 75 => 104 | 127 => 124 | 164 => 138 | 80 => 32 | n => n, fun | n => n⟩
end Go.Proofs
namespace Go.Proofs.YtkmoglhgkcnalabGreatDoor
open Go
variable{n b i N l m k j b3 b4 b7 b9 Wg wd:Nat}{w w' w0 wL wM wE:World}{fr:Frame}{v:Value}{cs:List Frame}{args cv:Array Value}{V RO D V0:Nat->Prop}{q main listen ql:Bool}{g:Goroutine}{a:Act}{K:List Item}{P PL PM:Program}{x:Operand}{ops:Array Oper}{KS:List Int}{t u:TypeId}{o:Oper}{f:FuncId}{es:Array Event}{Goal:Goroutine->World->Prop}{fn:Func}{rest:List Nat}{ds:List Deferred}{X:bS}{F:List (Nat×Value)}{e:Event}{listed:Array Bool}{c:Int}{s msg key sig:ByteArray}{ρ:Nat->Nat}{ev:Operand->Value}{Post:Value->World->Prop}
section
open Go.RowKit
def qW(L:List UInt8):List UInt8:=[128]++YM [0] ((119- L.length%64)%64)++cQ (8*L.length) 8
def vk(H:List Int)(i:Nat):UInt8:=XE (H.getD (i/4) 0/2^(24- 8*(i%4))).toNat
def ip(KS:List Int)(L:List UInt8):List UInt8:=(Ak 32).map (vk (cY KS (L++qW L) ((L++qW L).length/64)))
def cH(H:List Int)(k:Nat):List Value:=bG ((Ak k).map (vk H))++C2 (32- k) (.int .u8 0)
theorem zP(H:List Int)(k:Nat)(h:k<=32):(cH H k).length=32:=by simp[cH,bG];omega
theorem I1(H:List Int)(k:Nat)(h:k<32):(cH H k)[k]?=some (.int .u8 0):=by rw[cH,BP (by simp[bG]),List.getElem?_replicate,if_pos (by simp[bG];omega)]
theorem I0(H:List Int)(k:Nat)(h:k<32)(v:Int)(hv:v=((vk H k).toNat:Int)):(cH H k).set k (.int .u8 v)=cH H (k+1):=by subst hv;rw[cH,cH,show 32- k=(32-(k+1))+1 from o_,List.replicate_succ,List.range_succ,Vt,bG,bG,Vt,List.set_append_right _ _ s_];simp
theorem I2(H:List Int):cH H 32=bG ((Ak 32).map (vk H)):=by simp[cH]
theorem vo(KS:List Int)(L:List UInt8)(n i:Nat):0<=(cY KS L n).getD i 0:=by
 cases n with
 |zero=>
  by_cases h:i<8
  ·have:i=0\/i=1\/i=2\/i=3\/i=4\/i=5\/i=6\/i=7:=o_;rcases this with rfl|rfl|rfl|rfl|rfl|rfl|rfl|rfl<;>(rw[cY];decide)
  ·rw[a50,YF (by rw[dC];omega)];exact a73 _
 |succ n=>
  rw[cY,rh,ij];by_cases h:i<8
  ·rw[a50,IS,List.getElem?_range h];simp only[a37,a55,h,if_true];exact wrap_u32_nonneg _
  ·rw[a50,YF (by simp;omega)];exact a73 _
theorem HY(H:List Int)(k:Nat)(x:Int)(a:H.getD (k/4) 0=x)(b:0<=x):x/2^(24- 8*(k%4))%256=((vk H k).toNat:Int):=by
 rw[vk,a];obtain⟨m,rfl⟩:=WZ b;have e:((m:Int)/2^(24- 8*(k%4)))=((m/2^(24- 8*(k%4)):Nat):Int):=by rw[Int.natCast_ediv,Int.natCast_pow];rfl
 rw[e,VC];simp
theorem eW.made(w:World)(KS:List Int)(L a:List UInt8)(n:Nat)(T:TypeId)(d:a.length=64)(f:a.take (L.length%64)=L.drop (64*(L.length/64))):
 eW (w.alloc (.cells (jR (cY KS L (L.length/64)) a n).toArray T)) w.heap.size KS L a n:=by
 have e:=dZ w (jR (cY KS L (L.length/64)) a n) T w.heap.size rfl;have c:=dC KS L (L.length/64);refine⟨d,λj v b=>e j v ?_,λj v b=> ?_, ?_,f,fk _ _ _ _ _ rfl (by simp[jR,bB,cq,c,d])⟩
 ·rw[jR,G7 (a44.1 b).1];exact b
 ·have g:=(a44.1 b).1
  have:=e (8+j) v (by rw[jR,BP (by rw[bB,c];omega),bB,c,show 8+j- 8=j from o_,G7 g];exact b)
  rwa [a46]at this
 ·have:=e 72 (.int .u64 (n:Int)) (by rw[jR,BP (by rw[bB,c];omega),bB,c,BP (by rw[cq,d];omega),cq,d];rfl)
  rwa [a46]at this
theorem eW.below{L a:List UInt8}(h:eW w b KS L a n)(c:Below N w w')(d:b<N):eW w' b KS L a n:=
 ⟨h.len,aS c d h.words,aS c d h.block,by rw[c.cell (p:=⟨b,72,none⟩) d];exact h.length,h.tail,fC c d h.there⟩
theorem nN{c a:World}(h:Bw w c)(g:c.grownBy a (some b))(f:w.heap.size<=b):Bw w a:=
 h.trans ⟨g.os,g.tape,g.output,g.size,λk d=>g.block k (by have:=h.size;omega) (by intro e;injection e;omega)⟩
theorem eW.whole{L c:List UInt8}(h:eW w b KS L c n):w.rangeAt b 0 (jR (cY KS L (L.length/64)) c n):=λj v a=>by
 have e:=dC KS L (L.length/64);rw[jR]at a;by_cases f:j<8
 ·rw[G7 (by rw[bB,e];exact f)]at a;exact h.words j v a
 ·rw[BP (by rw[bB,e];omega),bB,e]at a;by_cases i:j<72
  ·rw[G7 (by rw[cq,h.len];omega)]at a;have:=h.block (j- 8) v a;rwa [show 8+(j- 8)=0+j from o_]at this
  ·rw[BP (by rw[cq,h.len];omega),cq,h.len]at a;have g:j- 8- 64<1:=(by have:=(a44.1 a).1;simpa using this);have d:j=72:=o_;subst d;simp at a;rw[←a];exact h.length
theorem AF(KS:List Int)(L a:List UInt8)(n m:Nat)(b:a.length=64):(jR (cY KS L m) a n).length=73:=by simp[jR,bB,cq,dC,b]
theorem eW.of_range{L a:List UInt8}(f:w.rangeAt b 0 (jR (cY KS L (L.length/64)) a n))(e:w.there b 0 73)(g:a.length=64)(h:a.take (L.length%64)=L.drop (64*(L.length/64))):eW w b KS L a n:=by
 have d:=dC KS L (L.length/64);refine⟨g,λj v c=>f j v ?_,λj v c=> ?_, ?_,h,e⟩
 ·rw[jR,G7 (a44.1 c).1];exact c
 ·have i:=(a44.1 c).1
  have:=f (8+j) v (by rw[jR,BP (by rw[bB,d];omega),bB,d,show 8+j- 8=j from o_,G7 i];exact c)
  rwa [a46]at this
 ·have:=f 72 (.int .u64 (n:Int)) (by rw[jR,BP (by rw[bB,d];omega),bB,d,BP (by rw[cq,g];omega),cq,g];rfl)
  rwa [a46]at this
theorem eW.new(w:World)(KS:List Int)(c:Array Value)(T:TypeId)(b:c.size=73):eW ((w.alloc (.cells c T)).setCells w.heap.size 0 lC) w.heap.size KS [] (C2 64 0) 0:=by have a:=fk w c T w.heap.size 73 rfl b;exact eW.of_range (J3 _ _ _ _ (by rw[fG];exact a)) (World.there_setCells a _ _ _) s_ s_
def dP(ps:List ByteArray)(k:Nat):List UInt8:=(ps.take k).flatMap λp=>p.data.toList
theorem Gv(a:List ByteArray)(k:Nat)(h:k<a.length):dP a (k+1)=dP a k++(a[k]).data.toList:=by rw[dP,dP,Vq h,WJ,List.flatMap_singleton]
theorem LR(a:List ByteArray)(k:Nat):(dP a k).length<=(dP a a.length).length:=by
 by_cases h:k<=a.length
 ·rw[dP,dP,Zs];have e:a.flatMap (λp=>p.data.toList)=(a.take k).flatMap (λp=>p.data.toList)++(a.drop k).flatMap (λp=>p.data.toList):=by rw[←WJ,List.take_append_drop]
  rw[e,LL];omega
 ·rw[dP,dP,LP o_,Zs];exact a36 _
end
end Go.Proofs.YtkmoglhgkcnalabGreatDoor
namespace Go.Proofs.YtkmoglhgkcnalabGreatDoor
open Go.RowKit
def dk.key(s:dk):Array Value:=#[.string s.tree, .string s.chains, .string s.id, .string s.root, .int .i64 s.height, .int .i64 s.width, .int .i64 s.count, .int .i64 s.shift]
def eB(n:Nat):Nat:=2^n- 1
end Go.Proofs.YtkmoglhgkcnalabGreatDoor
namespace Go.Proofs.YtkmoglhgkcnalabGreatDoor
open Go
variable{n b i N l m k j b3 b4 b7 b9 Wg wd:Nat}{w w' w0 wL wM wE:World}{fr:Frame}{v:Value}{cs:List Frame}{args cv:Array Value}{V RO D V0:Nat->Prop}{q main listen ql:Bool}{g:Goroutine}{a:Act}{K:List Item}{P PL PM:Program}{x:Operand}{ops:Array Oper}{KS:List Int}{t u:TypeId}{o:Oper}{f:FuncId}{es:Array Event}{Goal:Goroutine->World->Prop}{fn:Func}{rest:List Nat}{ds:List Deferred}{X:bS}{F:List (Nat×Value)}{e:Event}{listed:Array Bool}{c:Int}{s msg key sig:ByteArray}{ρ:Nat->Nat}{ev:Operand->Value}{Post:Value->World->Prop}
section
open Go.Conc Go.RowKit
def kj(KS:List Int)(pre:List UInt8)(j:Nat)(x:List UInt8):List UInt8:=ip KS (pre++cQ j 1++x)
def iG(KS:List Int)(pre:List UInt8):Nat->Nat->List UInt8->List UInt8
 |0,_,x=>x
 |n+1,j,x=>iG KS pre n (j+1) (kj KS pre j x)
def jE(s:dk)(i:Nat):List UInt8:=s.id.data.toList++cQ s.q.toNat 4++cQ i 2
def kR(KS:List Int)(s:dk)(i:Nat)(d:Int)(link:ByteArray):ByteArray:=⟨(iG KS (jE s i) (eB s.width.toNat- d.toNat) d.toNat link.data.toList).toArray⟩
theorem pK(KS:List Int)(a:List UInt8)(j:Nat)(x:List UInt8):(kj KS a j x).length=32:=by simp[kj,ip]
structure Dr (s:dk) (i:Nat) (d:Int) (link:ByteArray):Prop where
 width:0<=s.width/\s.width<9
 q:0<=s.q/\s.q<4294967296
 id:s.id.size<65536
 i:i<65536
 d:0<=d/\d<256
 link:link.size=32
def AR(s:dk)(i:Nat):ByteArray:=s.id++⟨(cQ s.q.toNat 4).toArray⟩++⟨(cQ i 2).toArray⟩
theorem lB(n k:Nat):(ByteArray.mk (cQ n k).toArray).size=k:=by show(cQ n k).toArray.size=k;simp[cU]
theorem Jl(s:dk)(i:Nat):(AR s i).data.toList=jE s i:=by simp[AR,jE]
def Lo(b4 b7 i:Nat)(d:Int):List (Nat×Value):=[(1, .int .i64 i),(2, .int .i64 d),(4, .pt b4),(7, .pt b7)]
def F2(s:dk)(b4 i:Nat):List (Nat×Nat×Value):=[(0,11, .pk b4 0),(1,12, .pk b4 2),(2,13, .string s.id),(3,14, .pk b4 8),(4,15, .int .i64 s.q.toNat),(5,16, .string ⟨(cQ s.q.toNat 4).toArray⟩),
 (6,17, .string (s.id++⟨(cQ s.q.toNat 4).toArray⟩)),(7,18, .int .i64 i),(8,19, .string ⟨(cQ i 2).toArray⟩),(9,20, .string (AR s i))]
theorem Qt(s:dk)(b4 i:Nat):∀p∈F2 s b4 i,∀q∈F2 s b4 i,p.2.1=q.2.1\/p.1=q.1->p=q:=by intro p b q a h;simp only[F2,AI,Af,or_false]at b a;rcases b with rfl|rfl|rfl|rfl|rfl|rfl|rfl|rfl|rfl|rfl<;>rcases a with rfl|rfl|rfl|rfl|rfl|rfl|rfl|rfl|rfl|rfl<;>first|rfl|(exfalso;simp at h)
theorem Jm(s:dk)(b4 b7 i:Nat)(d:Int):∀p∈F2 s b4 i,p.2.1<33/\∀q∈Lo b4 b7 i d,q.1≠p.2.1:=by intro p b;simp only[F2,AI,Af,or_false]at b;rcases b with rfl|rfl|rfl|rfl|rfl|rfl|rfl|rfl|rfl|rfl<;>refine⟨s_,λq a=> ?_⟩<;>simp only[Lo,AI,Af,or_false]at a<;>rcases a with rfl|rfl|rfl|rfl<;>simp
def Al(w0:World)(t:ByteArray)(ty:TypeId)(listed:Array Bool)(a:Act)(w:World):Prop:=
 listed[10]?=some true->∃p,a.tmps[9]?=some (.pk p 0)/\w0.heap.size<=p/\∃x,w.heap[p]?=some (.cells #[.string x] ty)/\(listed[11]?=some true->x=t)
theorem Al.step{w0:World}{t:ByteArray}{ty:TypeId}{d:Nat}(h:Al w0 t ty listed a w)(e:n≠10/\n≠11)(g:d≠9)(i:Bw w w'):Al w0 t ty (listed.setIfInBounds n true) (a.put (some d) v) w':=by
 intro c;rw[sN e.1]at c;obtain⟨p,l,k,x,f,j⟩:=h c;refine⟨p, ?_,k,x,(i.block p (gA f).1).trans f,λb=> ?_⟩
 ·show(a.tmps.setIfInBounds d v)[9]?=_;rw[sN g];exact l
 ·rw[sN e.2]at b;exact j b
theorem nw{K:Nat}(c:m≠K)(h:listed[K]?=some true->∀n,n<K->listed[n]?=some true):(listed.setIfInBounds m true)[K]?=some true->∀n,n<K->(listed.setIfInBounds m true)[n]?=some true:=λa n b=>by
 rw[sN c]at a;have:=h a n b;by_cases e:m=n
 ·subst e;exact a40 (gA this).1
 ·rw[sN e];exact this
theorem uJ{K:Nat}(b:ops[K]?=some o)(a:∀e∈o.after,QZ .any e=true->listed[e.on]?=some true)(h:((Ak K).all λk=>ii ops K k)=true)(n:Nat)(c:n<K):listed[n]?=some true:=
 p5 (Vk.1 h n (Pi.2 c)) b a
section
variable{s:dk}{d:Int}{k:List Item}
theorem NV(h:gu (Lo b4 b7 i d) (F2 s b4 i) 33 listed a){e:Nat}(b:(m,e,v)∈F2 s b4 i):gu (Lo b4 b7 i d) (F2 s b4 i) 33 (listed.setIfInBounds m true) (a.put (some e) v):=
 h.put (Jm s b4 b7 i d _ b).1 (Jm s b4 b7 i d _ b).2 λp c e=>Qt s b4 i p c _ b e
end
def vm(b7 b9 j:Nat):List (Nat×Value):=[(7, .pt b7),(9, .pt b9),(10, .int .i64 j)]
def pJ(s:dk)(i j:Nat)(x:List UInt8):List (Nat×Nat×Value):=[(0,26, .string (AR s i)),(1,27, .int .i64 j),(2,28, .string ⟨(cQ j 1).toArray⟩),(3,29, .string ⟨x.toArray⟩)]
theorem Nh(s:dk)(i j:Nat)(x:List UInt8):∀p∈pJ s i j x,∀q∈pJ s i j x,p.2.1=q.2.1\/p.1=q.1->p=q:=by intro p b q a h;simp only[pJ,AI,Af,or_false]at b a;rcases b with rfl|rfl|rfl|rfl<;>rcases a with rfl|rfl|rfl|rfl<;>first|rfl|(exfalso;simp at h)
theorem EI(s:dk)(i j:Nat)(x:List UInt8)(b7 b9:Nat):∀p∈pJ s i j x,p.2.1<33/\∀q∈vm b7 b9 j,q.1≠p.2.1:=by intro p b;simp only[pJ,AI,Af,or_false]at b;rcases b with rfl|rfl|rfl|rfl<;>refine⟨s_,λq a=> ?_⟩<;>simp only[vm,AI,Af,or_false]at a<;>rcases a with rfl|rfl|rfl<;>simp
theorem MA{s:dk}{x:List UInt8}{b7 b9:Nat}(h:gu (vm b7 b9 j) (pJ s i j x) 33 listed a){e:Nat}(b:(m,e,v)∈pJ s i j x):gu (vm b7 b9 j) (pJ s i j x) 33 (listed.setIfInBounds m true) (a.put (some e) v):=
 h.put (EI s i j x b7 b9 _ b).1 (EI s i j x b7 b9 _ b).2 λp c e=>Nh s i j x p c _ b e
def A4(cells:Array Value)(ty:TypeId)(listed:Array Bool)(a:Act)(w:World):Prop:=listed[4]?=some true->∃p,a.tmps[30]?=some (.sk p 3 3)/\w.heap[p]?=some (.cells cells ty)
theorem A4.step{cells:Array Value}{ty:TypeId}{d:Nat}(h:A4 cells ty listed a w)(e:n≠4)(f:d≠30)(g:Bw w w'):A4 cells ty (listed.setIfInBounds n true) (a.put (some d) v) w':=by intro b;rw[sN e]at b;obtain⟨p,i,c⟩:=h b;refine⟨p, ?_,(g.block p (gA c).1).trans c⟩;show(a.tmps.setIfInBounds d v)[30]?=_;rw[sN f];exact i
def A5(v5:Value)(listed:Array Bool)(a:Act):Prop:=listed[5]?=some true->a.tmps[31]?=some v5
theorem A5.step{b:Value}{d:Nat}(h:A5 b listed a)(e:n≠5)(f:d≠31):A5 b (listed.setIfInBounds n true) (a.put (some d) v):=by intro c;rw[sN e]at c;show(a.tmps.setIfInBounds d v)[31]?=_;rw[sN f];exact h c
def Rv(w0:World)(b7:Nat)(v5:Value)(listed:Array Bool)(w:World):Prop:=(listed[6]?=some false/\Bw w0 w)\/(listed[6]?=some true/\∃w1,Bw w0 w1/\w=w1.setCell ⟨b7,0,none⟩ v5)
structure Ch (s:dk) (i b7 b9 k2 l ld:Nat) (r:LoopState->Loop) (ty tk:TypeId) (w0:World) (st:LoopState) (x:List UInt8) (w:World):Prop where
 old:Bw w0 w
 seven:w.heap[b7]?=some (.cells #[.string ⟨x.toArray⟩] ty)
 nine:w.heap[b9]?=some (.cells #[.string (AR s i)] ty)
 key:w.heap[k2]?=some (.cells s.key tk)
 loop:w.heap[l]?=some (.loop (r st))
 list:w.heap[ld]?=some (.deferred (some []))
structure xu (b7 b9 k2 l ld:Nat) (w0:World):Prop where
 low:w0.heap.size<=b7/\w0.heap.size<=l/\w0.heap.size<=ld
 seven:b7≠b9/\b7≠k2/\b7≠l/\b7≠ld
 loop:l≠b9/\l≠k2/\l≠ld
section
variable{s:dk}{k2 ld:Nat}{r:LoopState->Loop}{ty tk:TypeId}{st:LoopState}{x:List UInt8}
theorem Ch.below(h:Ch s i b7 b9 k2 l ld r ty tk w0 st x w)(c:Bw w w'):Ch s i b7 b9 k2 l ld r ty tk w0 st x w':=by have g:∀{b:Nat} {o:Obj},w.heap[b]?=some o->w'.heap[b]?=some o:=λ{b o} a=>(c.block b (gA a).1).trans a;exact⟨aB h.old h.old.size c,g h.seven,g h.nine,g h.key,g h.loop,g h.list⟩
theorem Ch.turn(h:Ch s i b7 b9 k2 l ld r ty tk w0 st x w)(f:xu b7 b9 k2 l ld w0)(st':LoopState):Ch s i b7 b9 k2 l ld r ty tk w0 st' x (bP w l (r st')):=
 ⟨h.old.trans (ef w l _ f.low.2.1),(bD w _ f.seven.2.2.1).trans h.seven,(bD w _ (LZ f.loop.1)).trans h.nine,(bD w _ (LZ f.loop.2.1)).trans h.key,gG h.loop,(bD w _ (LZ f.loop.2.2)).trans h.list⟩
theorem Ch.put(h:Ch s i b7 b9 k2 l ld r ty tk w0 st x w)(f:xu b7 b9 k2 l ld w0)(y:List UInt8):Ch s i b7 b9 k2 l ld r ty tk w0 st y (w.setCell ⟨b7,0,none⟩ (.string ⟨y.toArray⟩)):=
 ⟨h.old.trans (ea w _ _ f.low.1),jv h.seven,(cx w _ (LZ f.seven.1)).trans h.nine,(cx w _ (LZ f.seven.2.1)).trans h.key,(cx w _ (LZ f.seven.2.2.1)).trans h.loop,(cx w _ (LZ f.seven.2.2.2)).trans h.list⟩
end
def TC(f:Func)(g:FuncId)(T:Array Value)(ld:Nat)(st:LoopState):Loop:={state:=st,pending:=none,fn:=g,tmps:=T,params:=#[25],assign:= .region 3 (bX f 3) false,body:= .block 1 (rD f 4),defers:=ld}
def mq(f:Func):Code:= .seq (.seq (rG f 1) (.cond (.tmp 9) .skip (.exit 0))) (.seq (.block 1 (.seq (rG f 3) (.cond (.tmp 15) .ret .skip))) (rG f 2))
section
variable{s:dk}{k2 ld:Nat}{x:List UInt8}{T:Array Value}{cf:Frame}
theorem TB(KS:List Int)(a:List UInt8)(t j:Nat)(x:List UInt8)(h:j<t):iG KS a (t- j) j x=iG KS a (t-(j+1)) (j+1) (kj KS a j x):=by rw[show t- j=(t-(j+1))+1 from o_];rfl
end
end
section
open Go.RowKit Go.Lib Go.Shelf
theorem Lf.lays105:Go.Proofs.Lays.n105 (aI q tP) Tryz.lays105_ren:=by
 cases q<;>constructor
 all_goals first|(rw[ol];kernel_rfl)|kernel_rfl|(intro w;kernel_rfl)
theorem Lf.extra105:Builder.Extra (aI q tP) Tryz.lays105_ren:=by
 cases q<;>constructor
 all_goals first|kernel_rfl|(intro w;kernel_rfl)|decide|(constructor<;>first|kernel_rfl|(intro w;kernel_rfl)|decide)
theorem Lf.strings_Repeat(s:ByteArray)(c:Nat)(w:World)(b:c<=9223372036854775807)(a:s.size*c<=140737488355328):
 Calls (aI q tP) 57 #[.s s, .i c] w λe w'=>e= .returned (.string ⟨(YM s.data.toList c).toArray⟩)/\Bw w w':=Any.strings_Repeat Lf.lays105 Lf.extra105 s c w b a
@[simp] theorem Lf.func13:(aI q tP).funcs[13]?=some Tryz.f13:=aM Tryz.func13 d_ rfl rfl k_
@[simp] theorem Lf.call13(args:Array Value)(w:World):(callFunc 13 args).run (aI q tP) w= .ok (.enter 13 args) w:=dI Lf.func13 k_ rfl args w
@[simp] theorem Lf.func57:(aI q tP).funcs[57]?=some Tryz.f57:=aM Tryz.func57 d_ rfl rfl k_
@[simp] theorem Lf.call57(args:Array Value)(w:World):(callFunc 57 args).run (aI q tP) w= .ok (.enter 57 args) w:=dI Lf.func57 k_ rfl args w
end
namespace L1
open Go.Proofs.YtkmoglhgkcnalabGreatDoor
section

open Go.RowKit
theorem DJ(x k:Int)(w:World):
 Calls (aI ql tP) 83 #[.int .u32 x, .i k] w λe w'=>e= .returned (.int .u32 (Fs x k))/\w'=w:=by
 have a:=sR .and (IntKind.u64.wrap k) 31
 go_enter Lf.func83,Tryz.ntmps83
 go_wp2
 go_ret
 exact⟨rfl,rfl⟩
theorem tA(x a b c:Int)(w:World)(i:0<=a)(h:a<=31)(g:0<=b)(b1:b<=31)(f:0<=c)(d:c<=31):
 Calls (aI ql tP) 67 #[.int .u32 x, .i a, .i b, .i c] w λe w'=>e= .returned (.int .u32 (iN x a b c))/\w'=w:=by
 go_enter Lf.func67,Tryz.ntmps67
 go_wp2_with (go_at_call 83;refine(DJ _ _ _).mono ?_;rintro e w' ⟨rfl,rfl⟩)
 go_ret
 exact⟨rfl,rfl⟩
theorem zl(x a b c:Int)(w:World)(i:0<=a)(h:a<=31)(g:0<=b)(b1:b<=31)(f:0<=c)(d:c<=31):
 Calls (aI ql tP) 82 #[.int .u32 x, .i a, .i b, .i c] w λe w'=>e= .returned (.int .u32 (mZ x a b c))/\∃n,w'=w.drewN n:=by
 go_enter Lf.func82,Tryz.ntmps82
 go_wp2
 go_quiet ((go_at_call 83;exact Calls.quiet_of_same (DJ _ _ _)))
 go_wp2
 go_ret
 exact⟨rfl,_,rfl⟩
theorem eO(s:ByteArray)(w:World)(hs:s.size<=8):
 Calls (aI ql tP) 81 #[.s s] w λe w'=>e= .returned (.int .u64 (et s.data.toList))/\w'=w:=by
 go_enter Lf.func81,Tryz.ntmps81
 go_wp2
 go_loop [3,4,7] (λn j i=>∃k:Nat,k<=s.size/\i= .i k/\n= .int .u64 (et (s.data.toList.take k))) (λ_ _ i=>s.size-(intOf i).toNat)
 case atStart=>exact⟨0,W2 _,rfl,rfl⟩
 case round=>
  obtain⟨k,c,rfl,rfl⟩:=hrel;by_cases a:k<s.size
  ·have b:=pY (s.data.toList.take k) 7 (by simp;omega)
   go_wp2
   go_round
   case rel=>exact⟨k+1,o_,by go_num,by rw[F4 s k a,ra,I8 _ _ b.1 o_]⟩
   case measure=>simp[intOf];omega
  ·go_wp2
   go_ret
   exact⟨KT (by rw[LP (by simp;omega)]),rfl⟩
theorem Lf.info5:((aI ql tP).info? 5).map (λi=>(i.zero,i.size,i.bytes))=some (some (.int .u8 0),1,1):=k_
theorem pI(n k:Nat)(w:World)(q:k<=8):
 Calls (aI ql tP) 68 #[.int .u64 n, .i k] w λe w'=>e= .returned (.string ⟨(cQ n k).toArray⟩)/\Bw w w':=by
 have g:=λw=>run_make_row' (P:=(aI ql tP)) 62 5 (.int .u8 0) 1 Lf.underlying62 Lf.info5 rfl .i64 .i64 k o_ o_ w
 go_enter Lf.func68,Tryz.ntmps68
 go_wp2
 go_loopw [0,6] (λx i d=>∃m:Nat,m<=k/\i= .i ((m:Int)- 1)/\x= .int .u64 ((n/256^(k- m):Nat):Int)/\d=w.alloc (.cells (F0 n k m).toArray 5)) (λ_ i _=>(intOf i+1).toNat)
 case atStart=>exact⟨k,a36 _,rfl,s_,by rw[EZ,fp]⟩
 case round=>
  obtain⟨m,h,rfl,rfl,rfl⟩:=hrel;cases m with
  |zero=>
   have b:=cU k n;have a:=run_convert_bytes_back (P:=(aI ql tP)) (w.alloc (.cells (bG (cQ n k)).toArray 5)) 62 9 5 ⟨w.heap.size,0,none⟩ k (cQ n k) Lf.underlying62 Lf.underlying5 Lf.underlying9
    (λj l=>by rw[CH,Pf _ _ _ _ rfl];simp[bG,l])
   rw[b]at a;rw[K5];generalize c:cQ n k=L at*;have o:Hid (cQ n k=L):=c;clear c b
   go_wp2
   go_ret
   exact⟨DT o.out.symm,(bR).alloc (a36 _) _⟩
  |succ p=>
   rw[show((p+1:Nat):Int)- 1=(p:Int)from o_];have r:=K4 n k p;have f:=BE n k (p+1) h
   go_wp2
   go_roundw
   case rel=>exact⟨p,o_,rfl,by rw[show k- p=k-(p+1)+1 from o_,Nat.pow_succ,←Nat.div_div_eq_div_mul];simp,by rw[K3 n k p o_ _ s_]⟩
   case measure=>simp[intOf]
theorem K2(n:Nat)(w:World):
 Calls (aI ql tP) 56 #[.int .u64 n] w λe w'=>e= .returned (.string ⟨(cQ n 8).toArray⟩)/\Bw w w':=by
 go_enter Lf.func56,Tryz.ntmps56
 go_wp2_with (go_at_call 68;refine(pI n 8 _ o_).mono ?_;rintro e w' ⟨rfl,a⟩)
 go_ret
 exact⟨rfl,a⟩
end
section

open Go.RowKit
theorem BK(b k:Nat)(i:k<16)(W:World):(JR 66 (.pk b 0) (some (.i (4*(k:Int)))) (some (.i (4*(k:Int)+4))) none).run (aI ql tP) W=
 .ok (.slice (some ⟨b,4*k,none⟩) 4 (64- 4*k)) W:=by
 have c:(aI ql tP).underlying 66=some (.array ((aI ql tP).arrayLen 66) ((aI ql tP).elem 66)):=k_
 have a:(aI ql tP).arrayLen 66=64:=k_
 have e:(aI ql tP).elem 66=5:=k_
 have d:(sizeOf 5).run (aI ql tP) W= .ok 1 W:=k_
 rw[run_sliceAt_array_lh W 66 _ c _ _ _ _ o_ o_ (by rw[a];omega),a,e,d];have h:(4*(k:Int)).toNat=4*k:=o_
 have g:(4*(k:Int)+4).toNat=4*k+4:=o_
 have f:4*k+4- 4*k=4:=o_
 simp only[Vp,slicedAt];rw[h,g,f,if_neg o_,CH,a74,a46]
theorem Gr(B:List UInt8)(h:B.length=64)(b k c:Nat)(g:k<16)(W:World)(e:W.rangeAt b 0 (bG B)):
 (convert 62 9 (.slice (some ⟨b,4*k,none⟩) 4 c)).run (aI ql tP) W= .ok (.string ⟨((B.drop (4*k)).take 4).toArray⟩) W:=by
 have d:((B.drop (4*k)).take 4).length=4:=by simp;omega
 have a:=run_convert_bytes_back (P:=(aI ql tP)) W 62 9 5 ⟨b,4*k,none⟩ c ((B.drop (4*k)).take 4) Lf.underlying62 Lf.underlying5 Lf.underlying9
  (λj f=>by rw[d]at f;rw[CH];have:=e (4*k+j) (.int .u8 ((B[4*k+j]' o_).toNat:Int)) (by simp[bG];exact⟨_,AS o_,rfl⟩);rw[a46]at this;rw[this];simp)
 rwa [d]at a
theorem Fp(B:List UInt8)(hB:B.length=64)(w:World):
 Calls (aI ql tP) 66 #[.agg (bG B).toArray] w λe w'=>e= .returned (.agg (aH (cZ B 64)).toArray)/\Bw w w':=by
 go_enter Lf.func66,Tryz.ntmps66
 go_wp2
 go_loopw [4,6] (λ_ i E=>∃(k:Nat) (f:World),k<=16/\i= .i k/\f.heap.size=w.heap.size+1+1/\f.rangeAt w.heap.size 0 (bG B)/\f.there (w.heap.size+1) 0 64/\Bw w f/\
  E=f.alloc (.cells (aH (dW B k)).toArray 108)) (λ_ i _=>16-(intOf i).toNat)
 case atStart=>
  have D:=JE w B (C2 64 (.int .u32 0)).toArray s_;exact⟨0,_,o_,rfl,D.1,D.2.1,D.2.2.1,D.2.2.2,by rw[zr];rfl⟩
 case round=>
  obtain⟨k,f,Q,rfl,a,q,o,r,rfl⟩:=hrel;by_cases d:k<16
  ·have a4:=BK (ql:=ql) w.heap.size k d
   have a6:=λc=>Gr (ql:=ql) B hB w.heap.size k c d (f.alloc (.cells (aH (dW B k)).toArray 108)) (R3 q _)
   have hg:=rW B k o_
   have O:=vi B k o_
   have a5:(aH (dW B k)).length=64:=by rw[bB,O]
   have h8:(ByteArray.mk ((B.drop (4*k)).take 4).toArray).size<=8:=by show((B.drop (4*k)).take 4).toArray.size<=8;simp;omega
   go_wp2_with (go_at_call 81;refine(eO _ _ h8).mono ?_;rintro e w' ⟨rfl,rfl⟩)
   go_roundw
   case rel=>exact⟨k+1,f,o_,by go_num,a,q,o,r,by rw[tQ B k o_ _ (by rw[if_pos d,GW,QY])]⟩
   case measure=>simp[intOf];omega
  ·have g:k=16:=o_;subst g;clear d Q
   go_wp2
   go_loopw [5] (λi E=>∃(k n:Nat),16<=k/\k<=64/\i= .i k/\
    E=(f.alloc (.cells (aH (dW B k)).toArray 108)).drewN n) (λi _=>64-(intOf i).toNat)
   case atStart=>exact⟨16,0,o_,o_,rfl,rfl⟩
   case round=>
    obtain⟨k,n,g,Q,rfl,rfl⟩:=hrel;by_cases d:k<64
    ·obtain⟨m,rfl⟩:∃m,k=m+16:=⟨k- 16,o_⟩;rw[show((m+16:Nat):Int)=(m:Int)+16 from o_]
     go_wp2_with fail
     obtain⟨M,b⟩:∃M,M=(f.alloc (.cells (aH (dW B (m+16))).toArray 108)).drewN n:=⟨_,rfl⟩;have X:=rK b a (ma B (m+16) m o_);have W:=rK b a (ma B (m+16) (m+1) o_);have U:=rK b a (ma B (m+16) (m+9) o_);have s:=rK b a (ma B (m+16) (m+14) o_);have V:=rK b a (rW B (m+16) o_);have T:=JH b a (m+16);generalize y:(cZ B (m+16)).getD m 0=x0 at X;have X0:Hid ((cZ B (m+16)).getD m 0=x0):=y;clear y;generalize x:(cZ B (m+16)).getD (m+1) 0=x1 at W;have X1:Hid ((cZ B (m+16)).getD (m+1) 0=x1):=x;clear x;generalize u:(cZ B (m+16)).getD (m+9) 0=x9 at U;have X9:Hid ((cZ B (m+16)).getD (m+9) 0=x9):=u;clear u;generalize h:(cZ B (m+16)).getD (m+14) 0=t at s;have Z:Hid ((cZ B (m+16)).getD (m+14) 0=t):=h;clear h;rw[←b];have HM:Hid (M=(f.alloc (.cells (aH (dW B (m+16))).toArray 108)).drewN n):=b;clear b;have b0:(m:Int)<64:=o_;have b1:(m:Int)+1<64:=o_;have b9:(m:Int)+9<64:=o_;have Y:(m:Int)+14<64:=o_;have a7:(m:Int)+16<64:=o_;have z0:0<=(m:Int):=o_;have v0:A8.wrap (m:Int)=m:=(by rw[a5_];omega);have v1:A8.wrap ((m:Int)+16- 15)=m+1:=(by rw[a5_];omega);have v9:A8.wrap ((m:Int)+16- 7)=m+9:=(by rw[a5_];omega);have F:A8.wrap ((m:Int)+16- 2)=m+14:=(by rw[a5_];omega);have p1:0<=(m:Int)+1:=o_;have p9:0<=(m:Int)+9:=o_;have J:0<=(m:Int)+14:=o_;have I:0<=(m:Int)+16:=o_;have t1:((m:Int)+1).toNat=m+1:=o_;have t9:((m:Int)+9).toNat=m+9:=o_;have H:((m:Int)+14).toNat=m+14:=o_;have G:((m:Int)+16).toNat=m+16:=o_
     go_region_held3 (λw'=>w'.cell? ⟨w.heap.size+1+1,m,none⟩=some (.int .u32 x0)/\w'.cell? ⟨w.heap.size+1+1,m+1,none⟩=some (.int .u32 x1)/\w'.cell? ⟨w.heap.size+1+1,m+9,none⟩=some (.int .u32 x9)/\w'.cell? ⟨w.heap.size+1+1,m+14,none⟩=some (.int .u32 t)) (first|go_keep|(refine⟨?_, ?_, ?_, ?_⟩<;>(rw[World.cell?_setCell_other _ _ _ _ s_];simp only[Zk,X,W,U,s])))
      (first|(go_at_call 82;refine(zl _ _ _ _ _ o_ o_ o_ o_ o_ o_).mono ?_;rintro e w' ⟨rfl,nq,rfl⟩))
     all_goals
      clear X W U s V T b0 b1 b9 Y v0 v1 v9 F p1 p9 J I t1 t9 H G
      go_wp2
      go_roundw
      case rel=>((repeat apply Exists.intro);exact⟨⟨m+17,_,o_,o_,by go_num,(Ry HM.out a _ _ _).trans (by rw[tQ B (m+16) o_ _ (by rw[if_neg o_,I9,X0.out,X1.out,X9.out,Z.out,QY,QY,QY])])⟩,rfl⟩)
      case measure=>simp[intOf];omega
    ·have A:k=64:=o_;subst A;clear d Q g;obtain⟨M,b⟩:∃M,M=(f.alloc (.cells (aH (dW B 64)).toArray 108)).drewN n:=⟨_,rfl⟩;have N:M.rangeAt (w.heap.size+1+1) 0 (aH (dW B 64)):=λj v hv=>by rw[a46];exact rK b a hv
     have K:M.there (w.heap.size+1) 0 64:=(by rw[b];exact World.there_alloc o _);have hb:Bw w M:=(by rw[b];exact below_drewN (r.alloc o_ _) n);rw[←b];rw[zt]at N;clear b a q o r;have P:(aH (cZ B 64)).length=64:=(by rw[bB,di]);generalize S:aH (cZ B 64)=L at*;have HL:Hid (aH (cZ B 64)=L):=S;have l:∀v∈L,v.oneCell'=true:=(by rw[←S];exact iH _);clear S;have R:((aI ql tP).info? 108).map (·.size)=some L.length:=(by rw[P];kernel_rfl);have a3:Hid (M.rangeAt (w.heap.size+1+1) 0 L):=N;have z:L.toArray.size=64:=(by simp[P]);have a2:Hid (M.there (w.heap.size+1) 0 L.toArray.size):=(by rw[z];exact K);have C:Hid (M.there (w.heap.size+1) 0 L.length):=(by rw[P];exact K);clear z;have a1:Hid (((aI ql tP).info? 108).map (·.size)=some L.toArray.size):=(by rw[Gh];exact R);have a0:Hid (L.toArray.all (·.oneCell')=true):=all_oneCell_toArray l;clear N K l
     go_wp2_with (first
      |refine wpList_load_mid rfl 108 (.tmp 3) rfl (w.heap.size+1+1) 0 rfl L _ a3.out Lf.underlying108 rfl R ?_
      |refine wpList_store_mid rfl 108 (.tmp 2) (.tmp 48) rfl (w.heap.size+1) 0 L.toArray rfl rfl a2.out a1.out a0.out ?_)
     exact bodyPost_ret (v:= .agg L.toArray) (iv (p:=2) (ty:=108) k_ _ _ (w.heap.size+1) 0 L _ rfl (J3 _ _ _ _ C.out) Lf.underlying108 rfl R) rfl ⟨KU HL.out.symm,dS o_ _ _ _ _ hb⟩
end
section

open Go.RowKit
theorem FZ(G:List Int)(c:G.length=8)(k:Nat)(b:k<8)(W:World):(WC 65 (.agg (aH G).toArray) (.i (k:Int))).run (aI ql tP) W= .ok (.int .u32 (G.getD k 0)) W:=by
 have a:(sizeOf 64).run (aI ql tP) W= .ok 1 W:=k_
 simp[WC,asIntOf,run_underlying Lf.underlying65,part,a,b,aH,c]
theorem TT(x:Int)(w:World):Calls (aI ql tP) 67 #[.int .u32 x, .i 6, .i 11, .i 25] w λe w'=>e= .returned (.int .u32 (iN x 6 11 25))/\w'=w:=
 tA x 6 11 25 w o_ o_ o_ o_ o_ o_
theorem TU(x:Int)(w:World):Calls (aI ql tP) 67 #[.int .u32 x, .i 2, .i 13, .i 22] w λe w'=>e= .returned (.int .u32 (iN x 2 13 22))/\w'=w:=
 tA x 2 13 22 w o_ o_ o_ o_ o_ o_
theorem FE(H KS:List Int)(B:List UInt8)(hH:H.length=8)(hB:B.length=64)(w:World)(hK:w.rangeAt 0 0 (aH KS))(hKl:KS.length=64)(h0:0<w.heap.size):
 Calls (aI ql Tryz.prog) 55 #[.agg (aH H).toArray, .agg (bG B).toArray] w λe w'=>e= .returned (.agg (aH (rh KS H B)).toArray)/\Bw w w':=by
 have hi54:((aI ql Tryz.prog).info? 66).map (·.size)=some (bG B).length:=by rw[cq,hB];kernel_rfl
 have HK:Hid (w.rangeAt 0 0 (aH KS)):=hK;have HKl:Hid (KS.length=64):=hKl;clear hK hKl
 go_enter Lf.func55,Tryz.ntmps55
 go_wp2_with (first
  |refine wpList_load_mid rfl 66 (.tmp 3) rfl (w.heap.size+1) 0 rfl (bG B) _ (by exact R3 (dZ _ _ _ _ s_) _) Lf.underlying66 rfl hi54 ?_
  |fail)
 refine(Fp B hB _).mono ?_;rintro e w1 ⟨rfl,hb1⟩;have hSl:(cZ B 64).length=64:=di B 64;generalize hS:cZ B 64=S at*;have HS:Hid (cZ B 64=S):=hS;have hi85:((aI ql Tryz.prog).info? 108).map (·.size)=some (aH S).toArray.size:=by rw[show(aH S).toArray.size=64 from by simp[bB,hSl]];kernel_rfl
 have hth:(w1.alloc (.cells (C2 64 (.int .u32 0)).toArray 108)).there w1.heap.size 0 (aH S).toArray.size:=by rw[show(aH S).toArray.size=64 from by simp[bB,hSl]];exact fk _ _ _ _ _ rfl s_
 have Hth:Hid ((w1.alloc (.cells (C2 64 (.int .u32 0)).toArray 108)).there w1.heap.size 0 (aH S).toArray.size):=hth;have Hb1:Hid (Below _ _ _):=hb1;clear hS hth hb1 hi54
 go_wp2_with (first
  |refine wpList_store_mid rfl 108 (.tmp 5) (.tmp 20) rfl w1.heap.size 0 (aH S).toArray rfl rfl Hth.out hi85 (all_oneCell_toArray (iH S)) ?_)
 refine N9 (λM=>Q1 w M H KS S w1.heap.size) (FG w w1 H KS S B 65 66 108 _ _ rfl rfl hSl hH HK.out h0 Hb1.out) ?_;intro M hMM;have HHm:Hid (Q1 w M H KS S w1.heap.size):=hMM;clear hMM hi85 Hth Hb1;generalize w1.heap.size=c at HHm⊢;clear w1;simp only[Rf];obtain⟨s0,hs0⟩:∃s,s=St.of H:=⟨_,rfl⟩;have x0:M.cell? ⟨w.heap.size,0,none⟩=some (.int .u32 s0.a):=by rw[hs0];exact hY HHm.out.hrow 0 o_
 have x1:M.cell? ⟨w.heap.size,1,none⟩=some (.int .u32 s0.b):=by rw[hs0];exact hY HHm.out.hrow 1 o_
 have x2:M.cell? ⟨w.heap.size,2,none⟩=some (.int .u32 s0.c):=by rw[hs0];exact hY HHm.out.hrow 2 o_
 have x3:M.cell? ⟨w.heap.size,3,none⟩=some (.int .u32 s0.d):=by rw[hs0];exact hY HHm.out.hrow 3 o_
 have x4:M.cell? ⟨w.heap.size,4,none⟩=some (.int .u32 s0.e):=by rw[hs0];exact hY HHm.out.hrow 4 o_
 have x5:M.cell? ⟨w.heap.size,5,none⟩=some (.int .u32 s0.f):=by rw[hs0];exact hY HHm.out.hrow 5 o_
 have x6:M.cell? ⟨w.heap.size,6,none⟩=some (.int .u32 s0.g):=by rw[hs0];exact hY HHm.out.hrow 6 o_
 have x7:M.cell? ⟨w.heap.size,7,none⟩=some (.int .u32 s0.h):=by rw[hs0];exact hY HHm.out.hrow 7 o_
 have HH:Hid (s0=St.of H):=hs0;have HhH:Hid (H.length=8):=hH;have HhS:Hid (S.length=64):=hSl;clear hs0 hH hSl hB
 go_quiet (fail)
 clear x0 x1 x2 x3 x4 x5 x6 x7
 go_wp2
 go_loopw [6,7,8,9,10,11,12,13,37] (λa b c d e f g h i wr=>∃(k n:Nat),k<=64/\i= .int .i64 k/\a= .int .u32 (dX KS S H k).a/\b= .int .u32 (dX KS S H k).b/\c= .int .u32 (dX KS S H k).c/\d= .int .u32 (dX KS S H k).d/\
  e= .int .u32 (dX KS S H k).e/\f= .int .u32 (dX KS S H k).f/\g= .int .u32 (dX KS S H k).g/\h= .int .u32 (dX KS S H k).h/\wr=M.drewN n) (λ_ _ _ _ _ _ _ _ i _=>64-(intOf i).toNat)
 case atStart=>exact⟨0,_,o_,rfl,by rw[HH.out];rfl,by rw[HH.out];rfl,by rw[HH.out];rfl,by rw[HH.out];rfl,by rw[HH.out];rfl,by rw[HH.out];rfl,by rw[HH.out];rfl,by rw[HH.out];rfl,rfl⟩
 case round=>
  obtain⟨k,n,hk,rfl,rfl,rfl,rfl,rfl,rfl,rfl,rfl,rfl,rfl⟩:=hrel;by_cases hlt:k<64
  ·generalize hs:dX KS S H k=s;have HR:Hid (dX KS S H k=s):=hs;clear hs;have hlt':(k:Int)<64:=o_;have hk0:(0:Int)<=(k:Int):=o_;have y1:M.cell? ⟨0,k,none⟩=some (.int .u32 (KS.getD k 0)):=hY HHm.out.krow k (by rw[HKl.out];omega);have y2:M.cell? ⟨c,k,none⟩=some (.int .u32 (S.getD k 0)):=hY HHm.out.srow k (by rw[HhS.out];omega);generalize hkk:KS.getD k 0=kk at y1;generalize hww:S.getD k 0=ww at y2;have HKK:Hid (KS.getD k 0=kk):=hkk;have HWW:Hid (S.getD k 0=ww):=hww;clear hkk hww
   go_wp2_with fail
   go_quiet ((go_at_call 67;exact(TT _ _).mono (λ_ _ h=>⟨h.1,_,h.2⟩)))
   clear y1 y2
   go_wp2_with (go_at_call 67;refine(TU _ _).mono ?_;rintro e w' ⟨rfl,rfl⟩)
   go_roundw
   case rel=>exact⟨k+1,_,o_,by go_num,by rw[dX,HR.out,HKK.out,HWW.out];exact congrArg (Value.int .u32) (O5 s kk ww),by rw[dX,HR.out,HKK.out,HWW.out];rfl,by rw[dX,HR.out,HKK.out,HWW.out];rfl,by rw[dX,HR.out,HKK.out,HWW.out];rfl,by rw[dX,HR.out,HKK.out,HWW.out];exact congrArg (Value.int .u32) (O4 s kk ww),by rw[dX,HR.out,HKK.out,HWW.out];rfl,by rw[dX,HR.out,HKK.out,HWW.out];rfl,by rw[dX,HR.out,HKK.out,HWW.out];rfl,rfl⟩
   case measure=>simp[intOf];omega
  ·have hk64:k=64:=o_;subst hk64;clear hlt hk
   go_wp2
   generalize hG:dX KS S H 64=G;have HG:Hid (dX KS S H 64=G):=hG;clear hG;have hgl:Wa #[Value.int .u32 G.a,Value.int .u32 G.b,Value.int .u32 G.c,Value.int .u32 G.d,Value.int .u32 G.e,Value.int .u32 G.f,Value.int .u32 G.g,Value.int .u32 G.h]=Wa (aH G.list).toArray:=rfl
   go_loopw [97] (λi wr=>∃(k:Nat),k<=8/\i= .int .i64 k/\Bw w wr/\wr.rangeAt w.heap.size 0 (aH (ij H G.list k))/\wr.there w.heap.size 0 8/\wr.there (w.heap.size+1+1) 0 8) (λi _=>8-(intOf i).toNat)
   case atStart=>exact⟨0,o_,rfl,below_drewN HHm.out.below _,by rw[zZ H _ HhH.out];exact HHm.out.hrow,HHm.out.hthere,HHm.out.res⟩
   case round=>
    obtain⟨k,hk,rfl,hb,hr,ht,hres⟩:=hrel;by_cases hlt:k<8
    ·have hix:=λW=>FZ (ql:=ql) G.list rfl k hlt W;rw[←hgl]at hix;have hlt':(k:Int)<8:=o_;have hk0:(0:Int)<=(k:Int):=o_;have y0:wr.cell? ⟨w.heap.size,k,none⟩=some (.int .u32 (H.getD k 0)):=(by have:=hr k _ (FI H G.list k hlt);rwa [a46]at this);have yf:wr.frozen? ⟨w.heap.size,k,none⟩=false:=(by have:=(ht k hlt).2;rwa [a46]at this);clear hgl;have Hr:Hid (wr.rangeAt w.heap.size 0 (aH (ij H G.list k))):=hr;have Ht:Hid (wr.there w.heap.size 0 8):=ht;have Hres:Hid (wr.there (w.heap.size+1+1) 0 8):=hres;clear hr ht hres
     go_wp2
     go_roundw
     case rel=>exact⟨k+1,o_,by go_num,hb.setCell (a36 _) _,by rw[←FH H G.list k _ (by rw[QY,a50,a50])];exact Fv Hr.out _,vM Ht.out _ _ _,vM Hres.out _ _ _⟩
     case measure=>simp[intOf];omega
    ·have hk8:k=8:=o_;subst hk8;clear hlt hk hgl;have hml:(ij H G.list 8).length=8:=qa _ _ _;have HL:Hid (rh KS H B=ij H G.list 8):=(by show rh KS H B=_;rw[rh,II,HS.out,HG.out]);generalize ij H G.list 8=L at*;have hi53:((aI ql Tryz.prog).info? 65).map (·.size)=some (aH L).length:=(by rw[bB,hml];kernel_rfl);have Hi53:Hid (((aI ql Tryz.prog).info? 65).map (·.size)=some (aH L).toArray.size):=(by show _=some (aH L).toArray.size;rw[Gh];exact hi53);have Hr:Hid (wr.rangeAt w.heap.size 0 (aH L)):=hr;have Hres':Hid (wr.there (w.heap.size+1+1) 0 (aH L).length):=(by show wr.there _ _ _;rw[bB,hml];exact hres);have Hres:Hid (wr.there (w.heap.size+1+1) 0 (aH L).toArray.size):=(by show wr.there _ _ (aH L).toArray.size;rw[Gh];exact Hres'.out);clear hr ht hres
     go_wp2_with (first
           |refine wpList_load_mid rfl 65 (.tmp 2) rfl w.heap.size 0 rfl (aH L) _ Hr.out Lf.underlying65 rfl hi53 ?_
           |refine wpList_store_mid rfl 65 (.tmp 4) (.tmp 108) rfl (w.heap.size+1+1) 0 (aH L).toArray rfl rfl Hres.out Hi53.out (all_oneCell_toArray (iH L)) ?_)
     exact bodyPost_ret (v:= .agg (aH L).toArray) (iv (p:=4) (ty:=65) k_ _ _ (w.heap.size+1+1) 0 (aH L) _ rfl (J3 _ _ _ _ Hres'.out) Lf.underlying65 rfl hi53) rfl ⟨by rw[HL.out],dS o_ _ _ _ _ hb⟩
end
section

open Go.RowKit
theorem BL(b h:Nat)(f:h<64)(W:World):(JR 66 (.pk b 8) (some (.i (h:Int))) none none).run (aI ql tP) W= .ok (.slice (some ⟨b,8+h,none⟩) (64- h) (64- h)) W:=by
 have c:(aI ql tP).underlying 66=some (.array ((aI ql tP).arrayLen 66) ((aI ql tP).elem 66)):=k_
 have a:(aI ql tP).arrayLen 66=64:=k_
 have e:(aI ql tP).elem 66=5:=k_
 have d:(sizeOf 5).run (aI ql tP) W= .ok 1 W:=k_
 rw[run_sliceAt_array_l W 66 _ c _ _ o_ (by rw[a];omega),a,e,d];simp only[Vp,slicedAt];rw[VC,if_neg o_,CH,a74]
theorem vH(KS:List Int)(L blk:List UInt8)(s:ByteArray)(w:World)(b:Nat)(hD:eW w b KS L blk L.length)(hK:w.rangeAt 0 0 (aH KS))(hKl:KS.length=64)(hb0:0<b)(hb:b<w.heap.size)
 (hlen:L.length+s.size<=4611686018427387904):
 Calls (aI ql tP) 39 #[.pk b 0, .s s] w λe w'=>e= .returned (.tuple #[])/\w.grownBy w' (some b)/\∃blk',eW w' b KS (L++s.data.toList) blk' (L.length+s.size):=by
 have hc:=hD.length;have hf:w.frozen? ⟨b,72,none⟩=false:=by have:=(hD.there 72 o_).2;rwa [a46]at this
 have HD:Hid (eW w b KS L blk L.length):=hD;have HK:Hid (w.rangeAt 0 0 (aH KS)):=hK;have Hl:Hid (L.length+s.size<=4611686018427387904):=hlen;have h1:(L.length:Int)<=4611686018427387904:=o_
 have h2:(s.size:Int)<=4611686018427387904:=o_
 clear hD hK hlen
 go_enter Lf.func39,Tryz.ntmps39
 go_wp2
 go_loopw [1,4] (λpc hd wr=>∃(q rest blk':List UInt8),s.data.toList=q++rest/\pc= .string ⟨rest.toArray⟩/\hd= .i (((L++q).length%64:Nat):Int)/\eW wr b KS (L++q) blk' (L.length+s.size)/\w.grownBy wr (some b)) (λpc _ _=>oV pc)
 case atStart=>exact⟨[],s.data.toList,blk,rfl,rfl,s_,by rw[WS];have:=HD.out.setLen (L.length+s.size);simpa using this,oG _ _ _ _⟩
 case round=>
  clear hc hf;obtain⟨q,rest,blk',hq,rfl,rfl,hD,hG⟩:=hrel;have HQ:Hid (s.data.toList=q++rest):=hq;have HD':Hid (eW wr b KS (L++q) blk' (L.length+s.size)):=hD;have HG:Hid (w.grownBy wr (some b)):=hG;have hm:(L++q).length%64<64:=o_
  generalize hh:(L++q).length%64=h at hm;have HH:Hid ((L++q).length%64=h):=hh;clear hq hD hG hh;by_cases hr:rest=[]
  ·subst hr
   go_wp2
   go_end0
   exact⟨rfl,HG.out,blk',by rw[HQ.out,WS];exact HD'.out⟩
  ·have hpos:0<rest.length:=List.length_pos_iff.2 hr;have hsz:(ByteArray.mk rest.toArray).size=rest.length:=(by show rest.toArray.size=_;simp);obtain⟨n,hn⟩:∃n,n=min rest.length (64- h):=⟨_,rfl⟩;have hcp:=xM (P:=(aI ql tP)) wr 62 3 5 Lf.underlying62 k_ 9 b (8+h) (64- h) (64- h) n ⟨rest.toArray⟩ (by rw[hsz];exact hn.symm) (lj HD'.out.there o_ o_);have hn1:n<=rest.length:=o_;have hn2:n<=64- h:=o_;have hn0:0<n:=o_;have Hn:Hid (n=min rest.length (64- h)):=hn;clear hn;have hsl:=λW=>BL (ql:=ql) b h hm W;by_cases hfull:h+n=64
   ·have hfb:(((h:Int)+(n:Int))==64)=true:=by rw[beq_iff_eq];omega
    go_wp2_with fail
    obtain⟨c1,c2,c3,c4⟩:=HD'.out.copied (rest.take n) (by rw[HH.out];simp;omega);rw[HH.out]at c1 c2 c3 c4;have hWs:(wr.setCells b (8+h) (bG (rest.take n))).heap.size=wr.heap.size:=kF _ _ _ _;obtain⟨W1,hW1⟩:∃W1,W1=wr.setCells b (8+h) (bG (rest.take n)):=⟨_,rfl⟩;rw[←hW1]at c1 c2 c3 c4 hWs⊢;have HW1:Hid (W1=wr.setCells b (8+h) (bG (rest.take n))):=hW1;have hlt:(rest.take n).length=n:=(by simp;omega);have hB':(ig blk' (rest.take n) h).length=64:=i1 _ _ _ HD'.out.len o_;have hH':(cY KS (L++q) ((L++q).length/64)).length=8:=dC _ _ _;generalize hBB:ig blk' (rest.take n) h=BB at*;generalize hFF:cY KS (L++q) ((L++q).length/64)=FF at*;have hi53:((aI ql tP).info? 65).map (·.size)=some (aH FF).length:=(by rw[bB,hH'];kernel_rfl);have hi54:((aI ql tP).info? 66).map (·.size)=some (bG BB).length:=(by rw[cq,hB'];kernel_rfl);clear hcp hsl hfb;have hKW:(OM W1).rangeAt 0 0 (aH KS):=by rw[World.rangeAt_drew,HW1.out];exact World.rangeAt_setCells_apart (zF HG.out HK.out (by simp;omega)) _ _ _ (Or.inl o_)
    have hgs:=HG.out.size;have hW0:0<(OM W1).heap.size:=(by show 0<W1.heap.size;omega);have hbW:b<W1.heap.size:=o_;have HKW:Hid ((OM W1).rangeAt 0 0 (aH KS)):=hKW;have HW0:Hid (0<(OM W1).heap.size):=hW0;have HWs:Hid (W1.heap.size=wr.heap.size):=hWs;have Hc4:Hid (W1.there b 0 73):=c4;have HBB:Hid (ig blk' (rest.take n) h=BB):=hBB;have HFF:Hid (cY KS (L++q) ((L++q).length/64)=FF):=hFF;clear hKW hW0 hWs c3 c4 hBB hFF hW1 hgs;have hml:(rh KS FF BB).length=8:=nv _ _ _;have hmx:=FE (ql:=ql) FF KS BB hH' hB' (OM W1) HKW.out hKl HW0.out;generalize hMM:rh KS FF BB=MM at*;have HMM:Hid (rh KS FF BB=MM):=hMM;have Hmx:Hid (Calls _ _ _ _ _):=hmx;have hms:(aH MM).toArray.size=8:=(by simp[bB,hml]);have Ht53:Hid ((OM W1).there b 0 (aH MM).toArray.size):=(by show(OM W1).there b 0 _;rw[hms];exact(World.there_drew _ _ _ _).2 (lj Hc4.out o_ o_));have Hi53:Hid (((aI ql tP).info? 65).map (·.size)=some (aH MM).toArray.size):=(by show _=some (aH MM).toArray.size;rw[hms];kernel_rfl);clear hMM hmx hH' hB' hms;refine wp_region_any k_ ?_
    change wpAny _ _ _ _ _ _ _ (OM W1)
    refine wT 0 (.pk b 0) ?_;refine wT 1 (.pk b 0) ?_;refine wT 2 (.pk b 0) ?_;refine wT 3 (.pk b 0) ?_;refine wT 5 (.pk b 0) ?_;refine wT 6 (.pk b 0) ?_;refine wT 7 (.pk b 8) ?_;refine wpAny_all (rs:=[4,8]) k_ (VL _ _) (Ma (Yd (S:=λw'=>w'=OM W1) (v:= .agg (aH FF).toArray) rfl (yieldsIf_load_mid (by rfl) 65 (.tmp 43) rfl b 0 (by go_simp) (aH FF) _ (λw' hw'=>hw'▸mi c2) Lf.underlying65 rfl hi53) rfl ?_) (Yd (S:=λw'=>w'=OM W1) (v:= .agg (bG BB).toArray) rfl (yieldsIf_load_mid (by rfl) 66 (.tmp 47) rfl b 8 (by go_simp) (bG BB) _ (λw' hw'=>hw'▸mi c1) Lf.underlying66 rfl hi54) rfl ?_))
    ·refine wpAny_all (rs:=[8]) k_ (VL _ _) (ov (Yd (S:=λw'=>w'=OM W1) (v:= .agg (bG BB).toArray) rfl (yieldsIf_load_mid (by rfl) 66 (.tmp 47) rfl b 8 (by go_simp) (bG BB) _ (λw' hw'=>hw'▸mi c1) Lf.underlying66 rfl hi54) rfl ?_));refine wpAny_all (rs:=[9]) k_ (VL _ _) (ov (vI rfl rfl 55 #[.agg (aH FF).toArray, .agg (bG BB).toArray] (by go_simp) (.agg (aH MM).toArray) _ Hmx.out λw2 hb2=> ?_));refine wT 10 (.pk b 0) ?_;refine wT 11 (.pk b 0) ?_;have ht2:w2.there b 0 (aH MM).toArray.size:=fC hb2 (show b<(OM W1).heap.size from hbW) Ht53.out;refine wpAny_all (rs:=[12]) k_ (VL _ _) (ov (mU (by rfl) (by rfl) 65 (.tmp 51) (.tmp 49) (by rfl) b 0 (aH MM).toArray ?e4 ?e5 ht2 Hi53.out (all_oneCell_toArray (iH MM)) (by rfl) ?e7))
     case e4=>go_simp
     case e5=>go_simp
     case e7=>
      refine wpAny_done k_ ?_ _;have HB2:Hid (Below (OM W1).heap.size (OM W1) w2):=hb2;clear hb2 ht2
      go_wp2_with fail
      rw[qQ];have hst:oV (.string ⟨(rest.drop n).toArray⟩)<oV (.string ⟨rest.toArray⟩):=by show(rest.drop n).toArray.size<rest.toArray.size;simp;omega
      have hbw:Below wr.heap.size (wr.setCells b (8+(L++q).length%64) (bG (rest.take n))) w2:=by rw[HH.out,←HW1.out];exact(Z5 (WT _ W1)).trans (HB2.out.mono (show wr.heap.size<=W1.heap.size from by rw[HWs.out];exact a36 _))
      have hfu:=HD'.out.full (rest.take n) (by rw[HH.out,hlt];exact hfull) hbw (by rw[←HWs.out];exact hbW);rw[HH.out,HFF.out,HBB.out,HMM.out,ML]at hfu;have hmod:(L++(q++rest.take n)).length%64=0:=by have:=HH.out;simp only[LL,hlt]at this⊢;omega
      have hgr:w.grownBy W1 (some b):=(by rw[HW1.out];exact eJ HG.out (eG _ _ _ _));exact⟨⟨q++rest.take n,rest.drop n,_,by rw[HQ.out];simp,rfl,by rw[hmod];rfl,hfu,eJ hgr (eJ (sr ((Z5 (WT _ W1)).trans HB2.out)) (eG _ _ _ _))⟩,hst⟩
    ·refine wpAny_all (rs:=[4]) k_ (VL _ _) (ov (Yd (S:=λw'=>w'=OM W1) (v:= .agg (aH FF).toArray) rfl (yieldsIf_load_mid (by rfl) 65 (.tmp 43) rfl b 0 (by go_simp) (aH FF) _ (λw' hw'=>hw'▸mi c2) Lf.underlying65 rfl hi53) rfl ?_));refine wpAny_all (rs:=[9]) k_ (VL _ _) (ov (vI rfl rfl 55 #[.agg (aH FF).toArray, .agg (bG BB).toArray] (by go_simp) (.agg (aH MM).toArray) _ Hmx.out λw2 hb2=> ?_));refine wT 10 (.pk b 0) ?_;refine wT 11 (.pk b 0) ?_;have ht2:w2.there b 0 (aH MM).toArray.size:=fC hb2 (show b<(OM W1).heap.size from hbW) Ht53.out;refine wpAny_all (rs:=[12]) k_ (VL _ _) (ov (mU (by rfl) (by rfl) 65 (.tmp 51) (.tmp 49) (by rfl) b 0 (aH MM).toArray ?e4 ?e5 ht2 Hi53.out (all_oneCell_toArray (iH MM)) (by rfl) ?e7))
     case e4=>go_simp
     case e5=>go_simp
     case e7=>
      refine wpAny_done k_ ?_ _;have HB2:Hid (Below (OM W1).heap.size (OM W1) w2):=hb2;clear hb2 ht2
      go_wp2_with fail
      rw[qQ];have hst:oV (.string ⟨(rest.drop n).toArray⟩)<oV (.string ⟨rest.toArray⟩):=by show(rest.drop n).toArray.size<rest.toArray.size;simp;omega
      have hbw:Below wr.heap.size (wr.setCells b (8+(L++q).length%64) (bG (rest.take n))) w2:=by rw[HH.out,←HW1.out];exact(Z5 (WT _ W1)).trans (HB2.out.mono (show wr.heap.size<=W1.heap.size from by rw[HWs.out];exact a36 _))
      have hfu:=HD'.out.full (rest.take n) (by rw[HH.out,hlt];exact hfull) hbw (by rw[←HWs.out];exact hbW);rw[HH.out,HFF.out,HBB.out,HMM.out,ML]at hfu;have hmod:(L++(q++rest.take n)).length%64=0:=by have:=HH.out;simp only[LL,hlt]at this⊢;omega
      have hgr:w.grownBy W1 (some b):=(by rw[HW1.out];exact eJ HG.out (eG _ _ _ _));exact⟨⟨q++rest.take n,rest.drop n,_,by rw[HQ.out];simp,rfl,by rw[hmod];rfl,hfu,eJ hgr (eJ (sr ((Z5 (WT _ W1)).trans HB2.out)) (eG _ _ _ _))⟩,hst⟩
   ·have hfb:(((h:Int)+(n:Int))==64)=false:=by rw[beq_eq_false_iff_ne];omega
    go_wp2_with fail
    rw[qQ];have hlt:(rest.take n).length=n:=(by simp;omega);have hst:oV (.string ⟨(rest.drop n).toArray⟩)<oV (.string ⟨rest.toArray⟩):=by show(rest.drop n).toArray.size<rest.toArray.size;simp;omega
    have hmo:=HD'.out.more (rest.take n) (by rw[HH.out,hlt];omega);have hmod:(L++(q++rest.take n)).length%64=h+n:=by have:=HH.out;simp only[LL,hlt]at this⊢;omega
    rw[HH.out,ML]at hmo;exact⟨⟨q++rest.take n,rest.drop n,_,by rw[HQ.out];simp,rfl,by rw[hmod];simp,hmo,eJ HG.out (eG _ _ _ _)⟩,hst⟩
end
section

open Go.RowKit
theorem Lf.size57:((aI ql tP).info? 69).map (·.size)=some 73:=k_
theorem L3(w:World):
 Calls (aI ql tP) 38 #[] w λe w'=>e= .returned (.agg lC.toArray)/\Bw w w':=by
 have a:lC.toArray.size=73:=by rw[Gh,fG]
 have f:((aI ql tP).info? 69).map (·.size)=some lC.toArray.size:=by rw[a];exact Lf.size57
 have b:(w.alloc (.cells Tryz.zeroCells69 69)).there w.heap.size 0 lC.toArray.size:=by rw[a];exact fk _ _ _ _ _ rfl k_
 have d:Hid ((w.alloc (.cells Tryz.zeroCells69 69)).there w.heap.size 0 lC.toArray.size):=b;have c:Hid ((w.alloc (.cells Tryz.zeroCells69 69)).there w.heap.size 0 lC.length):=by show World.there _ _ _ lC.length;rw[fG];exact fk _ _ _ _ _ rfl k_
 have g:Hid (((aI ql tP).info? 69).map (·.size)=some lC.toArray.size):=f;clear a f b
 go_enter Lf.func38,Tryz.ntmps38
 go_wp2_with (first
  |refine wpList_buildTo rfl 69 #[(0, .tmp 1)] rfl (some 2) rfl lC.toArray k_ ?_
  |refine wpList_store_mid rfl 69 (.tmp 0) (.tmp 2) rfl w.heap.size 0 lC.toArray rfl rfl d.out g.out (all_oneCell_toArray (AE _ _ _)) ?_)
 exact bodyPost_ret (v:= .agg lC.toArray) (iv (p:=0) (ty:=69) k_ _ _ w.heap.size 0 lC _ rfl (J3 _ _ _ _ c.out) Lf.underlying69 rfl (by rw[fG];exact Lf.size57)) rfl ⟨rfl,dS (a36 _) _ _ _ _ ((bR).alloc (a36 _) _)⟩
end
section

open Go.RowKit
theorem K1(x:Int)(h:0<=x)(w:World):
 Calls (aI ql tP) 56 #[.int .u64 x] w λe w'=>e= .returned (.string ⟨(cQ x.toNat 8).toArray⟩)/\Bw w w':=by obtain⟨n,rfl⟩:=WZ h;exact K2 n w
theorem K7(KS:List Int)(L blk:List UInt8)(w:World)(hbl:blk.length=64)(htl:blk.take (L.length%64)=L.drop (64*(L.length/64)))(hK:w.rangeAt 0 0 (aH KS))(hKl:KS.length=64)(h0:0<w.heap.size)
 (hlen:L.length<=576460752303423488):
 Calls (aI ql tP) 40 #[.agg (jR (cY KS L (L.length/64)) blk L.length).toArray] w λe w'=>e= .returned (.string ⟨(ip KS L).toArray⟩)/\Bw w w':=by
 have hD:=eW.made w KS L blk L.length 69 hbl htl;generalize jR (cY KS L (L.length/64)) blk L.length=DC at*;have HD:Hid (eW (w.alloc (.cells DC.toArray 69)) w.heap.size KS L blk L.length):=hD;have HK:Hid (w.rangeAt 0 0 (aH KS)):=hK;have Hlen:Hid (L.length<=576460752303423488):=hlen;have hc:=hD.length;have h8:8*(L.length:Int)<=9223372036854775807:=o_
 clear hD hK hbl htl hlen
 go_enter Lf.func40,Tryz.ntmps40
 go_wp2_with fail
 refine(K1 _ o_ _).mono ?_;rintro e w1 ⟨rfl,hb1⟩;rw[show(8*(L.length:Int)).toNat=8*L.length from o_];have hz1:w.heap.size<w1.heap.size:=by have:=hb1.size;simp at this;omega
 have hD1:=HD.out.below hb1 s_;have hc1:=hD1.length;have HD1:Hid (eW w1 w.heap.size KS L blk L.length):=hD1;have Hb1:Hid (Bw w w1):=((bR).alloc (a36 _) _).trans (hb1.mono s_);have hos:(ByteArray.mk (cQ (8*L.length) 8).toArray).size=8:=by show(cQ (8*L.length) 8).toArray.size=8;simp[cU]
 generalize hO:cQ (8*L.length) 8=O at*;have HO:Hid (cQ (8*L.length) 8=O):=hO;clear hD1 hb1 hO hc
 go_wp2_with fail
 obtain⟨c,hcc⟩:∃c:Nat,c=(119- L.length%64)%64:=⟨_,rfl⟩;rw[show((119-(L.length:Int))%64)=(c:Int)from o_];refine(Lf.strings_Repeat (q:=ql) _ c _ o_ (by show 1*c<=_;omega)).mono ?_;rintro e w2 ⟨rfl,hb2⟩;have hz2:w.heap.size<w2.heap.size:=by have:=hb2.size;omega
 have HD2:Hid (eW w2 w.heap.size KS L blk L.length):=HD1.out.below hb2 hz1;have Hb2:Hid (Bw w w2):=Hb1.out.trans (hb2.mono o_);have HC:Hid (c=(119- L.length%64)%64):=hcc;generalize hR:YM (ByteArray.mk #[0]).data.toList c=R at*;have HR:Hid (YM (ByteArray.mk #[0]).data.toList c=R):=hR;have hRl:R.length<=64:=by rw[←hR,Lib.repeatL_length];show c*1<=64;omega
 have hO8:O.length=8:=by rw[←HO.out,cU]
 clear hb2 hR hcc hc1 hos;have hsd:(ByteArray.mk #[128]++ByteArray.mk R.toArray++ByteArray.mk O.toArray).data.toList=qW L:=by rw[qW,←HC.out,←HR.out,←HO.out];simp
 have hss:(ByteArray.mk #[128]++ByteArray.mk R.toArray++ByteArray.mk O.toArray).size=(qW L).length:=by rw[←hsd,LO];rfl
 have hpl:(qW L).length<=73:=by rw[←hsd];simp;omega
 go_wp2_with fail
 generalize ByteArray.mk #[128]++ByteArray.mk R.toArray++ByteArray.mk O.toArray=sp at*;refine(vH KS L blk sp w2 w.heap.size HD2.out (aS Hb2.out h0 HK.out) hKl h0 hz2 (by have:=Hlen.out;omega)).mono ?_;rintro e w3 ⟨rfl,hg3,blk3,hD3⟩;rw[hsd]at hD3;have HG3:Hid (w2.grownBy w3 (some w.heap.size)):=hg3;have HD3:Hid (eW w3 w.heap.size KS (L++qW L) blk3 (L.length+sp.size)):=hD3;have hz3:w.heap.size<w3.heap.size:=by have:=hg3.size;omega
 have hmk:∀W,(Instr.makeSlice 62 (.i 32) (.i 32)).run (aI ql tP) W= .ok (.sk W.heap.size 32 32) (W.alloc (.cells (madeCells #[.int .u8 0] 32) 5)):=
  λW=>run_make_row' (P:=(aI ql tP)) 62 5 (.int .u8 0) 1 Lf.underlying62 Lf.info5 rfl .i64 .i64 32 o_ o_ W
 clear hg3 hD3 hsd hss hpl
 go_wp2
 have hHl:(cY KS (L++qW L) ((L++qW L).length/64)).length=8:=dC _ _ _;have hwr:=HD3.out.words;generalize hH:cY KS (L++qW L) ((L++qW L).length/64)=H at hHl hwr;have HH:Hid (cY KS (L++qW L) ((L++qW L).length/64)=H):=hH;have Hwr:Hid (w3.rangeAt w.heap.size 0 (aH H)):=hwr;have HHl:Hid (H.length=8):=hHl;clear hH hwr hHl hmk
 go_loopw [7,31] (λ_ i wr=>∃k:Nat,k<=32/\i= .i k/\wr=w3.alloc (.cells (cH H k).toArray 5)) (λ_ i _=>32-(intOf i).toNat)
 case atStart=>exact⟨0,o_,rfl,by rw[fp];rfl⟩
 case round=>
  obtain⟨k,hk,rfl,rfl⟩:=hrel;by_cases hlt:k<32
  ·have hg:=I1 H k hlt;have hln:=zP H k hk;have hcw:=λo:Obj=>World.cell?_alloc_past (w:=w3) o w.heap.size (k/4) hz3;have hcv:w3.cell? ⟨w.heap.size,k/4,none⟩=some (.int .u32 (H.getD (k/4) 0)):=hY Hwr.out (k/4) (by rw[HHl.out];omega);generalize hx:H.getD (k/4) 0=x at hcv;have HX:Hid (H.getD (k/4) 0=x):=hx;clear hx;have b1:(k:Int)/4<8:=o_;have b2:(0:Int)<=(k:Int)/4:=o_;have b3:(0:Int)<=24- 8*((k:Int)%4):=o_;have hx0:Hid (0<=x):=by show 0<=x;rw[←HX.out,←HH.out];exact vo _ _ _ _
   go_wp2
   go_roundw
   case rel=>exact⟨k+1,o_,by go_num,by rw[I0 H k hlt _ (HY H k x HX.out hx0.out)]⟩
   case measure=>simp[intOf];omega
  ·have hk32:k=32:=o_;subst hk32;clear hlt hk;rw[I2];have hcv:=run_convert_bytes_back (P:=(aI ql tP)) (w3.alloc (.cells (bG ((Ak 32).map (vk H))).toArray 5)) 62 9 5 ⟨w3.heap.size,0,none⟩ 32 ((Ak 32).map (vk H)) Lf.underlying62 Lf.underlying5 Lf.underlying9
    (λj hj=>by rw[CH,Pf _ _ _ _ rfl];simp[bG]at hj⊢;simp[hj])
   rw[show((Ak 32).map (vk H)).length=32 from s_]at hcv;generalize hZ:(Ak 32).map (vk H)=Z at*;have HZ:Hid (ip KS L=Z):=(by show ip KS L=Z;rw[ip,HH.out,hZ]);clear hZ
   go_wp2
   go_ret
   refine⟨DT HZ.out.symm, ?_⟩;exact(nN Hb2.out HG3.out (a36 _)).alloc o_ _
end
section

open Go.RowKit
theorem Cd(KS:List Int)(ps:List ByteArray)(cap:Nat)(w:World)(b:Nat)(hb:b<w.heap.size)(hcell:∀k (h:k<ps.length),w.cell? ⟨b,k,none⟩=some (.s ps[k]))(hK:w.rangeAt 0 0 (aH KS))(hKl:KS.length=64)
 (hlen:(dP ps ps.length).length<=576460752303423488) (hn:ps.length<=1152921504606846976):
 Calls (aI ql tP) 28 #[.sk b ps.length cap] w λe w'=>e= .returned (.string ⟨(ip KS (dP ps ps.length)).toArray⟩)/\Bw w w':=by
 have HK:Hid (w.rangeAt 0 0 (aH KS)):=hK;have Hc:Hid (∀k (h:k<ps.length),w.cell? ⟨b,k,none⟩=some (.s ps[k])):=hcell;have Hlen:Hid ((dP ps ps.length).length<=576460752303423488):=hlen;have hsz:lC.toArray.size=73:=by rw[Gh,fG]
 have Hi:Hid (((aI ql tP).info? 69).map (·.size)=some lC.toArray.size):=by show _=some lC.toArray.size;rw[hsz];exact Lf.size57
 clear hK hcell hlen
 go_enter Lf.func28,Tryz.ntmps28
 go_wp2_with fail
 refine(L3 _).mono ?_;rintro e w1 ⟨rfl,hb1⟩;have hs1:=hb1.size;have hth:(w1.alloc (.cells Tryz.zeroCells69 69)).there w1.heap.size 0 73:=fk _ _ _ _ _ rfl k_;have hst:=run_storeCells_cells (P:=(aI ql tP)) w1.heap.size 0 lC 0 (w1.alloc (.cells Tryz.zeroCells69 69)) (λj hj=>by rw[fG]at hj;exact(hth j hj).1) (λj hj=>by rw[fG]at hj;exact(hth j hj).2) (AE _ _ _);simp only[Nat.add_zero]at hst;have HD1:Hid (eW ((w1.alloc (.cells Tryz.zeroCells69 69)).setCells w1.heap.size 0 lC) w1.heap.size KS [] (C2 64 0) 0):=eW.new w1 KS _ _ k_;have Hb1:Hid (Bw w w1):=hb1;clear hb1 hsz hth Hi
 go_wp2
 clear hst
 go_loopw [5,9] (λ_ i wr=>∃(k:Nat) (blk:List UInt8),k<=ps.length/\i= .i k/\eW wr w1.heap.size KS (dP ps k) blk (dP ps k).length/\Bw w wr/\w1.heap.size<wr.heap.size) (λ_ i _=>ps.length-(intOf i).toNat)
 case atStart=>exact⟨0,C2 64 0,W2 _,rfl,HD1.out,dS hs1 _ _ _ _ (Hb1.out.alloc hs1 _),by rw[kF];simp⟩
 case round=>
  obtain⟨k,blk,hk,rfl,hD,hB,hz⟩:=hrel;have HD:Hid (eW wr w1.heap.size KS (dP ps k) blk (dP ps k).length):=hD;have HB:Hid (Bw w wr):=hB;clear hD hB HD1;by_cases hlt:k<ps.length
  ·have hcl:wr.cell? ⟨b,k,none⟩=some (.s ps[k]):=(by rw[HB.out.cell (p:=⟨b,k,none⟩) hb];exact Hc.out k hlt);have hlt':(k:Int)<(ps.length:Int):=o_;generalize hp:ps[k]=p at hcl;have HP:Hid (dP ps (k+1)=dP ps k++p.data.toList):=(by show dP ps (k+1)=_;rw[Gv ps k hlt,hp]);have hpl:(dP ps k).length+p.size<=4611686018427387904:=by have h1:=LR ps (k+1);have h2:=HP.out;have h3:=Hlen.out;have h4:p.data.toList.length=p.size:=(by rw[LO];rfl);rw[h2,LL,h4]at h1;omega
   clear hp
   go_wp2_with fail
   refine(vH KS (dP ps k) blk p wr w1.heap.size HD.out (aS HB.out o_ HK.out) hKl o_ hz hpl).mono ?_;rintro e w4 ⟨rfl,hg4,blk4,hD4⟩;have hz4:w1.heap.size<w4.heap.size:=(by have:=hg4.size;omega);have hB4:Bw w w4:=nN HB.out hg4 hs1;have h4:p.data.toList.length=p.size:=(by rw[LO];rfl);have HD4:Hid (eW w4 w1.heap.size KS (dP ps (k+1)) blk4 (dP ps (k+1)).length):=by show eW w4 w1.heap.size KS (dP ps (k+1)) blk4 (dP ps (k+1)).length;rw[HP.out,LL,h4];exact hD4
   have HB4:Hid (Bw w w4):=hB4;clear hg4 hD4 hB4 h4 hpl
   go_wp2
   go_roundw
   case rel=>exact⟨k+1,blk4,o_,by go_num,HD4.out,HB4.out,hz4⟩
   case measure=>simp[intOf];omega
  ·have hkl:k=ps.length:=o_;subst hkl;clear hlt hk;have hdl:=AF KS (dP ps ps.length) blk (dP ps ps.length).length ((dP ps ps.length).length/64) HD.out.len;have hi57:((aI ql tP).info? 69).map (·.size)=some (jR (cY KS (dP ps ps.length) ((dP ps ps.length).length/64)) blk (dP ps ps.length).length).length:=(by rw[hdl];exact Lf.size57);have Hwh:Hid (wr.rangeAt w1.heap.size 0 (jR (cY KS (dP ps ps.length) ((dP ps ps.length).length/64)) blk (dP ps ps.length).length)):=HD.out.whole;have hsum:=K7 (ql:=ql) KS (dP ps ps.length) blk wr HD.out.len HD.out.tail (aS HB.out o_ HK.out) hKl o_ Hlen.out;generalize jR (cY KS (dP ps ps.length) ((dP ps ps.length).length/64)) blk (dP ps ps.length).length=DC at*;have Hsum:Hid (Calls _ _ _ _ _):=hsum;have Hi57:Hid (((aI ql tP).info? 69).map (·.size)=some DC.length):=hi57;clear hsum hdl hi57
   go_wp2_with (refine wpList_load_mid rfl 69 (.tmp 3) rfl w1.heap.size 0 rfl DC _ Hwh.out Lf.underlying69 rfl Hi57.out ?_)
   refine Hsum.out.mono ?_;rintro e w5 ⟨rfl,hb5⟩
   go_wp2
   go_ret
   exact⟨rfl,HB.out.trans (hb5.mono (by have:=HB.out.size;omega))⟩
end
section

open Go Go.Conc Go.RowKit
section
variable{s:dk}{y z:Operand}
theorem cp:Bq (aI ql tP) 3:=λw=>⟨k_,k_⟩
theorem bM:Bq (aI ql tP) 9:=λw=>⟨k_,k_⟩
theorem pV:Bq (aI ql tP) 22:=λw=>⟨k_,k_⟩
theorem T1:Bq (aI ql tP) 25:=λw=>⟨k_,k_⟩
theorem aP{ad:Addr}(d:Bq (aI ql tP) t)(a:o.op= .load t x)(b:ev x= .pointer (some ad))(h:w.cell? ad=some v):Yl (aI ql tP) ev o w v #[⟨.cell ad,false,false⟩]:=by
 obtain⟨c,e⟩:=d w;constructor
 ·simp[execOp,a,b,a47,loadVar,c,h,go_sem]
 ·simp[execOp,a,b,a47,loadVar,c,e,h,go_sem]
theorem kZ{ex:Array Value}(e:o.op= .load 149 x)(t:ev x= .pk b 0)(h:w.heap[b]?=some (.cells (s.cells++ex) 149)):Yl (aI ql tP) ev o w (.agg s.cells) (mh b):=by
 have u:(isAgg 149).run (aI ql tP) w= .ok true w:=k_
 have y:(isAgg 149).events (aI ql tP) w #[]=#[]:=k_
 have a:∀k,k<12->w.cell? ⟨b,k,none⟩=s.cells[k]?:=λk v=>(aK h k).trans (Pk v);have r:w.cell? ⟨b,0,none⟩=some (.s s.tree):=a 0 d_;have q:w.cell? ⟨b,1,none⟩=some (.s s.chains):=a 1 d_;have p:w.cell? ⟨b,2,none⟩=some (.s s.id):=a 2 d_;have n:w.cell? ⟨b,3,none⟩=some (.s s.root):=a 3 d_;have m:w.cell? ⟨b,4,none⟩=some (.i s.height):=a 4 d_;have l:w.cell? ⟨b,5,none⟩=some (.i s.width):=a 5 d_;have j:w.cell? ⟨b,6,none⟩=some (.i s.count):=a 6 d_;have i:w.cell? ⟨b,7,none⟩=some (.i s.shift):=a 7 d_;have g:w.cell? ⟨b,8,none⟩=some (.i s.q):=a 8 d_;have f:w.cell? ⟨b,9,none⟩=some (.s s.salt):=a 9 d_;have d:w.cell? ⟨b,10,none⟩=some (.s s.links):=a 10 d_;have c:w.cell? ⟨b,11,none⟩=some (.s s.path):=a 11 d_;constructor
 ·simp[execOp,e,t,a47,loadVar,u,loadCells,loadCellsFrom,Vu,r,q,p,n,m,l,j,i,g,f,d,c,dk.cells,go_sem]
 ·simp[execOp,e,t,a47,loadVar,u,y,loadCells,loadCellsFrom,Vu,r,q,p,n,m,l,j,i,g,f,d,c,mh,go_sem]
theorem tn(a:o.op= .fieldAddr 149 x 0)(c:ev x= .pk b k):Yl (aI ql tP) ev o w (.pk b k) #[]:=by
 have e:execOp ev o=(do pure (.value (←a53 149 (.pk b k) 0))):=by simp only[execOp,a,c]
 unfold Yl;rw[e];constructor<;>kernel_rfl
theorem yU(a:o.op= .fieldAddr 145 x 6)(c:ev x= .pk b 0):Yl (aI ql tP) ev o w (.pk b 6) #[]:=by
 have e:execOp ev o=(do pure (.value (←a53 145 (.pk b 0) 6))):=by simp only[execOp,a,c]
 unfold Yl;rw[e];constructor<;>kernel_rfl
theorem GT(a:o.op= .fieldAddr 149 x 3)(c:ev x= .pk b 0):Yl (aI ql tP) ev o w (.pk b 10) #[]:=by
 have e:execOp ev o=(do pure (.value (←a53 149 (.pk b 0) 3))):=by simp only[execOp,a,c]
 unfold Yl;rw[e];constructor<;>kernel_rfl
theorem dw{m n:Int}(a:o.op= .binOp .lss 3 x y u)(c:ev x= .i m)(b:ev y= .i n):Yl (aI ql tP) ev o w (.bool (decide (m<n))) #[]:=by constructor<;>simp[execOp,a,c,b,go_sem]
theorem oP{m n:Int}(a:o.op= .binOp .add 3 x y u)(c:ev x= .i m)(b:ev y= .i n)(h: -9223372036854775808<=m+n/\m+n<9223372036854775808):Yl (aI ql tP) ev o w (.i (m+n)) #[]:=by
 have e:A8.wrap (m+n)=m+n:=by rw[a5_];omega
 constructor<;>simp[execOp,a,c,b,go_sem,e]
theorem mS{m n:Int}(a:o.op= .binOp .mul 3 x y u)(c:ev x= .i m)(b:ev y= .i n)(h: -9223372036854775808<=m*n/\m*n<9223372036854775808):Yl (aI ql tP) ev o w (.i (m*n)) #[]:=by
 have e:A8.wrap (m*n)=m*n:=by rw[a5_];omega
 constructor<;>simp[execOp,a,c,b,go_sem,e]
theorem tl(a:o.op= .unOp .not t x)(b:ev x= .bool q):Yl (aI ql tP) ev o w (.bool (!q)) #[]:=by constructor<;>simp[execOp,a,b,go_sem,Op.unary]
theorem fA{t:ByteArray}(a:o.op= .slice 9 x (some y) (some z) none)(d:ev x= .s t)(c:ev y= .i m)(b:ev z= .i n)(h:m<=n)(f:n<=t.size):Yl (aI ql tP) ev o w (.s (t.extract m n)) #[]:=by
 have e:(aI ql tP).underlying 9=some .string:=k_
 constructor
 ·simp[execOp,a,d,c,b,JR,Vh,Kg,run_underlying e,LY,asIntOf,h,f]
 ·simp[execOp,a,d,c,b,JR,Vh,Kg,run_underlying e,LY,asIntOf,h,f,go_sem]
theorem eA{e:TypeId}{a:Addr}{len cap:Nat}(f:(aI ql tP).underlying t=some (.slice e))(h:∀w:World,(sizeOf e).run (aI ql tP) w= .ok 1 w)(b:o.op= .indexAddr t x y)(d:ev x= .slice (some a) len cap)(c:ev y= .i n)(g:n<len):
 Yl (aI ql tP) ev o w (.pointer (some (a.add n))) #[]:=by have i:=h w;constructor<;>simp[execOp,b,d,c,go_sem,f,i,g]
theorem jf(a:o.op= .alloc 3):Mk (aI ql tP) ev o w #[.i 0] 3:=by
 have e:execOp ev o=(do pure (.value (←Ee 3 true (.tuple #[])))):=by simp only[execOp,a]
 unfold Mk;rw[e];constructor<;>kernel_rfl
theorem lD(a:o.op= .alloc 25):Mk (aI ql tP) ev o w #[.slice none 0 0] 25:=by
 have e:execOp ev o=(do pure (.value (←Ee 25 true (.tuple #[])))):=by simp only[execOp,a]
 unfold Mk;rw[e];constructor<;>kernel_rfl
theorem eK{b:Nat}{v0:Value}(hv:v.cells=#[v])(a:v.oneCell'=true)(d:(sizeOf t).run (aI ql tP) w= .ok 1 w)(c:o.op= .store t x y)(i:ev x= .pk b k)(g:ev y=v)(h:w.cell? ⟨b,k,none⟩=some v0)(f:w.frozen? ⟨b,k,none⟩=false):
 (execOp ev o).run (aI ql tP) w= .ok .skip (w.setCell ⟨b,k,none⟩ v)/\(execOp ev o).events (aI ql tP) w #[]=#[⟨.cell ⟨b,k,none⟩,true,false⟩]:=by
 have e:execOp ev o=(do Rl t (.pk b k) v;pure .skip):=by simp only[execOp,c,i,g]
 rw[e];simp only[Rl,storeVar,hv];constructor
 ·simp[d,storeCells,Vu,run_store _ _ _ _ _ a,h,f,go_sem]
 ·simp[d,storeCells,Vu,events_store (hv:=a),h,f,go_sem]
end
end
end L1
end Go.Proofs.YtkmoglhgkcnalabGreatDoor
