/- A part of what the last text imports. -/
import Derived.Test.YtkmoglhgkcnalabGreatDoorProg
import Derived.Conc.WalkWords
import Derived.KernelRfl
import Derived.Laws.Slices
import Derived.Conc.EventLaws2
import Derived.RowKit
import Derived.Test.YtkmoglhgkcnalabGreatDoorRows
import Derived.WalkKit
import Derived.WalkSpells
import Derived.WalkLawsBesides
import Derived.Deep.QuietTactic
import Derived.BigQuiet
import Derived.Deep.MidRow
import Derived.Deep.OwnRows
import Derived.Deep.RegionHeld3
import Derived.Great.BuildSlice
import Derived.Shelf.Strings.Builder1
import Derived.Shelf.Strings.Builder2
import Derived.Shelf.Strings.OnBuilder
import Derived.Shelf.Strings.BuilderF
import Derived.Shelf.Strings.BuilderK
import Derived.Shelf.LaysM
import Derived.Shelf.Strconv.Clone
import Derived.Shelf.Strings.Prefix
import Derived.Shelf.Bits.Mul64
import Derived.Shelf.Strings.Repeat
import Derived.Laws.Panics
import Derived.Conc.WgGenN3
import Derived.Conc.LeavingOf
import Derived.Test.YtkmoglhgkcnalabGreatDoorYwn2
set_option maxHeartbeats 16000000
set_option maxRecDepth 100000
open Array renaming getElem?_setIfInBounds_self_of_lt->TF,replicate->TG,getElem?_eq_getElem->TH,getD_eq_getD_getElem?->TO,getElem?_map->TQ,all_eq_true'->Uv,getElem?_replicate->UC,length_toList->V4,getElem?_append_left->Vv,map_congr_left->W6,getElem?_mapIdx->Wr,ext->WI,ofFn->WX,map_map->XX,size_ofFn->aa8
open BitVec renaming ofInt->Wi,ofInt_natCast->Zo,toNat_ofNat->ZK,toNat_and->a93
open Bool renaming and_eq_true->IN,false_eq_true->TK
open ByteArray renaming size_extract->TT
open Function renaming comp_def->VR
open Go.Act renaming put->VN
open Go.Addr renaming add_mid->Uu,add->W5
open Go.Builtin renaming len_->Vy
open Go.Conc.Lib renaming WgLink->ZI,WgLib->ZZ
open Go.ConcR.Gen renaming body_wait->YX,body_add->Ze
open Go.Deferred renaming ofValue->UX
open Go.Extern.AbiNoEscape renaming same->XD
open Go.Extern.BytealgMakeNoZero renaming makeNoZero->VK
open Go.Frame renaming enter->TJ,finish_atR->U7,eval_atR->Us,round->Vt,atR->Yg
open Go.GStep renaming after->TI
open Go.Goroutine renaming callers->YB
open Go.Instr renaming loadAt->TN,fieldAt->TS,enterLoop->U3,buildSlice->Uf,field->Ui,alloc->Uo,sliceAt->UF,endLoop->UG,sliceBounds->UK,sliceBound->UQ,sureAddr->V2,makeSlice->Vx,slice->VE,storeAt->VH,index->Xf
open Go.IntKind renaming wrap_i64->TR,i64->U2,u64->UV,wrap_u64->Vz,wrap_u32->VA
open Go.Item renaming code->WK
open Go.Lib renaming repeatL->Zp
open Go.Next renaming value->ZF
open Go.Obj renaming cells->Xm
open Go.Operand renaming tmp->Ul
open Go.Region renaming wanted->TD,linearise->Uc,schedule->Vh,departs->Zq
open Go.Result renaming andThen_ok->UR,ok->Yf
open Go.RowKit.Below renaming refl->Xd,drew->ZL
open Go.Sem renaming runT_eq->U8,run->Ub,runT->Um,run_bind->Uz,runT_fst->UH
open Go.Shelf renaming Ren->a85
open Go.Trace renaming act?->ac0
open Go.Value renaming agg->WQ
open Go.World renaming cell?->U6,setCell->U9,frozen?->Ux,rangeAt_setCells_same->UM,drew->Vp,cell?_alloc_at->Vu,rangeAt_alloc->VD,frozen?_alloc_at->XO,cell?_drewN->a84
open Go.YieldsIf renaming wpOp->YJ
open Int renaming natCast_add->Vi,natCast_mul->Wd,toNat_of_nonneg->We,toNat_natCast->Xc,eq_ofNat_of_zero_le->XE,le_refl->Yz,not_lt->ac1
open List renaming getElem?_eq_some_iff->TM,map_cons->TP,lookup->TU,getD_eq_getElem?_getD->TV,getElem?_eq_getElem->TX,not_mem_nil->TY,replicate->TZ,mem_cons->U4,range->U5,getElem?_append_right->Ua,getElem?_append_left->Ue,getElem?_map->Up,size_toArray->Uq,length_append->UT,take_of_length_le->UU,mem_toArray->UW,mem_singleton->Vg,map_append->VM,append_assoc->VT,take_succ_eq_append_getElem->VV,cons_ne_nil->Wj,flatMap_append->Yd,append_nil->Z9,getElem?_eq_none->Zd,take_length->a94
open Nat renaming le_refl->TB,lt_of_lt_of_le->TC,zero_add->TL,le_trans->TW,not_lt_zero->UZ,zero_le->W4,and_lt_two_pow->Wn,mul_one->YA,mod_one->Zl,mod_eq_of_lt->a92
open Ne renaming symm->UP
open Option renaming map_some->TE,getD_some->U0,bind_some->Ug
open UInt8 renaming ofNat->Zk
namespace Go.Proofs.YtkmoglhgkcnalabGreatDoor
open Go
variable{n b i N l m k j b3 b4 b7 b9 Wg wd:Nat}{w w' w0 wL wM wE:World}{fr:Frame}{v:Value}{cs:List Frame}{args cv:Array Value}{V RO D V0:Nat->Prop}{q main listen ql:Bool}{g:Goroutine}{a:Act}{K:List Item}{P PL PM:Program}{x:Operand}{ops:Array Oper}{KS:List Int}{t u:TypeId}{o:Oper}{f:FuncId}{es:Array Event}{Goal:Goroutine->World->Prop}{fn:Func}{rest:List Nat}{ds:List Deferred}{X:bS}{F:List (Nat×Value)}{e:Event}{listed:Array Bool}{c:Int}{s msg key sig:ByteArray}{ρ:Nat->Nat}{ev:Operand->Value}{Post:Value->World->Prop}
section
open Go.Conc Go.RowKit
section
def kn(fx:List (Nat×Value))(ps:List (Nat×Value))(ops:Array Oper)(n x:Nat):Option Value:=
 match fx.lookup x with
 |some v=>some v
 |none=>(ps.zipIdx.find? λq=>q.1.1==x&&gt ops n q.2).map (·.1.2)
theorem Ia{fx:List (Nat×Value)}{f:List (Nat×Value)}{x:Nat}(h:kn fx f ops n x=some v)(c:∀p∈fx,a.tmps[p.1]?=some p.2)(b:∀m p,f[m]?=some p->gt ops n m=true->a.tmps[p.1]?=some p.2):a.tmps[x]?=some v:=by
 unfold kn at h;cases e:fx.lookup x with
 |some u=>
  rw[e]at h;cases h;have:(x,v)∈fx:=by
   clear c b;induction fx with
   |nil=>cases e
   |cons p r j=>
    rw[TU]at e;split at e
    ·rename_i k;have:x=p.1:=(by simpa using k);cases e;rw[this];exact List.mem_cons_self
    ·exact List.mem_cons_of_mem _ (j e)
  exact c _ this
 |none=>
  rw[e]at h;simp only[Option.map_eq_some_iff]at h;obtain⟨q,g,l⟩:=h;have o:=List.mem_of_find?_eq_some g;have d:=List.find?_some g;simp only[IN,beq_iff_eq]at d;have i:=List.mem_zipIdx o;have:=b q.2 q.1 (by simpa using TM.2 ⟨by simpa using i.2.1,by simpa using i.2.2.symm⟩) d.2;rw[←d.1,←l];exact this
def lk(fx:List (Nat×Value))(ps:List (Nat×Value))(x:Nat):Option Value:=(fx++ps).lookup x
structure Rw (w:World) (fx ps:List (Nat×Value)) (ops:Array Oper) (n:Nat) (o:Oper) (a:Act) (w':World):Prop where
 ho:ops[n]?=some o
 e:∀{p},(h:(ops[n]?).map (·.op)=some p:=by kernel_rfl)->o.op=p
 b:Bw w w'
 k:∀x {u},(g:lk fx ps x=some u:=by rfl)->(h:kn fx ps ops n x=some u:=by kernel_rfl)->a.eval (.tmp x)=u
def Dv(P:Program)(a:Act)(o:Oper)(w:World)(v:Value):Prop:=sq P a o w λu w'=>u=v/\Bw w w'
theorem dv(h:(execOp a.eval o).run P w= .ok (.value v) w):Dv P a o w v:=aJ h ⟨rfl,bR⟩
theorem Qv{v':Value}(h:(execOp a.eval o).run P w= .ok (.value v') w)(e:v'=v):Dv P a o w v:=aJ h ⟨e,bR⟩
theorem kc:a.eval (.const v)=v:=rfl
def Oi(o:Oper):Option Nat:=match o.op with
 | .move (.tmp x)=>some x
 | .assign (.tmp x)=>some x
 |_=>none
theorem Rc{x:Nat}(h:Oi o=some x):o.op= .move (.tmp x)\/o.op= .assign (.tmp x):=by
 unfold Oi at h;split at h
 ·rename_i e;cases h;exact .inl e
 ·rename_i e;cases h;exact .inr e
 ·cases h
def kr(P:Program)(w:World)(fx ps:List (Nat×Value))(ms:List Nat)(ops:Array Oper):Nat->List (Nat×Value)->Prop
 |_,[]=>True
 |n,p::q=>(match ms.contains p.1 with|true=>kr P w fx ps ms ops (n+1) q|false=>(∀{o a w'},Rw w fx ps ops n o a w'->Dv P a o w' p.2)/\kr P w fx ps ms ops (n+1) q)
theorem yF{fx b:List (Nat×Value)}{c:List Nat}:∀(r:List (Nat×Value)) (k i:Nat) (p:Nat×Value),kr P w fx b c ops k r->r[i]?=some p->c.contains p.1=false->∀{o a w'},Rw w fx b ops (k+i) o a w'->Dv P a o w' p.2
 |[],_,i,_,_,h,_=>by simp at h
 |q::r,k,0,p,hr,h,hm=>by
  have:q=p:=by simpa using h
  subst this;unfold kr at hr;rw[hm]at hr;exact hr.1
 |q::r,k,i+1,p,hr,h,hm=>by
  have d:kr P w fx b c ops (k+1) r:=by
   unfold kr at hr;split at hr
   ·exact hr
   ·exact hr.2
  rw[show k+(i+1)=k+1+i from o_];exact yF r (k+1) i p d (by simpa using h) hm
def zl(fx ps:List (Nat×Value))(ms:List Nat)(ops:Array Oper):List (Option Value):=ps.zipIdx.map λq=>match ms.contains q.1.1 with
 |true=>((ops[q.2]?).bind Oi).bind (kn fx ps ops q.2)
 |false=>none
def zk(ps:List (Nat×Value))(ms:List Nat):List (Option Value):=ps.map λp=>match ms.contains p.1 with
 |true=>some p.2
 |false=>none
theorem aW.grow{df:List Deferred}{fx b:List (Nat×Value)}(f:rZ df fx (b.map (·.1)) (λn u _=>(b[n]?).map (·.2)=some u) N w a w' λ_=>True)(i:aW fx N df a):∀L:List (Nat×Value),(L.map λp=>b.lookup p.1)=L.map (λp=>some p.2)->aW (L++fx) N df a
 |[],_=>i
 |(d,v)::r,h=>by
  simp only[TP,List.cons.injEq]at h;refine(aW.grow f i r h.2).more ?_;have:∃m:Nat,b[m]?=some (d,v):=by
   have c:=h.1;clear f h;induction b with
   |nil=>cases c
   |cons p q j=>
    rw[TU]at c;split at c
    ·rename_i k;have:d=p.1:=(by simpa using k);cases c;exact⟨0,by rw[this];rfl⟩
    ·obtain⟨m,e⟩:=j c;exact⟨m+1,e⟩
  obtain⟨m,e⟩:=this;obtain⟨u,l,g⟩:=f.come m d (by rw[Up,e];rfl) trivial;rw[e]at g;cases g;exact l
theorem Rn.tabS{b:Frame}{k:List Item}{id:Nat}{df:List Deferred}{fx:List (Nat×Value)}(T:aW fx N df a)(d:List (Nat×Value))(E:List Nat)(L:List (Nat×Value))(j:kr P w fx d E ops 0 d)
 (c:Nat->Act->World->Prop) (J:∀a w',Bw w w'->aW (L++fx) N df a->c d.length a w')
 (I:∀n o a w' rest,d.length<=n->ops[n]?=some o->c n a w'->(∀a' g,c (n+1) a' g->Rn P Goal (b.atR a' (.inRegion ops rest::k)) cs g)->Rn P Goal (b.atR a (.inRegion ops (n::rest)::k)) cs w')
 (z:∀a w',c ops.size a w'->Rn P Goal (b.atR a k) cs w') (v:P.follows .mixedOrders=true:=by kernel_rfl) (Q:zl fx d E ops=zk d E:=by kernel_rfl) (A:mh ops (d.map (·.1)) (fx.map (·.1)) N=true:=by kernel_rfl) (hL:(L.map λp=>d.lookup p.1)=L.map (λp=>some p.2):=by kernel_rfl) (M:(fx.map (·.1)).Nodup:=by simp):Rn P Goal (b.atR a (.code (.region id ops true)::k)) cs w:=by
 refine Rn.grows (fx:=fx) (ds:=d.map (·.1)) (N:=N) (df:=df) (G:=λn u _=>(d[n]?).map (·.2)=some u) v A (λ_ _ _ _ h _=>h) (λn o a w' Z s hb y K=> ?_)
  c (λa w' S=> ?_) (λm o a w' rest H s hS R=>I m o a w' rest (by simpa using H) s hS R) z T.defers T.size (T.all M)
 ·have O:n<d.length:=by simpa using Z
  obtain⟨p,F⟩:∃p,d[n]?=some p:=⟨d[n],List.getElem?_eq_getElem O⟩;have r:∀m q,d[m]?=some q->gt ops n m=true->a.tmps[q.1]?=some q.2:=λm q W i=>by obtain⟨u,Y,X⟩:=K m q.1 (by rw[List.getElem?_map,W];rfl) i;rw[W]at X;cases X;exact Y
  have U:Dv P a o w' p.2->sq P a o w' λu g=>(d[n]?).map (·.2)=some u/\Bw w' g:=λh=>by
   rcases h with⟨u,V,C,B,h3⟩|⟨f,D,C,B⟩
   ·exact .inl ⟨u,V,C,by rw[F,B];rfl,h3⟩
   ·exact .inr ⟨f,D,C,B.mono λe V ⟨u,e1,e2,e3⟩=>⟨u,e1,by rw[F,e2];rfl,e3⟩⟩
  refine U ?_;cases t:E.contains p.1 with
  |false=>
   refine yF d 0 n p j F t (o:=o) (a:=a) (w':=w') ?_;rw[Nat.zero_add];exact⟨s,λh=>by rw[s]at h;exact Option.some.inj h,hb,λx u _ h=>aB (Ia h y r)⟩
  |true=>
   have H:=congrArg (λl=>l[n]?) Q;simp only[zl,zk,List.getElem?_map,List.getElem?_zipIdx,F,Option.map_some,Option.some.injEq,Nat.zero_add,t,s,Option.bind_some,Option.bind_eq_some_iff]at H;obtain⟨x,C,B⟩:=H;exact sf (Rc C) (Ia B y r) ⟨rfl,bR⟩
 ·have:=J a w' S.old (aW.grow S S.base L hL)
  rwa [List.length_map]
theorem Rn.tab{b:Frame}{k:List Item}{id:Nat}{df:List Deferred}{fx:List (Nat×Value)}(u:aW fx N df a)(c:List (Nat×Value))(j:List Nat)(d:Nat)(f:kr P w fx c j ops 0 c)
 (next:∀a w',Bw w w'/\aW ((d,v)::fx) N df a->Rn P Goal (b.atR a k) cs w') (g:P.follows .mixedOrders=true:=by kernel_rfl) (l:ops.size=c.length:=by kernel_rfl) (q:zl fx c j ops=zk c j:=by kernel_rfl) (i:mh ops (c.map (·.1)) (fx.map (·.1)) N=true:=by kernel_rfl) (e:c.lookup d=some v:=by kernel_rfl) (p:(fx.map (·.1)).Nodup:=by simp):Rn P Goal (b.atR a (.code (.region id ops true)::k)) cs w:=
 Rn.tabS u c j [(d,v)] f (λm a w'=>m=ops.size/\Bw w w'/\aW ((d,v)::fx) N df a) (λ_ _ y x=>⟨l.symm,y,x⟩) (λn o a w' r z s A t=>by have:=(gA s).1;omega) (λa w' h=>next a w' h.2) g q i (by simp[e]) p
theorem Rn.tab1{b:Frame}{k:List Item}{id:Nat}{df:List Deferred}{fx:List (Nat×Value)}{R:Act->World->Prop}(next:∀a w',R a w'->Rn P Goal (b.atR a k) cs w')(z:aW fx N df a)(c:List (Nat×Value))(i:List Nat)(L:List (Nat×Value))(e:kr P w fx c i ops 0 c)
 (t:∀a w' rest,Bw w w'->aW (L++fx) N df a->(∀a' d,R a' d->Rn P Goal (b.atR a' (.inRegion ops rest::k)) cs d)->Rn P Goal (b.atR a (.inRegion ops (c.length::rest)::k)) cs w') (f:P.follows .mixedOrders=true:=by kernel_rfl) (u:ops.size=c.length+1:=by kernel_rfl) (l:zl fx c i ops=zk c i:=by kernel_rfl) (g:mh ops (c.map (·.1)) (fx.map (·.1)) N=true:=by kernel_rfl) (y:(L.map λp=>c.lookup p.1)=L.map (λp=>some p.2):=by kernel_rfl) (j:(fx.map (·.1)).Nodup:=by simp):Rn P Goal (b.atR a (.code (.region id ops true)::k)) cs w:=
 Rn.tabS z c i L e (λm a w'=>(m=c.length/\Bw w w'/\aW (L++fx) N df a)\/(m=c.length+1/\R a w')) (λ_ _ s r=> .inl ⟨rfl,s,r⟩) (λn o a w' rest A v x q=>by
  rcases x with⟨rfl,s,r⟩|⟨rfl,_⟩
  ·exact t a w' rest s r λa' d h=>q a' d (.inr ⟨rfl,h⟩)
  ·have:=(gA v).1;omega) (λa w' h=>by
  rcases h with⟨h,_⟩|⟨_,h⟩
  ·omega
  ·exact next a w' h) f l g y j
def FQ(ops:Array Oper)(n:Nat):Option (FuncId×Array Operand):=(ops[n]?).bind λo=>match o.op with
 | .call c=>match c.callee with
   | .value (.func f)=>some (f,c.args)
   |_=>none
 |_=>none
def qM(P:Program)(f:FuncId):Bool:=match P.funcs[f]? with
 |some fn=> !(fn.name== "runtime.NumGoroutine")&& !fn.body.isNone
 |none=>false
theorem Rw.calls{fx p:List (Nat×Value)}{xs:Array Operand}{l:Array Value}{v':Value}(h:Rw w fx p ops n o a w')(q:xs.map a.eval=l)(r:Calls P f l w' λe i=>e= .returned v'/\Bw w' i)(hv:v'=v)(b:FQ ops n=some (f,xs))(d:qM P f=true):Dv P a o w' v:=by
 subst hv;unfold FQ at b;rw[h.ho]at b;simp only[Ug]at b;split at b
 ·rename_i c j;split at b
  ·rename_i g m;simp only[Option.some.injEq,Prod.mk.injEq]at b;unfold qM at d;split at d
   ·rename_i y k;simp only[IN,Bool.not_eq_true']at d;obtain⟨z,A,u⟩:=c;simp only at m b;subst m;obtain⟨rfl,rfl⟩:=b;exact .inr ⟨_,_,(bU (w:=w') j q (du k d.1 d.2 _)).1,r.mono λe x ⟨t,s⟩=>⟨_,t,rfl,s⟩⟩
   ·cases d
  ·cases b
 ·cases b
variable{fx ps:List (Nat×Value)}{v':Value}
theorem Rw.c1{x0:Operand}{g:Value}(h:Rw w fx ps ops n o a w')(j:a.eval x0=g)(i:Calls P f #[g] w' λe b=>e= .returned v'/\Bw w' b)(hv:v'=v:=by rfl)(d:FQ ops n=some (f,#[x0]):=by kernel_rfl)(c:qM P f=true:=by kernel_rfl):Dv P a o w' v:=h.calls (by simp[j]) i hv d c
theorem Rw.c2{x0 g:Operand}{j i:Value}(h:Rw w fx ps ops n o a w')(m:a.eval x0=j)(l:a.eval g=i)(k:Calls P f #[j,i] w' λe b=>e= .returned v'/\Bw w' b)(hv:v'=v:=by rfl)(d:FQ ops n=some (f,#[x0,g]):=by kernel_rfl)(c:qM P f=true:=by kernel_rfl):Dv P a o w' v:=h.calls (by simp[m,l]) k hv d c
theorem Rw.c3{x0 i g:Operand}{l k j:Value}(h:Rw w fx ps ops n o a w')(r:a.eval x0=l)(q:a.eval i=k)(p:a.eval g=j)(m:Calls P f #[l,k,j] w' λe b=>e= .returned v'/\Bw w' b)(hv:v'=v:=by rfl)(d:FQ ops n=some (f,#[x0,i,g]):=by kernel_rfl)(c:qM P f=true:=by kernel_rfl):Dv P a o w' v:=h.calls (by simp[r,q,p]) m hv d c
theorem Rw.c6{x0 l k j i g:Operand}{t s r q p m:Value}(h:Rw w fx ps ops n o a w')(C:a.eval x0=t)(B:a.eval l=s)(A:a.eval k=r)(z:a.eval j=q)(y:a.eval i=p)(x:a.eval g=m)(u:Calls P f #[t,s,r,q,p,m] w' λe b=>e= .returned v'/\Bw w' b)(hv:v'=v:=by rfl)(d:FQ ops n=some (f,#[x0,l,k,j,i,g]):=by kernel_rfl)(c:qM P f=true:=by kernel_rfl):Dv P a o w' v:=h.calls (by simp[C,B,A,z,y,x]) u hv d c
end
section
variable{b:Frame}{k:List Item}
theorem Rn.fi{t:Tmp}{R:Value->World->Prop}{c:List Item}(b:aW F N [] a)(d:R v w)(hv:F.lookup t=some v:=by rfl)(e:gk 6 ((base f).atR a k)= .code .ret::c:=by rfl):
 Rn P (λg w'=>∃(a:Act) (k:List Item) (v:Value),g=cJ {(base f).atR a k with mode:= .returning} cs/\a.defers=[]/\a.tmps[t]?=some v/\R v w') ((base f).atR a k) cs w:=
 Rn.runs 6 k (by rw[e];exact Rn.ends rfl (.inr ⟨_,rfl⟩) (Rn.now ⟨a,_,_,rfl,b.defers,b.slot t _ hv,d⟩))
theorem Rn.fj{t u:Tmp}{x:Value}{R:Value->Value->World->Prop}{c:List Item}(b:aW F N [] a)(e:R v x w)(hv:F.lookup t=some v:=by rfl)(d:F.lookup u=some x:=by rfl)(h:gk 6 ((base f).atR a k)= .code .ret::c:=by rfl):
 Rn P (λg w'=>∃(a:Act) (k:List Item) (v x:Value),g=cJ {(base f).atR a k with mode:= .returning} cs/\a.defers=[]/\a.tmps[t]?=some v/\a.tmps[u]?=some x/\R v x w') ((base f).atR a k) cs w:=
 Rn.runs 6 k (by rw[h];exact Rn.ends rfl (.inr ⟨_,rfl⟩) (Rn.now ⟨a,_,_,_,rfl,b.defers,b.slot t _ hv,b.slot u _ d,e⟩))
theorem Rn.vv{i:List Item}{d:Tmp}{p:Op}{l:Option (Nat×Bool)}(j:aW F N ds a)(q:∀o:Oper,o.op=p->(execOp a.eval o).run P w= .ok (.value v) w')(next:∀a',aW ((d,v)::F) N ds a'->Rn P Goal (b.atR a' (.inRegion ops rest::i)) cs w')(t:gk 6 (b.atR a k)= .inRegion ops (m::rest)::i:=by rfl)
 (h:(ops[m]?).map (λo=>(o.dst,o.op,o.guard))=some (some d,p,l):=by rfl) (r:gF ops F l=true:=by rfl) (s:d<N:=by decide) (f:nd p=true:=by rfl):Rn P Goal (b.atR a k) cs w:=by
 refine Rn.gr ?_ t;cases g:ops[m]? with
 |none=>rw[g]at h;cases h
 |some o=>
  rw[g]at h;simp only[Option.map_some,Option.some.injEq,Prod.mk.injEq]at h;obtain⟨x,n,u⟩:=h;refine Rn.ran g (lq j u r) (λc e=>by rw[←n,e]at f;cases f) (q o n) ?_;rw[x];exact next _ (j.put s v)
theorem Rn.nn{f:List Item}{p:Op}(i:aW F N ds a)(g:∀o:Oper,o.op=p->(execOp a.eval o).run P w= .ok .skip w')(next:∀a',aW F N ds a'->Rn P Goal (b.atR a' (.inRegion ops rest::f)) cs w')(j:gk 6 (b.atR a k)= .inRegion ops (m::rest)::f:=by rfl)
 (h:(ops[m]?).map (λo=>(o.dst,o.op,o.guard))=some (none,p,none):=by rfl) (d:nd p=true:=by rfl):Rn P Goal (b.atR a k) cs w:=Rn.gr (Rn.does0 i p h (λc e=>by rw[e]at d;cases d) g next) j
def Te(F:List (Nat×Value)):Operand->Option Value
 | .tmp t=>F.lookup t
 | .const v=>some v
 |_=>none
def MN(F:List (Nat×Value)):List Operand->Option (List Value)
 |[]=>some []
 |x::r=>match Te F x,MN F r with
  |some v,some l=>some (v::l)
  |_,_=>none
theorem OJ(b:aW F N ds a)(h:Te F x=some v):a.eval x=v:=by
 cases x with
 |tmp t=>exact b.get h
 |const u=>exact Option.some.inj h
 |func f=>cases h
 |_=>cases h
theorem tZ(c:aW F N ds a):∀(xs:List Operand) (b:List Value),MN F xs=some b->xs.map a.eval=b
 |[],b,h=>by cases h;rfl
 |x::r,b,h=>by
  unfold MN at h;split at h
  ·rename_i v l e d;cases h;rw[TP,OJ c e,tZ c r l d]
  ·cases h
theorem Rn.cl{d:Tmp}{xs:Array Operand}{ats:Array TypeId}{g:List Value}{i:List Item}{R:Value->World->Prop}(j:aW F N ds a)(l:P.funcs[f]?=some fn)(r:Calls P f g.toArray w λe w'=>∃v,e= .returned v/\R v w')
 (next:∀v w',R v w'->∀a',aW ((d,v)::F) N ds a'->Rn P Goal (b.atR a' (.inRegion ops rest::i)) cs w') (s:gk 6 (b.atR a k)= .inRegion ops (m::rest)::i:=by rfl)
 (h:(ops[m]?).map (λo=>(o.dst,o.op,o.guard))=some (some d, .call {callee:= .value (.func f),args:=xs,argTypes:=ats},none):=by rfl) (q:MN F xs.toList=some g:=by rfl) (n:d<N:=by decide) (c:(fn.name== "runtime.NumGoroutine")=false:=by kernel_rfl) (p:fn.body.isNone=false:=by kernel_rfl):Rn P Goal (b.atR a k) cs w:=
 Rn.gr (Rn.calls j d n h (by rw[←tZ j _ _ q,←Array.toList_map,Array.toArray_toList]) l c p r next) s
theorem Rn.cw{d:Tmp}{xs:Array Operand}{ats:Array TypeId}{i:List Value}{j:List Item}{B:World->Prop}(g:aW F N ds a)(n:P.funcs[f]?=some fn)(s:Calls P f i.toArray w λe w'=>e= .returned v/\B w')
 (next:∀w',B w'->∀a',aW ((d,v)::F) N ds a'->Rn P Goal (b.atR a' (.inRegion ops rest::j)) cs w') (x:gk 6 (b.atR a k)= .inRegion ops (m::rest)::j:=by rfl)
 (h:(ops[m]?).map (λo=>(o.dst,o.op,o.guard))=some (some d, .call {callee:= .value (.func f),args:=xs,argTypes:=ats},none):=by rfl) (r:MN F xs.toList=some i:=by rfl) (p:d<N:=by decide) (c:(fn.name== "runtime.NumGoroutine")=false:=by kernel_rfl) (q:fn.body.isNone=false:=by kernel_rfl):Rn P Goal (b.atR a k) cs w:=
 Rn.cl (R:=λu w'=>u=v/\B w') g n (s.mono λ_ _ h=>⟨_,h.1,rfl,h.2⟩) (λu w' l a' g=>by obtain⟨rfl,t⟩:=l;exact next w' t a' g) x h r p c q
end
theorem Rw.qq{fx b:List (Nat×Value)}{p:Op}(z:Rw w fx b ops n o a w')(h:(ops[n]?).map (·.op)=some p:=by rfl):o.op=p:=z.e h
theorem zx{p:Prop}(h:p:=by first|exact z.k _|exact ac):p:=h
theorem zc{cs:Array Value}(a:Bw w w')(h:w.heap[b]?=some (.cells cs t):=by assumption)(e:cs[k]?=some v:=by rfl):w'.cell? ⟨b,k,none⟩=some v:=by unfold World.cell?;simp[(a.block _ (gA h).1).trans h,e]
theorem tq{p:Prop}(h:p:=by
 first|intro o a w' z|intro z
 first
 |exact dv (My _ d_ z.qq zx)
 |exact dv (ri_fkind _ d_ z.qq zx)
 |exact dv (R3 _ d_ z.qq zx)
 |exact dv (ri_im _ _ d_ z.qq zx)
 |exact dv (ey _ d_ z.qq zx)
 |exact dv (rs_f0 z.qq zx)
 |exact dv (rs_f1 z.qq zx)
 |exact dv (rs_f2 z.qq zx)
 |exact dv (rs_f4 z.qq zx)
 |exact dv (rs_f5 z.qq zx)
 |exact dv (rw_f _ d_ z.qq zx)
 |exact dv (aO (by first|exact ce|exact bN|exact ff|exact qA|exact ze) z.qq zx (zc z.b)).1
 |exact dv (di z.qq zx zx).1
 |exact dv (ru z.qq zx rfl)
 |exact dv (tD z.qq zx zx o_)
 |exact dv (Bd z.qq zx zx o_)
 |exact dv (mH z.qq zx zx o_).1
 |exact dv (mU z.qq zx zx)
 |exact dv (mS z.qq zx)
 |exact dv (ri_loadC (Cst.two (by assumption)) z.qq zx ((z.b.block _ (gA (by assumption)).1).trans (by assumption)))
 |exact dv (bK z.qq zx zx (by first|omega|(simp only[aM];omega)|(simp only[ByteArray.size_append,aM];omega)))):p:=h
section
variable{b:Frame}{k:List Item}
theorem Rn.al{k':List Item}{d:Tmp}{p:Op}{ob:Obj}{gd:Option (Nat×Bool)}(hF:aW F N ds a)(hy:∀o:Oper,o.op=p->(execOp a.eval o).run P w= .ok (.value v) (w.alloc ob))
 (next:∀w' a',Bw w w'->w'.heap[w.heap.size]?=some ob->w'.heap.size=w.heap.size+1->aW ((d,v)::F) N ds a'->Rn P Goal (b.atR a' (.inRegion ops rest::k')) cs w') (h0:gk 6 (b.atR a k)= .inRegion ops (m::rest)::k':=by rfl)
 (h:(ops[m]?).map (λo=>(o.dst,o.op,o.guard))=some (some d,p,gd):=by rfl) (hw:gF ops F gd=true:=by rfl) (hd:d<N:=by decide) (hnd:nd p=true:=by rfl):Rn P Goal (b.atR a k) cs w:=
 Rn.vv hF hy (λa' hF=>next _ a' (aV w ob) (bJ w ob) (aR w ob) hF) h0 h hw hd hnd
theorem Rn.zz{k':List Item}{d x:Tmp}{c:Array Value}(hF:aW F N ds a)
 (next:∀w' a',Bw w w'->w'.heap[w.heap.size]?=some (.cells c t)->w'.heap.size=w.heap.size+1->aW ((d, .pk w.heap.size 0)::F) N ds a'->Rn P Goal (b.atR a' (.inRegion ops rest::k')) cs w') (h0:gk 6 (b.atR a k)= .inRegion ops (m::rest)::k':=by rfl)
 (h:(ops[m]?).map (λo=>(o.dst,o.op,o.guard))=some (some d, .box t (.tmp x),none):=by rfl) (hx:F.lookup x=some (.agg c):=by rfl) (hd:d<N:=by decide):Rn P Goal (b.atR a k) cs w:=
 Rn.gr (Rn.boxes hF d x t hd hx h λa' hF=>next _ a' (aV w _) (bJ w _) (aR w _) hF) h0
end
theorem bk{o:Obj}(a:Bw w w')(h:w.heap[b]?=some o):w'.heap[b]?=some o:=(a.block _ (gA h).1).trans h
end
section
open Go.RowKit
theorem fL(a:Nat)(b:a<9223372036854775808):(Wi 64 (a:Int)).toNat=a:=by rw[Zo,ZK];exact a92 o_
theorem dM(a b:Nat)(d:a<9223372036854775808)(c:b<9223372036854775808):bits .and .i64 (a:Int) (b:Int)=((a&&&b:Nat):Int):=by have e:a&&&b<2^63:=Wn _ o_;show U2.wrap ((Wi 64 (a:Int)&&&Wi 64 (b:Int)).toNat:Int)=_;rw[a93,fL a d,fL b c,TR];omega
theorem oL(a b:Nat)(d:a<9223372036854775808)(c:b<9223372036854775808):bits .or .i64 (a:Int) (b:Int)=((a|||b:Nat):Int):=by have e:a|||b<2^63:=Nat.or_lt_two_pow o_ o_;show U2.wrap ((Wi 64 (a:Int)|||Wi 64 (b:Int)).toNat:Int)=_;rw[BitVec.toNat_or,fL a d,fL b c,TR];omega
theorem zF(a b:Nat)(d:a<9223372036854775808)(c:b<9223372036854775808):bits .xor .i64 (a:Int) (b:Int)=((a^^^b:Nat):Int):=by have e:a^^^b<2^63:=Nat.xor_lt_two_pow o_ o_;show U2.wrap ((Wi 64 (a:Int)^^^Wi 64 (b:Int)).toNat:Int)=_;rw[BitVec.toNat_xor,fL a d,fL b c,TR];omega
theorem Hv(k:Nat):∀n i,i<k->(cY n k)[i]?=some (Zk (n/256^(k- 1- i))):=by
 induction k with
 |zero=>intro n i h;omega
 |succ k a=>
  intro n i h;rw[vI];cases i with
  |zero=>simp
  |succ i=>rw[List.getElem?_cons_succ,a n i o_,show k+1- 1-(i+1)=k- 1- i from o_]
end
section
open Go.Conc Go.RowKit
section
variable{b:Frame}{k:List Item}
theorem Rn.quits{r:Loop}{c:Frame}(d:b.roundOf=some l)(e:b.kind= .normal)(f:w.heap[l]?=some (.loop r))(h:Rn P Goal (c.finish (.bool false)) cs (bP w l {r with state:= .done,pending:=some .ret})):Rn P Goal (b.atR a (.code .ret::k)) (c::cs) w:=
 Rn.exec rfl (oR (fr:=b.atR a (.code .ret::k)) (j:=some .ret) (.ret rfl) d e (lW P f (some .ret))) h
theorem wU{r:Loop}(h:w.heap[l]?=some (.loop r))(hs:r.state= .done):
 (UG l).runT P w #[]=(.ok r.pending {w with heap:=w.heap.setIfInBounds l (.loop {r with state:= .exhausted})},#[⟨.obj l,false,false⟩,⟨.obj l,true,false⟩]):=by simp[-U8,UG,Instr.getLoop,getObj,setObj,bind,Sem.bind,Um,pure,Obj.isChan,h,hs]
theorem Rn.rangeQuit{r:Loop}(d:w.heap[l]?=some (.loop r))(hs:r.state= .done)(c:r.pending=some .ret)(h:Rn P Goal (b.atR a (.code .ret::k)) cs (bP w l {r with state:= .exhausted})):Rn P Goal (b.atR a (.endRangeFunc l::k)) cs w:=by
 have e:=ja (P:=P) (main:=true) (listen:=true) (cs:=cs) (fr:=b.atR a (.endRangeFunc l::k)) rfl (wU (P:=P) d hs);have f:(r.pending.map WK).toList++k= .code .ret::k:=by rw[c];rfl
 rw[f]at e;exact Rn.exec rfl e h
theorem xK{R:Ending->World->Prop}{t:Tmp}{ty:TypeId}(e:P.funcs[f]?=some fn)(b:fn.results=#[.cell t ty])(d:∀w:World,(isAgg ty).run P w= .ok false w)
 (h:∀cs,Rn P (λg w'=>∃(a:Act) (k:List Item) (ad:Addr) (v:Value),g=cJ {(base f).atR a k with mode:= .returning} cs/\a.defers=[]/\a.tmps[t]?=some (.pointer (some ad))/\w'.cell? ad=some v/\R (.returned v) w') (TJ P f args .normal) cs w):Calls P f args w R:=λcs=>by obtain⟨n,w',m,a,k,ad,v,rfl,l,j,c,i⟩:=h cs;refine⟨.returned v,w',{(base f).atR a k with mode:= .returning},i,StepsIn.steps m,rfl,rfl,l,rfl,fn,e, ?_⟩;show(results fn a.tmps).run P w'=_;simp[results,b,j,asAddr,loadVar,d,c,go_sem]
end
section
variable{b:Frame}{k:List Item}
theorem Rn.dfr{d:Tmp}{c:Call}{g:FuncId}{x y:Array Value}(h:aW F N ds a)(i:b.roundOf=none)(l:ops[m]?=some o)(r:o.guard=none)(s:o.dst=none)(j:o.op= .defer c)(p:c.callee= .value (.tmp d))(f:c.args=#[])(hv:F.lookup d=some (.func (.func g) x y))
 (next:∀a',aW F N (⟨.fn (.func g) y,x⟩::ds) a'->Rn P Goal (b.atR a' (.inRegion ops rest::k)) cs w):Rn P Goal (b.atR a (.inRegion ops (m::rest)::k)) cs w:=by
 have q:TD o (yielded ops a.tmps)=true:=by simp[TD,r]
 have n:execOp a.eval o= .pure (.defer ⟨.fn (.func g) y,x⟩):=by unfold execOp resolve;rw[j];simp only[p,f,h.get hv,UX];simp;rfl
 have e:stepG.exec P true true (b.atR a (.inRegion ops (m::rest)::k)) cs none w= .go (cJ (b.atR ⟨a.tmps,⟨.fn (.func g) y,x⟩::a.defers⟩ (.inRegion ops rest::k)) cs) w:=by
  have t:stepG.exec P true true (b.atR a (.inRegion ops (m::rest)::k)) cs none w=stepG.apply P true (b.atR a (.inRegion ops (m::rest)::k)) cs none (execOp (b.atR a (.inRegion ops (m::rest)::k)).eval o) w:=by unfold stepG.exec;simp only[Yg,l,TE,U0,q,↓reduceIte];unfold stepG.oper;simp only[Frame.oper?,l,i]
  rw[t,Us,n];unfold stepG.apply;simp[-U8,Um,TI,seen,Frame.finish,Yg,l,s,cJ]
 refine Rn.exec rfl e (next _ ⟨?_,h.size,h.slot⟩);show _::a.defers=_;rw[h.defers]
theorem Rn.dcall{g:FuncId}{b a_:Array Value}{es:List Deferred}(d:fr.mode≠ .run)(h:fr.defers=⟨.fn (.func g) b,a_⟩::es)(f:P.funcs[g]?=some fn)(i:fn.body.isSome=true)(c:fn.name≠ "runtime.NumGoroutine")
 (next:Rn P Goal (TJ P g (a_++b) .deferred) ({fr with defers:=es}::cs) w):Rn P Goal fr cs w:=by
 have e:stepG P true (cJ fr cs) w=unwind P true fr cs none w:=by
  unfold stepG cJ;cases a:fr.mode with
  |run=>exact absurd a d
  |_=>simp only[a]
 exact Rn.step (e.trans (kg h f i c)) next
theorem Rn.dback{c:Frame}(e:b.kind= .deferred)(i:a.defers=[])(g:P.funcs[b.fn]?=some fn)(f:(results fn a.tmps).run P w= .ok v w)(h:Rn P Goal (dJ c) cs w):Rn P Goal {b.atR a k with mode:= .returning} (c::cs) w:=by
 refine Rn.step (fr':=dJ c) (cs':=cs) (w':=w) (es:=seen P b.fn ((results fn a.tmps).events P w #[])) ?_ h;unfold stepG cJ;have d:=va (P:=P) (main:=true) (fr:={b.atR a k with mode:= .returning}) (c:=c) (cs:=cs) (w:=w) (w':=w) (v:=v) (es:=(results fn a.tmps).events P w #[]) (fn:=fn) i rfl (.inr e) g (by rw[U8];show(_,_)=_;rw[show(results fn ({b.atR a k with mode:= .returning}:Frame).tmps).run P w= .ok v w from f];rfl);have j:back b.kind c v=dJ c:=by rw[e];rfl
 rw[show({b.atR a k with mode:= .returning}:Frame).kind=b.kind from rfl,j]at d;exact d
def MO(f:FuncId):Frame:={base f with kind:= .deferred}
theorem DL{c:Code}{N:Nat}(L:List Value)(a:P.funcs[f]?=some fn)(b:fn.body=some c)(d:fn.ntmps=N):TJ P f L.toArray .deferred=(MO f).atR ⟨L.toArray++TG (N- L.toArray.size) undef,[]⟩ [.code c]:=by
 have:=aZ (P:=P) L a b d;unfold TJ at this⊢;simp only[a]at this⊢;injection this with h1 h2 h3 h4 h5 h6 h7;simp only[MO,Yg]
 congr 1
theorem Rn.pan{d:Tmp}(l:aW F N ds a)(i:ops[m]?=some o)(j:o.guard=none)(f:o.op= .panic (.tmp d))(hv:F.lookup d=some (.iface t (.s s)))
 (next:Rn P Goal ((b.atR a (.inRegion ops (m::rest)::k)).raise [{v:= .iface t (.s s),recovered:=false}]) cs w):Rn P Goal (b.atR a (.inRegion ops (m::rest)::k)) cs w:=by
 have h:TD o (yielded ops a.tmps)=true:=by simp[TD,j]
 have g:execOp a.eval o= .halt (.panic (.iface t (.s s))):=by unfold execOp;rw[f];simp only[l.get hv];rfl
 refine Rn.exec rfl ((cS rfl i h (λc e=>by rw[f]at e;cases e)).trans (tJ (v:= .iface t (.s s)) (w':=w) (es:=#[]) ?_)) next
 rw[Us,g];rfl
theorem Rn.rec{d:Tmp}{c:Call}{g:List PanicEntry}{h:Frame}(z:aW F N ds a)(u:b.kind= .deferred)(j:b.roundOf=none)(p:ops[m]?=some o)(x:o.guard=none)(i:o.dst=some d)(y:d<N)(l:o.op= .call c)(n:c.callee= .builtin .recover)(t:h.mode= .panicking ({v,recovered:=false,goexit:=false}::g))
 (next:∀a',aW ((d,v)::F) N ds a'->Rn P Goal (b.atR a' (.inRegion ops rest::k)) ({h with mode:= .panicking ({v,recovered:=true}::g)}::cs) w):Rn P Goal (b.atR a (.inRegion ops (m::rest)::k)) (h::cs) w:=by
 have q:TD o (yielded ops a.tmps)=true:=by simp[TD,x]
 have r:AI 3 o=true:=by simp[AI,l,n]
 have e:=m7 (P:=P) (main:=true) (listen:=true) (f:=b.atR a (.inRegion ops (m::rest)::k)) (xs:=h::cs) (w:=w) rfl p q r j;have s:tryRecover (b.atR a (.inRegion ops (m::rest)::k)) (h::cs)=some (v,{h with mode:= .panicking ({v,recovered:=true}::g)}::cs):=by unfold tryRecover;rw[show(b.atR a (.inRegion ops (m::rest)::k)).kind= .deferred from u];simp only[t]
 rw[s]at e;refine Rn.exec (fr':=(b.atR a (.inRegion ops (m::rest)::k)).finish v) rfl e ?_;rw[U7,p,Ug,i];exact next _ (z.put y v)
end
structure dp where
 tree:ByteArray
 chains:ByteArray
 id:ByteArray
 root:ByteArray
 height:Int
 width:Int
 count:Nat
 shift:Int
 q:Int
 salt:ByteArray
 links:ByteArray
 path:ByteArray
def dp.cells(s:dp):Array Value:=#[.string s.tree, .string s.chains, .string s.id, .string s.root, .int .i64 s.height, .int .i64 s.width, .int .i64 s.count, .int .i64 s.shift, .int .i64 s.q, .string s.salt, .string s.links, .string s.path]
def Yl(P:Program)(ev:Operand->Value)(o:Oper)(w:World)(v:Value)(es:Array Event):Prop:=(execOp ev o).run P w= .ok (.value v) w/\(execOp ev o).events P w #[]=es
section
variable{s:dp}{y z:Operand}
theorem aG{cs:Array Value}(h:w.heap[b]?=some (.cells cs t))(k:Nat):w.cell? ⟨b,k,none⟩=cs[k]?:=by unfold U6;simp[h]
theorem cn(P:Program)(a:o.op= .move x\/o.op= .assign x):Yl P ev o w (ev x) #[]:=by rcases a with h|h<;>constructor<;>simp[execOp,h]
theorem fv(P:Program){f:Fn}{a:Array Operand}(b:o.op= .makeFunc f #[] a):Yl P ev o w (.func f #[] (a.map ev)) #[]:=by constructor<;>simp[execOp,b,Instr.makeFunc]
def xZ(P:Program)(t:TypeId):Prop:=∀w:World,(isAgg t).run P w= .ok false w/\(isAgg t).events P w #[]=#[]
theorem ce:xZ Tryz.prog 3:=λw=>⟨k_,k_⟩
theorem bN:xZ Tryz.prog 9:=λw=>⟨k_,k_⟩
theorem pD:xZ Tryz.prog 22:=λw=>⟨k_,k_⟩
theorem rz:xZ Tryz.prog 25:=λw=>⟨k_,k_⟩
theorem aO{ad:Addr}(d:xZ Tryz.prog t)(a:o.op= .load t x)(b:ev x= .pointer (some ad))(h:w.cell? ad=some v):Yl Tryz.prog ev o w v #[⟨.cell ad,false,false⟩]:=by
 obtain⟨c,e⟩:=d w;constructor
 ·simp[execOp,a,b,TN,loadVar,c,h,go_sem]
 ·simp[execOp,a,b,TN,loadVar,c,e,h,go_sem]
def m8(b:Nat):Array Event:=#[⟨.cell ⟨b,0,none⟩,false,false⟩,⟨.cell ⟨b,1,none⟩,false,false⟩,⟨.cell ⟨b,2,none⟩,false,false⟩,⟨.cell ⟨b,3,none⟩,false,false⟩,⟨.cell ⟨b,4,none⟩,false,false⟩,⟨.cell ⟨b,5,none⟩,false,false⟩,
 ⟨.cell ⟨b,6,none⟩,false,false⟩,⟨.cell ⟨b,7,none⟩,false,false⟩,⟨.cell ⟨b,8,none⟩,false,false⟩,⟨.cell ⟨b,9,none⟩,false,false⟩,⟨.cell ⟨b,10,none⟩,false,false⟩,⟨.cell ⟨b,11,none⟩,false,false⟩]
theorem Bj{b:Nat}(h:e∈m8 b):∃k,e=⟨.cell ⟨b,k,none⟩,false,false⟩:=by simp only[m8,UW,U4,TY,or_false]at h;rcases h with rfl|rfl|rfl|rfl|rfl|rfl|rfl|rfl|rfl|rfl|rfl|rfl<;>exact⟨_,rfl⟩
theorem kN{ex:Array Value}(e:o.op= .load 149 x)(t:ev x= .pk b 0)(h:w.heap[b]?=some (.cells (s.cells++ex) 149)):Yl Tryz.prog ev o w (.agg s.cells) (m8 b):=by
 have u:(isAgg 149).run Tryz.prog w= .ok true w:=k_
 have y:(isAgg 149).events Tryz.prog w #[]=#[]:=k_
 have a:∀k,k<12->w.cell? ⟨b,k,none⟩=s.cells[k]?:=λk v=>(aG h k).trans (Vv v);have r:w.cell? ⟨b,0,none⟩=some (.s s.tree):=a 0 d_;have q:w.cell? ⟨b,1,none⟩=some (.s s.chains):=a 1 d_;have p:w.cell? ⟨b,2,none⟩=some (.s s.id):=a 2 d_;have n:w.cell? ⟨b,3,none⟩=some (.s s.root):=a 3 d_;have m:w.cell? ⟨b,4,none⟩=some (.i s.height):=a 4 d_;have l:w.cell? ⟨b,5,none⟩=some (.i s.width):=a 5 d_;have j:w.cell? ⟨b,6,none⟩=some (.i s.count):=a 6 d_;have i:w.cell? ⟨b,7,none⟩=some (.i s.shift):=a 7 d_;have g:w.cell? ⟨b,8,none⟩=some (.i s.q):=a 8 d_;have f:w.cell? ⟨b,9,none⟩=some (.s s.salt):=a 9 d_;have d:w.cell? ⟨b,10,none⟩=some (.s s.links):=a 10 d_;have c:w.cell? ⟨b,11,none⟩=some (.s s.path):=a 11 d_;constructor
 ·simp[execOp,e,t,TN,loadVar,u,loadCells,loadCellsFrom,W5,r,q,p,n,m,l,j,i,g,f,d,c,dp.cells,go_sem]
 ·simp[execOp,e,t,TN,loadVar,u,y,loadCells,loadCellsFrom,W5,r,q,p,n,m,l,j,i,g,f,d,c,m8,go_sem]
theorem sO(a:o.op= .fieldAddr 149 x 0)(c:ev x= .pk b k):Yl Tryz.prog ev o w (.pk b k) #[]:=by
 have e:execOp ev o=(do pure (.value (←TS 149 (.pk b k) 0))):=by simp only[execOp,a,c]
 unfold Yl;rw[e];constructor<;>kernel_rfl
theorem yg(a:o.op= .fieldAddr 145 x 6)(c:ev x= .pk b 0):Yl Tryz.prog ev o w (.pk b 6) #[]:=by
 have e:execOp ev o=(do pure (.value (←TS 145 (.pk b 0) 6))):=by simp only[execOp,a,c]
 unfold Yl;rw[e];constructor<;>kernel_rfl
theorem Gh(a:o.op= .fieldAddr 149 x 3)(c:ev x= .pk b 0):Yl Tryz.prog ev o w (.pk b 10) #[]:=by
 have e:execOp ev o=(do pure (.value (←TS 149 (.pk b 0) 3))):=by simp only[execOp,a,c]
 unfold Yl;rw[e];constructor<;>kernel_rfl
theorem di{m n:Int}(a:o.op= .binOp .lss 3 x y u)(c:ev x= .i m)(b:ev y= .i n):Yl Tryz.prog ev o w (.bool (decide (m<n))) #[]:=by constructor<;>simp[execOp,a,c,b,go_sem]
theorem iY{m n:Int}(a:o.op= .binOp .add 3 x y u)(c:ev x= .i m)(b:ev y= .i n)(h: -9223372036854775808<=m+n/\m+n<9223372036854775808):Yl Tryz.prog ev o w (.i (m+n)) #[]:=by
 have e:U2.wrap (m+n)=m+n:=by rw[TR];omega
 constructor<;>simp[execOp,a,c,b,go_sem,e]
theorem mH{m n:Int}(a:o.op= .binOp .mul 3 x y u)(c:ev x= .i m)(b:ev y= .i n)(h: -9223372036854775808<=m*n/\m*n<9223372036854775808):Yl Tryz.prog ev o w (.i (m*n)) #[]:=by
 have e:U2.wrap (m*n)=m*n:=by rw[TR];omega
 constructor<;>simp[execOp,a,c,b,go_sem,e]
theorem qe(a:o.op= .unOp .not t x)(b:ev x= .bool q):Yl Tryz.prog ev o w (.bool (!q)) #[]:=by constructor<;>simp[execOp,a,b,go_sem,Op.unary]
theorem ft{t:ByteArray}(a:o.op= .slice 9 x (some y) (some z) none)(d:ev x= .s t)(c:ev y= .i m)(b:ev z= .i n)(h:m<=n)(f:n<=t.size):Yl Tryz.prog ev o w (.s (t.extract m n)) #[]:=by
 have e:Tryz.prog.underlying 9=some .string:=k_
 constructor
 ·simp[execOp,a,d,c,b,UF,VE,UK,run_underlying e,UQ,asIntOf,h,f]
 ·simp[execOp,a,d,c,b,UF,VE,UK,run_underlying e,UQ,asIntOf,h,f,go_sem]
theorem eA{e:TypeId}{a:Addr}{len cap:Nat}(f:Tryz.prog.underlying t=some (.slice e))(h:∀w:World,(sizeOf e).run Tryz.prog w= .ok 1 w)(b:o.op= .indexAddr t x y)(d:ev x= .slice (some a) len cap)(c:ev y= .i n)(g:n<len):
 Yl Tryz.prog ev o w (.pointer (some (a.add n))) #[]:=by have i:=h w;constructor<;>simp[execOp,b,d,c,go_sem,f,i,g]
def Mk(P:Program)(ev:Operand->Value)(o:Oper)(w:World)(cs:Array Value)(t:TypeId):Prop:=(execOp ev o).run P w= .ok (.value (.pk w.heap.size 0)) (w.alloc (.cells cs t))/\(execOp ev o).events P w #[]=#[]
theorem me(P:Program)(a:o.op= .box t x):Mk P ev o w (ev x).cells t:=by constructor<;>simp[execOp,a,Instr.box,newVar,newRow,go_sem]
theorem j9(a:o.op= .alloc 3):Mk Tryz.prog ev o w #[.i 0] 3:=by
 have e:execOp ev o=(do pure (.value (←Uo 3 true (.tuple #[])))):=by simp only[execOp,a]
 unfold Mk;rw[e];constructor<;>kernel_rfl
theorem lm(a:o.op= .alloc 25):Mk Tryz.prog ev o w #[.slice none 0 0] 25:=by
 have e:execOp ev o=(do pure (.value (←Uo 25 true (.tuple #[])))):=by simp only[execOp,a]
 unfold Mk;rw[e];constructor<;>kernel_rfl
theorem eI{b:Nat}{v0:Value}(hv:v.cells=#[v])(a:v.oneCell'=true)(d:(sizeOf t).run Tryz.prog w= .ok 1 w)(c:o.op= .store t x y)(i:ev x= .pk b k)(g:ev y=v)(h:w.cell? ⟨b,k,none⟩=some v0)(f:w.frozen? ⟨b,k,none⟩=false):
 (execOp ev o).run Tryz.prog w= .ok .skip (w.setCell ⟨b,k,none⟩ v)/\(execOp ev o).events Tryz.prog w #[]=#[⟨.cell ⟨b,k,none⟩,true,false⟩]:=by
 have e:execOp ev o=(do VH t (.pk b k) v;pure .skip):=by simp only[execOp,c,i,g]
 rw[e];simp only[VH,storeVar,hv];constructor
 ·simp[d,storeCells,W5,run_store _ _ _ _ _ a,h,f,go_sem]
 ·simp[d,storeCells,W5,events_store (hv:=a),h,f,go_sem]
end
end
section
open Go
def eR(d:Option Tmp)(p:Op):Oper:={dst:=d,op:=p,type:=0,pos:= "",after:=#[],guard:=none}
def g8(x:Nat):Op:= .call {callee:= .builtin .len,args:=#[.tmp x],argTypes:=#[9]}
def gw(x:Nat)(n:Int):Op:= .binOp .lss 3 (.tmp x) (.const (.int .i64 n)) 3
def skA:Array Oper:=#[eR (some 6) (.field 149 (.tmp 0) 4),eR (some 2) (.box 149 (.tmp 0)),eR (some 3) (.load 149 (.tmp 2)),eR (some 5) (.field 149 (.tmp 3) 0),
 eR (some 6) (.field 145 (.tmp 5) 0),eR (some 7) (g8 6),eR (some 6) (.field 145 (.tmp 5) 1),eR (some 7) (g8 6),eR (some 8) (.field 145 (.tmp 5) 2),eR (some 9) (g8 8),eR (some 6) (.field 145 (.tmp 5) 3),eR (some 7) (g8 6),
 eR (some 6) (.field 145 (.tmp 5) 4),eR (some 7) (gw 6 0),eR (some 11) (.field 145 (.tmp 5) 5),eR (some 16) (gw 11 0),eR (some 10) (.field 145 (.tmp 5) 6),eR (some 15) (gw 10 65537),eR (some 6) (.field 145 (.tmp 5) 7),eR (some 7) (gw 6 0),
 eR (some 12) (.field 149 (.tmp 3) 1),eR (some 18) (gw 12 0),eR (some 6) (.field 149 (.tmp 3) 2),eR (some 7) (g8 6),eR (some 13) (.field 149 (.tmp 3) 3),eR (some 7) (g8 13),eR (some 6) (.field 149 (.tmp 3) 4),eR (some 7) (g8 6),
 eR (some 14) (gw 10 1),eR (some 17) (gw 11 9),eR (some 19) (gw 12 4294967296),eR (some 20) (gw 9 65536)]
def F1(x y:Nat):Op:= .binOp .lss 3 (.tmp x) (.tmp y) 3
def Sz:Array Oper:=#[eR (some 21) (.binOp .mul 3 (.tmp 10) (.const (.int .i64 32)) 3),eR (some 7) (g8 13),eR (some 22) (F1 7 21),eR (some 26) (.call {callee:= .builtin .len,args:=#[.tmp 1],argTypes:=#[22]}),eR (some 27) (F1 26 10),eR (some 28) (.binOp .eql 22 (.tmp 1) (.const (.slice none 0 0)) 22)]
def SB:Array Oper:=#[eR (some 23) (.makeSlice 25 (.tmp 10) (.tmp 10)),eR (some 24) (.move (.const (.int .i64 0)))]
def skC:Array Oper:=#[eR (some 25) (.binOp .lss 3 (.tmp 24) (.tmp 10) 3)]
def skD:Array Oper:=#[eR (some 26) (.indexAddr 22 (.tmp 1) (.tmp 24)),eR (some 27) (.load 3 (.tmp 26)),eR (some 28) (gw 27 0),eR (some 29) (gw 27 256)]
def skE:Array Oper:=#[eR (some 30) (.binOp .mul 3 (.tmp 24) (.const (.int .i64 32)) 3),eR (some 31) (.binOp .add 3 (.tmp 24) (.const (.int .i64 1)) 3),eR (some 32) (.binOp .mul 3 (.tmp 31) (.const (.int .i64 32)) 3),
 eR (some 33) (.slice 9 (.tmp 13) (some (.tmp 30)) (some (.tmp 32)) none),eR (some 34) (.call {callee:= .value (.func 114),args:=#[.tmp 3, .tmp 24, .tmp 27, .tmp 33],argTypes:=#[149,3,3,9]}),
 eR (some 35) (.indexAddr 25 (.tmp 23) (.tmp 24)),eR none (.store 9 (.tmp 35) (.tmp 34)),eR (some 24) (.move (.tmp 31))]
def SA:Array Oper:=#[eR (some 4) (.move (.tmp 23))]
def oE:Code:= .seq (.seq (.region 2 skC false) (.cond (.tmp 25) .skip (.exit 0))) (.seq (.region 3 skD false) (.seq (.cond (.tmp 28) (.refuse "") .skip) (.seq (.cond (.tmp 29) .skip (.refuse "")) (.region 4 skE false))))
def mK:Code:= .seq (.region 0 skA false) (.seq (.cond (.tmp 14) (.refuse "") .skip) (.seq (.cond (.tmp 15) .skip (.refuse "")) (.seq (.cond (.tmp 16) (.refuse "") .skip) (.seq (.cond (.tmp 17) .skip (.refuse "")) (.seq (.cond (.tmp 18) (.refuse "") .skip) (.seq (.cond (.tmp 19) .skip (.refuse "")) (.seq (.cond (.tmp 20) .skip (.refuse ""))
 (.seq (.region 6 Sz false) (.seq (.cond (.tmp 22) (.refuse "") .skip) (.seq (.cond (.tmp 27) (.refuse "") .skip) (.seq (.cond (.tmp 28) (.refuse "") .skip) (.seq (.region 1 SB false) (.seq (.block 0 (.loop oE)) (.seq (.region 5 SA false) .ret))))))))))))))
def te:Func:={name:= "left",origin:= "",params:=#[149,22],resultTypes:=#[25],nfree:=0,ntmps:=36,results:=#[.tmp 4],body:=some mK,norace:=false,file:= "",endLine:=0,tmpNames:=#[]}
def oO(i:FuncId):Bool:=i==93||i==94
def aI(q:Bool)(P:Program):Program:=fS P (if q then 105 else 28) (if q then te else(P.funcs[28]?).getD te) oO
theorem nT(f:Nat):(aI q P).funcs[f]?=(P.funcs[f]?).map (pL (if q then 105 else 28) (if q then te else(P.funcs[28]?).getD te) oO f):=pK f
theorem JB:(Tryz.prog.types.all λi=>(i.zero.map bQ).getD true)=true:=k_
theorem HF:(Tryz.prog.funcs.all λf=>f.name != "runtime.NumGoroutine")=true:=k_
theorem OH(i:FuncId)(fn:Func)(c:oO i=true)(b:Tryz.prog.funcs[i]?=some fn):fn.body=none/\Extern.findNext fn=none/\∃e,Extern.find fn=some e/\∀(a:Nat->Nat) (PL PM:Program),bO PL PM->∀args,aF a PL PM (aD a) (e args) (e (args.map (aD a))):=by
 have f:i=93\/i=94:=by simpa[oO]using c
 rcases f with rfl|rfl
 ·rw[Tryz.func93]at b;cases b;exact⟨rfl,k_,XD,k_,λa PL PM _ args=>Ao args⟩
 ·rw[Tryz.func94]at b;cases b;exact⟨rfl,k_,VK Tryz.f94.params Tryz.f94.resultTypes,k_,λa PL PM d args=>uR d _ _ args⟩
theorem Rj:(decide (xA=j1)||(Tryz.f55).results.all (Jz 2))=true:=k_
theorem DF{K:FuncId}{a:Func}{c:Code}(k:Tryz.prog.funcs[K]?=some fn)(p:fn.body.isSome=true)(e:a.results=fn.results)(o:a.body=some c)(g:j3 0 c=true)(j:a.name≠ "runtime.NumGoroutine")(q:dm K=0)(n:fF≠K):so Tryz.prog K a oO 2 where
 zero:=λi l z d=>by have:=Uv.1 JB i l;rw[d]at this;simpa using this
 glob:=k_
 tab:=d_
 names:=λf m=>by simpa using Uv.1 HF f m
 ty:=⟨.int .u32,k_,s_,s_⟩
 ex:=of_decide_eq_true k_
 lw:=of_decide_eq_true k_
 lwr:=λb fn h=>by rw[show xA=55 from rfl,Tryz.func55]at h;cases h;have:=Rj;simpa[b]using this
 exr:=λfn h=>by rw[show j1=55 from rfl,Tryz.func55]at h;cases h;kernel_rfl
 kex:=q
 d1:=⟨n,d_,Tryz.f58,(Tryz.f58.body).getD .skip,Tryz.func58,rfl,k_⟩
 z3:=of_decide_eq_true k_
 kfn:=⟨fn,k,p,e⟩
 kbody:=⟨c,o,g⟩
 kname:=j
 ext:=OH
theorem DG:so Tryz.prog 105 te oO 2:=DF Tryz.func105 rfl rfl (c:=mK) rfl k_ d_ d_ d_
theorem DI:∃c,so Tryz.prog 28 Tryz.f28 oO 2/\Tryz.f28.body=some c:=
 ⟨_,DF Tryz.func28 rfl rfl (c:=(Tryz.f28.body).getD .skip) rfl k_ d_ d_ d_,rfl⟩
theorem Li:aI true Tryz.prog=fS Tryz.prog 105 te oO:=rfl
theorem Lj:aI false Tryz.prog=fS Tryz.prog 28 Tryz.f28 oO:=by unfold aI;simp only[TK,↓reduceIte,Tryz.func28,U0]
theorem xB:kK (aI true Tryz.prog) Tryz.prog 2:=by rw[Li];exact zR DG
theorem T0:kK (aI false Tryz.prog) Tryz.prog 2:=by rw[Lj];obtain⟨c,h,_⟩:=DI;exact zR h
theorem pr:kK (aI true Tryz.prog) (aI true Tryz.prog) 2:=by rw[Li];exact zQ DG
theorem QS:kK (aI false Tryz.prog) (aI false Tryz.prog) 2:=by rw[Lj];obtain⟨c,h,_⟩:=DI;exact zQ h
theorem aN{c:Code}(a:Tryz.prog.funcs[f]?=some fn)(h:f≠105)(b:oO f=false)(e:fn.body=some c)(d:oa f c=true):(aI q Tryz.prog).funcs[f]?=some fn:=by
 rw[nT,a];cases q with
 |true=>
  simp only[TE,pL,↓reduceIte,if_neg h,b,TK,e,d]
 |false=>
  by_cases g:f=28
  ·subst g;rw[Tryz.func28]at a;cases a;simp only[TE,pL,TK,↓reduceIte,Tryz.func28,U0]
  ·simp only[TE,pL,TK,↓reduceIte,if_neg g,b,e,d]
theorem rK:(aI true Tryz.prog).funcs[105]?=some te:=by rw[nT,Tryz.func105];simp[pL]
abbrev lT(P:Program:=Tryz.prog):Program:=aI true P
abbrev tP(P:Program:=Tryz.prog):Program:=P
abbrev eX(e:Operand->Value)(o:Oper)(w:World)(v:Value):Prop:=(execOp e o).run lT w= .ok (.value v) w
@[simp] theorem I4(t:TypeId):(aI q P).info? t=P.info? t:=fc P _ t
@[simp] theorem cq(t:TypeId):(aI q P).underlying t=P.underlying t:=cV P _ t
@[simp] theorem pM(t:TypeId):(typeInfo t).run (aI q P) w=(typeInfo t).run P w:=by simp only[typeInfo,Uz,run_program,UR,I4];cases P.info? t<;>simp
@[simp] theorem Ot(t:TypeId):(sizeOf t).run (aI q P) w=(sizeOf t).run P w:=by simp only[sizeOf,Uz,pM];cases (typeInfo t).run P w<;>simp
@[simp] theorem xl(t:TypeId):(underlying t).run (aI q P) w=(underlying t).run P w:=by simp only[underlying,Uz,run_program,UR,cq];cases P.underlying t<;>simp
@[simp] theorem Qs(t:TypeId):(isAgg t).run (aI q P) w=(isAgg t).run P w:=by
 simp only[isAgg,Uz,xl];cases (underlying t).run P w with
 |ok d a=>cases d<;>simp
 |halt x a=>simp
@[simp] theorem Rq(t:TypeId):(zeroValue t).run (aI q P) w=(zeroValue t).run P w:=by
 simp only[zeroValue,Uz,pM];cases (typeInfo t).run P w with
 |ok i a=>simp only[UR];cases i.zero<;>simp
 |halt x a=>simp
theorem dI(c:P.funcs[f]?=some fn)(b:(fn.name== "runtime.NumGoroutine")=false)(a:fn.body.isNone=false)(args:Array Value)(w:World):(callFunc f args).run P w= .ok (.enter f args) w:=by
 have g:¬fn.name= "runtime.NumGoroutine" :=by simpa using b
 have d:¬fn.body=none:=λe=>by rw[e]at a;simp at a
 simp[callFunc,c,g,d]
@[simp] theorem Lf.func39:(aI q tP).funcs[39]?=some Tryz.f39:=aN Tryz.func39 d_ rfl rfl k_
@[simp] theorem Lf.call39(args:Array Value)(w:World):(callFunc 39 args).run (aI q tP) w= .ok (.enter 39 args) w:=dI Lf.func39 k_ rfl args w
@[simp] theorem Lf.func40:(aI q tP).funcs[40]?=some Tryz.f40:=aN Tryz.func40 d_ rfl rfl k_
@[simp] theorem Lf.call40(args:Array Value)(w:World):(callFunc 40 args).run (aI q tP) w= .ok (.enter 40 args) w:=dI Lf.func40 k_ rfl args w
@[simp] theorem Lf.func38:(aI q tP).funcs[38]?=some Tryz.f38:=aN Tryz.func38 d_ rfl rfl k_
@[simp] theorem Lf.call38(args:Array Value)(w:World):(callFunc 38 args).run (aI q tP) w= .ok (.enter 38 args) w:=dI Lf.func38 k_ rfl args w
@[simp] theorem Lf.func28:(aI q tP).funcs[28]?=some Tryz.f28:=aN Tryz.func28 d_ rfl rfl k_
@[simp] theorem Lf.call28(args:Array Value)(w:World):(callFunc 28 args).run (aI q tP) w= .ok (.enter 28 args) w:=dI Lf.func28 k_ rfl args w
@[simp] theorem Lf.func55:(aI q tP).funcs[55]?=some Tryz.f55:=aN Tryz.func55 d_ rfl rfl k_
@[simp] theorem Lf.call55(args:Array Value)(w:World):(callFunc 55 args).run (aI q tP) w= .ok (.enter 55 args) w:=dI Lf.func55 k_ rfl args w
@[simp] theorem Lf.func66:(aI q tP).funcs[66]?=some Tryz.f66:=aN Tryz.func66 d_ rfl rfl k_
@[simp] theorem Lf.call66(args:Array Value)(w:World):(callFunc 66 args).run (aI q tP) w= .ok (.enter 66 args) w:=dI Lf.func66 k_ rfl args w
@[simp] theorem Lf.func82:(aI q tP).funcs[82]?=some Tryz.f82:=aN Tryz.func82 d_ rfl rfl k_
@[simp] theorem Lf.call82(args:Array Value)(w:World):(callFunc 82 args).run (aI q tP) w= .ok (.enter 82 args) w:=dI Lf.func82 k_ rfl args w
@[simp] theorem Lf.func67:(aI q tP).funcs[67]?=some Tryz.f67:=aN Tryz.func67 d_ rfl rfl k_
@[simp] theorem Lf.call67(args:Array Value)(w:World):(callFunc 67 args).run (aI q tP) w= .ok (.enter 67 args) w:=dI Lf.func67 k_ rfl args w
@[simp] theorem Lf.func81:(aI q tP).funcs[81]?=some Tryz.f81:=aN Tryz.func81 d_ rfl rfl k_
@[simp] theorem Lf.call81(args:Array Value)(w:World):(callFunc 81 args).run (aI q tP) w= .ok (.enter 81 args) w:=dI Lf.func81 k_ rfl args w
@[simp] theorem Lf.func56:(aI q tP).funcs[56]?=some Tryz.f56:=aN Tryz.func56 d_ rfl rfl k_
@[simp] theorem Lf.call56(args:Array Value)(w:World):(callFunc 56 args).run (aI q tP) w= .ok (.enter 56 args) w:=dI Lf.func56 k_ rfl args w
@[simp] theorem Lf.func68:(aI q tP).funcs[68]?=some Tryz.f68:=aN Tryz.func68 d_ rfl rfl k_
@[simp] theorem Lf.call68(args:Array Value)(w:World):(callFunc 68 args).run (aI q tP) w= .ok (.enter 68 args) w:=dI Lf.func68 k_ rfl args w
@[simp] theorem Lf.func83:(aI q tP).funcs[83]?=some Tryz.f83:=aN Tryz.func83 d_ rfl rfl k_
@[simp] theorem Lf.call83(args:Array Value)(w:World):(callFunc 83 args).run (aI q tP) w= .ok (.enter 83 args) w:=dI Lf.func83 k_ rfl args w
@[simp] theorem Lf.func102:(aI q tP).funcs[102]?=some Tryz.f102:=aN Tryz.func102 d_ rfl rfl k_
@[simp] theorem Lf.func64:(aI q tP).funcs[64]?=some Tryz.f64:=aN Tryz.func64 d_ rfl rfl k_
@[simp] theorem Lf.func134:(aI q tP).funcs[134]?=some Tryz.f134:=aN Tryz.func134 d_ rfl rfl k_
@[simp] theorem Lf.func133:(aI q tP).funcs[133]?=some Tryz.f133:=aN Tryz.func133 d_ rfl rfl k_
@[simp] theorem Lf.func144:(aI q tP).funcs[144]?=some Tryz.f144:=aN Tryz.func144 d_ rfl rfl k_
@[simp] theorem Lf.func108:(aI q tP).funcs[108]?=some Tryz.f108:=aN Tryz.func108 d_ rfl rfl k_
@[simp] theorem Lf.func114:(aI q tP).funcs[114]?=some Tryz.f114:=aN Tryz.func114 d_ rfl rfl k_
theorem Lf.underlying108:type_of%((cq (q:=q) (P:=tP) 108).trans Tryz.underlying108):=(cq 108).trans Tryz.underlying108
theorem Lf.underlying66:type_of%((cq (q:=q) (P:=tP) 66).trans Tryz.underlying66):=(cq 66).trans Tryz.underlying66
theorem Lf.underlying65:type_of%((cq (q:=q) (P:=tP) 65).trans Tryz.underlying65):=(cq 65).trans Tryz.underlying65
theorem Lf.underlying62:type_of%((cq (q:=q) (P:=tP) 62).trans Tryz.underlying62):=(cq 62).trans Tryz.underlying62
theorem Lf.underlying69:type_of%((cq (q:=q) (P:=tP) 69).trans Tryz.underlying69):=(cq 69).trans Tryz.underlying69
theorem Lf.underlying9:type_of%((cq (q:=q) (P:=tP) 9).trans Tryz.underlying9):=(cq 9).trans Tryz.underlying9
theorem Lf.underlying5:type_of%((cq (q:=q) (P:=tP) 5).trans Tryz.underlying5):=(cq 5).trans Tryz.underlying5
end
section
open Go.RowKit
theorem Et(s:ByteArray)(k:Nat)(h:k<s.size):s.data.toList.take (k+1)=s.data.toList.take k++[s[k]]:=by rw[VV (by simpa using h)];rfl
theorem yC(B:List UInt8):aH (dY B 0)=TZ 64 (.int .u32 0):=by simp[dY,cX,aH]
theorem Jk(w:World)(B:List UInt8)(c:Array Value)(d:c.size=64):((w.alloc (.cells (bH B).toArray 66)).alloc (.cells c 108)).heap.size=w.heap.size+1+1/\
 ((w.alloc (.cells (bH B).toArray 66)).alloc (.cells c 108)).rangeAt w.heap.size 0 (bH B)/\
 ((w.alloc (.cells (bH B).toArray 66)).alloc (.cells c 108)).there (w.heap.size+1) 0 64/\
 Bw w ((w.alloc (.cells (bH B).toArray 66)).alloc (.cells c 108)):=by
 refine⟨s_,VD (λj v a=> ?_) _,λj b=>⟨?_, ?_⟩,((Xd _ _).alloc (TB _) _).alloc s_ _⟩
 ·rw[Vu _ _ _ _ rfl];simpa using a
 ·rw[Vu _ _ _ _ s_];simp[d,b]
 ·rw[XO _ _ _ _ s_]
theorem r9{M a:World}{L:List Value}(d:M=(a.alloc (.cells L.toArray 108)).drewN n)(c:a.heap.size=b)(h:L[j]?=some v):M.cell? ⟨b,j,none⟩=some v:=by subst d;simp only[a84];rw[Vu _ _ _ _ c.symm];simpa using h
theorem Jo{M a:World}{L:List Value}(d:M=(a.alloc (.cells L.toArray 108)).drewN n)(c:a.heap.size=b)(j:Nat):M.frozen? ⟨b,j,none⟩=false:=by subst d;simp only[World.frozen?_drewN];rw[XO _ _ _ _ c.symm]
theorem RY{M c:World}{L:List Value}(e:M=(c.alloc (.cells L.toArray 108)).drewN n)(d:c.heap.size=b)(a j:Nat)(v:Value):(M.drewN a).setCell ⟨b,j,none⟩ v=(c.alloc (.cells (L.set j v).toArray 108)).drewN (n+a):=by subst e;rw[World.drewN_drewN];show((c.alloc (.cells L.toArray 108)).setCell ⟨b,j,none⟩ v).drewN (n+a)=_;rw[World.setCell_alloc_at _ _ _ _ _ d.symm];simp
def ld(ty:TypeId)(b o:Nat):Sem Value:=TN ty (.pk b o)
def st(ty:TypeId)(b o:Nat)(v:Value):Sem Unit:=VH ty (.pk b o) v
theorem mI{Q:Exit->Act->World->Prop}{K:Act->World->Prop}(j:ops[i]?=some o)(k:o.guard=none)(ty:TypeId)(x y:Operand)(g:o.op= .store ty x y)
 (b p:Nat) (cells:Array Value) (d:a.eval x= .pk b p) (c:a.eval y= .agg cells) (e:w.there b p cells.size) (f:(P.info? ty).map (·.size)=some cells.size) (m:cells.all (·.oneCell')=true) (l:o.dst=none)
 (h:K a (w.setCells b p cells.toList)):wpOp P ops Q i K a w:=
 yh j k (wp_store_mid ty x y g b p cells d c e f m (by rw[l];exact h))
def oz:Value->Nat
 | .string t=>t.size
 |_=>0
theorem qk(rest:List UInt8)(n:Nat):(ByteArray.mk rest.toArray).extract n rest.length=⟨(rest.drop n).toArray⟩:=by apply ByteArray.ext;simp;exact UU s_
def jE(H:List Int)(blk:List UInt8)(n:Nat):List Value:=aH H++(bH blk++[.int .u64 (n:Int)])
def ll:List Value:=jE H0 (TZ 64 0) 0
theorem fB:ll.length=73:=by simp[ll,jE,bG,cz,H0]
theorem zY(H:List Int)(b:List UInt8)(n:Nat):∀v∈jE H b n,v.oneCell'=true:=by
 intro v a;simp only[jE,List.mem_append,Vg]at a;rcases a with a|a|rfl
 ·exact ir _ v a
 ·exact ub _ v a
 ·rfl
end
end Go.Proofs.YtkmoglhgkcnalabGreatDoor
namespace Go.Proofs
open Go.Shelf
def Tryz.laysM316_ren : a85 := ⟨fun | 316 => 100 | n => n, fun | 9 => 9 | 3 => 3 | 4 => 4 | 37 => 62 | 0 => 0 | 127 => 124 | 5 => 5 | n => n, fun | n => n⟩
def Tryz.lays105_ren : a85 := ⟨fun | 105 => 57 | 212 => 69 | 99 => 70 | 165 => 71 | 166 => 63 | 170 => 72 | 169 => 65 | 263 => 84 | 264 => 85 | 206 => 86 | 240 => 80 | 241 => 87 | 276 => 93 | 277 => 94 | n => n, fun | 9 => 9 | 3 => 3 | 4 => 4 | 20 => 20 | 0 => 0 | 46 => 55 | 109 => 112 | 5 => 5 | 72 => 102 | 76 => 105 | 51 => 64 | 146 => 127 | 53 => 67 | 148 => 129 | 70 => 100 | 37 => 62 | 75 => 104 | 127 => 124 | 164 => 138 | 80 => 32 | n => n, fun | n => n⟩
end Go.Proofs
namespace Go.Proofs.YtkmoglhgkcnalabGreatDoor
open Go
variable{n b i N l m k j b3 b4 b7 b9 Wg wd:Nat}{w w' w0 wL wM wE:World}{fr:Frame}{v:Value}{cs:List Frame}{args cv:Array Value}{V RO D V0:Nat->Prop}{q main listen ql:Bool}{g:Goroutine}{a:Act}{K:List Item}{P PL PM:Program}{x:Operand}{ops:Array Oper}{KS:List Int}{t u:TypeId}{o:Oper}{f:FuncId}{es:Array Event}{Goal:Goroutine->World->Prop}{fn:Func}{rest:List Nat}{ds:List Deferred}{X:bS}{F:List (Nat×Value)}{e:Event}{listed:Array Bool}{c:Int}{s msg key sig:ByteArray}{ρ:Nat->Nat}{ev:Operand->Value}{Post:Value->World->Prop}
section
open Go.RowKit
def qx(L:List UInt8):List UInt8:=[128]++Zp [0] ((119- L.length%64)%64)++cY (8*L.length) 8
def uE(H:List Int)(i:Nat):UInt8:=Zk (H.getD (i/4) 0/2^(24- 8*(i%4))).toNat
def gV(KS:List Int)(L:List UInt8):List UInt8:=(U5 32).map (uE (cW KS (L++qx L) ((L++qx L).length/64)))
def eE(H:List Int)(k:Nat):List Value:=bH ((U5 k).map (uE H))++TZ (32- k) (.int .u8 0)
theorem za(H:List Int)(k:Nat)(h:k<=32):(eE H k).length=32:=by simp[eE,bH];omega
theorem Hj(H:List Int)(k:Nat)(h:k<32):(eE H k)[k]?=some (.int .u8 0):=by rw[eE,Ua (by simp[bH]),List.getElem?_replicate,if_pos (by simp[bH];omega)]
theorem Hh(H:List Int)(k:Nat)(h:k<32)(v:Int)(hv:v=((uE H k).toNat:Int)):(eE H k).set k (.int .u8 v)=eE H (k+1):=by subst hv;rw[eE,eE,show 32- k=(32-(k+1))+1 from o_,List.replicate_succ,List.range_succ,VM,bH,bH,VM,List.set_append_right _ _ s_];simp
theorem Hk(H:List Int):eE H 32=bH ((U5 32).map (uE H)):=by simp[eE]
theorem uH(KS:List Int)(L:List UInt8)(n i:Nat):0<=(cW KS L n).getD i 0:=by
 cases n with
 |zero=>
  by_cases h:i<8
  ·have:i=0\/i=1\/i=2\/i=3\/i=4\/i=5\/i=6\/i=7:=o_;rcases this with rfl|rfl|rfl|rfl|rfl|rfl|rfl|rfl<;>(rw[cW];decide)
  ·rw[TV,Zd (by rw[dE];omega)];exact Yz _
 |succ n=>
  rw[cW,qF,i0];by_cases h:i<8
  ·rw[TV,Up,List.getElem?_range h];simp only[TE,U0,h,if_true];exact wrap_u32_nonneg _
  ·rw[TV,Zd (by simp;omega)];exact Yz _
theorem Hg(H:List Int)(k:Nat)(x:Int)(a:H.getD (k/4) 0=x)(b:0<=x):x/2^(24- 8*(k%4))%256=((uE H k).toNat:Int):=by
 rw[uE,a];obtain⟨m,rfl⟩:=XE b;have e:((m:Int)/2^(24- 8*(k%4)))=((m/2^(24- 8*(k%4)):Nat):Int):=by rw[Int.natCast_ediv,Int.natCast_pow];rfl
 rw[e,Xc];simp
theorem eP.made(w:World)(KS:List Int)(L a:List UInt8)(n:Nat)(T:TypeId)(d:a.length=64)(f:a.take (L.length%64)=L.drop (64*(L.length/64))):
 eP (w.alloc (.cells (jE (cW KS L (L.length/64)) a n).toArray T)) w.heap.size KS L a n:=by
 have e:=ed w (jE (cW KS L (L.length/64)) a n) T w.heap.size rfl;have c:=dE KS L (L.length/64);refine⟨d,λj v b=>e j v ?_,λj v b=> ?_, ?_,f,fa _ _ _ _ _ rfl (by simp[jE,bG,cz,c,d])⟩
 ·rw[jE,Ue (TM.1 b).1];exact b
 ·have g:=(TM.1 b).1
  have:=e (8+j) v (by rw[jE,Ua (by rw[bG,c];omega),bG,c,show 8+j- 8=j from o_,Ue g];exact b)
  rwa [TL]at this
 ·have:=e 72 (.int .u64 (n:Int)) (by rw[jE,Ua (by rw[bG,c];omega),bG,c,Ua (by rw[cz,d];omega),cz,d];rfl)
  rwa [TL]at this
theorem eP.below{L a:List UInt8}(h:eP w b KS L a n)(c:Below N w w')(d:b<N):eP w' b KS L a n:=
 ⟨h.len,bB c d h.words,bB c d h.block,by rw[c.cell (p:=⟨b,72,none⟩) d];exact h.length,h.tail,fw c d h.there⟩
theorem ny{c a:World}(h:Bw w c)(g:c.grownBy a (some b))(f:w.heap.size<=b):Bw w a:=
 h.trans ⟨g.os,g.tape,g.output,g.size,λk d=>g.block k (by have:=h.size;omega) (by intro e;injection e;omega)⟩
theorem eP.whole{L c:List UInt8}(h:eP w b KS L c n):w.rangeAt b 0 (jE (cW KS L (L.length/64)) c n):=λj v a=>by
 have e:=dE KS L (L.length/64);rw[jE]at a;by_cases f:j<8
 ·rw[Ue (by rw[bG,e];exact f)]at a;exact h.words j v a
 ·rw[Ua (by rw[bG,e];omega),bG,e]at a;by_cases i:j<72
  ·rw[Ue (by rw[cz,h.len];omega)]at a;have:=h.block (j- 8) v a;rwa [show 8+(j- 8)=0+j from o_]at this
  ·rw[Ua (by rw[cz,h.len];omega),cz,h.len]at a;have g:j- 8- 64<1:=(by have:=(TM.1 a).1;simpa using this);have d:j=72:=o_;subst d;simp at a;rw[←a];exact h.length
theorem zZ(KS:List Int)(L a:List UInt8)(n m:Nat)(b:a.length=64):(jE (cW KS L m) a n).length=73:=by simp[jE,bG,cz,dE,b]
theorem eP.of_range{L a:List UInt8}(f:w.rangeAt b 0 (jE (cW KS L (L.length/64)) a n))(e:w.there b 0 73)(g:a.length=64)(h:a.take (L.length%64)=L.drop (64*(L.length/64))):eP w b KS L a n:=by
 have d:=dE KS L (L.length/64);refine⟨g,λj v c=>f j v ?_,λj v c=> ?_, ?_,h,e⟩
 ·rw[jE,Ue (TM.1 c).1];exact c
 ·have i:=(TM.1 c).1
  have:=f (8+j) v (by rw[jE,Ua (by rw[bG,d];omega),bG,d,show 8+j- 8=j from o_,Ue i];exact c)
  rwa [TL]at this
 ·have:=f 72 (.int .u64 (n:Int)) (by rw[jE,Ua (by rw[bG,d];omega),bG,d,Ua (by rw[cz,g];omega),cz,g];rfl)
  rwa [TL]at this
theorem eP.new(w:World)(KS:List Int)(c:Array Value)(T:TypeId)(b:c.size=73):eP ((w.alloc (.cells c T)).setCells w.heap.size 0 ll) w.heap.size KS [] (TZ 64 0) 0:=by have a:=fa w c T w.heap.size 73 rfl b;exact eP.of_range (UM _ _ _ _ (by rw[fB];exact a)) (World.there_setCells a _ _ _) s_ s_
def dQ(ps:List ByteArray)(k:Nat):List UInt8:=(ps.take k).flatMap λp=>p.data.toList
theorem FP(a:List ByteArray)(k:Nat)(h:k<a.length):dQ a (k+1)=dQ a k++(a[k]).data.toList:=by rw[dQ,dQ,VV h,Yd,List.flatMap_singleton]
theorem LV(a:List ByteArray)(k:Nat):(dQ a k).length<=(dQ a a.length).length:=by
 by_cases h:k<=a.length
 ·rw[dQ,dQ,a94];have e:a.flatMap (λp=>p.data.toList)=(a.take k).flatMap (λp=>p.data.toList)++(a.drop k).flatMap (λp=>p.data.toList):=by rw[←Yd,List.take_append_drop]
  rw[e,UT];omega
 ·rw[dQ,dQ,UU o_,a94];exact TB _
end
end Go.Proofs.YtkmoglhgkcnalabGreatDoor
namespace Go.Proofs.YtkmoglhgkcnalabGreatDoor
open Go.RowKit
def dp.key(s:dp):Array Value:=#[.string s.tree, .string s.chains, .string s.id, .string s.root, .int .i64 s.height, .int .i64 s.width, .int .i64 s.count, .int .i64 s.shift]
def eD(n:Nat):Nat:=2^n- 1
end Go.Proofs.YtkmoglhgkcnalabGreatDoor
namespace Go.Proofs.YtkmoglhgkcnalabGreatDoor
open Go
variable{n b i N l m k j b3 b4 b7 b9 Wg wd:Nat}{w w' w0 wL wM wE:World}{fr:Frame}{v:Value}{cs:List Frame}{args cv:Array Value}{V RO D V0:Nat->Prop}{q main listen ql:Bool}{g:Goroutine}{a:Act}{K:List Item}{P PL PM:Program}{x:Operand}{ops:Array Oper}{KS:List Int}{t u:TypeId}{o:Oper}{f:FuncId}{es:Array Event}{Goal:Goroutine->World->Prop}{fn:Func}{rest:List Nat}{ds:List Deferred}{X:bS}{F:List (Nat×Value)}{e:Event}{listed:Array Bool}{c:Int}{s msg key sig:ByteArray}{ρ:Nat->Nat}{ev:Operand->Value}{Post:Value->World->Prop}
section
open Go.Conc Go.RowKit
def jU(KS:List Int)(pre:List UInt8)(j:Nat)(x:List UInt8):List UInt8:=gV KS (pre++cY j 1++x)
def kD(KS:List Int)(pre:List UInt8):Nat->Nat->List UInt8->List UInt8
 |0,_,x=>x
 |n+1,j,x=>kD KS pre n (j+1) (jU KS pre j x)
def jP(s:dp)(i:Nat):List UInt8:=s.id.data.toList++cY s.q.toNat 4++cY i 2
def lx(KS:List Int)(s:dp)(i:Nat)(d:Int)(link:ByteArray):ByteArray:=⟨(kD KS (jP s i) (eD s.width.toNat- d.toNat) d.toNat link.data.toList).toArray⟩
theorem pp(KS:List Int)(a:List UInt8)(j:Nat)(x:List UInt8):(jU KS a j x).length=32:=by simp[jU,gV]
structure CF (s:dp) (i:Nat) (d:Int) (link:ByteArray):Prop where
 width:0<=s.width/\s.width<9
 q:0<=s.q/\s.q<4294967296
 id:s.id.size<65536
 i:i<65536
 d:0<=d/\d<256
 link:link.size=32
def Ad(s:dp)(i:Nat):ByteArray:=s.id++⟨(cY s.q.toNat 4).toArray⟩++⟨(cY i 2).toArray⟩
theorem lj(n k:Nat):(ByteArray.mk (cY n k).toArray).size=k:=by show(cY n k).toArray.size=k;simp[db]
theorem J2(s:dp)(i:Nat):(Ad s i).data.toList=jP s i:=by simp[Ad,jP]
def Lr(b4 b7 i:Nat)(d:Int):List (Nat×Value):=[(1, .int .i64 i),(2, .int .i64 d),(4, .pt b4),(7, .pt b7)]
def Er(s:dp)(b4 i:Nat):List (Nat×Nat×Value):=[(0,11, .pk b4 0),(1,12, .pk b4 2),(2,13, .string s.id),(3,14, .pk b4 8),(4,15, .int .i64 s.q.toNat),(5,16, .string ⟨(cY s.q.toNat 4).toArray⟩),
 (6,17, .string (s.id++⟨(cY s.q.toNat 4).toArray⟩)),(7,18, .int .i64 i),(8,19, .string ⟨(cY i 2).toArray⟩),(9,20, .string (Ad s i))]
theorem QK(s:dp)(b4 i:Nat):∀p∈Er s b4 i,∀q∈Er s b4 i,p.2.1=q.2.1\/p.1=q.1->p=q:=by intro p b q a h;simp only[Er,U4,TY,or_false]at b a;rcases b with rfl|rfl|rfl|rfl|rfl|rfl|rfl|rfl|rfl|rfl<;>rcases a with rfl|rfl|rfl|rfl|rfl|rfl|rfl|rfl|rfl|rfl<;>first|rfl|(exfalso;simp at h)
theorem J3(s:dp)(b4 b7 i:Nat)(d:Int):∀p∈Er s b4 i,p.2.1<33/\∀q∈Lr b4 b7 i d,q.1≠p.2.1:=by intro p b;simp only[Er,U4,TY,or_false]at b;rcases b with rfl|rfl|rfl|rfl|rfl|rfl|rfl|rfl|rfl|rfl<;>refine⟨s_,λq a=> ?_⟩<;>simp only[Lr,U4,TY,or_false]at a<;>rcases a with rfl|rfl|rfl|rfl<;>simp
def Al(w0:World)(t:ByteArray)(ty:TypeId)(listed:Array Bool)(a:Act)(w:World):Prop:=
 listed[10]?=some true->∃p,a.tmps[9]?=some (.pk p 0)/\w0.heap.size<=p/\∃x,w.heap[p]?=some (.cells #[.string x] ty)/\(listed[11]?=some true->x=t)
theorem Al.step{w0:World}{t:ByteArray}{ty:TypeId}{d:Nat}(h:Al w0 t ty listed a w)(e:n≠10/\n≠11)(g:d≠9)(i:Bw w w'):Al w0 t ty (listed.setIfInBounds n true) (a.put (some d) v) w':=by
 intro c;rw[sN e.1]at c;obtain⟨p,l,k,x,f,j⟩:=h c;refine⟨p, ?_,k,x,(i.block p (gA f).1).trans f,λb=> ?_⟩
 ·show(a.tmps.setIfInBounds d v)[9]?=_;rw[sN g];exact l
 ·rw[sN e.2]at b;exact j b
theorem nh{K:Nat}(c:m≠K)(h:listed[K]?=some true->∀n,n<K->listed[n]?=some true):(listed.setIfInBounds m true)[K]?=some true->∀n,n<K->(listed.setIfInBounds m true)[n]?=some true:=λa n b=>by
 rw[sN c]at a;have:=h a n b;by_cases e:m=n
 ·subst e;exact TF (gA this).1
 ·rw[sN e];exact this
theorem uf{K:Nat}(b:ops[K]?=some o)(a:∀e∈o.after,Region.binds .any e=true->listed[e.on]?=some true)(h:((U5 K).all λk=>gt ops K k)=true)(n:Nat)(c:n<K):listed[n]?=some true:=
 cj (List.all_eq_true.1 h n (List.mem_range.2 c)) b a
section
variable{s:dp}{d:Int}{k:List Item}
theorem O9(h:g9 (Lr b4 b7 i d) (Er s b4 i) 33 listed a){e:Nat}(b:(m,e,v)∈Er s b4 i):g9 (Lr b4 b7 i d) (Er s b4 i) 33 (listed.setIfInBounds m true) (a.put (some e) v):=
 h.put (J3 s b4 b7 i d _ b).1 (J3 s b4 b7 i d _ b).2 λp c e=>QK s b4 i p c _ b e
end
def uG(b7 b9 j:Nat):List (Nat×Value):=[(7, .pt b7),(9, .pt b9),(10, .int .i64 j)]
def po(s:dp)(i j:Nat)(x:List UInt8):List (Nat×Nat×Value):=[(0,26, .string (Ad s i)),(1,27, .int .i64 j),(2,28, .string ⟨(cY j 1).toArray⟩),(3,29, .string ⟨x.toArray⟩)]
theorem Nr(s:dp)(i j:Nat)(x:List UInt8):∀p∈po s i j x,∀q∈po s i j x,p.2.1=q.2.1\/p.1=q.1->p=q:=by intro p b q a h;simp only[po,U4,TY,or_false]at b a;rcases b with rfl|rfl|rfl|rfl<;>rcases a with rfl|rfl|rfl|rfl<;>first|rfl|(exfalso;simp at h)
theorem E4(s:dp)(i j:Nat)(x:List UInt8)(b7 b9:Nat):∀p∈po s i j x,p.2.1<33/\∀q∈uG b7 b9 j,q.1≠p.2.1:=by intro p b;simp only[po,U4,TY,or_false]at b;rcases b with rfl|rfl|rfl|rfl<;>refine⟨s_,λq a=> ?_⟩<;>simp only[uG,U4,TY,or_false]at a<;>rcases a with rfl|rfl|rfl<;>simp
theorem MC{s:dp}{x:List UInt8}{b7 b9:Nat}(h:g9 (uG b7 b9 j) (po s i j x) 33 listed a){e:Nat}(b:(m,e,v)∈po s i j x):g9 (uG b7 b9 j) (po s i j x) 33 (listed.setIfInBounds m true) (a.put (some e) v):=
 h.put (E4 s i j x b7 b9 _ b).1 (E4 s i j x b7 b9 _ b).2 λp c e=>Nr s i j x p c _ b e
def A4(cells:Array Value)(ty:TypeId)(listed:Array Bool)(a:Act)(w:World):Prop:=listed[4]?=some true->∃p,a.tmps[30]?=some (.sk p 3 3)/\w.heap[p]?=some (.cells cells ty)
theorem A4.step{cells:Array Value}{ty:TypeId}{d:Nat}(h:A4 cells ty listed a w)(e:n≠4)(f:d≠30)(g:Bw w w'):A4 cells ty (listed.setIfInBounds n true) (a.put (some d) v) w':=by intro b;rw[sN e]at b;obtain⟨p,i,c⟩:=h b;refine⟨p, ?_,(g.block p (gA c).1).trans c⟩;show(a.tmps.setIfInBounds d v)[30]?=_;rw[sN f];exact i
def A5(v5:Value)(listed:Array Bool)(a:Act):Prop:=listed[5]?=some true->a.tmps[31]?=some v5
theorem A5.step{b:Value}{d:Nat}(h:A5 b listed a)(e:n≠5)(f:d≠31):A5 b (listed.setIfInBounds n true) (a.put (some d) v):=by intro c;rw[sN e]at c;show(a.tmps.setIfInBounds d v)[31]?=_;rw[sN f];exact h c
def RU(w0:World)(b7:Nat)(v5:Value)(listed:Array Bool)(w:World):Prop:=(listed[6]?=some false/\Bw w0 w)\/(listed[6]?=some true/\∃w1,Bw w0 w1/\w=w1.setCell ⟨b7,0,none⟩ v5)
structure Ch (s:dp) (i b7 b9 k2 l ld:Nat) (r:LoopState->Loop) (ty tk:TypeId) (w0:World) (st:LoopState) (x:List UInt8) (w:World):Prop where
 old:Bw w0 w
 seven:w.heap[b7]?=some (.cells #[.string ⟨x.toArray⟩] ty)
 nine:w.heap[b9]?=some (.cells #[.string (Ad s i)] ty)
 key:w.heap[k2]?=some (.cells s.key tk)
 loop:w.heap[l]?=some (.loop (r st))
 list:w.heap[ld]?=some (.deferred (some []))
structure wD (b7 b9 k2 l ld:Nat) (w0:World):Prop where
 low:w0.heap.size<=b7/\w0.heap.size<=l/\w0.heap.size<=ld
 seven:b7≠b9/\b7≠k2/\b7≠l/\b7≠ld
 loop:l≠b9/\l≠k2/\l≠ld
section
variable{s:dp}{k2 ld:Nat}{r:LoopState->Loop}{ty tk:TypeId}{st:LoopState}{x:List UInt8}
theorem Ch.below(h:Ch s i b7 b9 k2 l ld r ty tk w0 st x w)(c:Bw w w'):Ch s i b7 b9 k2 l ld r ty tk w0 st x w':=by have g:∀{b:Nat} {o:Obj},w.heap[b]?=some o->w'.heap[b]?=some o:=λ{b o} a=>(c.block b (gA a).1).trans a;exact⟨aE h.old h.old.size c,g h.seven,g h.nine,g h.key,g h.loop,g h.list⟩
theorem Ch.turn(h:Ch s i b7 b9 k2 l ld r ty tk w0 st x w)(f:wD b7 b9 k2 l ld w0)(st':LoopState):Ch s i b7 b9 k2 l ld r ty tk w0 st' x (bP w l (r st')):=
 ⟨h.old.trans (em w l _ f.low.2.1),(bD w _ f.seven.2.2.1).trans h.seven,(bD w _ (UP f.loop.1)).trans h.nine,(bD w _ (UP f.loop.2.1)).trans h.key,gq h.loop,(bD w _ (UP f.loop.2.2)).trans h.list⟩
theorem Ch.put(h:Ch s i b7 b9 k2 l ld r ty tk w0 st x w)(f:wD b7 b9 k2 l ld w0)(y:List UInt8):Ch s i b7 b9 k2 l ld r ty tk w0 st y (w.setCell ⟨b7,0,none⟩ (.string ⟨y.toArray⟩)):=
 ⟨h.old.trans (ee w _ _ f.low.1),jn h.seven,(cA w _ (UP f.seven.1)).trans h.nine,(cA w _ (UP f.seven.2.1)).trans h.key,(cA w _ (UP f.seven.2.2.1)).trans h.loop,(cA w _ (UP f.seven.2.2.2)).trans h.list⟩
end
def Ce(f:Func)(g:FuncId)(T:Array Value)(ld:Nat)(st:LoopState):Loop:={state:=st,pending:=none,fn:=g,tmps:=T,params:=#[25],assign:= .region 3 (bV f 3) false,body:= .block 1 (rD f 4),defers:=ld}
def mg(f:Func):Code:= .seq (.seq (rG f 1) (.cond (.tmp 9) .skip (.exit 0))) (.seq (.block 1 (.seq (rG f 3) (.cond (.tmp 15) .ret .skip))) (rG f 2))
section
variable{s:dp}{k2 ld:Nat}{x:List UInt8}{T:Array Value}{cf:Frame}
theorem Cd(KS:List Int)(a:List UInt8)(t j:Nat)(x:List UInt8)(h:j<t):kD KS a (t- j) j x=kD KS a (t-(j+1)) (j+1) (jU KS a j x):=by rw[show t- j=(t-(j+1))+1 from o_];rfl
end
end
section
open Go.RowKit Go.Lib Go.Shelf
theorem Lf.lays105:Go.Proofs.Lays.n105 (aI q tP) Tryz.lays105_ren:=by
 cases q<;>constructor
 all_goals first|(rw[nT];kernel_rfl)|kernel_rfl|(intro w;kernel_rfl)
theorem Lf.extra105:Builder.Extra (aI q tP) Tryz.lays105_ren:=by
 cases q<;>constructor
 all_goals first|kernel_rfl|(intro w;kernel_rfl)|decide|(constructor<;>first|kernel_rfl|(intro w;kernel_rfl)|decide)
theorem Lf.strings_Repeat(s:ByteArray)(c:Nat)(w:World)(b:c<=9223372036854775807)(a:s.size*c<=140737488355328):
 Calls (aI q tP) 57 #[.s s, .i c] w λe w'=>e= .returned (.string ⟨(Zp s.data.toList c).toArray⟩)/\Bw w w':=Any.strings_Repeat Lf.lays105 Lf.extra105 s c w b a
@[simp] theorem Lf.func13:(aI q tP).funcs[13]?=some Tryz.f13:=aN Tryz.func13 d_ rfl rfl k_
@[simp] theorem Lf.call13(args:Array Value)(w:World):(callFunc 13 args).run (aI q tP) w= .ok (.enter 13 args) w:=dI Lf.func13 k_ rfl args w
@[simp] theorem Lf.func57:(aI q tP).funcs[57]?=some Tryz.f57:=aN Tryz.func57 d_ rfl rfl k_
@[simp] theorem Lf.call57(args:Array Value)(w:World):(callFunc 57 args).run (aI q tP) w= .ok (.enter 57 args) w:=dI Lf.func57 k_ rfl args w
end
namespace L1
open Go.Proofs.YtkmoglhgkcnalabGreatDoor
section

open Go.RowKit
theorem CR(x k:Int)(w:World):
 Calls (aI ql tP) 83 #[.int .u32 x, .i k] w λe w'=>e= .returned (.int .u32 (EK x k))/\w'=w:=by
 have a:=si .and (UV.wrap k) 31
 go_enter Lf.func83,Tryz.ntmps83
 go_wp2
 go_ret
 exact⟨rfl,rfl⟩
theorem sV(x a b c:Int)(w:World)(i:0<=a)(h:a<=31)(g:0<=b)(b1:b<=31)(f:0<=c)(d:c<=31):
 Calls (aI ql tP) 67 #[.int .u32 x, .i a, .i b, .i c] w λe w'=>e= .returned (.int .u32 (iA x a b c))/\w'=w:=by
 go_enter Lf.func67,Tryz.ntmps67
 go_wp2_with (go_at_call 83;refine(CR _ _ _).mono ?_;rintro e w' ⟨rfl,rfl⟩)
 go_ret
 exact⟨rfl,rfl⟩
theorem yw(x a b c:Int)(w:World)(i:0<=a)(h:a<=31)(g:0<=b)(b1:b<=31)(f:0<=c)(d:c<=31):
 Calls (aI ql tP) 82 #[.int .u32 x, .i a, .i b, .i c] w λe w'=>e= .returned (.int .u32 (mN x a b c))/\∃n,w'=w.drewN n:=by
 go_enter Lf.func82,Tryz.ntmps82
 go_wp2
 go_quiet ((go_at_call 83;exact Calls.quiet_of_same (CR _ _ _)))
 go_wp2
 go_ret
 exact⟨rfl,_,rfl⟩
theorem eM(s:ByteArray)(w:World)(hs:s.size<=8):
 Calls (aI ql tP) 81 #[.s s] w λe w'=>e= .returned (.int .u64 (fq s.data.toList))/\w'=w:=by
 go_enter Lf.func81,Tryz.ntmps81
 go_wp2
 go_loop [3,4,7] (λn j i=>∃k:Nat,k<=s.size/\i= .i k/\n= .int .u64 (fq (s.data.toList.take k))) (λ_ _ i=>s.size-(intOf i).toNat)
 case atStart=>exact⟨0,W4 _,rfl,rfl⟩
 case round=>
  obtain⟨k,c,rfl,rfl⟩:=hrel;by_cases a:k<s.size
  ·have b:=pG (s.data.toList.take k) 7 (by simp;omega)
   go_wp2
   go_round
   case rel=>exact⟨k+1,o_,by go_num,by rw[Et s k a,vJ,Hw _ _ b.1 o_]⟩
   case measure=>simp[intOf];omega
  ·go_wp2
   go_ret
   exact⟨KT (by rw[UU (by simp;omega)]),rfl⟩
theorem Lf.info5:((aI ql tP).info? 5).map (λi=>(i.zero,i.size,i.bytes))=some (some (.int .u8 0),1,1):=k_
theorem pn(n k:Nat)(w:World)(q:k<=8):
 Calls (aI ql tP) 68 #[.int .u64 n, .i k] w λe w'=>e= .returned (.string ⟨(cY n k).toArray⟩)/\Bw w w':=by
 have g:=λw=>run_make_row' (P:=(aI ql tP)) 62 5 (.int .u8 0) 1 Lf.underlying62 Lf.info5 rfl .i64 .i64 k o_ o_ w
 go_enter Lf.func68,Tryz.ntmps68
 go_wp2
 go_loopw [0,6] (λx i d=>∃m:Nat,m<=k/\i= .i ((m:Int)- 1)/\x= .int .u64 ((n/256^(k- m):Nat):Int)/\d=w.alloc (.cells (Em n k m).toArray 5)) (λ_ i _=>(intOf i+1).toNat)
 case atStart=>exact⟨k,TB _,rfl,s_,by rw[El,fg]⟩
 case round=>
  obtain⟨m,h,rfl,rfl,rfl⟩:=hrel;cases m with
  |zero=>
   have b:=db k n;have a:=run_convert_bytes_back (P:=(aI ql tP)) (w.alloc (.cells (bH (cY n k)).toArray 5)) 62 9 5 ⟨w.heap.size,0,none⟩ k (cY n k) Lf.underlying62 Lf.underlying5 Lf.underlying9
    (λj l=>by rw[Uu,Vu _ _ _ _ rfl];simp[bH,l])
   rw[b]at a;rw[JN];generalize c:cY n k=L at*;have o:Hid (cY n k=L):=c;clear c b
   go_wp2
   go_ret
   exact⟨Db o.out.symm,(bR).alloc (TB _) _⟩
  |succ p=>
   rw[show((p+1:Nat):Int)- 1=(p:Int)from o_];have r:=JM n k p;have f:=AR n k (p+1) h
   go_wp2
   go_roundw
   case rel=>exact⟨p,o_,rfl,by rw[show k- p=k-(p+1)+1 from o_,Nat.pow_succ,←Nat.div_div_eq_div_mul];simp,by rw[JL n k p o_ _ s_]⟩
   case measure=>simp[intOf]
theorem JK(n:Nat)(w:World):
 Calls (aI ql tP) 56 #[.int .u64 n] w λe w'=>e= .returned (.string ⟨(cY n 8).toArray⟩)/\Bw w w':=by
 go_enter Lf.func56,Tryz.ntmps56
 go_wp2_with (go_at_call 68;refine(pn n 8 _ o_).mono ?_;rintro e w' ⟨rfl,a⟩)
 go_ret
 exact⟨rfl,a⟩
end
section

open Go.RowKit
theorem B9(b k:Nat)(i:k<16)(W:World):(UF 66 (.pk b 0) (some (.i (4*(k:Int)))) (some (.i (4*(k:Int)+4))) none).run (aI ql tP) W=
 .ok (.slice (some ⟨b,4*k,none⟩) 4 (64- 4*k)) W:=by
 have c:(aI ql tP).underlying 66=some (.array ((aI ql tP).arrayLen 66) ((aI ql tP).elem 66)):=k_
 have a:(aI ql tP).arrayLen 66=64:=k_
 have e:(aI ql tP).elem 66=5:=k_
 have d:(sizeOf 5).run (aI ql tP) W= .ok 1 W:=k_
 rw[run_sliceAt_array_lh W 66 _ c _ _ _ _ o_ o_ (by rw[a];omega),a,e,d];have h:(4*(k:Int)).toNat=4*k:=o_
 have g:(4*(k:Int)+4).toNat=4*k+4:=o_
 have f:4*k+4- 4*k=4:=o_
 simp only[UR,slicedAt];rw[h,g,f,if_neg o_,Uu,YA,TL]
theorem FL(B:List UInt8)(h:B.length=64)(b k c:Nat)(g:k<16)(W:World)(e:W.rangeAt b 0 (bH B)):
 (convert 62 9 (.slice (some ⟨b,4*k,none⟩) 4 c)).run (aI ql tP) W= .ok (.string ⟨((B.drop (4*k)).take 4).toArray⟩) W:=by
 have d:((B.drop (4*k)).take 4).length=4:=by simp;omega
 have a:=run_convert_bytes_back (P:=(aI ql tP)) W 62 9 5 ⟨b,4*k,none⟩ c ((B.drop (4*k)).take 4) Lf.underlying62 Lf.underlying5 Lf.underlying9
  (λj f=>by rw[d]at f;rw[Uu];have:=e (4*k+j) (.int .u8 ((B[4*k+j]' o_).toNat:Int)) (by simp[bH];exact⟨_,TX o_,rfl⟩);rw[TL]at this;rw[this];simp)
 rwa [d]at a
theorem kW(B:List UInt8)(hB:B.length=64)(w:World):
 Calls (aI ql tP) 66 #[.agg (bH B).toArray] w λe w'=>e= .returned (.agg (aH (cX B 64)).toArray)/\Bw w w':=by
 go_enter Lf.func66,Tryz.ntmps66
 go_wp2
 go_loopw [4,6] (λ_ i E=>∃(k:Nat) (f:World),k<=16/\i= .i k/\f.heap.size=w.heap.size+1+1/\f.rangeAt w.heap.size 0 (bH B)/\f.there (w.heap.size+1) 0 64/\Bw w f/\
  E=f.alloc (.cells (aH (dY B k)).toArray 108)) (λ_ i _=>16-(intOf i).toNat)
 case atStart=>
  have D:=Jk w B (TZ 64 (.int .u32 0)).toArray s_;exact⟨0,_,o_,rfl,D.1,D.2.1,D.2.2.1,D.2.2.2,by rw[yC];rfl⟩
 case round=>
  obtain⟨k,f,Q,rfl,a,q,o,r,rfl⟩:=hrel;by_cases d:k<16
  ·have a4:=B9 (ql:=ql) w.heap.size k d
   have a6:=λc=>FL (ql:=ql) B hB w.heap.size k c d (f.alloc (.cells (aH (dY B k)).toArray 108)) (VD q _)
   have hg:=rr B k o_
   have O:=uB B k o_
   have a5:(aH (dY B k)).length=64:=by rw[bG,O]
   have h8:(ByteArray.mk ((B.drop (4*k)).take 4).toArray).size<=8:=by show((B.drop (4*k)).take 4).toArray.size<=8;simp;omega
   go_wp2_with (go_at_call 81;refine(eM _ _ h8).mono ?_;rintro e w' ⟨rfl,rfl⟩)
   go_roundw
   case rel=>exact⟨k+1,f,o_,by go_num,a,q,o,r,by rw[tv B k o_ _ (by rw[if_pos d,Gk,VA])]⟩
   case measure=>simp[intOf];omega
  ·have g:k=16:=o_;subst g;clear d Q
   go_wp2
   go_loopw [5] (λi E=>∃(k n:Nat),16<=k/\k<=64/\i= .i k/\
    E=(f.alloc (.cells (aH (dY B k)).toArray 108)).drewN n) (λi _=>64-(intOf i).toNat)
   case atStart=>exact⟨16,0,o_,o_,rfl,rfl⟩
   case round=>
    obtain⟨k,n,g,Q,rfl,rfl⟩:=hrel;by_cases d:k<64
    ·obtain⟨m,rfl⟩:∃m,k=m+16:=⟨k- 16,o_⟩;rw[show((m+16:Nat):Int)=(m:Int)+16 from o_]
     go_wp2_with fail
     obtain⟨M,b⟩:∃M,M=(f.alloc (.cells (aH (dY B (m+16))).toArray 108)).drewN n:=⟨_,rfl⟩;have X:=r9 b a (lV B (m+16) m o_);have W:=r9 b a (lV B (m+16) (m+1) o_);have U:=r9 b a (lV B (m+16) (m+9) o_);have s:=r9 b a (lV B (m+16) (m+14) o_);have V:=r9 b a (rr B (m+16) o_);have T:=Jo b a (m+16);generalize y:(cX B (m+16)).getD m 0=x0 at X;have X0:Hid ((cX B (m+16)).getD m 0=x0):=y;clear y;generalize x:(cX B (m+16)).getD (m+1) 0=x1 at W;have X1:Hid ((cX B (m+16)).getD (m+1) 0=x1):=x;clear x;generalize u:(cX B (m+16)).getD (m+9) 0=x9 at U;have X9:Hid ((cX B (m+16)).getD (m+9) 0=x9):=u;clear u;generalize h:(cX B (m+16)).getD (m+14) 0=t at s;have Z:Hid ((cX B (m+16)).getD (m+14) 0=t):=h;clear h;rw[←b];have HM:Hid (M=(f.alloc (.cells (aH (dY B (m+16))).toArray 108)).drewN n):=b;clear b;have b0:(m:Int)<64:=o_;have b1:(m:Int)+1<64:=o_;have b9:(m:Int)+9<64:=o_;have Y:(m:Int)+14<64:=o_;have a7:(m:Int)+16<64:=o_;have z0:0<=(m:Int):=o_;have v0:U2.wrap (m:Int)=m:=(by rw[TR];omega);have v1:U2.wrap ((m:Int)+16- 15)=m+1:=(by rw[TR];omega);have v9:U2.wrap ((m:Int)+16- 7)=m+9:=(by rw[TR];omega);have F:U2.wrap ((m:Int)+16- 2)=m+14:=(by rw[TR];omega);have p1:0<=(m:Int)+1:=o_;have p9:0<=(m:Int)+9:=o_;have J:0<=(m:Int)+14:=o_;have I:0<=(m:Int)+16:=o_;have t1:((m:Int)+1).toNat=m+1:=o_;have t9:((m:Int)+9).toNat=m+9:=o_;have H:((m:Int)+14).toNat=m+14:=o_;have G:((m:Int)+16).toNat=m+16:=o_
     go_region_held3 (λw'=>w'.cell? ⟨w.heap.size+1+1,m,none⟩=some (.int .u32 x0)/\w'.cell? ⟨w.heap.size+1+1,m+1,none⟩=some (.int .u32 x1)/\w'.cell? ⟨w.heap.size+1+1,m+9,none⟩=some (.int .u32 x9)/\w'.cell? ⟨w.heap.size+1+1,m+14,none⟩=some (.int .u32 t)) (first|go_keep|(refine⟨?_, ?_, ?_, ?_⟩<;>(rw[World.cell?_setCell_other _ _ _ _ s_];simp only[a84,X,W,U,s])))
      (first|(go_at_call 82;refine(yw _ _ _ _ _ o_ o_ o_ o_ o_ o_).mono ?_;rintro e w' ⟨rfl,nq,rfl⟩))
     all_goals
      clear X W U s V T b0 b1 b9 Y v0 v1 v9 F p1 p9 J I t1 t9 H G
      go_wp2
      go_roundw
      case rel=>((repeat apply Exists.intro);exact⟨⟨m+17,_,o_,o_,by go_num,(RY HM.out a _ _ _).trans (by rw[tv B (m+16) o_ _ (by rw[if_neg o_,Hz,X0.out,X1.out,X9.out,Z.out,VA,VA,VA])])⟩,rfl⟩)
      case measure=>simp[intOf];omega
    ·have A:k=64:=o_;subst A;clear d Q g;obtain⟨M,b⟩:∃M,M=(f.alloc (.cells (aH (dY B 64)).toArray 108)).drewN n:=⟨_,rfl⟩;have N:M.rangeAt (w.heap.size+1+1) 0 (aH (dY B 64)):=λj v hv=>by rw[TL];exact r9 b a hv
     have K:M.there (w.heap.size+1) 0 64:=(by rw[b];exact World.there_alloc o _);have hb:Bw w M:=(by rw[b];exact below_drewN (r.alloc o_ _) n);rw[←b];rw[yD]at N;clear b a q o r;have P:(aH (cX B 64)).length=64:=(by rw[bG,dk]);generalize S:aH (cX B 64)=L at*;have HL:Hid (aH (cX B 64)=L):=S;have l:∀v∈L,v.oneCell'=true:=(by rw[←S];exact ir _);clear S;have R:((aI ql tP).info? 108).map (·.size)=some L.length:=(by rw[P];kernel_rfl);have a3:Hid (M.rangeAt (w.heap.size+1+1) 0 L):=N;have z:L.toArray.size=64:=(by simp[P]);have a2:Hid (M.there (w.heap.size+1) 0 L.toArray.size):=(by rw[z];exact K);have C:Hid (M.there (w.heap.size+1) 0 L.length):=(by rw[P];exact K);clear z;have a1:Hid (((aI ql tP).info? 108).map (·.size)=some L.toArray.size):=(by rw[Uq];exact R);have a0:Hid (L.toArray.all (·.oneCell')=true):=all_oneCell_toArray l;clear N K l
     go_wp2_with (first
      |refine wpList_load_mid rfl 108 (.tmp 3) rfl (w.heap.size+1+1) 0 rfl L _ a3.out Lf.underlying108 rfl R ?_
      |refine wpList_store_mid rfl 108 (.tmp 2) (.tmp 48) rfl (w.heap.size+1) 0 L.toArray rfl rfl a2.out a1.out a0.out ?_)
     exact bodyPost_ret (v:= .agg L.toArray) (ii (p:=2) (ty:=108) k_ _ _ (w.heap.size+1) 0 L _ rfl (UM _ _ _ _ C.out) Lf.underlying108 rfl R) rfl ⟨KU HL.out.symm,dU o_ _ _ _ _ hb⟩
end
section

open Go.RowKit
theorem Fc(G:List Int)(c:G.length=8)(k:Nat)(b:k<8)(W:World):(Xf 65 (.agg (aH G).toArray) (.i (k:Int))).run (aI ql tP) W= .ok (.int .u32 (G.getD k 0)) W:=by
 have a:(sizeOf 64).run (aI ql tP) W= .ok 1 W:=k_
 simp[Xf,asIntOf,run_underlying Lf.underlying65,part,a,b,aH,c]
theorem Gp(x:Int)(w:World):Calls (aI ql tP) 67 #[.int .u32 x, .i 6, .i 11, .i 25] w λe w'=>e= .returned (.int .u32 (iA x 6 11 25))/\w'=w:=
 sV x 6 11 25 w o_ o_ o_ o_ o_ o_
theorem Gq(x:Int)(w:World):Calls (aI ql tP) 67 #[.int .u32 x, .i 2, .i 13, .i 22] w λe w'=>e= .returned (.int .u32 (iA x 2 13 22))/\w'=w:=
 sV x 2 13 22 w o_ o_ o_ o_ o_ o_
theorem EV(H KS:List Int)(B:List UInt8)(hH:H.length=8)(hB:B.length=64)(w:World)(hK:w.rangeAt 0 0 (aH KS))(hKl:KS.length=64)(h0:0<w.heap.size):
 Calls (aI ql Tryz.prog) 55 #[.agg (aH H).toArray, .agg (bH B).toArray] w λe w'=>e= .returned (.agg (aH (qF KS H B)).toArray)/\Bw w w':=by
 have hi54:((aI ql Tryz.prog).info? 66).map (·.size)=some (bH B).length:=by rw[cz,hB];kernel_rfl
 have HK:Hid (w.rangeAt 0 0 (aH KS)):=hK;have HKl:Hid (KS.length=64):=hKl;clear hK hKl
 go_enter Lf.func55,Tryz.ntmps55
 go_wp2_with (first
  |refine wpList_load_mid rfl 66 (.tmp 3) rfl (w.heap.size+1) 0 rfl (bH B) _ (by exact VD (ed _ _ _ _ s_) _) Lf.underlying66 rfl hi54 ?_
  |fail)
 refine(kW B hB _).mono ?_;rintro e w1 ⟨rfl,hb1⟩;have hSl:(cX B 64).length=64:=dk B 64;generalize hS:cX B 64=S at*;have HS:Hid (cX B 64=S):=hS;have hi85:((aI ql Tryz.prog).info? 108).map (·.size)=some (aH S).toArray.size:=by rw[show(aH S).toArray.size=64 from by simp[bG,hSl]];kernel_rfl
 have hth:(w1.alloc (.cells (TZ 64 (.int .u32 0)).toArray 108)).there w1.heap.size 0 (aH S).toArray.size:=by rw[show(aH S).toArray.size=64 from by simp[bG,hSl]];exact fa _ _ _ _ _ rfl s_
 have Hth:Hid ((w1.alloc (.cells (TZ 64 (.int .u32 0)).toArray 108)).there w1.heap.size 0 (aH S).toArray.size):=hth;have Hb1:Hid (Below _ _ _):=hb1;clear hS hth hb1 hi54
 go_wp2_with (first
  |refine wpList_store_mid rfl 108 (.tmp 5) (.tmp 20) rfl w1.heap.size 0 (aH S).toArray rfl rfl Hth.out hi85 (all_oneCell_toArray (ir S)) ?_)
 refine Nh (λM=>Q4 w M H KS S w1.heap.size) (EW w w1 H KS S B 65 66 108 _ _ rfl rfl hSl hH HK.out h0 Hb1.out) ?_;intro M hMM;have HHm:Hid (Q4 w M H KS S w1.heap.size):=hMM;clear hMM hi85 Hth Hb1;generalize w1.heap.size=c at HHm⊢;clear w1;simp only[VN];obtain⟨s0,hs0⟩:∃s,s=St.of H:=⟨_,rfl⟩;have x0:M.cell? ⟨w.heap.size,0,none⟩=some (.int .u32 s0.a):=by rw[hs0];exact gJ HHm.out.hrow 0 o_
 have x1:M.cell? ⟨w.heap.size,1,none⟩=some (.int .u32 s0.b):=by rw[hs0];exact gJ HHm.out.hrow 1 o_
 have x2:M.cell? ⟨w.heap.size,2,none⟩=some (.int .u32 s0.c):=by rw[hs0];exact gJ HHm.out.hrow 2 o_
 have x3:M.cell? ⟨w.heap.size,3,none⟩=some (.int .u32 s0.d):=by rw[hs0];exact gJ HHm.out.hrow 3 o_
 have x4:M.cell? ⟨w.heap.size,4,none⟩=some (.int .u32 s0.e):=by rw[hs0];exact gJ HHm.out.hrow 4 o_
 have x5:M.cell? ⟨w.heap.size,5,none⟩=some (.int .u32 s0.f):=by rw[hs0];exact gJ HHm.out.hrow 5 o_
 have x6:M.cell? ⟨w.heap.size,6,none⟩=some (.int .u32 s0.g):=by rw[hs0];exact gJ HHm.out.hrow 6 o_
 have x7:M.cell? ⟨w.heap.size,7,none⟩=some (.int .u32 s0.h):=by rw[hs0];exact gJ HHm.out.hrow 7 o_
 have HH:Hid (s0=St.of H):=hs0;have HhH:Hid (H.length=8):=hH;have HhS:Hid (S.length=64):=hSl;clear hs0 hH hSl hB
 go_quiet (fail)
 clear x0 x1 x2 x3 x4 x5 x6 x7
 go_wp2
 go_loopw [6,7,8,9,10,11,12,13,37] (λa b c d e f g h i wr=>∃(k n:Nat),k<=64/\i= .int .i64 k/\a= .int .u32 (dZ KS S H k).a/\b= .int .u32 (dZ KS S H k).b/\c= .int .u32 (dZ KS S H k).c/\d= .int .u32 (dZ KS S H k).d/\
  e= .int .u32 (dZ KS S H k).e/\f= .int .u32 (dZ KS S H k).f/\g= .int .u32 (dZ KS S H k).g/\h= .int .u32 (dZ KS S H k).h/\wr=M.drewN n) (λ_ _ _ _ _ _ _ _ i _=>64-(intOf i).toNat)
 case atStart=>exact⟨0,_,o_,rfl,by rw[HH.out];rfl,by rw[HH.out];rfl,by rw[HH.out];rfl,by rw[HH.out];rfl,by rw[HH.out];rfl,by rw[HH.out];rfl,by rw[HH.out];rfl,by rw[HH.out];rfl,rfl⟩
 case round=>
  obtain⟨k,n,hk,rfl,rfl,rfl,rfl,rfl,rfl,rfl,rfl,rfl,rfl⟩:=hrel;by_cases hlt:k<64
  ·generalize hs:dZ KS S H k=s;have HR:Hid (dZ KS S H k=s):=hs;clear hs;have hlt':(k:Int)<64:=o_;have hk0:(0:Int)<=(k:Int):=o_;have y1:M.cell? ⟨0,k,none⟩=some (.int .u32 (KS.getD k 0)):=gJ HHm.out.krow k (by rw[HKl.out];omega);have y2:M.cell? ⟨c,k,none⟩=some (.int .u32 (S.getD k 0)):=gJ HHm.out.srow k (by rw[HhS.out];omega);generalize hkk:KS.getD k 0=kk at y1;generalize hww:S.getD k 0=ww at y2;have HKK:Hid (KS.getD k 0=kk):=hkk;have HWW:Hid (S.getD k 0=ww):=hww;clear hkk hww
   go_wp2_with fail
   go_quiet ((go_at_call 67;exact(Gp _ _).mono (λ_ _ h=>⟨h.1,_,h.2⟩)))
   clear y1 y2
   go_wp2_with (go_at_call 67;refine(Gq _ _).mono ?_;rintro e w' ⟨rfl,rfl⟩)
   go_roundw
   case rel=>exact⟨k+1,_,o_,by go_num,by rw[dZ,HR.out,HKK.out,HWW.out];exact congrArg (Value.int .u32) (Og s kk ww),by rw[dZ,HR.out,HKK.out,HWW.out];rfl,by rw[dZ,HR.out,HKK.out,HWW.out];rfl,by rw[dZ,HR.out,HKK.out,HWW.out];rfl,by rw[dZ,HR.out,HKK.out,HWW.out];exact congrArg (Value.int .u32) (Of s kk ww),by rw[dZ,HR.out,HKK.out,HWW.out];rfl,by rw[dZ,HR.out,HKK.out,HWW.out];rfl,by rw[dZ,HR.out,HKK.out,HWW.out];rfl,rfl⟩
   case measure=>simp[intOf];omega
  ·have hk64:k=64:=o_;subst hk64;clear hlt hk
   go_wp2
   generalize hG:dZ KS S H 64=G;have HG:Hid (dZ KS S H 64=G):=hG;clear hG;have hgl:WQ #[Value.int .u32 G.a,Value.int .u32 G.b,Value.int .u32 G.c,Value.int .u32 G.d,Value.int .u32 G.e,Value.int .u32 G.f,Value.int .u32 G.g,Value.int .u32 G.h]=WQ (aH G.list).toArray:=rfl
   go_loopw [97] (λi wr=>∃(k:Nat),k<=8/\i= .int .i64 k/\Bw w wr/\wr.rangeAt w.heap.size 0 (aH (i0 H G.list k))/\wr.there w.heap.size 0 8/\wr.there (w.heap.size+1+1) 0 8) (λi _=>8-(intOf i).toNat)
   case atStart=>exact⟨0,o_,rfl,below_drewN HHm.out.below _,by rw[zm H _ HhH.out];exact HHm.out.hrow,HHm.out.hthere,HHm.out.res⟩
   case round=>
    obtain⟨k,hk,rfl,hb,hr,ht,hres⟩:=hrel;by_cases hlt:k<8
    ·have hix:=λW=>Fc (ql:=ql) G.list rfl k hlt W;rw[←hgl]at hix;have hlt':(k:Int)<8:=o_;have hk0:(0:Int)<=(k:Int):=o_;have y0:wr.cell? ⟨w.heap.size,k,none⟩=some (.int .u32 (H.getD k 0)):=(by have:=hr k _ (EY H G.list k hlt);rwa [TL]at this);have yf:wr.frozen? ⟨w.heap.size,k,none⟩=false:=(by have:=(ht k hlt).2;rwa [TL]at this);clear hgl;have Hr:Hid (wr.rangeAt w.heap.size 0 (aH (i0 H G.list k))):=hr;have Ht:Hid (wr.there w.heap.size 0 8):=ht;have Hres:Hid (wr.there (w.heap.size+1+1) 0 8):=hres;clear hr ht hres
     go_wp2
     go_roundw
     case rel=>exact⟨k+1,o_,by go_num,hb.setCell (TB _) _,by rw[←EX H G.list k _ (by rw[VA,TV,TV])];exact EM Hr.out _,vd Ht.out _ _ _,vd Hres.out _ _ _⟩
     case measure=>simp[intOf];omega
    ·have hk8:k=8:=o_;subst hk8;clear hlt hk hgl;have hml:(i0 H G.list 8).length=8:=pI _ _ _;have HL:Hid (qF KS H B=i0 H G.list 8):=(by show qF KS H B=_;rw[qF,Io,HS.out,HG.out]);generalize i0 H G.list 8=L at*;have hi53:((aI ql Tryz.prog).info? 65).map (·.size)=some (aH L).length:=(by rw[bG,hml];kernel_rfl);have Hi53:Hid (((aI ql Tryz.prog).info? 65).map (·.size)=some (aH L).toArray.size):=(by show _=some (aH L).toArray.size;rw[Uq];exact hi53);have Hr:Hid (wr.rangeAt w.heap.size 0 (aH L)):=hr;have Hres':Hid (wr.there (w.heap.size+1+1) 0 (aH L).length):=(by show wr.there _ _ _;rw[bG,hml];exact hres);have Hres:Hid (wr.there (w.heap.size+1+1) 0 (aH L).toArray.size):=(by show wr.there _ _ (aH L).toArray.size;rw[Uq];exact Hres'.out);clear hr ht hres
     go_wp2_with (first
           |refine wpList_load_mid rfl 65 (.tmp 2) rfl w.heap.size 0 rfl (aH L) _ Hr.out Lf.underlying65 rfl hi53 ?_
           |refine wpList_store_mid rfl 65 (.tmp 4) (.tmp 108) rfl (w.heap.size+1+1) 0 (aH L).toArray rfl rfl Hres.out Hi53.out (all_oneCell_toArray (ir L)) ?_)
     exact bodyPost_ret (v:= .agg (aH L).toArray) (ii (p:=4) (ty:=65) k_ _ _ (w.heap.size+1+1) 0 (aH L) _ rfl (UM _ _ _ _ Hres'.out) Lf.underlying65 rfl hi53) rfl ⟨by rw[HL.out],dU o_ _ _ _ _ hb⟩
end
section

open Go.RowKit
theorem Ba(b h:Nat)(f:h<64)(W:World):(UF 66 (.pk b 8) (some (.i (h:Int))) none none).run (aI ql tP) W= .ok (.slice (some ⟨b,8+h,none⟩) (64- h) (64- h)) W:=by
 have c:(aI ql tP).underlying 66=some (.array ((aI ql tP).arrayLen 66) ((aI ql tP).elem 66)):=k_
 have a:(aI ql tP).arrayLen 66=64:=k_
 have e:(aI ql tP).elem 66=5:=k_
 have d:(sizeOf 5).run (aI ql tP) W= .ok 1 W:=k_
 rw[run_sliceAt_array_l W 66 _ c _ _ o_ (by rw[a];omega),a,e,d];simp only[UR,slicedAt];rw[Xc,if_neg o_,Uu,YA]
theorem uX(KS:List Int)(L blk:List UInt8)(s:ByteArray)(w:World)(b:Nat)(hD:eP w b KS L blk L.length)(hK:w.rangeAt 0 0 (aH KS))(hKl:KS.length=64)(hb0:0<b)(hb:b<w.heap.size)
 (hlen:L.length+s.size<=4611686018427387904):
 Calls (aI ql tP) 39 #[.pk b 0, .s s] w λe w'=>e= .returned (.tuple #[])/\w.grownBy w' (some b)/\∃blk',eP w' b KS (L++s.data.toList) blk' (L.length+s.size):=by
 have hc:=hD.length;have hf:w.frozen? ⟨b,72,none⟩=false:=by have:=(hD.there 72 o_).2;rwa [TL]at this
 have HD:Hid (eP w b KS L blk L.length):=hD;have HK:Hid (w.rangeAt 0 0 (aH KS)):=hK;have Hl:Hid (L.length+s.size<=4611686018427387904):=hlen;have h1:(L.length:Int)<=4611686018427387904:=o_
 have h2:(s.size:Int)<=4611686018427387904:=o_
 clear hD hK hlen
 go_enter Lf.func39,Tryz.ntmps39
 go_wp2
 go_loopw [1,4] (λpc hd wr=>∃(q rest blk':List UInt8),s.data.toList=q++rest/\pc= .string ⟨rest.toArray⟩/\hd= .i (((L++q).length%64:Nat):Int)/\eP wr b KS (L++q) blk' (L.length+s.size)/\w.grownBy wr (some b)) (λpc _ _=>oz pc)
 case atStart=>exact⟨[],s.data.toList,blk,rfl,rfl,s_,by rw[Z9];have:=HD.out.setLen (L.length+s.size);simpa using this,og _ _ _ _⟩
 case round=>
  clear hc hf;obtain⟨q,rest,blk',hq,rfl,rfl,hD,hG⟩:=hrel;have HQ:Hid (s.data.toList=q++rest):=hq;have HD':Hid (eP wr b KS (L++q) blk' (L.length+s.size)):=hD;have HG:Hid (w.grownBy wr (some b)):=hG;have hm:(L++q).length%64<64:=o_
  generalize hh:(L++q).length%64=h at hm;have HH:Hid ((L++q).length%64=h):=hh;clear hq hD hG hh;by_cases hr:rest=[]
  ·subst hr
   go_wp2
   go_end0
   exact⟨rfl,HG.out,blk',by rw[HQ.out,Z9];exact HD'.out⟩
  ·have hpos:0<rest.length:=List.length_pos_iff.2 hr;have hsz:(ByteArray.mk rest.toArray).size=rest.length:=(by show rest.toArray.size=_;simp);obtain⟨n,hn⟩:∃n,n=min rest.length (64- h):=⟨_,rfl⟩;have hcp:=wV (P:=(aI ql tP)) wr 62 3 5 Lf.underlying62 k_ 9 b (8+h) (64- h) (64- h) n ⟨rest.toArray⟩ (by rw[hsz];exact hn.symm) (kP HD'.out.there o_ o_);have hn1:n<=rest.length:=o_;have hn2:n<=64- h:=o_;have hn0:0<n:=o_;have Hn:Hid (n=min rest.length (64- h)):=hn;clear hn;have hsl:=λW=>Ba (ql:=ql) b h hm W;by_cases hfull:h+n=64
   ·have hfb:(((h:Int)+(n:Int))==64)=true:=by rw[beq_iff_eq];omega
    go_wp2_with fail
    obtain⟨c1,c2,c3,c4⟩:=HD'.out.copied (rest.take n) (by rw[HH.out];simp;omega);rw[HH.out]at c1 c2 c3 c4;have hWs:(wr.setCells b (8+h) (bH (rest.take n))).heap.size=wr.heap.size:=kq _ _ _ _;obtain⟨W1,hW1⟩:∃W1,W1=wr.setCells b (8+h) (bH (rest.take n)):=⟨_,rfl⟩;rw[←hW1]at c1 c2 c3 c4 hWs⊢;have HW1:Hid (W1=wr.setCells b (8+h) (bH (rest.take n))):=hW1;have hlt:(rest.take n).length=n:=(by simp;omega);have hB':(hY blk' (rest.take n) h).length=64:=gO _ _ _ HD'.out.len o_;have hH':(cW KS (L++q) ((L++q).length/64)).length=8:=dE _ _ _;generalize hBB:hY blk' (rest.take n) h=BB at*;generalize hFF:cW KS (L++q) ((L++q).length/64)=FF at*;have hi53:((aI ql tP).info? 65).map (·.size)=some (aH FF).length:=(by rw[bG,hH'];kernel_rfl);have hi54:((aI ql tP).info? 66).map (·.size)=some (bH BB).length:=(by rw[cz,hB'];kernel_rfl);clear hcp hsl hfb;have hKW:(Vp W1).rangeAt 0 0 (aH KS):=by rw[World.rangeAt_drew,HW1.out];exact World.rangeAt_setCells_apart (yQ HG.out HK.out (by simp;omega)) _ _ _ (Or.inl o_)
    have hgs:=HG.out.size;have hW0:0<(Vp W1).heap.size:=(by show 0<W1.heap.size;omega);have hbW:b<W1.heap.size:=o_;have HKW:Hid ((Vp W1).rangeAt 0 0 (aH KS)):=hKW;have HW0:Hid (0<(Vp W1).heap.size):=hW0;have HWs:Hid (W1.heap.size=wr.heap.size):=hWs;have Hc4:Hid (W1.there b 0 73):=c4;have HBB:Hid (hY blk' (rest.take n) h=BB):=hBB;have HFF:Hid (cW KS (L++q) ((L++q).length/64)=FF):=hFF;clear hKW hW0 hWs c3 c4 hBB hFF hW1 hgs;have hml:(qF KS FF BB).length=8:=mZ _ _ _;have hmx:=EV (ql:=ql) FF KS BB hH' hB' (Vp W1) HKW.out hKl HW0.out;generalize hMM:qF KS FF BB=MM at*;have HMM:Hid (qF KS FF BB=MM):=hMM;have Hmx:Hid (Calls _ _ _ _ _):=hmx;have hms:(aH MM).toArray.size=8:=(by simp[bG,hml]);have Ht53:Hid ((Vp W1).there b 0 (aH MM).toArray.size):=(by show(Vp W1).there b 0 _;rw[hms];exact(World.there_drew _ _ _ _).2 (kP Hc4.out o_ o_));have Hi53:Hid (((aI ql tP).info? 65).map (·.size)=some (aH MM).toArray.size):=(by show _=some (aH MM).toArray.size;rw[hms];kernel_rfl);clear hMM hmx hH' hB' hms;refine wp_region_any k_ ?_
    change wpAny _ _ _ _ _ _ _ (Vp W1)
    refine wT 0 (.pk b 0) ?_;refine wT 1 (.pk b 0) ?_;refine wT 2 (.pk b 0) ?_;refine wT 3 (.pk b 0) ?_;refine wT 5 (.pk b 0) ?_;refine wT 6 (.pk b 0) ?_;refine wT 7 (.pk b 8) ?_;refine wpAny_all (rs:=[4,8]) k_ (Wj _ _) (Mc (YJ (S:=λw'=>w'=Vp W1) (v:= .agg (aH FF).toArray) rfl (yieldsIf_load_mid (by rfl) 65 (.tmp 43) rfl b 0 (by go_simp) (aH FF) _ (λw' hw'=>hw'▸m9 c2) Lf.underlying65 rfl hi53) rfl ?_) (YJ (S:=λw'=>w'=Vp W1) (v:= .agg (bH BB).toArray) rfl (yieldsIf_load_mid (by rfl) 66 (.tmp 47) rfl b 8 (by go_simp) (bH BB) _ (λw' hw'=>hw'▸m9 c1) Lf.underlying66 rfl hi54) rfl ?_))
    ·refine wpAny_all (rs:=[8]) k_ (Wj _ _) (nX (YJ (S:=λw'=>w'=Vp W1) (v:= .agg (bH BB).toArray) rfl (yieldsIf_load_mid (by rfl) 66 (.tmp 47) rfl b 8 (by go_simp) (bH BB) _ (λw' hw'=>hw'▸m9 c1) Lf.underlying66 rfl hi54) rfl ?_));refine wpAny_all (rs:=[9]) k_ (Wj _ _) (nX (uZ rfl rfl 55 #[.agg (aH FF).toArray, .agg (bH BB).toArray] (by go_simp) (.agg (aH MM).toArray) _ Hmx.out λw2 hb2=> ?_));refine wT 10 (.pk b 0) ?_;refine wT 11 (.pk b 0) ?_;have ht2:w2.there b 0 (aH MM).toArray.size:=fw hb2 (show b<(Vp W1).heap.size from hbW) Ht53.out;refine wpAny_all (rs:=[12]) k_ (Wj _ _) (nX (mI (by rfl) (by rfl) 65 (.tmp 51) (.tmp 49) (by rfl) b 0 (aH MM).toArray ?e4 ?e5 ht2 Hi53.out (all_oneCell_toArray (ir MM)) (by rfl) ?e7))
     case e4=>go_simp
     case e5=>go_simp
     case e7=>
      refine wpAny_done k_ ?_ _;have HB2:Hid (Below (Vp W1).heap.size (Vp W1) w2):=hb2;clear hb2 ht2
      go_wp2_with fail
      rw[qk];have hst:oz (.string ⟨(rest.drop n).toArray⟩)<oz (.string ⟨rest.toArray⟩):=by show(rest.drop n).toArray.size<rest.toArray.size;simp;omega
      have hbw:Below wr.heap.size (wr.setCells b (8+(L++q).length%64) (bH (rest.take n))) w2:=by rw[HH.out,←HW1.out];exact(ZL (Xd _ W1)).trans (HB2.out.mono (show wr.heap.size<=W1.heap.size from by rw[HWs.out];exact TB _))
      have hfu:=HD'.out.full (rest.take n) (by rw[HH.out,hlt];exact hfull) hbw (by rw[←HWs.out];exact hbW);rw[HH.out,HFF.out,HBB.out,HMM.out,VT]at hfu;have hmod:(L++(q++rest.take n)).length%64=0:=by have:=HH.out;simp only[UT,hlt]at this⊢;omega
      have hgr:w.grownBy W1 (some b):=(by rw[HW1.out];exact eH HG.out (eB _ _ _ _));exact⟨⟨q++rest.take n,rest.drop n,_,by rw[HQ.out];simp,rfl,by rw[hmod];rfl,hfu,eH hgr (eH (rL ((ZL (Xd _ W1)).trans HB2.out)) (eB _ _ _ _))⟩,hst⟩
    ·refine wpAny_all (rs:=[4]) k_ (Wj _ _) (nX (YJ (S:=λw'=>w'=Vp W1) (v:= .agg (aH FF).toArray) rfl (yieldsIf_load_mid (by rfl) 65 (.tmp 43) rfl b 0 (by go_simp) (aH FF) _ (λw' hw'=>hw'▸m9 c2) Lf.underlying65 rfl hi53) rfl ?_));refine wpAny_all (rs:=[9]) k_ (Wj _ _) (nX (uZ rfl rfl 55 #[.agg (aH FF).toArray, .agg (bH BB).toArray] (by go_simp) (.agg (aH MM).toArray) _ Hmx.out λw2 hb2=> ?_));refine wT 10 (.pk b 0) ?_;refine wT 11 (.pk b 0) ?_;have ht2:w2.there b 0 (aH MM).toArray.size:=fw hb2 (show b<(Vp W1).heap.size from hbW) Ht53.out;refine wpAny_all (rs:=[12]) k_ (Wj _ _) (nX (mI (by rfl) (by rfl) 65 (.tmp 51) (.tmp 49) (by rfl) b 0 (aH MM).toArray ?e4 ?e5 ht2 Hi53.out (all_oneCell_toArray (ir MM)) (by rfl) ?e7))
     case e4=>go_simp
     case e5=>go_simp
     case e7=>
      refine wpAny_done k_ ?_ _;have HB2:Hid (Below (Vp W1).heap.size (Vp W1) w2):=hb2;clear hb2 ht2
      go_wp2_with fail
      rw[qk];have hst:oz (.string ⟨(rest.drop n).toArray⟩)<oz (.string ⟨rest.toArray⟩):=by show(rest.drop n).toArray.size<rest.toArray.size;simp;omega
      have hbw:Below wr.heap.size (wr.setCells b (8+(L++q).length%64) (bH (rest.take n))) w2:=by rw[HH.out,←HW1.out];exact(ZL (Xd _ W1)).trans (HB2.out.mono (show wr.heap.size<=W1.heap.size from by rw[HWs.out];exact TB _))
      have hfu:=HD'.out.full (rest.take n) (by rw[HH.out,hlt];exact hfull) hbw (by rw[←HWs.out];exact hbW);rw[HH.out,HFF.out,HBB.out,HMM.out,VT]at hfu;have hmod:(L++(q++rest.take n)).length%64=0:=by have:=HH.out;simp only[UT,hlt]at this⊢;omega
      have hgr:w.grownBy W1 (some b):=(by rw[HW1.out];exact eH HG.out (eB _ _ _ _));exact⟨⟨q++rest.take n,rest.drop n,_,by rw[HQ.out];simp,rfl,by rw[hmod];rfl,hfu,eH hgr (eH (rL ((ZL (Xd _ W1)).trans HB2.out)) (eB _ _ _ _))⟩,hst⟩
   ·have hfb:(((h:Int)+(n:Int))==64)=false:=by rw[beq_eq_false_iff_ne];omega
    go_wp2_with fail
    rw[qk];have hlt:(rest.take n).length=n:=(by simp;omega);have hst:oz (.string ⟨(rest.drop n).toArray⟩)<oz (.string ⟨rest.toArray⟩):=by show(rest.drop n).toArray.size<rest.toArray.size;simp;omega
    have hmo:=HD'.out.more (rest.take n) (by rw[HH.out,hlt];omega);have hmod:(L++(q++rest.take n)).length%64=h+n:=by have:=HH.out;simp only[UT,hlt]at this⊢;omega
    rw[HH.out,VT]at hmo;exact⟨⟨q++rest.take n,rest.drop n,_,by rw[HQ.out];simp,rfl,by rw[hmod];simp,hmo,eH HG.out (eB _ _ _ _)⟩,hst⟩
end
section

open Go.RowKit
theorem Lf.size57:((aI ql tP).info? 69).map (·.size)=some 73:=k_
theorem L6(w:World):
 Calls (aI ql tP) 38 #[] w λe w'=>e= .returned (.agg ll.toArray)/\Bw w w':=by
 have a:ll.toArray.size=73:=by rw[Uq,fB]
 have f:((aI ql tP).info? 69).map (·.size)=some ll.toArray.size:=by rw[a];exact Lf.size57
 have b:(w.alloc (.cells Tryz.zeroCells69 69)).there w.heap.size 0 ll.toArray.size:=by rw[a];exact fa _ _ _ _ _ rfl k_
 have d:Hid ((w.alloc (.cells Tryz.zeroCells69 69)).there w.heap.size 0 ll.toArray.size):=b;have c:Hid ((w.alloc (.cells Tryz.zeroCells69 69)).there w.heap.size 0 ll.length):=by show World.there _ _ _ ll.length;rw[fB];exact fa _ _ _ _ _ rfl k_
 have g:Hid (((aI ql tP).info? 69).map (·.size)=some ll.toArray.size):=f;clear a f b
 go_enter Lf.func38,Tryz.ntmps38
 go_wp2_with (first
  |refine wpList_buildTo rfl 69 #[(0, .tmp 1)] rfl (some 2) rfl ll.toArray k_ ?_
  |refine wpList_store_mid rfl 69 (.tmp 0) (.tmp 2) rfl w.heap.size 0 ll.toArray rfl rfl d.out g.out (all_oneCell_toArray (zY _ _ _)) ?_)
 exact bodyPost_ret (v:= .agg ll.toArray) (ii (p:=0) (ty:=69) k_ _ _ w.heap.size 0 ll _ rfl (UM _ _ _ _ c.out) Lf.underlying69 rfl (by rw[fB];exact Lf.size57)) rfl ⟨rfl,dU (TB _) _ _ _ _ ((bR).alloc (TB _) _)⟩
end
section

open Go.RowKit
theorem JJ(x:Int)(h:0<=x)(w:World):
 Calls (aI ql tP) 56 #[.int .u64 x] w λe w'=>e= .returned (.string ⟨(cY x.toNat 8).toArray⟩)/\Bw w w':=by obtain⟨n,rfl⟩:=XE h;exact JK n w
theorem JU(KS:List Int)(L blk:List UInt8)(w:World)(hbl:blk.length=64)(htl:blk.take (L.length%64)=L.drop (64*(L.length/64)))(hK:w.rangeAt 0 0 (aH KS))(hKl:KS.length=64)(h0:0<w.heap.size)
 (hlen:L.length<=576460752303423488):
 Calls (aI ql tP) 40 #[.agg (jE (cW KS L (L.length/64)) blk L.length).toArray] w λe w'=>e= .returned (.string ⟨(gV KS L).toArray⟩)/\Bw w w':=by
 have hD:=eP.made w KS L blk L.length 69 hbl htl;generalize jE (cW KS L (L.length/64)) blk L.length=DC at*;have HD:Hid (eP (w.alloc (.cells DC.toArray 69)) w.heap.size KS L blk L.length):=hD;have HK:Hid (w.rangeAt 0 0 (aH KS)):=hK;have Hlen:Hid (L.length<=576460752303423488):=hlen;have hc:=hD.length;have h8:8*(L.length:Int)<=9223372036854775807:=o_
 clear hD hK hbl htl hlen
 go_enter Lf.func40,Tryz.ntmps40
 go_wp2_with fail
 refine(JJ _ o_ _).mono ?_;rintro e w1 ⟨rfl,hb1⟩;rw[show(8*(L.length:Int)).toNat=8*L.length from o_];have hz1:w.heap.size<w1.heap.size:=by have:=hb1.size;simp at this;omega
 have hD1:=HD.out.below hb1 s_;have hc1:=hD1.length;have HD1:Hid (eP w1 w.heap.size KS L blk L.length):=hD1;have Hb1:Hid (Bw w w1):=((bR).alloc (TB _) _).trans (hb1.mono s_);have hos:(ByteArray.mk (cY (8*L.length) 8).toArray).size=8:=by show(cY (8*L.length) 8).toArray.size=8;simp[db]
 generalize hO:cY (8*L.length) 8=O at*;have HO:Hid (cY (8*L.length) 8=O):=hO;clear hD1 hb1 hO hc
 go_wp2_with fail
 obtain⟨c,hcc⟩:∃c:Nat,c=(119- L.length%64)%64:=⟨_,rfl⟩;rw[show((119-(L.length:Int))%64)=(c:Int)from o_];refine(Lf.strings_Repeat (q:=ql) _ c _ o_ (by show 1*c<=_;omega)).mono ?_;rintro e w2 ⟨rfl,hb2⟩;have hz2:w.heap.size<w2.heap.size:=by have:=hb2.size;omega
 have HD2:Hid (eP w2 w.heap.size KS L blk L.length):=HD1.out.below hb2 hz1;have Hb2:Hid (Bw w w2):=Hb1.out.trans (hb2.mono o_);have HC:Hid (c=(119- L.length%64)%64):=hcc;generalize hR:Zp (ByteArray.mk #[0]).data.toList c=R at*;have HR:Hid (Zp (ByteArray.mk #[0]).data.toList c=R):=hR;have hRl:R.length<=64:=by rw[←hR,Lib.repeatL_length];show c*1<=64;omega
 have hO8:O.length=8:=by rw[←HO.out,db]
 clear hb2 hR hcc hc1 hos;have hsd:(ByteArray.mk #[128]++ByteArray.mk R.toArray++ByteArray.mk O.toArray).data.toList=qx L:=by rw[qx,←HC.out,←HR.out,←HO.out];simp
 have hss:(ByteArray.mk #[128]++ByteArray.mk R.toArray++ByteArray.mk O.toArray).size=(qx L).length:=by rw[←hsd,V4];rfl
 have hpl:(qx L).length<=73:=by rw[←hsd];simp;omega
 go_wp2_with fail
 generalize ByteArray.mk #[128]++ByteArray.mk R.toArray++ByteArray.mk O.toArray=sp at*;refine(uX KS L blk sp w2 w.heap.size HD2.out (bB Hb2.out h0 HK.out) hKl h0 hz2 (by have:=Hlen.out;omega)).mono ?_;rintro e w3 ⟨rfl,hg3,blk3,hD3⟩;rw[hsd]at hD3;have HG3:Hid (w2.grownBy w3 (some w.heap.size)):=hg3;have HD3:Hid (eP w3 w.heap.size KS (L++qx L) blk3 (L.length+sp.size)):=hD3;have hz3:w.heap.size<w3.heap.size:=by have:=hg3.size;omega
 have hmk:∀W,(Vx 62 (.i 32) (.i 32)).run (aI ql tP) W= .ok (.sk W.heap.size 32 32) (W.alloc (.cells (madeCells #[.int .u8 0] 32) 5)):=
  λW=>run_make_row' (P:=(aI ql tP)) 62 5 (.int .u8 0) 1 Lf.underlying62 Lf.info5 rfl .i64 .i64 32 o_ o_ W
 clear hg3 hD3 hsd hss hpl
 go_wp2
 have hHl:(cW KS (L++qx L) ((L++qx L).length/64)).length=8:=dE _ _ _;have hwr:=HD3.out.words;generalize hH:cW KS (L++qx L) ((L++qx L).length/64)=H at hHl hwr;have HH:Hid (cW KS (L++qx L) ((L++qx L).length/64)=H):=hH;have Hwr:Hid (w3.rangeAt w.heap.size 0 (aH H)):=hwr;have HHl:Hid (H.length=8):=hHl;clear hH hwr hHl hmk
 go_loopw [7,31] (λ_ i wr=>∃k:Nat,k<=32/\i= .i k/\wr=w3.alloc (.cells (eE H k).toArray 5)) (λ_ i _=>32-(intOf i).toNat)
 case atStart=>exact⟨0,o_,rfl,by rw[fg];rfl⟩
 case round=>
  obtain⟨k,hk,rfl,rfl⟩:=hrel;by_cases hlt:k<32
  ·have hg:=Hj H k hlt;have hln:=za H k hk;have hcw:=λo:Obj=>World.cell?_alloc_past (w:=w3) o w.heap.size (k/4) hz3;have hcv:w3.cell? ⟨w.heap.size,k/4,none⟩=some (.int .u32 (H.getD (k/4) 0)):=gJ Hwr.out (k/4) (by rw[HHl.out];omega);generalize hx:H.getD (k/4) 0=x at hcv;have HX:Hid (H.getD (k/4) 0=x):=hx;clear hx;have b1:(k:Int)/4<8:=o_;have b2:(0:Int)<=(k:Int)/4:=o_;have b3:(0:Int)<=24- 8*((k:Int)%4):=o_;have hx0:Hid (0<=x):=by show 0<=x;rw[←HX.out,←HH.out];exact uH _ _ _ _
   go_wp2
   go_roundw
   case rel=>exact⟨k+1,o_,by go_num,by rw[Hh H k hlt _ (Hg H k x HX.out hx0.out)]⟩
   case measure=>simp[intOf];omega
  ·have hk32:k=32:=o_;subst hk32;clear hlt hk;rw[Hk];have hcv:=run_convert_bytes_back (P:=(aI ql tP)) (w3.alloc (.cells (bH ((U5 32).map (uE H))).toArray 5)) 62 9 5 ⟨w3.heap.size,0,none⟩ 32 ((U5 32).map (uE H)) Lf.underlying62 Lf.underlying5 Lf.underlying9
    (λj hj=>by rw[Uu,Vu _ _ _ _ rfl];simp[bH]at hj⊢;simp[hj])
   rw[show((U5 32).map (uE H)).length=32 from s_]at hcv;generalize hZ:(U5 32).map (uE H)=Z at*;have HZ:Hid (gV KS L=Z):=(by show gV KS L=Z;rw[gV,HH.out,hZ]);clear hZ
   go_wp2
   go_ret
   refine⟨Db HZ.out.symm, ?_⟩;exact(ny Hb2.out HG3.out (TB _)).alloc o_ _
end
section

open Go.RowKit
theorem By(KS:List Int)(ps:List ByteArray)(cap:Nat)(w:World)(b:Nat)(hb:b<w.heap.size)(hcell:∀k (h:k<ps.length),w.cell? ⟨b,k,none⟩=some (.s ps[k]))(hK:w.rangeAt 0 0 (aH KS))(hKl:KS.length=64)
 (hlen:(dQ ps ps.length).length<=576460752303423488) (hn:ps.length<=1152921504606846976):
 Calls (aI ql tP) 28 #[.sk b ps.length cap] w λe w'=>e= .returned (.string ⟨(gV KS (dQ ps ps.length)).toArray⟩)/\Bw w w':=by
 have HK:Hid (w.rangeAt 0 0 (aH KS)):=hK;have Hc:Hid (∀k (h:k<ps.length),w.cell? ⟨b,k,none⟩=some (.s ps[k])):=hcell;have Hlen:Hid ((dQ ps ps.length).length<=576460752303423488):=hlen;have hsz:ll.toArray.size=73:=by rw[Uq,fB]
 have Hi:Hid (((aI ql tP).info? 69).map (·.size)=some ll.toArray.size):=by show _=some ll.toArray.size;rw[hsz];exact Lf.size57
 clear hK hcell hlen
 go_enter Lf.func28,Tryz.ntmps28
 go_wp2_with fail
 refine(L6 _).mono ?_;rintro e w1 ⟨rfl,hb1⟩;have hs1:=hb1.size;have hth:(w1.alloc (.cells Tryz.zeroCells69 69)).there w1.heap.size 0 73:=fa _ _ _ _ _ rfl k_;have hst:=run_storeCells_cells (P:=(aI ql tP)) w1.heap.size 0 ll 0 (w1.alloc (.cells Tryz.zeroCells69 69)) (λj hj=>by rw[fB]at hj;exact(hth j hj).1) (λj hj=>by rw[fB]at hj;exact(hth j hj).2) (zY _ _ _);simp only[Nat.add_zero]at hst;have HD1:Hid (eP ((w1.alloc (.cells Tryz.zeroCells69 69)).setCells w1.heap.size 0 ll) w1.heap.size KS [] (TZ 64 0) 0):=eP.new w1 KS _ _ k_;have Hb1:Hid (Bw w w1):=hb1;clear hb1 hsz hth Hi
 go_wp2
 clear hst
 go_loopw [5,9] (λ_ i wr=>∃(k:Nat) (blk:List UInt8),k<=ps.length/\i= .i k/\eP wr w1.heap.size KS (dQ ps k) blk (dQ ps k).length/\Bw w wr/\w1.heap.size<wr.heap.size) (λ_ i _=>ps.length-(intOf i).toNat)
 case atStart=>exact⟨0,TZ 64 0,W4 _,rfl,HD1.out,dU hs1 _ _ _ _ (Hb1.out.alloc hs1 _),by rw[kq];simp⟩
 case round=>
  obtain⟨k,blk,hk,rfl,hD,hB,hz⟩:=hrel;have HD:Hid (eP wr w1.heap.size KS (dQ ps k) blk (dQ ps k).length):=hD;have HB:Hid (Bw w wr):=hB;clear hD hB HD1;by_cases hlt:k<ps.length
  ·have hcl:wr.cell? ⟨b,k,none⟩=some (.s ps[k]):=(by rw[HB.out.cell (p:=⟨b,k,none⟩) hb];exact Hc.out k hlt);have hlt':(k:Int)<(ps.length:Int):=o_;generalize hp:ps[k]=p at hcl;have HP:Hid (dQ ps (k+1)=dQ ps k++p.data.toList):=(by show dQ ps (k+1)=_;rw[FP ps k hlt,hp]);have hpl:(dQ ps k).length+p.size<=4611686018427387904:=by have h1:=LV ps (k+1);have h2:=HP.out;have h3:=Hlen.out;have h4:p.data.toList.length=p.size:=(by rw[V4];rfl);rw[h2,UT,h4]at h1;omega
   clear hp
   go_wp2_with fail
   refine(uX KS (dQ ps k) blk p wr w1.heap.size HD.out (bB HB.out o_ HK.out) hKl o_ hz hpl).mono ?_;rintro e w4 ⟨rfl,hg4,blk4,hD4⟩;have hz4:w1.heap.size<w4.heap.size:=(by have:=hg4.size;omega);have hB4:Bw w w4:=ny HB.out hg4 hs1;have h4:p.data.toList.length=p.size:=(by rw[V4];rfl);have HD4:Hid (eP w4 w1.heap.size KS (dQ ps (k+1)) blk4 (dQ ps (k+1)).length):=by show eP w4 w1.heap.size KS (dQ ps (k+1)) blk4 (dQ ps (k+1)).length;rw[HP.out,UT,h4];exact hD4
   have HB4:Hid (Bw w w4):=hB4;clear hg4 hD4 hB4 h4 hpl
   go_wp2
   go_roundw
   case rel=>exact⟨k+1,blk4,o_,by go_num,HD4.out,HB4.out,hz4⟩
   case measure=>simp[intOf];omega
  ·have hkl:k=ps.length:=o_;subst hkl;clear hlt hk;have hdl:=zZ KS (dQ ps ps.length) blk (dQ ps ps.length).length ((dQ ps ps.length).length/64) HD.out.len;have hi57:((aI ql tP).info? 69).map (·.size)=some (jE (cW KS (dQ ps ps.length) ((dQ ps ps.length).length/64)) blk (dQ ps ps.length).length).length:=(by rw[hdl];exact Lf.size57);have Hwh:Hid (wr.rangeAt w1.heap.size 0 (jE (cW KS (dQ ps ps.length) ((dQ ps ps.length).length/64)) blk (dQ ps ps.length).length)):=HD.out.whole;have hsum:=JU (ql:=ql) KS (dQ ps ps.length) blk wr HD.out.len HD.out.tail (bB HB.out o_ HK.out) hKl o_ Hlen.out;generalize jE (cW KS (dQ ps ps.length) ((dQ ps ps.length).length/64)) blk (dQ ps ps.length).length=DC at*;have Hsum:Hid (Calls _ _ _ _ _):=hsum;have Hi57:Hid (((aI ql tP).info? 69).map (·.size)=some DC.length):=hi57;clear hsum hdl hi57
   go_wp2_with (refine wpList_load_mid rfl 69 (.tmp 3) rfl w1.heap.size 0 rfl DC _ Hwh.out Lf.underlying69 rfl Hi57.out ?_)
   refine Hsum.out.mono ?_;rintro e w5 ⟨rfl,hb5⟩
   go_wp2
   go_ret
   exact⟨rfl,HB.out.trans (hb5.mono (by have:=HB.out.size;omega))⟩
end
section

open Go Go.Conc Go.RowKit
section
variable{s:dp}{y z:Operand}
theorem ce:xZ (aI ql tP) 3:=λw=>⟨k_,k_⟩
theorem bN:xZ (aI ql tP) 9:=λw=>⟨k_,k_⟩
theorem pD:xZ (aI ql tP) 22:=λw=>⟨k_,k_⟩
theorem rz:xZ (aI ql tP) 25:=λw=>⟨k_,k_⟩
theorem aO{ad:Addr}(d:xZ (aI ql tP) t)(a:o.op= .load t x)(b:ev x= .pointer (some ad))(h:w.cell? ad=some v):Yl (aI ql tP) ev o w v #[⟨.cell ad,false,false⟩]:=by
 obtain⟨c,e⟩:=d w;constructor
 ·simp[execOp,a,b,TN,loadVar,c,h,go_sem]
 ·simp[execOp,a,b,TN,loadVar,c,e,h,go_sem]
theorem kN{ex:Array Value}(e:o.op= .load 149 x)(t:ev x= .pk b 0)(h:w.heap[b]?=some (.cells (s.cells++ex) 149)):Yl (aI ql tP) ev o w (.agg s.cells) (m8 b):=by
 have u:(isAgg 149).run (aI ql tP) w= .ok true w:=k_
 have y:(isAgg 149).events (aI ql tP) w #[]=#[]:=k_
 have a:∀k,k<12->w.cell? ⟨b,k,none⟩=s.cells[k]?:=λk v=>(aG h k).trans (Vv v);have r:w.cell? ⟨b,0,none⟩=some (.s s.tree):=a 0 d_;have q:w.cell? ⟨b,1,none⟩=some (.s s.chains):=a 1 d_;have p:w.cell? ⟨b,2,none⟩=some (.s s.id):=a 2 d_;have n:w.cell? ⟨b,3,none⟩=some (.s s.root):=a 3 d_;have m:w.cell? ⟨b,4,none⟩=some (.i s.height):=a 4 d_;have l:w.cell? ⟨b,5,none⟩=some (.i s.width):=a 5 d_;have j:w.cell? ⟨b,6,none⟩=some (.i s.count):=a 6 d_;have i:w.cell? ⟨b,7,none⟩=some (.i s.shift):=a 7 d_;have g:w.cell? ⟨b,8,none⟩=some (.i s.q):=a 8 d_;have f:w.cell? ⟨b,9,none⟩=some (.s s.salt):=a 9 d_;have d:w.cell? ⟨b,10,none⟩=some (.s s.links):=a 10 d_;have c:w.cell? ⟨b,11,none⟩=some (.s s.path):=a 11 d_;constructor
 ·simp[execOp,e,t,TN,loadVar,u,loadCells,loadCellsFrom,W5,r,q,p,n,m,l,j,i,g,f,d,c,dp.cells,go_sem]
 ·simp[execOp,e,t,TN,loadVar,u,y,loadCells,loadCellsFrom,W5,r,q,p,n,m,l,j,i,g,f,d,c,m8,go_sem]
theorem sO(a:o.op= .fieldAddr 149 x 0)(c:ev x= .pk b k):Yl (aI ql tP) ev o w (.pk b k) #[]:=by
 have e:execOp ev o=(do pure (.value (←TS 149 (.pk b k) 0))):=by simp only[execOp,a,c]
 unfold Yl;rw[e];constructor<;>kernel_rfl
theorem yg(a:o.op= .fieldAddr 145 x 6)(c:ev x= .pk b 0):Yl (aI ql tP) ev o w (.pk b 6) #[]:=by
 have e:execOp ev o=(do pure (.value (←TS 145 (.pk b 0) 6))):=by simp only[execOp,a,c]
 unfold Yl;rw[e];constructor<;>kernel_rfl
theorem Gh(a:o.op= .fieldAddr 149 x 3)(c:ev x= .pk b 0):Yl (aI ql tP) ev o w (.pk b 10) #[]:=by
 have e:execOp ev o=(do pure (.value (←TS 149 (.pk b 0) 3))):=by simp only[execOp,a,c]
 unfold Yl;rw[e];constructor<;>kernel_rfl
theorem di{m n:Int}(a:o.op= .binOp .lss 3 x y u)(c:ev x= .i m)(b:ev y= .i n):Yl (aI ql tP) ev o w (.bool (decide (m<n))) #[]:=by constructor<;>simp[execOp,a,c,b,go_sem]
theorem iY{m n:Int}(a:o.op= .binOp .add 3 x y u)(c:ev x= .i m)(b:ev y= .i n)(h: -9223372036854775808<=m+n/\m+n<9223372036854775808):Yl (aI ql tP) ev o w (.i (m+n)) #[]:=by
 have e:U2.wrap (m+n)=m+n:=by rw[TR];omega
 constructor<;>simp[execOp,a,c,b,go_sem,e]
theorem mH{m n:Int}(a:o.op= .binOp .mul 3 x y u)(c:ev x= .i m)(b:ev y= .i n)(h: -9223372036854775808<=m*n/\m*n<9223372036854775808):Yl (aI ql tP) ev o w (.i (m*n)) #[]:=by
 have e:U2.wrap (m*n)=m*n:=by rw[TR];omega
 constructor<;>simp[execOp,a,c,b,go_sem,e]
theorem qe(a:o.op= .unOp .not t x)(b:ev x= .bool q):Yl (aI ql tP) ev o w (.bool (!q)) #[]:=by constructor<;>simp[execOp,a,b,go_sem,Op.unary]
theorem ft{t:ByteArray}(a:o.op= .slice 9 x (some y) (some z) none)(d:ev x= .s t)(c:ev y= .i m)(b:ev z= .i n)(h:m<=n)(f:n<=t.size):Yl (aI ql tP) ev o w (.s (t.extract m n)) #[]:=by
 have e:(aI ql tP).underlying 9=some .string:=k_
 constructor
 ·simp[execOp,a,d,c,b,UF,VE,UK,run_underlying e,UQ,asIntOf,h,f]
 ·simp[execOp,a,d,c,b,UF,VE,UK,run_underlying e,UQ,asIntOf,h,f,go_sem]
theorem eA{e:TypeId}{a:Addr}{len cap:Nat}(f:(aI ql tP).underlying t=some (.slice e))(h:∀w:World,(sizeOf e).run (aI ql tP) w= .ok 1 w)(b:o.op= .indexAddr t x y)(d:ev x= .slice (some a) len cap)(c:ev y= .i n)(g:n<len):
 Yl (aI ql tP) ev o w (.pointer (some (a.add n))) #[]:=by have i:=h w;constructor<;>simp[execOp,b,d,c,go_sem,f,i,g]
theorem j9(a:o.op= .alloc 3):Mk (aI ql tP) ev o w #[.i 0] 3:=by
 have e:execOp ev o=(do pure (.value (←Uo 3 true (.tuple #[])))):=by simp only[execOp,a]
 unfold Mk;rw[e];constructor<;>kernel_rfl
theorem lm(a:o.op= .alloc 25):Mk (aI ql tP) ev o w #[.slice none 0 0] 25:=by
 have e:execOp ev o=(do pure (.value (←Uo 25 true (.tuple #[])))):=by simp only[execOp,a]
 unfold Mk;rw[e];constructor<;>kernel_rfl
theorem eI{b:Nat}{v0:Value}(hv:v.cells=#[v])(a:v.oneCell'=true)(d:(sizeOf t).run (aI ql tP) w= .ok 1 w)(c:o.op= .store t x y)(i:ev x= .pk b k)(g:ev y=v)(h:w.cell? ⟨b,k,none⟩=some v0)(f:w.frozen? ⟨b,k,none⟩=false):
 (execOp ev o).run (aI ql tP) w= .ok .skip (w.setCell ⟨b,k,none⟩ v)/\(execOp ev o).events (aI ql tP) w #[]=#[⟨.cell ⟨b,k,none⟩,true,false⟩]:=by
 have e:execOp ev o=(do VH t (.pk b k) v;pure .skip):=by simp only[execOp,c,i,g]
 rw[e];simp only[VH,storeVar,hv];constructor
 ·simp[d,storeCells,W5,run_store _ _ _ _ _ a,h,f,go_sem]
 ·simp[d,storeCells,W5,events_store (hv:=a),h,f,go_sem]
end
end
section

open Go.RowKit
theorem Nv(n:Nat)(c:n<9223372036854775808)(w:World):
 Calls (aI ql tP) 134 #[.i n] w λe w'=>e= .returned (.string ⟨(cY n 1).toArray⟩)/\Bw w w':=by
 have b:UV.wrap (n:Int)=n:=by rw[Vz];omega
 go_enter Lf.func134,Tryz.ntmps134
 go_wp2_with (go_at_call 68;refine(pn n 1 _ o_).mono ?_;rintro e w' ⟨rfl,a⟩)
 go_ret
 exact⟨rfl,a⟩
theorem lO(n:Nat)(c:n<9223372036854775808)(w:World):
 Calls (aI ql tP) 64 #[.i n] w λe w'=>e= .returned (.string ⟨(cY n 2).toArray⟩)/\Bw w w':=by
 have b:UV.wrap (n:Int)=n:=by rw[Vz];omega
 go_enter Lf.func64,Tryz.ntmps64
 go_wp2_with (go_at_call 68;refine(pn n 2 _ o_).mono ?_;rintro e w' ⟨rfl,a⟩)
 go_ret
 exact⟨rfl,a⟩
theorem sx(n:Nat)(c:n<9223372036854775808)(w:World):
 Calls (aI ql tP) 102 #[.i n] w λe w'=>e= .returned (.string ⟨(cY n 4).toArray⟩)/\Bw w w':=by
 have b:UV.wrap (n:Int)=n:=by rw[Vz];omega
 go_enter Lf.func102,Tryz.ntmps102
 go_wp2_with (go_at_call 68;refine(pn n 4 _ o_).mono ?_;rintro e w' ⟨rfl,a⟩)
 go_ret
 exact⟨rfl,a⟩
theorem CM(s:dp)(n:Nat)(b:s.width=n)(c:n<=8)(w:World):
 Calls (aI ql tP) 108 #[.agg s.key] w λe w'=>e= .returned (.i (eD n))/\Bw w w':=by
 have a:n=0\/n=1\/n=2\/n=3\/n=4\/n=5\/n=6\/n=7\/n=8:=o_
 unfold dp.key;rw[b];rcases a with rfl|rfl|rfl|rfl|rfl|rfl|rfl|rfl|rfl
 all_goals
  go_enter Lf.func108,Tryz.ntmps108
  go_wp2
  go_ret
  exact⟨by simp[eD],aV w _⟩
end
section

open Go Go.Conc Go.RowKit
theorem Px:Tryz.f114.body=some (.seq (rG Tryz.f114 0) (.seq (rD Tryz.f114 1) (.seq (.seq (rG Tryz.f114 2)
 (.block 0 (.rangeFunc (.tmp 24) #[25] (rG Tryz.f114 3) (.block 1 (rD Tryz.f114 4))))) (.seq (rG Tryz.f114 5) .ret)))):=k_
theorem Ey(a:Array Value)(d:Int)(w:World):
 Calls (aI ql tP) 133 #[.agg a, .i d] w λe w'=>e= .returned (.func (.func 144) #[] #[.pk (w.heap.size+1) 0, .pk w.heap.size 0])/\w'=(w.alloc (.cells a 145)).alloc (.cells #[.i d] 3):=by
 go_enter Lf.func133,Tryz.ntmps133
 go_wp2
 go_ret
 exact⟨s_,rfl⟩
section
variable{s:dp}{y:Operand}
theorem QE(a:o.op= .fieldAddr 145 x 2)(c:ev x= .pk b 0):Yl (aI ql tP) ev o w (.pk b 2) #[]:=by
 have e:execOp ev o=(do pure (.value (←TS 145 (.pk b 0) 2))):=by simp only[execOp,a,c]
 unfold Yl;rw[e];constructor<;>kernel_rfl
theorem Sw(a:o.op= .fieldAddr 149 x 1)(c:ev x= .pk b 0):Yl (aI ql tP) ev o w (.pk b 8) #[]:=by
 have e:execOp ev o=(do pure (.value (←TS 149 (.pk b 0) 1))):=by simp only[execOp,a,c]
 unfold Yl;rw[e];constructor<;>kernel_rfl
theorem ig{cs:Array Value}(c:o.op= .load 145 x)(n:ev x= .pk b 0)(h:w.heap[b]?=some (.cells cs t))(a:∀i,i<8->cs[i]?=s.key[i]?):(execOp ev o).run (aI ql tP) w= .ok (.value (.agg s.key)) w:=by
 have q:(isAgg 145).run (aI ql tP) w= .ok true w:=k_
 have p:=aG h;have m:=a 0 d_;have l:=a 1 d_;have k:=a 2 d_;have j:=a 3 d_;have g:=a 4 d_;have f:=a 5 d_;have e:=a 6 d_;have d:=a 7 d_;simp[dp.key]at m l k j g f e d;simp[execOp,c,n,TN,loadVar,q,loadCells,loadCellsFrom,W5,p,m,l,k,j,g,f,e,d,dp.key,go_sem]
theorem bK{t u:ByteArray}{z:TypeId}(a:o.op= .binOp .add 9 x y z)(c:ev x= .s t)(b:ev y= .s u)(h:t.size+u.size<=9223372036854775807):(execOp ev o).run (aI ql tP) w= .ok (.value (.s (t++u))) w:=by simp[execOp,a,c,b,h,go_sem]
theorem qD(a:o.op= .alloc 9):Mk (aI ql tP) ev o w #[.string ⟨#[]⟩] 9:=by
 have e:execOp ev o=(do pure (.value (←Uo 9 true (.tuple #[])))):=by simp only[execOp,a]
 unfold Mk;rw[e];constructor<;>kernel_rfl
end
end
section

open Go Go.Conc Go.RowKit
theorem T3:DO (bV Tryz.f114 1)=true:=k_
section
variable{s:dp}{d:Int}{k:List Item}
theorem SH{link:ByteArray}(D:CF s i d link)(h4:w.heap[b4]?=some (.cells s.cells 149))(hF:∀p∈Lr b4 b7 i d,a.tmps[p.1]?=some p.2)(hz:33<=a.tmps.size)(a3:a.defers=[])
 (next:∀a' w' b9,aW [(9, .pt b9),(1, .i i),(2, .i d),(4, .pt b4),(7, .pt b7)] 33 [] a'->Bw w w'->w.heap.size<=b9->w'.heap[b9]?=some (.cells #[.s (Ad s i)] 9)->Rn (aI ql tP) Goal ((base 114).atR a' k) cs w'):
 Rn (aI ql tP) Goal ((base 114).atR a (.code (rD Tryz.f114 1)::k)) cs w:=by
 have hq:(s.q.toNat:Int)=s.q:=We D.q.1;have a5:=D.q.2;refine Rn.draw λt=> ?_;have O:Vh (((aI ql tP)).follows .mixedOrders) (bV Tryz.f114 1) t=Uc .any (bV Tryz.f114 1) t:=by unfold Vh;rw[show Zq (bV Tryz.f114 1)=false from k_];simp
 rw[O];refine Rn.ordered (C8 T3) (λf a w'=>g9 (Lr b4 b7 i d) (Er s b4 i) 33 f a/\Bw w w'/\Al w (Ad s i) 9 f a w'/\(f[11]?=some true->∀n,n<11->f[n]?=some true)) (λf a w' M h=> ?_) (λf a w' m o L a4 g hm j h r=> ?_) t a _ ⟨⟨a3,hz,hF,λp H hl=> ?_⟩,jF w,λh=> ?_,λh=> ?_⟩
 ·obtain⟨z,E,I,u⟩:=h;obtain⟨p,K,H,x,N,W⟩:=I (M 10 d_);rw[W (M 11 d_)]at N;refine Rn.p rfl (next a w' p ⟨z.defers,z.size,λe v J=> ?_⟩ E H N);by_cases q9:e=9
  ·subst q9;simp only[TU,beq_self_eq_true,Option.some.injEq]at J;subst J;exact K
  by_cases q1:e=1
  ·subst q1;simp[TU]at J;subst J;exact z.fixed _ (mG (i:=0) rfl)
  by_cases q2:e=2
  ·subst q2;simp[TU]at J;subst J;exact z.fixed _ (mG (i:=1) rfl)
  by_cases q4:e=4
  ·subst q4;simp[TU]at J;subst J;exact z.fixed _ (mG (i:=2) rfl)
  by_cases q7:e=7
  ·subst q7;simp[TU]at J;subst J;exact z.fixed _ (mG (i:=3) rfl)
  simp[TU,show(e==9)=false from by simpa using q9,show(e==1)=false from by simpa using q1,show(e==2)=false from by simpa using q2,show(e==4)=false from by simpa using q4,show(e==7)=false from by simpa using q7]at J
 ·obtain⟨z,E,I,u⟩:=h;have a6:m<12:=(gA g).1;have T:w'.heap[b4]?=some (.cells s.cells 149):=(E.block b4 (gA h4).1).trans h4;have G:w.heap.size<=w'.heap.size:=E.size;have l:∀{m:Nat} {o:Oper} {e:Nat} (v:Value),(m,e,v)∈Er s b4 i->o.dst=some e->(∀y,TD o y=true)->(∀c,o.op≠ .defer c)->(m≠10/\m≠11)->e≠9->(bV Tryz.f114 1)[m]?=some o->(execOp a.eval o).run (aI ql tP) w'= .ok (.value v) w'->
   (∀a' C,g9 (Lr b4 b7 i d) (Er s b4 i) 33 (f.setIfInBounds m true) a'/\Bw w C/\Al w (Ad s i) 9 (f.setIfInBounds m true) a' C/\((f.setIfInBounds m true)[11]?=some true->∀n,n<11->(f.setIfInBounds m true)[n]?=some true)->Rn (aI ql tP) Goal ((base 114).atR a' (.inRegion (bV Tryz.f114 1) L::k)) cs C)->
   Rn (aI ql tP) Goal ((base 114).atR a (.inRegion (bV Tryz.f114 1) (m::L)::k)) cs w':=λ{m o e} v S B A a0 Q a2 g V r=>by refine Rn.ran g (A _) a0 V ?_;rw[B];exact r _ _ ⟨O9 z S,E,I.step Q a2 (bR),nh Q.2 u⟩
  rcases(o_:m=0\/m=1\/m=2\/m=3\/m=4\/m=5\/m=6\/m=7\/m=8\/m=9\/m=10\/m=11)with rfl|rfl|rfl|rfl|rfl|rfl|rfl|rfl|rfl|rfl|rfl|rfl
  ·obtain⟨B,q,A⟩:=cB (d:=some 11) (p:= .fieldAddr 149 (.tmp 4) 0) g k_;refine l (m:=0) _ (mG (i:=0) rfl) B A (by rw[q];simp) d_ d_ g ?_ r;exact(sO q (aB (z.fixed _ (mG (i:=2) rfl)))).1
  ·obtain⟨B,q,A⟩:=cB (d:=some 12) (p:= .fieldAddr 145 (.tmp 11) 2) g k_;refine l (m:=1) _ (mG (i:=1) rfl) B A (by rw[q];simp) d_ d_ g ?_ r;exact(QE q (aB (z.come _ (mG (i:=0) rfl) (cj (n:=1) (k:=0) k_ g j)))).1
  ·obtain⟨B,q,A⟩:=cB (d:=some 13) (p:= .load 9 (.tmp 12)) g k_;refine l (m:=2) _ (mG (i:=2) rfl) B A (by rw[q];simp) d_ d_ g ?_ r;exact(aO bN q (aB (z.come _ (mG (i:=1) rfl) (cj (n:=2) (k:=1) k_ g j))) (by rw[aG T];rfl)).1
  ·obtain⟨B,q,A⟩:=cB (d:=some 14) (p:= .fieldAddr 149 (.tmp 4) 1) g k_;refine l (m:=3) _ (mG (i:=3) rfl) B A (by rw[q];simp) d_ d_ g ?_ r;exact(Sw q (aB (z.fixed _ (mG (i:=2) rfl)))).1
  ·obtain⟨B,q,A⟩:=cB (d:=some 15) (p:= .load 3 (.tmp 14)) g k_;refine l (m:=4) _ (mG (i:=4) rfl) B A (by rw[q];simp) d_ d_ g ?_ r;exact(aO ce q (aB (z.come _ (mG (i:=3) rfl) (cj (n:=4) (k:=3) k_ g j))) (by rw[aG T];show some (Value.i s.q)=_;rw[hq])).1
  ·obtain⟨B,q,A⟩:=cB (d:=some 16) (p:= .call {callee:= .value (.func 102),args:=#[.tmp 15],argTypes:=#[3]}) g k_;have a1:=(aB (z.come _ (mG (i:=4) rfl) (cj (n:=5) (k:=4) k_ g j)));have Z:=bU (w:=w') q (show(#[Ul 15]:Array Operand).map a.eval=#[.i s.q.toNat]from by simp[a1]) (du (P:=(aI ql tP)) Lf.func102 k_ k_ _);refine Rn.call g (A _) (by rw[q];simp) Z.1 (R:=λv C=>v= .string ⟨(cY s.q.toNat 4).toArray⟩/\Bw w' C) ?_ λv C X=> ?_
   ·refine(sx s.q.toNat o_ w').mono ?_;rintro e C ⟨rfl,hb⟩;exact⟨_,rfl,rfl,hb⟩
   ·obtain⟨rfl,F⟩:=X;rw[B];exact r _ _ ⟨O9 z (mG (i:=5) rfl),aE E G F,I.step d_ d_ F,nh d_ u⟩
  ·obtain⟨B,q,A⟩:=cB (d:=some 17) (p:= .binOp .add 9 (.tmp 13) (.tmp 16) 9) g k_;refine l (m:=6) _ (mG (i:=6) rfl) B A (by rw[q];simp) d_ d_ g ?_ r;exact bK q (aB (z.come _ (mG (i:=2) rfl) (cj (n:=6) (k:=2) k_ g j))) (aB (z.come _ (mG (i:=5) rfl) (cj (n:=6) (k:=5) k_ g j))) (by rw[lj];have:=D.id;omega)
  ·obtain⟨B,q,A⟩:=cB (d:=some 18) (p:= .move (.tmp 1)) g k_;refine l (m:=7) _ (mG (i:=7) rfl) B A (by rw[q];simp) d_ d_ g ?_ r;have V:=(cn (ev:=a.eval) (o:=o) (w:=w') (aI ql tP) (.inl q)).1;rw[(aB (z.fixed _ (mG (i:=0) rfl)))]at V;exact V
  ·obtain⟨B,q,A⟩:=cB (d:=some 19) (p:= .call {callee:= .value (.func 64),args:=#[.tmp 18],argTypes:=#[3]}) g k_;have a1:=(aB (z.come _ (mG (i:=7) rfl) (cj (n:=8) (k:=7) k_ g j)));have Z:=bU (w:=w') q (show(#[Ul 18]:Array Operand).map a.eval=#[.i i]from by simp[a1]) (du (P:=(aI ql tP)) Lf.func64 k_ k_ _);refine Rn.call g (A _) (by rw[q];simp) Z.1 (R:=λv C=>v= .string ⟨(cY i 2).toArray⟩/\Bw w' C) ?_ λv C X=> ?_
   ·refine(lO i (by have:=D.i;omega) w').mono ?_;rintro e C ⟨rfl,hb⟩;exact⟨_,rfl,rfl,hb⟩
   ·obtain⟨rfl,F⟩:=X;rw[B];exact r _ _ ⟨O9 z (mG (i:=8) rfl),aE E G F,I.step d_ d_ F,nh d_ u⟩
  ·obtain⟨B,q,A⟩:=cB (d:=some 20) (p:= .binOp .add 9 (.tmp 17) (.tmp 19) 9) g k_;refine l (m:=9) _ (mG (i:=9) rfl) B A (by rw[q];simp) d_ d_ g ?_ r;exact bK q (aB (z.come _ (mG (i:=6) rfl) (cj (n:=9) (k:=6) k_ g j))) (aB (z.come _ (mG (i:=8) rfl) (cj (n:=9) (k:=8) k_ g j))) (by rw[ByteArray.size_append,lj,lj];have:=D.id;omega)
  ·obtain⟨B,q,A⟩:=cB (d:=some 9) (p:= .alloc 9) g k_;refine Rn.ran g (A _) (by rw[q];simp) (qD q).1 ?_;rw[B];refine r _ _ ⟨z.aside (λp H=> ?_) (λp H=> ?_),aE E G (aV w' _),λ_=>⟨w'.heap.size, ?_,G,_,bJ w' _,λU=> ?_⟩,nh d_ u⟩
   ·simp only[Lr,U4,TY,or_false]at H;rcases H with rfl|rfl|rfl|rfl<;>simp
   ·simp only[Er,U4,TY,or_false]at H;rcases H with rfl|rfl|rfl|rfl|rfl|rfl|rfl|rfl|rfl|rfl<;>simp
   ·exact TF (TC d_ z.size)
   ·rw[sN d_]at U;exact absurd (u U 10 d_) (by rw[hm];simp)
  ·obtain⟨B,q,A⟩:=cB (d:=none) (p:= .store 9 (.tmp 9) (.tmp 20)) g k_;obtain⟨p,K,H,x,N,_⟩:=I (cj (n:=11) (k:=10) k_ g j);have Y:=eI (ql:=ql) (w:=w') (b:=p) (k:=0) (v:= .s (Ad s i)) (v0:= .s x) rfl rfl k_ q (aB K) (aB (z.come _ (mG (i:=9) rfl) (cj (n:=11) (k:=9) k_ g j))) (by rw[aG N];rfl) (by unfold Ux;rw[show w'.heap[(⟨p,0,none⟩:Addr).block]?=_ from N];simp);refine Rn.did g (A _) (by rw[q];simp) Y.1 ?_;rw[B];refine r _ _ ⟨z.pass (λp H=> ?_) _,E.trans (ee w' _ _ H),λ_=>⟨p,K,H,_,jn N,λ_=>rfl⟩,λ_ n hn=> ?_⟩
   ·simp only[Er,U4,TY,or_false]at H;rcases H with rfl|rfl|rfl|rfl|rfl|rfl|rfl|rfl|rfl|rfl<;>simp
   ·rw[sN o_];exact uf g j k_ n hn
 ·simp[UC]at hl
 ·simp[UC]at h
 ·simp[UC]at h
end
end
section

open Go Go.Conc Go.RowKit
theorem RG:DO (bV Tryz.f114 4)=true:=k_
theorem EJ{y z:Operand}{t u v:ByteArray}(a:o.op= .buildSlice 25 3 #[(0,x),(1,y),(2,z)])(d:ev x= .s t)(c:ev y= .s u)(b:ev z= .s v):
 (execOp ev o).run (aI ql tP) w= .ok (.value (.sk w.heap.size 3 3)) (w.alloc (.cells #[.s t, .s u, .s v] 9)):=by
 have e:execOp ev o=(do pure (.value (←Uf 25 3 #[(0, .s t),(1, .s u),(2, .s v)]))):=by simp[execOp,a,d,c,b]
 have f:(do pure (.value (←Uf 25 3 #[(0, .s t),(1, .s u),(2, .s v)])):Sem Next).run (aI ql tP) w= .ok (.value (.sk w.heap.size 3 3)) (w.alloc (.cells #[.s t, .s u, .s v] 9)):=k_
 rw[e,f]
section
variable{s:dp}{x:List UInt8}{k:List Item}
theorem SG(a6:KS.length=64)(a9:s.id.size<65536)(hj:j<256)(hx:x.length=32)(hK:w.rangeAt 0 0 (aH KS))(h0:0<w.heap.size)(h7:w.heap[b7]?=some (.cells #[.string ⟨x.toArray⟩] 9))(h9:w.heap[b9]?=some (.cells #[.s (Ad s i)] 9))
 (hF:∀p∈uG b7 b9 j,a.tmps[p.1]?=some p.2) (hz:33<=a.tmps.size) (a4:a.defers=[])
 (next:∀a' w1,Bw w w1->Rn (aI ql tP) Goal ((rb 114 l).atR a' k) cs (w1.setCell ⟨b7,0,none⟩ (.string ⟨(jU KS (jP s i) j x).toArray⟩))):
 Rn (aI ql tP) Goal ((rb 114 l).atR a (.code (rD Tryz.f114 4)::k)) cs w:=by
 refine Rn.draw λt=> ?_;have V:Vh (((aI ql tP)).follows .mixedOrders) (bV Tryz.f114 4) t=Uc .any (bV Tryz.f114 4) t:=by unfold Vh;rw[show Zq (bV Tryz.f114 4)=false from k_];simp
 rw[V];refine Rn.ordered (C8 RG) (λf a g=>g9 (uG b7 b9 j) (po s i j x) 33 f a/\RU w b7 (.string ⟨(jU KS (jP s i) j x).toArray⟩) f g/\A4 #[.s (Ad s i), .string ⟨(cY j 1).toArray⟩, .string ⟨x.toArray⟩] 9 f a g/\A5 (.string ⟨(jU KS (jP s i) j x).toArray⟩) f a/\(f[6]?=some true->∀n,n<6->f[n]?=some true))
  (λf a g Z h=> ?_) (λf a g m o S a0 q hm z h C=> ?_) t a _ ⟨⟨a4,hz,hF,λp A hl=> ?_⟩, .inl ⟨by rfl,jF w⟩,λh=> ?_,λh=> ?_,λh=> ?_⟩
 ·obtain⟨F,O,_⟩:=h;rcases O with⟨J,_⟩|⟨_,w1,a5,rfl⟩
  ·rw[Z 6 d_]at J;cases J
  ·exact Rn.p rfl (next a w1 a5)
 ·obtain⟨F,O,N,M,u⟩:=h;have X:m<7:=(gA q).1;have J:m<7->f[6]?=some false:=λ_=>by
   rcases O with⟨J,_⟩|⟨J,_⟩
   ·exact J
   ·exfalso;by_cases e:m=6
    ·subst e;rw[hm]at J;cases J
    ·have:=u J m o_;rw[hm]at this;cases this
  have D:Bw w g:=by
   rcases O with⟨_,Y⟩|⟨h,_⟩
   ·exact Y
   ·rw[J X]at h;cases h
  have Q:g.heap[b7]?=some (.cells #[.string ⟨x.toArray⟩] 9):=(D.block b7 (gA h7).1).trans h7;have a7:g.heap[b9]?=some (.cells #[.s (Ad s i)] 9):=(D.block b9 (gA h9).1).trans h9;have K:w.heap.size<=g.heap.size:=D.size;have G:∀{m:Nat} {o:Oper} {e:Nat} (v:Value),(m,e,v)∈po s i j x->o.dst=some e->(∀y,TD o y=true)->(∀c,o.op≠ .defer c)->(m≠4/\m≠5/\m≠6)->(e≠30/\e≠31)->(bV Tryz.f114 4)[m]?=some o->(execOp a.eval o).run (aI ql tP) g= .ok (.value v) g->
   (∀a' r,g9 (uG b7 b9 j) (po s i j x) 33 (f.setIfInBounds m true) a'/\RU w b7 (.string ⟨(jU KS (jP s i) j x).toArray⟩) (f.setIfInBounds m true) r/\A4 #[.s (Ad s i), .string ⟨(cY j 1).toArray⟩, .string ⟨x.toArray⟩] 9 (f.setIfInBounds m true) a' r/\A5 (.string ⟨(jU KS (jP s i) j x).toArray⟩) (f.setIfInBounds m true) a'/\((f.setIfInBounds m true)[6]?=some true->∀n,n<6->(f.setIfInBounds m true)[n]?=some true)->
    Rn (aI ql tP) Goal ((rb 114 l).atR a' (.inRegion (bV Tryz.f114 4) S::k)) cs r)->
   Rn (aI ql tP) Goal ((rb 114 l).atR a (.inRegion (bV Tryz.f114 4) (m::S)::k)) cs g:=λ{m o e} v W I H a3 U he q hy C=>by refine Rn.ran q (H _) a3 hy ?_;rw[I];exact C _ _ ⟨MC F W, .inl ⟨by rw[sN U.2.2];exact J X,D⟩,N.step U.1 he.1 (bR),M.step U.2.1 he.2,nh U.2.2 u⟩
  rcases(o_:m=0\/m=1\/m=2\/m=3\/m=4\/m=5\/m=6)with rfl|rfl|rfl|rfl|rfl|rfl|rfl
  ·obtain⟨I,B,H⟩:=cB (d:=some 26) (p:= .load 9 (.tmp 9)) q k_;refine G (m:=0) _ (mG (i:=0) rfl) I H (by rw[B];simp) ⟨d_,d_,d_⟩ ⟨d_,d_⟩ q ?_ C;exact(aO bN B (aB (F.fixed _ (mG (i:=1) rfl))) (by rw[aG a7];rfl)).1
  ·obtain⟨I,B,H⟩:=cB (d:=some 27) (p:= .move (.tmp 10)) q k_;refine G (m:=1) _ (mG (i:=1) rfl) I H (by rw[B];simp) ⟨d_,d_,d_⟩ ⟨d_,d_⟩ q ?_ C;have hy:=(cn (ev:=a.eval) (o:=o) (w:=g) (aI ql tP) (.inl B)).1;rw[(aB (F.fixed _ (mG (i:=2) rfl)))]at hy;exact hy
  ·obtain⟨I,B,H⟩:=cB (d:=some 28) (p:= .call {callee:= .value (.func 134),args:=#[.tmp 27],argTypes:=#[3]}) q k_;have a1:=(aB (F.come _ (mG (i:=1) rfl) (cj (n:=2) (k:=1) k_ q z)));have hr:=bU (w:=g) B (show(#[Ul 27]:Array Operand).map a.eval=#[.i j]from by simp[a1]) (du (P:=(aI ql tP)) Lf.func134 k_ k_ _);refine Rn.call q (H _) (by rw[B];simp) hr.1 (R:=λv r=>v= .string ⟨(cY j 1).toArray⟩/\Bw g r) ?_ λv r hv=> ?_
   ·refine(Nv j o_ g).mono ?_;rintro e r ⟨rfl,Y⟩;exact⟨_,rfl,rfl,Y⟩
   ·obtain⟨rfl,E⟩:=hv;rw[I];exact C _ _ ⟨MC F (mG (i:=2) rfl), .inl ⟨by rw[sN d_];exact J d_,aE D K E⟩,N.step d_ d_ E,M.step d_ d_,nh d_ u⟩
  ·obtain⟨I,B,H⟩:=cB (d:=some 29) (p:= .load 9 (.tmp 7)) q k_;refine G (m:=3) _ (mG (i:=3) rfl) I H (by rw[B];simp) ⟨d_,d_,d_⟩ ⟨d_,d_⟩ q ?_ C;exact(aO bN B (aB (F.fixed _ (mG (i:=0) rfl))) (by rw[aG Q];rfl)).1
  ·obtain⟨I,B,H⟩:=cB (d:=some 30) (p:= .buildSlice 25 3 #[(0, .tmp 26),(1, .tmp 28),(2, .tmp 29)]) q k_;refine Rn.ran q (H _) (by rw[B];simp) (EJ B (aB (F.come _ (mG (i:=0) rfl) (cj (n:=4) (k:=0) k_ q z))) (aB (F.come _ (mG (i:=2) rfl) (cj (n:=4) (k:=2) k_ q z))) (aB (F.come _ (mG (i:=3) rfl) (cj (n:=4) (k:=3) k_ q z)))) ?_;rw[I];refine C _ _ ⟨F.aside (λp A=> ?_) (λp A=> ?_), .inl ⟨by rw[sN d_];exact J d_,aE D K (aV g _)⟩,λ_=>⟨g.heap.size, ?_,bJ g _⟩,M.step d_ d_,nh d_ u⟩
   ·simp only[uG,U4,TY,or_false]at A;rcases A with rfl|rfl|rfl<;>simp
   ·simp only[po,U4,TY,or_false]at A;rcases A with rfl|rfl|rfl|rfl<;>simp
   ·exact TF (TC d_ F.size)
  ·obtain⟨I,B,H⟩:=cB (d:=some 31) (p:= .call {callee:= .value (.func 28),args:=#[.tmp 30],argTypes:=#[25]}) q k_;obtain⟨p,L,A⟩:=N (cj (n:=5) (k:=4) k_ q z);have a1:=aB L;have hr:=bU (w:=g) B (show(#[Ul 30]:Array Operand).map a.eval=#[.sk p 3 3]from by simp[a1]) (du (P:=(aI ql tP)) Lf.func28 k_ k_ _);refine Rn.call q (H _) (by rw[B];simp) hr.1 (R:=λv r=>v= .string ⟨(jU KS (jP s i) j x).toArray⟩/\Bw g r) ?_ λv r hv=> ?_
   ·have T:dQ [Ad s i,⟨(cY j 1).toArray⟩,⟨x.toArray⟩] 3=jP s i++cY j 1++x:=(by simp[dQ,J2]);have a8:(jP s i++cY j 1++x).length<=65600:=by have:s.id.data.toList.length=s.id.size:=s_;simp[jP,db,hx];omega
    refine(By KS [Ad s i,⟨(cY j 1).toArray⟩,⟨x.toArray⟩] 3 g p (gA A).1 (λk hk=> ?_) (bB D h0 hK) a6 (by rw[show[Ad s i,⟨(cY j 1).toArray⟩,(⟨x.toArray⟩:ByteArray)].length=3 from rfl,T];omega) s_).mono ?_
    ·rw[aG A];have h3:k=0\/k=1\/k=2:=(by simp at hk;omega);rcases h3 with rfl|rfl|rfl<;>rfl
    ·rintro e r ⟨rfl,Y⟩;refine⟨_,rfl, ?_,Y⟩;rw[show[Ad s i,⟨(cY j 1).toArray⟩,(⟨x.toArray⟩:ByteArray)].length=3 from rfl,T];rfl
   ·obtain⟨rfl,E⟩:=hv;rw[I];refine C _ _ ⟨F.aside (λp A=> ?_) (λp A=> ?_), .inl ⟨by rw[sN d_];exact J d_,aE D K E⟩,N.step d_ d_ E,λ_=> ?_,nh d_ u⟩
    ·simp only[uG,U4,TY,or_false]at A;rcases A with rfl|rfl|rfl<;>simp
    ·simp only[po,U4,TY,or_false]at A;rcases A with rfl|rfl|rfl|rfl<;>simp
    ·exact TF (TC d_ F.size)
  ·obtain⟨I,B,H⟩:=cB (d:=none) (p:= .store 9 (.tmp 7) (.tmp 31)) q k_;have a2:=eI (ql:=ql) (w:=g) (b:=b7) (k:=0) (v:= .string ⟨(jU KS (jP s i) j x).toArray⟩) (v0:= .string ⟨x.toArray⟩) rfl rfl k_ B (aB (F.fixed _ (mG (i:=0) rfl))) (aB (M (cj (n:=6) (k:=5) k_ q z))) (by rw[aG Q];rfl) (by unfold Ux;rw[show g.heap[(⟨b7,0,none⟩:Addr).block]?=_ from Q];simp);refine Rn.did q (H _) (by rw[B];simp) a2.1 ?_;rw[I];refine C _ _ ⟨F.pass (λp A=> ?_) _, .inr ⟨TF (by rw[a0];decide),g,D,rfl⟩,λh4=> ?_,λh5=> ?_,λ_ n U=> ?_⟩
   ·simp only[po,U4,TY,or_false]at A;rcases A with rfl|rfl|rfl|rfl<;>simp
   ·rw[sN d_]at h4;obtain⟨p,L,A⟩:=N h4;refine⟨p,L,(cA g _ (λe=> ?_)).trans A⟩;have e:p=b7:=e;subst e;rw[Q]at A;cases A
   ·rw[sN d_]at h5;exact M h5
   ·rw[sN o_];exact uf q z k_ n U
 ·simp[UC]at hl
 ·simp[UC]at h
 ·simp[UC]at h
 ·simp[UC]at h
end
end
section

open Go Go.Conc Go.RowKit
theorem M5:Tryz.f144.body=some (.seq (rG Tryz.f144 0) (.block 0 (.loop (mg Tryz.f144)))):=k_
section
variable{s:dp}{k2 ld:Nat}{x:List UInt8}{T:Array Value}{cf:Frame}
theorem Kj(hKl:KS.length=64)(hid:s.id.size<65536)(hK:w0.rangeAt 0 0 (aH KS))(h0:0<w0.heap.size)(hT:aW [(7, .pt b7),(9, .pt b9)] 33 [] ⟨T,[]⟩)(hf:wD b7 b9 k2 l ld w0)(hj:j<256)(hx:x.length=32)
 (hC:Ch s i b7 b9 k2 l ld (Ce Tryz.f114 114 T ld) 9 145 w0 .ready x w)
 (next:∀w',Ch s i b7 b9 k2 l ld (Ce Tryz.f114 114 T ld) 9 145 w0 .ready (jU KS (jP s i) j x) w'->Rn (aI ql tP) Goal (cf.finish (.bool true)) cs w'):
 Rn (aI ql tP) Goal (Vt l 114 (((#[25]:Array Tmp).zip #[.i j]).foldl (λtmps (t,a)=>tmps.setIfInBounds t a) T) (rG Tryz.f114 3) (.block 1 (rD Tryz.f114 4)) .normal) (cf::cs) w:=by
 have hF:=hT.put (d:=25) d_ (.i j);have ez:((#[25]:Array Tmp).zip #[.i j]).foldl (λ(tmps:Array Value) (x:Tmp×Value)=>match x with|(t,a)=>tmps.setIfInBounds t a) T=T.setIfInBounds 25 (.i j):=s_
 rw[ez];show Rn _ Goal ((rb 114 l).atR (VN ⟨T,[]⟩ (some 25) (.i j)) [.code (rG Tryz.f114 3), .beginRound, .code (.block 1 (rD Tryz.f114 4))]) (cf::cs) w;revert hF;generalize VN ⟨T,[]⟩ (some 25) (.i j)=a;intro hF;have m0:=λo (ho:o.op= .assign (.tmp 25))=>(cn (ev:=a.eval) (o:=o) (w:=w) (aI ql tP) (.inr ho)).1;rw[hF.G 25]at m0;refine Rn.r (L:=[0]) rfl (Rn.op hF 10 (.assign (.tmp 25)) d_ k_ s_ m0 λa hF=> ?_);refine Rn.p rfl (Rn.rounds (r:=Ce Tryz.f114 114 T ld .ready) rfl hC.loop rfl ?_);have hC1:=hC.turn hf .busy;have hs1:=hC1.old.size;refine Rn.p rfl (SG (b9:=b9) (s:=s) (i:=i) (x:=x) hKl hid hj hx (bB hC1.old h0 hK) (TC h0 hs1) hC1.seven hC1.nine (λp hp=> ?_) hF.size hF.defers λa' w1 hb1=> ?_)
 ·simp only[uG,U4,TY,or_false]at hp;rcases hp with rfl|rfl|rfl
  ·exact hF.slot 7 _ rfl
  ·exact hF.slot 9 _ rfl
  ·exact hF.slot 10 _ rfl
 have hC2:=(hC1.below hb1).put hf (jU KS (jP s i) j x);exact Rn.p rfl (Rn.through rfl rfl hC2.loop (next _ (hC2.turn hf .ready)))
theorem GA(hKl:KS.length=64)(hid:s.id.size<65536)(hwd:s.width=n)(hn:n<=8)(ht:eD n<=255)(hK:w0.rangeAt 0 0 (aH KS))(h0:0<w0.heap.size)(hT:aW [(7, .pt b7),(9, .pt b9)] 33 [] ⟨T,[]⟩)(hf:wD b7 b9 k2 l ld w0){fin:List UInt8}
 (hend:∀w',Ch s i b7 b9 k2 l ld (Ce Tryz.f114 114 T ld) 9 145 w0 .ready fin w'->Rn (aI ql tP) Goal (cf.finish (.tuple #[])) cs w')
 (j:Nat) (x:List UInt8) (a:Act) (w:World) (hj:j<257) (hx:x.length=32) (hfin:kD KS (jP s i) (eD n- j) j x=fin) (hF:aW [(0, .func (.yield l) #[] #[]),(2, .pt k2),(4, .i j)] 16 [] a)
 (hC:Ch s i b7 b9 k2 l ld (Ce Tryz.f114 114 T ld) 9 145 w0 .ready x w)
 (again:j<eD n->∀a w,aW [(0, .func (.yield l) #[] #[]),(2, .pt k2),(4, .i (j+1:Nat))] 16 [] a->Ch s i b7 b9 k2 l ld (Ce Tryz.f114 114 T ld) 9 145 w0 .ready (jU KS (jP s i) j x) w->
   Rn (aI ql tP) Goal ((base 144).atR a [.code (mg Tryz.f144), .inLoop (mg Tryz.f144), .inBlock 0]) (cf::cs) w):
 Rn (aI ql tP) Goal ((base 144).atR a [.code (mg Tryz.f144), .inLoop (mg Tryz.f144), .inBlock 0]) (cf::cs) w:=by
 refine Rn.p rfl (Rn.p rfl (Rn.r (L:=[0,1,2,3]) rfl ?_));have m1:=λo (ho:o.op= .move (.tmp 4))=>(cn (ev:=a.eval) (o:=o) (w:=w) (aI ql tP) (.inl ho)).1;rw[hF.G 4]at m1;refine Rn.op hF 6 (.move (.tmp 4)) d_ k_ s_ m1 λa hF=> ?_;refine Rn.op hF 7 (.load 145 (.tmp 2)) d_ k_ s_ (λo ho=>ig (s:=s) ho (hF.G 2) hC.key λ_ _=>rfl) λa hF=> ?_;cases ho:(bV Tryz.f144 1)[2]? with
 |none=>exact absurd ho (by simp;decide)
 |some o=>
 obtain⟨e1,e2,e3⟩:=cB (d:=some 8) (p:= .call {callee:= .value (.func 108),args:=#[.tmp 7],argTypes:=#[145]}) ho k_;have hr:=bU (w:=w) e2 (show(#[Ul 7]:Array Operand).map a.eval=#[.agg s.key]from by simp[hF.G 7]) (du (P:=(aI ql tP)) Lf.func108 k_ k_ _);refine Rn.call ho (e3 _) (by rw[e2];simp) hr.1 (R:=λv w'=>v= .i (eD n)/\Bw w w') ((CM s n hwd hn w).mono λe w' h=>⟨_,h.1,rfl,h.2⟩) λv w1 hv=> ?_;obtain⟨rfl,hb1⟩:=hv;rw[e1];have hC:=hC.below hb1;have hF:=hF.put (d:=8) d_ (.i (eD n));revert hF;generalize a.put (some 8) (.i (eD n))=a;intro hF;clear e1 e2 e3 ho hr hb1;refine Rn.op hF 9 (.binOp .lss 3 (.tmp 6) (.tmp 8) 3) d_ k_ s_ (λo ho=>(di ho (hF.G 6) (hF.G 8)).1) λa hF=> ?_;refine Rn.p rfl (Rn.cond (decide ((j:Int)<eD n)) (hF.G 9) ?_);by_cases hlt:j<eD n
 ·have e:decide ((j:Int)<eD n)=true:=decide_eq_true o_;rw[e];refine Rn.p rfl (Rn.p rfl (Rn.p rfl (Rn.p rfl (Rn.r (L:=[0,1,2,3]) rfl ?_))));have m2:=λo (ho:o.op= .move (.tmp 0))=>(cn (ev:=a.eval) (o:=o) (w:=w1) (aI ql tP) (.inl ho)).1;rw[hF.G 0]at m2;refine Rn.op hF 12 (.move (.tmp 0)) d_ k_ s_ m2 λa hF=> ?_;have m3:=λo (ho:o.op= .move (.tmp 4))=>(cn (ev:=a.eval) (o:=o) (w:=w1) (aI ql tP) (.inl ho)).1;rw[hF.G 4]at m3;refine Rn.op hF 13 (.move (.tmp 4)) d_ k_ s_ m3 λa hF=> ?_;cases ho:(bV Tryz.f144 3)[2]? with
  |none=>exact absurd ho (by simp;decide)
  |some o=>
  obtain⟨e1,e2,e3⟩:=cB (d:=some 14) (p:= .call {callee:= .value (.tmp 12),args:=#[.tmp 13],argTypes:=#[3]}) ho k_;refine Rn.yields (args:=#[.i j]) ho (e3 _) (by rw[e2];simp) hC.loop rfl (λw=>jo e2 (hF.G 12) (by simp[hF.G 13]) w) ?_;refine Kj hKl hid hK h0 hT hf o_ hx hC λw2 hC2=> ?_;rw[U7,ho,Ug,e1];have hF:=hF.put (d:=14) d_ (.bool true);revert hF;generalize a.put (some 14) (.bool true)=a;intro hF;clear e1 e2 e3 ho;refine Rn.op hF 15 (.unOp .not 4 (.tmp 14)) d_ k_ s_ (λo ho=>(qe ho (hF.G 14)).1) λa hF=> ?_;refine Rn.p rfl (Rn.cond false (hF.G 15) ?_);refine Rn.p rfl (Rn.p rfl (Rn.r (L:=[0,1,2]) rfl ?_));have m4:=λo (ho:o.op= .move (.tmp 4))=>(cn (ev:=a.eval) (o:=o) (w:=w2) (aI ql tP) (.inl ho)).1;rw[hF.G 4]at m4;refine Rn.op hF 10 (.move (.tmp 4)) d_ k_ s_ m4 λa hF=> ?_;refine Rn.op hF 11 (.binOp .add 3 (.tmp 10) (.const (.i 1)) 3) d_ k_ s_ (λo ho=>(iY (m:=j) (n:=1) ho (hF.G 10) rfl o_).1) λa hF=> ?_;have m5:=λo (ho:o.op= .assign (.tmp 11))=>(cn (ev:=a.eval) (o:=o) (w:=w2) (aI ql tP) (.inr ho)).1;rw[hF.G 11]at m5;refine Rn.op hF 4 (.assign (.tmp 11)) d_ k_ s_ m5 λa hF=> ?_;refine Rn.p rfl (Rn.p rfl (again hlt a w2 ⟨hF.defers,hF.size,λd v hd=> ?_⟩ hC2));have h3:d=0\/d=2\/d=4:=by
   by_cases h0:d=0
   ·exact .inl h0
   ·by_cases h2:d=2
    ·exact .inr (.inl h2)
    ·by_cases h4:d=4
     ·exact .inr (.inr h4)
     ·simp[TU,show(d==0)=false from by simpa using h0,show(d==2)=false from by simpa using h2,show(d==4)=false from by simpa using h4]at hd
  rcases h3 with rfl|rfl|rfl
  ·exact hF.slot 0 v hd
  ·exact hF.slot 2 v hd
  ·refine(hF.slot 4 _ rfl).trans ?_;rw[←hd];simp[TU]
 ·have e:decide ((j:Int)<eD n)=false:=decide_eq_false o_;rw[e];rw[show eD n- j=0 from o_]at hfin;have hfin:x=fin:=hfin;subst hfin;exact Rn.p rfl (Rn.ends rfl (.inl rfl) (Rn.leave (.tuple #[]) rfl hF.defers Lf.func144 (results_none rfl _ _ w1) (events_results_none rfl _ _) (hend w1 hC)))
theorem Oo(hKl:KS.length=64)(hid:s.id.size<65536)(hwd:s.width=n)(hn:n<=8)(hK:w0.rangeAt 0 0 (aH KS))(h0:0<w0.heap.size)(hT:aW [(7, .pt b7),(9, .pt b9)] 33 [] ⟨T,[]⟩)(hf:wD b7 b9 k2 l ld w0){fin:List UInt8}
 (hend:∀w',Ch s i b7 b9 k2 l ld (Ce Tryz.f114 114 T ld) 9 145 w0 .ready fin w'->Rn (aI ql tP) Goal (cf.finish (.tuple #[])) cs w'):
 ∀(fuel j:Nat) (x:List UInt8) (a:Act) (w:World),eD n- j<=fuel->j<257->x.length=32->kD KS (jP s i) (eD n- j) j x=fin->aW [(0, .func (.yield l) #[] #[]),(2, .pt k2),(4, .i j)] 16 [] a->
  Ch s i b7 b9 k2 l ld (Ce Tryz.f114 114 T ld) 9 145 w0 .ready x w->
  Rn (aI ql tP) Goal ((base 144).atR a [.code (mg Tryz.f144), .inLoop (mg Tryz.f144), .inBlock 0]) (cf::cs) w:=by
 have ht:eD n<=255:=by
  unfold eD;have h8:n=0\/n=1\/n=2\/n=3\/n=4\/n=5\/n=6\/n=7\/n=8:=o_
  rcases h8 with rfl|rfl|rfl|rfl|rfl|rfl|rfl|rfl|rfl<;>decide
 intro fuel;induction fuel with
 |zero=>exact λj x a w hfu hj hx hfin hF hC=>GA hKl hid hwd hn ht hK h0 hT hf hend j x a w hj hx hfin hF hC λh=>o_
 |succ fuel ih=>exact λj x a w hfu hj hx hfin hF hC=>GA hKl hid hwd hn ht hK h0 hT hf hend j x a w hj hx hfin hF hC λh a w hF hC=>ih (j+1) _ a w o_ o_ (pp _ _ _ _) (by rw[←Cd _ _ _ _ _ h];exact hfin) hF hC
end
end
section

open Go Go.Conc Go.RowKit
theorem DN(KS:List Int)(s:dp)(i:Nat)(d:Int)(link:ByteArray)(m:CF s i d link)(w:World)(hK:w.rangeAt 0 0 (aH KS))(K:KS.length=64)(h0:0<w.heap.size):
 Calls (aI ql tP) 114 #[.agg s.cells, .i i, .i d, .s link] w λe w'=>e= .returned (.s (lx KS s i d link))/\Bw w w':=by
 obtain⟨n,hn⟩:∃n:Nat,s.width=n:=⟨s.width.toNat,(We m.width.1).symm⟩;obtain⟨j,hj⟩:∃j:Nat,d=j:=⟨d.toNat,(We m.d.1).symm⟩;subst hj;have I:n<=8:=by have:=m.width.2;omega
 have J:j<256:=by have:=m.d.2;omega
 refine bI (t:=8) Lf.func114 rfl λcs=> ?_;rw[show(#[.agg s.cells, .i i, .i j, .s link]:Array Value)=[.agg s.cells, .i i, .i j, .s link].toArray from rfl,aZ (N:=33) _ Lf.func114 Px rfl];have b:=aQ [.agg s.cells, .i i, .i j, .s link] 33 s_;revert b;generalize (Act.mk (([.agg s.cells, .i i, .i j, .s link]:List Value).toArray++TG (33-([.agg s.cells, .i i, .i j, .s link]:List Value).toArray.size) undef) [])=a;intro b;refine Rn.p rfl (Rn.r (L:=[0,1,2]) rfl ?_);have b1:=λ(o:Oper) (q:o.op= .box 149 (.tmp 0))=>(me (ev:=a.eval) (w:=w) (aI ql tP) q).1;rw[b.G 0]at b1;refine Rn.op b 4 (.box 149 (.tmp 0)) d_ k_ s_ b1 λa b=> ?_;have b2:=λ(o:Oper) (q:o.op= .box 9 (.tmp 3))=>(me (ev:=a.eval) (w:=w.alloc (.cells (WQ s.cells).cells 149)) (aI ql tP) q).1;rw[b.G 3]at b2;refine Rn.op b 7 (.box 9 (.tmp 3)) d_ k_ s_ b2 λa b=> ?_;have G:((w.alloc (.cells (WQ s.cells).cells 149)).alloc (.cells (Value.string link).cells 9)).heap[w.heap.size]?=some (.cells s.cells 149):=(cQ _ _ (by rw[aR];omega)).trans (bJ w _);have S:((w.alloc (.cells (WQ s.cells).cells 149)).alloc (.cells (Value.string link).cells 9)).heap[w.heap.size+1]?=some (.cells #[.s link] 9):=by have:=bJ (w.alloc (.cells (WQ s.cells).cells 149)) (.cells (Value.string link).cells 9);rw[aR]at this;exact this
 have O:Bw w ((w.alloc (.cells (WQ s.cells).cells 149)).alloc (.cells (Value.string link).cells 9)):=aE (aV w _) (by rw[aR];omega) (aV _ _);have fs:((w.alloc (.cells (WQ s.cells).cells 149)).alloc (.cells (Value.string link).cells 9)).heap.size=w.heap.size+2:=by rw[aR,aR]
 rw[aR]at b;revert G S O fs;generalize (w.alloc (.cells (WQ s.cells).cells 149)).alloc (.cells (Value.string link).cells 9)=w1;intro G S O fs;refine Rn.op b 8 (.assign (.const (.string ⟨#[]⟩))) d_ k_ s_ (λo q=>(cn (ev:=a.eval) (w:=w1) (aI ql tP) (.inr q)).1) λa b=> ?_;refine Rn.p rfl (Rn.p rfl (SH (s:=s) (i:=i) (d:=j) (b4:=w.heap.size) (b7:=w.heap.size+1) (link:=link) m G (λp hp=> ?_) b.size b.defers λa f b9 b y a1 Q=> ?_))
 ·simp only[Lr,U4,TY,or_false]at hp;rcases hp with rfl|rfl|rfl|rfl
  ·exact b.slot 1 _ rfl
  ·exact b.slot 2 _ rfl
  ·exact b.slot 4 _ rfl
  ·exact b.slot 7 _ rfl
 have g4:=(y.block _ o_).trans G;have g7:=(y.block _ o_).trans S;have gb:=aE O o_ y;have gs:=y.size;refine Rn.p rfl (Rn.p rfl (Rn.r (L:=[0,1,2,3]) rfl ?_));refine Rn.op b 21 (.fieldAddr 149 (.tmp 4) 0) d_ k_ s_ (λo q=>(sO q (b.G 4)).1) λa b=> ?_;refine Rn.op b 22 (.load 145 (.tmp 21)) d_ k_ s_ (λo q=>ig (s:=s) q (b.G 21) g4 (λk hk=> ?_)) λa b=> ?_
 ·have h8:k=0\/k=1\/k=2\/k=3\/k=4\/k=5\/k=6\/k=7:=o_
  rcases h8 with rfl|rfl|rfl|rfl|rfl|rfl|rfl|rfl<;>rfl
 have m1:=λo (q:o.op= .move (.tmp 2))=>(cn (ev:=a.eval) (o:=o) (w:=f) (aI ql tP) (.inl q)).1;rw[b.G 2]at m1;refine Rn.op b 23 (.move (.tmp 2)) d_ k_ s_ m1 λa b=> ?_;cases q:(bV Tryz.f114 2)[3]? with
 |none=>exact absurd q (by simp;decide)
 |some o=>
 obtain⟨e1,U,e3⟩:=cB (d:=some 24) (p:= .call {callee:= .value (.func 133),args:=#[.tmp 22, .tmp 23],argTypes:=#[145,3]}) q k_;have hr:=bU (w:=f) U (show(#[Ul 22, .tmp 23]:Array Operand).map a.eval=#[.agg s.key, .i j]from by simp[b.G 22,b.G 23]) (du (P:=(aI ql tP)) Lf.func133 k_ k_ _);refine Rn.call q (e3 _) (by rw[U];simp) hr.1 (R:=λv w'=>v= .func (.func 144) #[] #[.pk (f.heap.size+1) 0, .pk f.heap.size 0]/\w'=(f.alloc (.cells s.key 145)).alloc (.cells #[.i j] 3)) ((Ey s.key j f).mono λe w' h=>⟨_,h.1,rfl,h.2⟩) λv c hv=> ?_;obtain⟨rfl,r⟩:=hv;rw[e1];have b:=b.put (d:=24) d_ (.func (.func 144) #[] #[.pk (f.heap.size+1) 0, .pk f.heap.size 0]);revert b;generalize a.put (some 24) (.func (.func 144) #[] #[.pk (f.heap.size+1) 0, .pk f.heap.size 0])=a;intro b;clear e1 U e3 q hr;have H:Bw f c:=by rw[r];exact aE (aV f _) (by rw[aR];omega) (aV _ _)
 have ks:c.heap.size=f.heap.size+2:=by rw[r,aR,aR]
 have kk:c.heap[f.heap.size]?=some (.cells s.key 145):=by rw[r];exact(cQ _ _ (by rw[aR];omega)).trans (bJ f _)
 have kd:c.heap[f.heap.size+1]?=some (.cells #[.i j] 3):=by rw[r];have:=bJ (f.alloc (.cells s.key 145)) (.cells #[.i j] 3);rw[aR]at this;exact this
 have k7:=(H.block _ o_).trans g7;have k9:=(H.block _ (gA Q).1).trans Q;have a0:=(gA Q).1;clear r;refine Rn.p rfl (Rn.p rfl ?_);refine Rn.rangeAs (Ce Tryz.f114 114 a.tmps c.heap.size .ready) (args:=[.func (.yield (c.heap.size+1)) #[] #[], .pk (f.heap.size+1) 0, .pk f.heap.size 0].toArray) rfl rfl Lf.func144 k_ k_ (b.G 24) s_ ?_;have u:Bw w (cR c (Ce Tryz.f114 114 a.tmps c.heap.size .ready)):=aE (aE gb o_ H) o_ (fO c _);have M:Ch s i (w.heap.size+1) b9 f.heap.size (c.heap.size+1) c.heap.size (Ce Tryz.f114 114 a.tmps c.heap.size) 9 145 w .ready link.data.toList (cR c (Ce Tryz.f114 114 a.tmps c.heap.size .ready)):=
  ⟨u,(bM c _ o_).trans (by rw[k7]),(bM c _ o_).trans k9,(bM c _ o_).trans kk,eK c _,eL c _⟩
 have B:wD (w.heap.size+1) b9 f.heap.size (c.heap.size+1) c.heap.size w:=⟨⟨o_,o_,o_⟩,⟨o_,o_,o_,o_⟩,⟨o_,o_,o_⟩⟩;have C:(cR c (Ce Tryz.f114 114 a.tmps c.heap.size .ready)).heap[f.heap.size+1]?=some (.cells #[.i j] 3):=(bM c _ o_).trans kd;revert M C u;generalize cR c (Ce Tryz.f114 114 a.tmps c.heap.size .ready)=W;intro u M C;rw[aZ (N:=16) _ Lf.func144 M5 rfl];have z:=aQ [.func (.yield (c.heap.size+1)) #[] #[], .pk (f.heap.size+1) 0, .pk f.heap.size 0] 16 s_;revert z;generalize (Act.mk (([.func (.yield (c.heap.size+1)) #[] #[], .pk (f.heap.size+1) 0, .pk f.heap.size 0]:List Value).toArray++TG (16-([.func (.yield (c.heap.size+1)) #[] #[], .pk (f.heap.size+1) 0, .pk f.heap.size 0]:List Value).toArray.size) undef) [])=g;intro z;refine Rn.p rfl (Rn.r (L:=[0,1]) rfl ?_);refine Rn.op z 5 (.load 3 (.tmp 1)) d_ k_ s_ (λo q=>(aO (v:= .i j) ce q (z.G 1) (by rw[aG C];rfl)).1) λg z=> ?_;have m2:=λo (q:o.op= .assign (.tmp 5))=>(cn (ev:=g.eval) (o:=o) (w:=W) (aI ql tP) (.inr q)).1;rw[z.G 5]at m2;refine Rn.op z 4 (.assign (.tmp 5)) d_ k_ s_ m2 λg z=> ?_;refine Rn.p rfl (Rn.p rfl (Rn.p rfl ?_));have E:link.data.toList.length=32:=by have:=m.link;simpa using this
 refine Oo (s:=s) (i:=i) (KS:=KS) (n:=n) (T:=a.tmps) (l:=c.heap.size+1) (ld:=c.heap.size) (k2:=f.heap.size) (b7:=w.heap.size+1) (b9:=b9) (w0:=w) K m.id hn I hK h0 ⟨rfl,b.size,λe v A=> ?_⟩ B (fin:=kD KS (jP s i) (eD n- j) j link.data.toList) (λV F=> ?_) (eD n- j) j link.data.toList g W (TB _) o_ E rfl (z.sub λe v A=> ?_) M
 ·by_cases Y:e=7
  ·subst Y;exact b.slot 7 v A
  by_cases X:e=9
  ·subst X;exact b.slot 9 v A
  simp[TU,show(e==7)=false from by simpa using Y,show(e==9)=false from by simpa using X]at A
 ·show Rn (aI ql tP) _ ((base 114).atR ⟨a.tmps,{target:= .collected c.heap.size,args:=#[]}::a.defers⟩ (.endRangeFunc (c.heap.size+1)::_)) cs V;refine Rn.rangeOver F.loop rfl rfl ?_;have D:=F.turn B .exhausted;have x:aW ((24, .func (.func 144) #[] #[.pk (f.heap.size+1) 0, .pk f.heap.size 0])::(23, .i j)::(22, .agg s.key)::(21, .pt w.heap.size)::[(9, .pt b9),(1, .i i),(2, .i j),(4, .pt w.heap.size),(7, .pt (w.heap.size+1))]) 33 [{target:= .collected c.heap.size,args:=#[]}] ⟨a.tmps,{target:= .collected c.heap.size,args:=#[]}::a.defers⟩:=⟨by rw[b.defers],b.size,b.slot⟩;revert x;generalize (Act.mk a.tmps ({target:= .collected c.heap.size,args:=#[]}::a.defers))=a2;intro x;refine Rn.p rfl (Rn.p rfl (Rn.r (L:=[0,1]) rfl ?_));refine Rn.op x 32 (.load 9 (.tmp 7)) d_ k_ s_ (λo q=>(aO (v:= .string ⟨(kD KS (jP s i) (eD n- j) j link.data.toList).toArray⟩) bN q (x.G 7) ((aG D.seven 0).trans rfl)).1) λa3 x=> ?_;have m3:=λo (q:o.op= .assign (.tmp 32))=>(cn (ev:=a3.eval) (o:=o) (w:=bP V (c.heap.size+1) (Ce Tryz.f114 114 a.tmps c.heap.size .exhausted)) (aI ql tP) (.inr q)).1;rw[x.G 32]at m3;refine Rn.op x 8 (.assign (.tmp 32)) d_ k_ s_ m3 λa4 x=> ?_;refine Rn.p rfl (Rn.ends rfl (.inr ⟨_,rfl⟩) (Rn.take (ds:=[]) x.defers D.list (Rn.now ⟨⟨a4.tmps,[]⟩,_, .string ⟨(kD KS (jP s i) (eD n- j) j link.data.toList).toArray⟩,rfl,rfl,x.slot 8 _ rfl, ?_,D.old.trans (fG _ _ o_)⟩)));unfold lx;rw[hn,Xc,Xc]
 ·by_cases q0:e=0
  ·subst q0;exact A
  by_cases q2:e=2
  ·subst q2;exact A
  by_cases Z:e=4
  ·subst Z;exact A
  simp[TU,show(e==0)=false from by simpa using q0,show(e==2)=false from by simpa using q2,show(e==4)=false from by simpa using Z]at A
end
end L1
namespace L1
open Go.Conc Go.RowKit
def Mr(P:Program)(ev:Operand->Value)(o:Oper)(w:World):Prop:=∃x w',(execOp ev o).run P w= .halt x w'/\((∃s,x= .stuck s)\/x= .unsupported .addressObserved)
theorem I3(a:o.op=g8 n)(b:ev (.tmp n)= .s s):(execOp ev o).run lT w= .ok (.value (.i s.size)) w:=by
 have c:lT.underlying 9=some .string:=k_
 simp[execOp,a,g8,resolve,b,invoke,builtin,Vy,run_underlying c,goInt]
theorem F8(a:o.op=g8 n)(b:ev (.tmp n)=v):(∃s:ByteArray,v= .s s/\(execOp ev o).run lT w= .ok (.value (.i s.size)) w)\/Mr lT ev o w:=by
 have c:lT.underlying 9=some .string:=k_
 cases v with
 |string s=>exact .inl ⟨s,rfl,by simp[execOp,a,g8,resolve,b,invoke,builtin,Vy,run_underlying c,goInt]⟩
 |_=>exact .inr ⟨_,w,by simp[execOp,a,g8,resolve,b,invoke,builtin,Vy,run_underlying c];rfl, .inl ⟨_,rfl⟩⟩
theorem F0(a:o.op=gw n c)(b:ev (.tmp n)=v)(d:ev (.const (.i c))= .i c):(∃m:Int,v= .i m/\eX ev o w (.bool (decide (m<c))))\/Mr lT ev o w:=by
 cases v with
 |int k m=>
  by_cases e:k= .i64
  ·subst e;exact .inl ⟨m,rfl,(di a b d).1⟩
  ·exact .inr ⟨_,w,by simp[execOp,a,gw,b,d,eqGuard,binOp,e];rfl, .inl ⟨_,rfl⟩⟩
 |pointer p=>exact .inr ⟨.unsupported .addressObserved,w,by simp[execOp,a,gw,b,d,eqGuard,binOp], .inr rfl⟩
 |_=>exact .inr ⟨_,w,by simp[execOp,a,gw,b,d,eqGuard,binOp];rfl, .inl ⟨_,rfl⟩⟩
theorem LU{cs:Array Value}(h:12<=cs.size):∃n m k j i g f e d c b a r,cs=(n::m::k::j::i::g::f::e::d::c::b::a::r:List Value).toArray:=by
 obtain⟨l⟩:=cs
 match l,h with
 |n::m::k::j::i::g::f::e::d::c::b::a::r,_=>exact⟨n,m,k,j,i,g,f,e,d,c,b,a,r,rfl⟩
theorem BR(a:o.op= .field 149 x 4)(b:ev x=v):(∃cs:Array Value,v= .agg cs/\12<=cs.size/\∃u,(execOp ev o).run lT w= .ok (.value u) w)\/Mr lT ev o w:=by
 have k:∃e,lT.underlying 149=some (.struct e)/\∃f,e[4]?=some f/\f.type=9/\f.offset=11:=⟨_,(cq _).trans Tryz.underlying149,_,rfl,rfl,rfl⟩;obtain⟨e,c,f,d,g,i⟩:=k;have j:(isAgg 9).run lT w= .ok false w:=k_
 cases v with
 |agg cs=>
  by_cases h:12<=cs.size
  ·refine .inl ⟨cs,rfl,h,cs[11], ?_⟩;simp[execOp,a,b,Ui,run_underlying c,d,part,asAgg,g,i,j,TH (show 11<cs.size by omega)]
  ·refine .inr ⟨.stuck "part: no such cell",w, ?_, .inl ⟨_,rfl⟩⟩;simp[execOp,a,b,Ui,run_underlying c,d,part,asAgg,g,i,j,Array.getElem?_eq_none (show cs.size<=11 by omega)]
 |_=>exact .inr ⟨_,w,by simp[execOp,a,b,Ui,run_underlying c,d,asAgg];rfl, .inl ⟨_,rfl⟩⟩
section
variable{c0 c1 c2 c3 c4 c5 c6 c7 c8 c9 c10 c11:Value}
theorem fs0(a:o.op= .field 149 x 0)(b:ev x= .agg #[c0,c1,c2,c3,c4,c5,c6,c7,c8,c9,c10,c11]):(execOp ev o).run lT w= .ok (.value (.agg #[c0,c1,c2,c3,c4,c5,c6,c7])) w:=by
 have e:execOp ev o=(do pure (.value (←Ui 149 (.agg #[c0,c1,c2,c3,c4,c5,c6,c7,c8,c9,c10,c11]) 0))):=by simp only[execOp,a,b]
 have c:(do pure (.value (←Ui 149 (.agg #[c0,c1,c2,c3,c4,c5,c6,c7,c8,c9,c10,c11]) 0)):Sem Next).run lT w= .ok (.value (.agg #[c0,c1,c2,c3,c4,c5,c6,c7])) w:=k_
 rw[e,c]
theorem fs1(a:o.op= .field 149 x 1)(b:ev x= .agg #[c0,c1,c2,c3,c4,c5,c6,c7,c8,c9,c10,c11]):(execOp ev o).run lT w= .ok (.value c8) w:=by
 have e:execOp ev o=(do pure (.value (←Ui 149 (.agg #[c0,c1,c2,c3,c4,c5,c6,c7,c8,c9,c10,c11]) 1))):=by simp only[execOp,a,b]
 have c:(do pure (.value (←Ui 149 (.agg #[c0,c1,c2,c3,c4,c5,c6,c7,c8,c9,c10,c11]) 1)):Sem Next).run lT w= .ok (.value c8) w:=k_
 rw[e,c]
theorem fs2(a:o.op= .field 149 x 2)(b:ev x= .agg #[c0,c1,c2,c3,c4,c5,c6,c7,c8,c9,c10,c11]):(execOp ev o).run lT w= .ok (.value c9) w:=by
 have e:execOp ev o=(do pure (.value (←Ui 149 (.agg #[c0,c1,c2,c3,c4,c5,c6,c7,c8,c9,c10,c11]) 2))):=by simp only[execOp,a,b]
 have c:(do pure (.value (←Ui 149 (.agg #[c0,c1,c2,c3,c4,c5,c6,c7,c8,c9,c10,c11]) 2)):Sem Next).run lT w= .ok (.value c9) w:=k_
 rw[e,c]
theorem fs3(a:o.op= .field 149 x 3)(b:ev x= .agg #[c0,c1,c2,c3,c4,c5,c6,c7,c8,c9,c10,c11]):(execOp ev o).run lT w= .ok (.value c10) w:=by
 have e:execOp ev o=(do pure (.value (←Ui 149 (.agg #[c0,c1,c2,c3,c4,c5,c6,c7,c8,c9,c10,c11]) 3))):=by simp only[execOp,a,b]
 have c:(do pure (.value (←Ui 149 (.agg #[c0,c1,c2,c3,c4,c5,c6,c7,c8,c9,c10,c11]) 3)):Sem Next).run lT w= .ok (.value c10) w:=k_
 rw[e,c]
theorem Td(a:o.op= .field 149 x 4)(b:ev x= .agg #[c0,c1,c2,c3,c4,c5,c6,c7,c8,c9,c10,c11]):(execOp ev o).run lT w= .ok (.value c11) w:=by
 have e:execOp ev o=(do pure (.value (←Ui 149 (.agg #[c0,c1,c2,c3,c4,c5,c6,c7,c8,c9,c10,c11]) 4))):=by simp only[execOp,a,b]
 have c:(do pure (.value (←Ui 149 (.agg #[c0,c1,c2,c3,c4,c5,c6,c7,c8,c9,c10,c11]) 4)):Sem Next).run lT w= .ok (.value c11) w:=k_
 rw[e,c]
theorem fk0(a:o.op= .field 145 x 0)(b:ev x= .agg #[c0,c1,c2,c3,c4,c5,c6,c7]):(execOp ev o).run lT w= .ok (.value c0) w:=by
 have e:execOp ev o=(do pure (.value (←Ui 145 (.agg #[c0,c1,c2,c3,c4,c5,c6,c7]) 0))):=by simp only[execOp,a,b]
 have c:(do pure (.value (←Ui 145 (.agg #[c0,c1,c2,c3,c4,c5,c6,c7]) 0)):Sem Next).run lT w= .ok (.value c0) w:=k_
 rw[e,c]
theorem fk1(a:o.op= .field 145 x 1)(b:ev x= .agg #[c0,c1,c2,c3,c4,c5,c6,c7]):(execOp ev o).run lT w= .ok (.value c1) w:=by
 have e:execOp ev o=(do pure (.value (←Ui 145 (.agg #[c0,c1,c2,c3,c4,c5,c6,c7]) 1))):=by simp only[execOp,a,b]
 have c:(do pure (.value (←Ui 145 (.agg #[c0,c1,c2,c3,c4,c5,c6,c7]) 1)):Sem Next).run lT w= .ok (.value c1) w:=k_
 rw[e,c]
theorem fk2(a:o.op= .field 145 x 2)(b:ev x= .agg #[c0,c1,c2,c3,c4,c5,c6,c7]):(execOp ev o).run lT w= .ok (.value c2) w:=by
 have e:execOp ev o=(do pure (.value (←Ui 145 (.agg #[c0,c1,c2,c3,c4,c5,c6,c7]) 2))):=by simp only[execOp,a,b]
 have c:(do pure (.value (←Ui 145 (.agg #[c0,c1,c2,c3,c4,c5,c6,c7]) 2)):Sem Next).run lT w= .ok (.value c2) w:=k_
 rw[e,c]
theorem fk3(a:o.op= .field 145 x 3)(b:ev x= .agg #[c0,c1,c2,c3,c4,c5,c6,c7]):(execOp ev o).run lT w= .ok (.value c3) w:=by
 have e:execOp ev o=(do pure (.value (←Ui 145 (.agg #[c0,c1,c2,c3,c4,c5,c6,c7]) 3))):=by simp only[execOp,a,b]
 have c:(do pure (.value (←Ui 145 (.agg #[c0,c1,c2,c3,c4,c5,c6,c7]) 3)):Sem Next).run lT w= .ok (.value c3) w:=k_
 rw[e,c]
theorem fk4(a:o.op= .field 145 x 4)(b:ev x= .agg #[c0,c1,c2,c3,c4,c5,c6,c7]):(execOp ev o).run lT w= .ok (.value c4) w:=by
 have e:execOp ev o=(do pure (.value (←Ui 145 (.agg #[c0,c1,c2,c3,c4,c5,c6,c7]) 4))):=by simp only[execOp,a,b]
 have c:(do pure (.value (←Ui 145 (.agg #[c0,c1,c2,c3,c4,c5,c6,c7]) 4)):Sem Next).run lT w= .ok (.value c4) w:=k_
 rw[e,c]
theorem fk5(a:o.op= .field 145 x 5)(b:ev x= .agg #[c0,c1,c2,c3,c4,c5,c6,c7]):(execOp ev o).run lT w= .ok (.value c5) w:=by
 have e:execOp ev o=(do pure (.value (←Ui 145 (.agg #[c0,c1,c2,c3,c4,c5,c6,c7]) 5))):=by simp only[execOp,a,b]
 have c:(do pure (.value (←Ui 145 (.agg #[c0,c1,c2,c3,c4,c5,c6,c7]) 5)):Sem Next).run lT w= .ok (.value c5) w:=k_
 rw[e,c]
theorem fk6(a:o.op= .field 145 x 6)(b:ev x= .agg #[c0,c1,c2,c3,c4,c5,c6,c7]):(execOp ev o).run lT w= .ok (.value c6) w:=by
 have e:execOp ev o=(do pure (.value (←Ui 145 (.agg #[c0,c1,c2,c3,c4,c5,c6,c7]) 6))):=by simp only[execOp,a,b]
 have c:(do pure (.value (←Ui 145 (.agg #[c0,c1,c2,c3,c4,c5,c6,c7]) 6)):Sem Next).run lT w= .ok (.value c6) w:=k_
 rw[e,c]
theorem fk7(a:o.op= .field 145 x 7)(b:ev x= .agg #[c0,c1,c2,c3,c4,c5,c6,c7]):(execOp ev o).run lT w= .ok (.value c7) w:=by
 have e:execOp ev o=(do pure (.value (←Ui 145 (.agg #[c0,c1,c2,c3,c4,c5,c6,c7]) 7))):=by simp only[execOp,a,b]
 have c:(do pure (.value (←Ui 145 (.agg #[c0,c1,c2,c3,c4,c5,c6,c7]) 7)):Sem Next).run lT w= .ok (.value c7) w:=k_
 rw[e,c]
theorem I2{r:List Value}(hop:o.op= .load 149 x)(hx:ev x= .pk b 0)(h:w.heap[b]?=some (.cells (c0::c1::c2::c3::c4::c5::c6::c7::c8::c9::c10::c11::r:List Value).toArray 149)):(execOp ev o).run lT w= .ok (.value (.agg #[c0,c1,c2,c3,c4,c5,c6,c7,c8,c9,c10,c11])) w:=by
 have h1:(isAgg 149).run lT w= .ok true w:=k_
 have hc:=aG h;simp[execOp,hop,hx,TN,loadVar,h1,loadCells,loadCellsFrom,W5,hc,go_sem]
end
theorem GD(h:(args++TG k undef)[i]?=some v)(hv:v≠undef):args[i]?=some v:=by
 by_cases a:i<args.size
 ·rwa [Vv a]at h
 ·rw[Array.getElem?_append_right o_,UC]at h;split at h
  ·cases h;exact absurd rfl hv
  ·cases h
section
variable{Stop:Goroutine->World->Prop}(hS:∀g w,Stop g w->g.frame.mode= .returning/\g.callers=[]){Q:Prop}{g0:Goroutine}{b:Frame}{k:List Item}
include hS
theorem oy(j:aW F N ds a)(d x:Nat)(q:d<N)(g:F.lookup x=some v)(h:(ops[m]?).map (λo=>(o.dst,o.op,o.guard))=some (some d,g8 x,none))
 (next:∀s:ByteArray,v= .s s->∀a',aW ((d, .i s.size)::F) N ds a'->Tk lT Stop Q g0 w0 (b.atR a' (.inRegion ops rest::k)) cs w):Tk lT Stop Q g0 w0 (b.atR a (.inRegion ops (m::rest)::k)) cs w:=by
 cases f:ops[m]? with
 |none=>rw[f]at h;simp at h
 |some o=>
  obtain⟨r,n,l⟩:=cB f h;have e:∀c,o.op≠ .defer c:=λc=>by rw[n];simp[g8]
  rcases F8 (w:=w) n (j.get g)with⟨s,p,i⟩|⟨x,t,i,g⟩
  ·refine Tk.ran hS f (l _) e i ?_;rw[r];exact next s p _ (j.put q _)
  ·exact Tk.stuck hS f (l _) e i g
theorem jm(l:aW F N ds a)(d x:Nat)(c:Int)(r:d<N)(g:F.lookup x=some v)(h:(ops[m]?).map (λo=>(o.dst,o.op,o.guard))=some (some d,gw x c,none))
 (next:∀i:Int,v= .i i->∀a',aW ((d, .bool (decide (i<c)))::F) N ds a'->Tk lT Stop Q g0 w0 (b.atR a' (.inRegion ops rest::k)) cs w):Tk lT Stop Q g0 w0 (b.atR a (.inRegion ops (m::rest)::k)) cs w:=by
 cases f:ops[m]? with
 |none=>rw[f]at h;simp at h
 |some o=>
  obtain⟨t,p,n⟩:=cB f h;have e:∀c,o.op≠ .defer c:=λc=>by rw[p];simp[gw]
  rcases F0 (w:=w) p (l.get g) rfl with⟨s,q,j⟩|⟨x,u,j,g⟩
  ·refine Tk.ran hS f (n _) e j ?_;rw[t];exact next s q _ (l.put r _)
  ·exact Tk.stuck hS f (n _) e j g
theorem JQ(l:aW F N ds a)(d x:Nat)(r:d<N)(g:F.lookup x=some v)(h:(ops[m]?).map (λo=>(o.dst,o.op,o.guard))=some (some d, .field 149 (.tmp x) 4,none))
 (next:∀cells:Array Value,v= .agg cells->12<=cells.size->∀a' u,aW ((d,u)::F) N ds a'->Tk lT Stop Q g0 w0 (b.atR a' (.inRegion ops rest::k)) cs w):Tk lT Stop Q g0 w0 (b.atR a (.inRegion ops (m::rest)::k)) cs w:=by
 cases f:ops[m]? with
 |none=>rw[f]at h;simp at h
 |some o=>
  obtain⟨t,p,n⟩:=cB f h;have e:∀c,o.op≠ .defer c:=λc=>by rw[p];simp
  rcases BR (w:=w) p (l.get g)with⟨s,q,j,u,i⟩|⟨x,y,i,g⟩
  ·refine Tk.ran hS f (n _) e i ?_;rw[t];exact next s q j _ u (l.put r _)
  ·exact Tk.stuck hS f (n _) e i g
theorem yo{x:Nat}(d:aW F N ds a)(c:F.lookup x=some (.bool q))(next:q=true→Tk lT Stop Q g0 w0 (b.atR a k) cs w):Tk lT Stop Q g0 w0 (b.atR a (.code (.cond (.tmp x) .skip (.refuse ""))::k)) cs w:=by
 refine Tk.cond hS q (d.get c) ?_;cases q with
 |true=>exact Tk.plain hS rfl (next rfl)
 |false=>exact Tk.refuse hS
theorem ib{x:Nat}(d:aW F N ds a)(c:F.lookup x=some (.bool q))(next:q=false→Tk lT Stop Q g0 w0 (b.atR a k) cs w):Tk lT Stop Q g0 w0 (b.atR a (.code (.cond (.tmp x) (.refuse "") .skip)::k)) cs w:=by
 refine Tk.cond hS q (d.get c) ?_;cases q with
 |false=>exact Tk.plain hS rfl (next rfl)
 |true=>exact Tk.refuse hS
theorem Sy{v0 v1:Value}(c:aW [(0,v0),(1,v1)] 36 [] a)
 (next:∀(s:dp) (ex:List Value) (a':Act),v0= .agg (s.cells++ex.toArray)->1<=s.count->s.count<65537->0<=s.width/\s.width<9->0<=s.q/\s.q<4294967296->s.id.size<65536->aW [(1,v1),(3, .agg s.cells),(10, .i s.count),(13, .string s.links)] 36 [] a'->
   Tk lT Stop Q g0 w0 (b.atR a' (.code (.seq (.region 6 Sz false) (.seq (.cond (.tmp 22) (.refuse "") .skip) (.seq (.cond (.tmp 27) (.refuse "") .skip) (.seq (.cond (.tmp 28) (.refuse "") .skip) (.seq (.region 1 SB false) (.seq (.block 0 (.loop oE)) (.seq (.region 5 SA false) .ret)))))))::k)) cs (w.alloc (.cells (s.cells++ex.toArray) 149))):
 Tk lT Stop Q g0 w0 (b.atR a (.code mK::k)) cs w:=by
 refine Tk.plain hS rfl (Tk.region hS (L:=[0,1,2,3,4,5,6,7,8,9,10,11,12,13,14,15,16,17,18,19,20,21,22,23,24,25,26,27,28,29,30,31]) rfl ?_);refine JQ hS c 6 0 d_ rfl rfl λZ f S a u c=> ?_;obtain⟨c0,c1,c2,c3,c4,c5,c6,c7,c8,c9,C,B,r,rfl⟩:=LU S;refine Tk.op hS c 2 (.box 149 (.tmp 0)) d_ rfl s_ (v:= .pk w.heap.size 0) (w':=w.alloc (.cells (c0::c1::c2::c3::c4::c5::c6::c7::c8::c9::C::B::r:List Value).toArray 149)) (λo e=> ?_) λa c=> ?_
 ·have h:=(me lT (w:=w) (ev:=a.eval) e).1;rw[c.G 0,f]at h;exact h
 have R:=bJ w (.cells (c0::c1::c2::c3::c4::c5::c6::c7::c8::c9::C::B::r:List Value).toArray 149);refine Tk.op hS c 3 (.load 149 (.tmp 2)) d_ rfl s_ (λo e=>I2 e (c.G 2) R) λa c=>Tk.op hS c 5 (.field 149 (.tmp 3) 0) d_ rfl s_ (λo e=>fs0 e (c.G 3)) λa c=>Tk.op hS c 6 (.field 145 (.tmp 5) 0) d_ rfl s_ (λo e=>fk0 e (c.G 5)) λa c=>oy hS c 7 6 d_ rfl rfl λH e0 a c=> ?_;subst e0;refine Tk.op hS c 6 (.field 145 (.tmp 5) 1) d_ rfl s_ (λo e=>fk1 e (c.G 5)) λa c=>oy hS c 7 6 d_ rfl rfl λG e1 a c=> ?_;subst e1;refine Tk.op hS c 8 (.field 145 (.tmp 5) 2) d_ rfl s_ (λo e=>fk2 e (c.G 5)) λa c=>oy hS c 9 8 d_ rfl rfl λD e2 a c=> ?_;subst e2;refine Tk.op hS c 6 (.field 145 (.tmp 5) 3) d_ rfl s_ (λo e=>fk3 e (c.G 5)) λa c=>oy hS c 7 6 d_ rfl rfl λF e3 a c=> ?_;subst e3;refine Tk.op hS c 6 (.field 145 (.tmp 5) 4) d_ rfl s_ (λo e=>fk4 e (c.G 5)) λa c=>jm hS c 7 6 0 d_ rfl rfl λP e4 a c=> ?_;subst e4;refine Tk.op hS c 11 (.field 145 (.tmp 5) 5) d_ rfl s_ (λo e=>fk5 e (c.G 5)) λa c=>jm hS c 16 11 0 d_ rfl rfl λO e5 a c=> ?_;subst e5;refine Tk.op hS c 10 (.field 145 (.tmp 5) 6) d_ rfl s_ (λo e=>fk6 e (c.G 5)) λa c=>jm hS c 15 10 65537 d_ rfl rfl λi6 e6 a c=> ?_;subst e6;refine Tk.op hS c 6 (.field 145 (.tmp 5) 7) d_ rfl s_ (λo e=>fk7 e (c.G 5)) λa c=>jm hS c 7 6 0 d_ rfl rfl λN e7 a c=> ?_;subst e7;refine Tk.op hS c 12 (.field 149 (.tmp 3) 1) d_ rfl s_ (λo e=>fs1 e (c.G 3)) λa c=>jm hS c 18 12 0 d_ rfl rfl λM e8 a c=> ?_;subst e8;refine Tk.op hS c 6 (.field 149 (.tmp 3) 2) d_ rfl s_ (λo e=>fs2 e (c.G 3)) λa c=>oy hS c 7 6 d_ rfl rfl λE e9 a c=> ?_;subst e9;refine Tk.op hS c 13 (.field 149 (.tmp 3) 3) d_ rfl s_ (λo e=>fs3 e (c.G 3)) λa c=>oy hS c 7 13 d_ rfl rfl λj Y a c=> ?_;subst Y;refine Tk.op hS c 6 (.field 149 (.tmp 3) 4) d_ rfl s_ (λo e=>Td e (c.G 3)) λa c=>oy hS c 7 6 d_ rfl rfl λi X a c=> ?_;subst X;refine jm hS c 14 10 1 d_ rfl rfl λa3 W a c=> ?_;cases W;refine jm hS c 17 11 9 d_ rfl rfl λa2 V a c=> ?_;cases V;refine jm hS c 19 12 4294967296 d_ rfl rfl λa1 U a c=> ?_;cases U;refine jm hS c 20 9 65536 d_ rfl rfl λa0 T a c=> ?_;cases T;refine Tk.plain hS rfl (Tk.plain hS rfl ?_);refine ib hS c (x:=14) rfl λK=>Tk.plain hS rfl ?_;refine yo hS c (x:=15) rfl λJ=>Tk.plain hS rfl ?_;refine ib hS c (x:=16) rfl λq=>Tk.plain hS rfl ?_;refine yo hS c (x:=17) rfl λp=>Tk.plain hS rfl ?_;refine ib hS c (x:=18) rfl λm=>Tk.plain hS rfl ?_;refine yo hS c (x:=19) rfl λl=>Tk.plain hS rfl ?_;refine yo hS c (x:=20) rfl λI=> ?_;simp only[decide_eq_true_eq,decide_eq_false_iff_not,ac1]at K J q p m l I;obtain⟨n,hn⟩:∃n:Nat,i6=n:=⟨i6.toNat,(We o_).symm⟩;subst hn;have z:(dp.mk H G D F P O n N M E j i).cells++r.toArray=(.string H:: .string G:: .string D:: .string F:: .i P:: .i O:: .i n:: .i N:: .i M:: .string E:: .string j:: .string i::r:List Value).toArray:=by simp[dp.cells]
 have g:=next ⟨H,G,D,F,P,O,n,N,M,E,j,i⟩ r a (f.trans (by rw[z])) (by show 1<=n;omega) (by show n<65537;omega) ⟨q,p⟩ ⟨m,l⟩ (by show D.size<65536;omega)
 rw[z]at g;refine g ?_;refine c.sub λd v A=> ?_;by_cases q1:d=1
 ·subst q1;exact A
 by_cases q3:d=3
 ·subst q3;exact A
 by_cases y:d=10
 ·subst y;exact A
 by_cases t:d=13
 ·subst t;exact A
 simp[TU,show(d==1)=false from by simpa using q1,show(d==3)=false from by simpa using q3,show(d==10)=false from by simpa using y,show(d==13)=false from by simpa using t]at A
end
section
variable{y:Operand}
theorem BP(c:o.op= .call {callee:= .builtin .len,args:=#[.tmp 1],argTypes:=#[22]})(d:ev (.tmp 1)=v):(∃a b cap,v= .slice a b cap/\(execOp ev o).run lT w= .ok (.value (.i (b:Nat))) w)\/Mr lT ev o w:=by
 have e:lT.underlying 22=some (.slice 3):=k_
 cases v with
 |slice a b cap=>exact .inl ⟨a,b,cap,rfl,by simp[execOp,c,resolve,d,invoke,builtin,Vy,run_underlying e,goInt]⟩
 |_=>exact .inr ⟨_,w,by simp[execOp,c,resolve,d,invoke,builtin,Vy,run_underlying e];rfl, .inl ⟨_,rfl⟩⟩
theorem Lh{a:Option Addr}{b cap:Nat}(c:o.op= .call {callee:= .builtin .len,args:=#[.tmp 1],argTypes:=#[22]})(d:ev (.tmp 1)= .slice a b cap):(execOp ev o).run lT w= .ok (.value (.i (b:Nat))) w:=by
 have e:lT.underlying 22=some (.slice 3):=k_
 simp[execOp,c,resolve,d,invoke,builtin,Vy,run_underlying e,goInt]
theorem zP{p:Option Addr}{c:Nat}(b:o.op= .binOp .eql 22 (.tmp 1) (.const (.slice none 0 0)) 22)(f:ev (.tmp 1)= .slice p l c)(d:ev (.const (.slice none 0 0))= .slice none 0 0):(execOp ev o).run lT w= .ok (.value (.bool p.isNone)) w:=by
 have e:execOp ev o=(do pure (.value (←(do eqGuard .eql 22 (.tmp 1) (.const (.slice none 0 0)) (.slice p l c) (.slice none 0 0);binOp .eql 22 (.slice p l c) (.slice none 0 0))))):=by simp only[execOp,b,f,d]
 have h:(do pure (.value (←(do eqGuard .eql 22 (.tmp 1) (.const (.slice none 0 0)) (.slice none l c) (.slice none 0 0);binOp .eql 22 (.slice none l c) (.slice none 0 0)))):Sem Next).run lT w= .ok (.value (.bool true)) w:=k_
 have g (a:Addr):(do pure (.value (←(do eqGuard .eql 22 (.tmp 1) (.const (.slice none 0 0)) (.slice (some a) l c) (.slice none 0 0);binOp .eql 22 (.slice (some a) l c) (.slice none 0 0)))):Sem Next).run lT w= .ok (.value (.bool false)) w:=k_
 rw[e];cases p with
 |none=>exact h
 |some a=>exact g a
theorem BV{len cap:Nat}{a:Addr}(b:o.op= .indexAddr 22 x y)(d:ev x= .slice (some a) len cap)(c:ev y= .i n)(h:n<len):eX ev o w (.pointer (some (a.add n))):=
 (eA (w:=w) (k_:lT.underlying 22=some (.slice 3)) (λw=>k_) b d c h).1
theorem F6{a:Addr}{u:Value}(h:(TN 3 (.pointer (some a))).run lT w= .ok u w'):w'=w:=by
 have b:(isAgg 3).run lT w= .ok false w:=k_
 simp only[TN,V2,loadVar,pure_bind,Uz,b,UR]at h;simp only[TK,↓reduceIte]at h;unfold load at h;rw[Ub]at h;split at h
 ·cases h;rfl
 ·split at h
  ·cases h;rfl
  ·cases h
theorem Lg{a:Addr}{v:Value}(h:(TN 3 (.pointer (some a))).run lT w= .halt (.panic v) w'):False:=by
 have c:(isAgg 3).run lT w= .ok false w:=k_
 simp only[TN,V2,loadVar,pure_bind,Uz,c,UR]at h;simp only[TK,↓reduceIte]at h;unfold load at h;rw[Ub]at h;split at h
 ·cases h
 ·split at h
  ·cases h
  ·rename_i b;simp only[Result.halt.injEq]at h;exact oN b _ h.1
theorem BN{a:Addr}(f:bE w)(c:o.op= .load 3 x)(d:ev x= .pointer (some a)):(∃u,(TN 3 (.pointer (some a))).run lT w= .ok u w/\(execOp ev o).run lT w= .ok (.value u) w)\/∃h w',(execOp ev o).run lT w= .halt h w'/\eO h:=by
 have e:execOp ev o=(do pure (.value (←TN 3 (.pointer (some a))))):=by simp only[execOp,c,d]
 rw[e];cases b:(TN 3 (.pointer (some a))).run lT w with
 |ok u w'=>
  obtain rfl:=F6 b;exact .inl ⟨u,rfl,by simp[b]⟩
 |halt h w'=>
  refine .inr ⟨h,w',by simp[b],(dC (gy (ρ:=id) pr.same 3 (.pointer (some a))) w f h w' b).resolve_right λ⟨v,e⟩=>Lg (by rw[b,e])⟩
theorem Dr(g:0<n)(k:n<=65536)(a:o.op= .makeSlice 25 x y)(e:ev x= .i n)(d:ev y= .i n):
 (execOp ev o).run lT w= .ok (.value (.sk w.heap.size n n)) (w.alloc (.cells (TG n (.string ⟨#[]⟩)) 9)):=by
 have f:lT.underlying 25=some (.slice 9):=k_
 have b:U2.wrap (n:Int)=n:=by rw[TR];omega
 have h:Tryz.t9.bytes=16:=k_
 have c:¬(281474976710656<16*(n:Int)):=o_
 have j:¬n=0:=o_
 simp[execOp,a,e,d,Vx,run_underlying f,b,c,askRoom,newRow,h,j,go_sem];refine congrArg (λz=>Yf (ZF (Value.sk w.heap.size n n)) (w.alloc (Xm z 9))) (WI s_ λi m l=> ?_);simp[Zl]
end
def wH(KS:List Int)(s:dp)(dig:Nat->Int)(c:Nat):Value:= .string (lx KS s c (dig c) (s.links.extract (c*32) ((c+1)*32)))
def mD(KS:List Int)(s:dp)(dig:Nat->Int)(n i:Nat):Array Value:=WX λc:Fin n=>if c.val<i then wH KS s dig c.val else .string ⟨#[]⟩
def Tg(v1:Value)(wE:World)(dig:Nat->Int)(c:Nat):Prop:=∃ga glen gcap,v1= .slice (some ga) glen gcap/\c<glen/\(0<=dig c/\dig c<256)/\∃wc,Bw wE wc/\(TN 3 (.pointer (some (ga.add c)))).run (aI true Tryz.prog) wc= .ok (.int .i64 (dig c)) wc
theorem Ae(KS:List Int)(s:dp)(dig:Nat->Int)(n:Nat):mD KS s dig n 0=TG n (.string ⟨#[]⟩):=by
 apply WI
 ·simp[mD]
 ·intro i b a;simp[mD]
theorem Ag(KS:List Int)(s:dp)(dig:Nat->Int)(n:Nat):mD KS s dig n n=WX λc:Fin n=>wH KS s dig c.val:=by
 apply WI
 ·simp[mD]
 ·intro i b a;simp[mD]
theorem Af{s:dp}{dig dig':Nat->Int}(h:∀c,c<i->dig' c=dig c):(mD KS s dig n i).setIfInBounds i (wH KS s dig' i)=mD KS s dig' n (i+1):=by
 apply WI
 ·simp[mD]
 ·intro j f d;have b:j<n:=by simpa[mD]using d
  rw[Array.getElem_setIfInBounds (by simpa[mD]using b)];simp only[mD,Array.getElem_ofFn];by_cases e:i=j
  ·subst e;simp
  ·rw[if_neg e];by_cases a:j<i
   ·rw[if_pos a,if_pos o_];unfold wH;rw[h j a]
   ·rw[if_neg a,if_neg o_]
theorem kU{cs:Array Value}(h:w.heap[b]?=some (.cells cs t)):(w.setCell ⟨b,i,none⟩ v).heap[b]?=some (.cells (cs.setIfInBounds i v) t):=by simp only[U9];rw[Array.getElem?_modify,h];simp
theorem Ti(c:0<w.heap.size)(b:Bw w w')(h:w.rangeAt 0 0 (aH KS)):w'.rangeAt 0 0 (aH KS):=λj v a=>by have:=h j v a;unfold U6 at this⊢;rw[b.block 0 c];exact this
section
variable{Stop:Goroutine->World->Prop}(hstop:∀g w,Stop g w->∀τ d,∃o w1 es,stepG (aI true Tryz.prog) true g (kM w τ d)= .ended o w1 es)(hS:∀g w,Stop g w->g.frame.mode= .returning/\g.callers=[]){Q:Prop}{g0:Goroutine}
 (hq:∀g2 w2,StepsIn (λ_=>True) (aI true Tryz.prog) (solo g0 w0) (solo g2 w2)->bE w2)
 {b:Frame} {k:List Item} {cs:List Frame} {KS:List Int} (hKl:KS.length=64) {wE:World} (hK:wE.rangeAt 0 0 (aH KS)) (h0:0<wE.heap.size) {s:dp} {n bL:Nat} {v1:Value}
 (hn:s.count=n) {ga:Addr} {glen gcap:Nat} (hv1:v1= .slice (some ga) glen gcap) (hgl:n<=glen) (hn1:1<=n) (hn2:n<65537) (hwd:0<=s.width/\s.width<9) (hqq:0<=s.q/\s.q<4294967296) (hid:s.id.size<65536) (hlk:n*32<=s.links.size) (hbL:wE.heap.size<=bL)
include hstop hS hq hKl hK h0 hn hv1 hgl hn1 hn2 hwd hqq hid hlk hbL
theorem K0(next:∀(dig:Nat->Int) (a:Act) (w:World),(∀c,c<n->Tg v1 wE dig c)->Bw wE w->w.heap[bL]?=some (.cells (mD KS s dig n n) 9)->aW [(23, .sk bL n n)] 36 [] a->Tk (aI true tP) Stop Q g0 w0 (b.atR a k) cs w):
 ∀(j i:Nat) (dig:Nat->Int) (a:Act) (w:World),n- i=j->i<=n->(∀c,c<i->Tg v1 wE dig c)->Bw wE w->w.heap[bL]?=some (.cells (mD KS s dig n i) 9)->
  aW [(1,v1),(3, .agg s.cells),(10, .int .i64 n),(13, .s s.links),(23, .sk bL n n),(24, .int .i64 i)] 36 [] a->Tk (aI true tP) Stop Q g0 w0 (b.atR a (.code oE:: .inLoop oE:: .inBlock 0::k)) cs w:=by
 intro j;induction j with
 |zero=>
  intro i dig a w hj hi q g l f;have p:i=n:=o_
  subst p;refine Tk.plain hS rfl (Tk.plain hS rfl (Tk.region hS (L:=[0]) rfl ?_));refine Tk.op hS f 25 (.binOp .lss 3 (.tmp 24) (.tmp 10) 3) d_ rfl s_ (λo m=>(di m (f.get (d:=24) rfl) (f.get (d:=10) rfl)).1) λa f=>Tk.plain hS rfl (Tk.cond hS (decide ((i:Int)<i)) (f.get (d:=25) rfl) ?_);rw[show(decide ((i:Int)<i))=false by simp];refine Tk.plain hS rfl (next dig a w q g l (f.sub λd v hd=> ?_));by_cases U:d=23
  ·subst U;exact hd
  simp[TU,show(d==23)=false from by simpa using U]at hd
 |succ j ih=>
  intro i dig a w hj hi q g l f;have p:i<n:=o_
  refine Tk.plain hS rfl (Tk.plain hS rfl (Tk.region hS (L:=[0]) rfl ?_));refine Tk.op hS f 25 (.binOp .lss 3 (.tmp 24) (.tmp 10) 3) d_ rfl s_ (λo m=>(di m (f.get (d:=24) rfl) (f.get (d:=10) rfl)).1) λa f=>Tk.plain hS rfl (Tk.cond hS (decide ((i:Int)<n)) (f.get (d:=25) rfl) ?_);rw[show(decide ((i:Int)<n))=true by simpa using p];refine Tk.plain hS rfl (Tk.plain hS rfl (Tk.region hS (L:=[0,1,2,3]) rfl ?_));have z:i<glen:=o_
  have Z:=BV (w:=w) (ev:=a.eval) (o:=eR (some 26) (.indexAddr 22 (.tmp 1) (.tmp 24))) (x:= .tmp 1) (y:= .tmp 24) rfl ((f.get (d:=1) rfl).trans hv1) (f.get (d:=24) rfl) z;refine Tk.ran hS (o:=eR (some 26) (.indexAddr 22 (.tmp 1) (.tmp 24))) rfl rfl (by simp[eR]) Z ?_;have f:=f.put (d:=26) d_ (.pointer (some (ga.add i)));refine Tk.calm hq λG=> ?_;refine(BN (w:=w) (ev:=(a.put (some 26) (.pointer (some (ga.add i)))).eval) (o:=eR (some 27) (.load 3 (.tmp 26))) (x:= .tmp 26) G rfl (f.get (d:=26) rfl)).elim (λ⟨u,Y,X⟩=> ?_) λ⟨x,T,Z,hx⟩=>Tk.dead hS (o:=eR (some 27) (.load 3 (.tmp 26))) rfl rfl (by simp[eR]) Z hx;refine Tk.ran hS (o:=eR (some 27) (.load 3 (.tmp 26))) rfl rfl (by simp[eR]) X ?_;have f:=f.put (d:=27) d_ u;refine jm hS f 28 27 0 d_ rfl rfl λd e a f=> ?_;subst e;refine jm hS f 29 27 256 d_ rfl rfl λd2 e a f=> ?_;cases e;refine Tk.plain hS rfl (Tk.plain hS rfl ?_);refine ib hS f (x:=28) rfl λB=>Tk.plain hS rfl ?_;refine yo hS f (x:=29) rfl λA=> ?_;simp only[decide_eq_true_eq,decide_eq_false_iff_not,ac1]at B A;refine Tk.region hS (L:=[0,1,2,3,4,5,6,7]) rfl ?_;refine Tk.op hS f 30 (.binOp .mul 3 (.tmp 24) (.const (.int .i64 32)) 3) d_ rfl s_ (λo m=>(mH m (f.get (d:=24) rfl) rfl o_).1) λa f=>Tk.op hS f 31 (.binOp .add 3 (.tmp 24) (.const (.int .i64 1)) 3) d_ rfl s_ (λo m=>(iY m (f.get (d:=24) rfl) rfl o_).1) λa f=>Tk.op hS f 32 (.binOp .mul 3 (.tmp 31) (.const (.int .i64 32)) 3) d_ rfl s_ (λo m=>(mH m (f.get (d:=31) rfl) rfl o_).1) λa f=> ?_;have a4:a.eval (.tmp 30)= .int .i64 ((i*32:Nat):Int):=(f.get (d:=30) rfl).trans (by rw[Wd];rfl);have a3:a.eval (.tmp 32)= .int .i64 (((i+1)*32:Nat):Int):=(f.get (d:=32) rfl).trans (by rw[Wd,Vi];rfl);refine Tk.op hS f 33 (.slice 9 (.tmp 13) (some (.tmp 30)) (some (.tmp 32)) none) d_ rfl s_ (λo m=>(ft m (f.get (d:=13) rfl) a4 a3 o_ o_).1) λa f=> ?_;have D:CF s i d (s.links.extract (i*32) ((i+1)*32)):=⟨hwd,hqq,hid,o_,⟨B,A⟩,by rw[TT];omega⟩;have H:(execOp a.eval (eR (some 34) (.call {callee:= .value (.func 114),args:=#[.tmp 3, .tmp 24, .tmp 27, .tmp 33],argTypes:=#[149,3,3,9]}))).run (aI true tP) w= .ok (.enter 114 #[.agg s.cells, .int .i64 i, .int .i64 d, .s (s.links.extract (i*32) ((i+1)*32))]) w:=
   (bU (w:=w) (o:=eR (some 34) _) rfl (by simp[f.get (d:=3) rfl,f.get (d:=24) rfl,f.get (d:=27) rfl,f.get (d:=33) rfl]) (du (P:=aI true tP) Lf.func114 k_ k_ _)).1
  refine Tk.call hstop hS (o:=eR (some 34) _) rfl rfl (by simp[eR]) H (R:=λv T=>v= .s (lx KS s i d (s.links.extract (i*32) ((i+1)*32)))/\Bw w T) (λcs=> ?_) λv V hv=> ?_
  ·obtain⟨e,T,fr,⟨U,q2⟩,q3⟩:=DN KS s i d _ D w (Ti h0 g hK) hKl (TC h0 g.size) cs;exact⟨e,T,fr,⟨_,U,rfl,q2⟩,q3⟩
  obtain⟨rfl,r⟩:=hv;have f:=f.put (d:=34) d_ (.s (lx KS s i d (s.links.extract (i*32) ((i+1)*32))));have h:=(r.block bL (gA l).1).trans l;have a0:=(eA (ql:=true) (w:=V) (ev:=(a.put (eR (some 34) (.call {callee:= .value (.func 114),args:=#[.tmp 3, .tmp 24, .tmp 27, .tmp 33],argTypes:=#[149,3,3,9]})).dst (.s (lx KS s i d (s.links.extract (i*32) ((i+1)*32))))).eval) (o:=eR (some 35) (.indexAddr 25 (.tmp 23) (.tmp 24))) (t:=25) (e:=9) k_ (λw=>k_) rfl (f.get (d:=23) rfl) (f.get (d:=24) rfl) p).1;refine Tk.ran hS (o:=eR (some 35) (.indexAddr 25 (.tmp 23) (.tmp 24))) rfl rfl (by simp[eR]) a0 ?_;have f:=f.put (d:=35) d_ (.pointer (some ((⟨bL,0,none⟩:Addr).add i)));have W:=(eI (ql:=true) (w:=V) (ev:=((a.put (some 34) (.s (lx KS s i d (s.links.extract (i*32) ((i+1)*32))))).put (some 35) (.pointer (some ((⟨bL,0,none⟩:Addr).add i)))).eval) (o:=eR none (.store 9 (.tmp 35) (.tmp 34))) (t:=9) (b:=bL) (k:=i) (v:= .s (lx KS s i d (s.links.extract (i*32) ((i+1)*32)))) (v0:= .string ⟨#[]⟩) rfl rfl k_ rfl
   ((f.get (d:=35) rfl).trans (by rw[un,TL])) (f.get (d:=34) rfl) (by rw[aG h];simp[mD,p]) (by simp[Ux,h])).1
  refine Tk.did hS (o:=eR none (.store 9 (.tmp 35) (.tmp 34))) rfl rfl (by simp[eR]) W ?_;have K:=λ(o:Oper) (m:o.op= .move (.tmp 31))=>(cn (w:=V.setCell ⟨bL,i,none⟩ (.s (lx KS s i d (s.links.extract (i*32) ((i+1)*32))))) (ev:=((a.put (some 34) (.s (lx KS s i d (s.links.extract (i*32) ((i+1)*32))))).put (some 35) (.pointer (some ((⟨bL,0,none⟩:Addr).add i)))).eval) (aI true tP) (.inl m)).1;rw[f.get (d:=31) rfl]at K;refine Tk.op hS f 24 (.move (.tmp 31)) d_ rfl s_ K λa f=>Tk.plain hS rfl (Tk.plain hS rfl ?_);have C:∀c,c<i->(λc=>if c=i then d else dig c) c=dig c:=λc hc=>by dsimp only;rw[if_neg o_]
  refine ih (i+1) (λc=>if c=i then d else dig c) a _ o_ o_ (λc hc=> ?_) ((aE g g.size r).trans (ee _ _ _ hbL)) ?_ (f.sub λe v E=> ?_)
  ·by_cases F:c=i
   ·subst F;exact⟨ga,glen,gcap,hv1,z,by simpa using⟨B,A⟩,w,g,by simpa using Y⟩
   ·obtain⟨a2,I,J,x1,x2,x3,wc,x4,x5⟩:=q c o_;exact⟨a2,I,J,x1,x2,by dsimp only;rw[if_neg F];exact x3,wc,x4,by dsimp only;rw[if_neg F];exact x5⟩
  ·rw[kU h,←Af C];unfold wH;simp
  ·by_cases M:e=24
   ·subst M;have a1:some (.int .i64 ((i+1:Nat):Int))=some v:=E;rw[←a1,Vi];rfl
   by_cases e1:e=1
   ·subst e1;exact E
   by_cases e3:e=3
   ·subst e3;exact E
   by_cases S:e=10
   ·subst S;exact E
   by_cases O:e=13
   ·subst O;exact E
   by_cases N:e=23
   ·subst N;exact E
   simp[TU,show(e==24)=false from by simpa using M,show(e==1)=false from by simpa using e1,show(e==3)=false from by simpa using e3,show(e==10)=false from by simpa using S,show(e==13)=false from by simpa using O,show(e==23)=false from by simpa using N]at E
end
structure Jr (PL:Program) (KS:List Int) (Stop:Goroutine->World->Prop) (args:Array Value) (wE:World) (c:Frame) (cs:List Frame) (s:dp) (ex:List Value) (ga:Addr) (glen gcap:Nat) (dig:Nat->Int) (bL:Nat) (w2:World):Prop where
 a0:args[0]?=some (.agg (s.cells++ex.toArray))
 a1:args[1]?=some (.slice (some ga) glen gcap)
 pos:1<=s.count
 small:s.count<=65536
 glen:s.count<=glen
 links:s.count*32<=s.links.size
 fine:∀i,i<s.count->CF s i (dig i) (s.links.extract (i*32) ((i+1)*32))
 digs:∀i,i<s.count->∃wc,Bw wE wc/\(TN 3 (.pointer (some (ga.add i)))).run PL wc= .ok (.int .i64 (dig i)) wc
 keep:Bw wE w2
 low:wE.heap.size<=bL
 list:w2.heap[bL]?=some (.cells (WX λi:Fin s.count=>wH KS s dig i.val) 9)
 steps:StepsIn (λ_=>True) PL (solo (bC PL 105 args (c::cs)) wE) (solo (cJ (c.finish (.sk bL s.count s.count)) cs) w2)
 tree:gp PL Stop (cJ (c.finish (.sk bL s.count s.count)) cs) w2
theorem vP(c:N<=args.size+(N- args.size))(b:i<N)(h:(Act.mk (args++TG (N- args.size) undef) []).eval (.tmp i)=v)(hv:v≠undef):args[i]?=some v:=by
 refine GD (k:=N- args.size) ?_ hv;have a:i<(args++TG (N- args.size) undef).size:=by simp;omega
 rw[TH a];have e:(args++TG (N- args.size) undef).getD i undef=v:=h;rw[TO,TH a]at e;exact congrArg some e
theorem Qn{j:Goroutine->World->Prop}(r:∀g w,j g w->∀τ d,∃o w1 es,stepG (aI true tP) true g (kM w τ d)= .ended o w1 es)(f:∀g w,j g w->g.frame.mode= .returning/\g.callers=[]){c:Frame}
 (hq:∀g2 z,StepsIn (λ_=>True) (aI true tP) (solo (bC (aI true tP) 105 args (c::cs)) wE) (solo g2 z)->bE z)  (a5:KS.length=64) (hK:wE.rangeAt 0 0 (aH KS)) (h0:0<wE.heap.size)
 (ht:gp (aI true tP) j (bC (aI true tP) 105 args (c::cs)) wE):∃s ex ga glen gcap dig bL z,Jr (aI true tP) KS j args wE c cs s ex ga glen gcap dig bL z:=by
 have p:bC (aI true tP) 105 args (c::cs)=cJ ((base 105).atR ⟨args++TG (36- args.size) undef,[]⟩ [.code mK]) (c::cs):=by unfold bC;rw[enter_at args rK rfl];rfl
 suffices h:Tk (aI true tP) j (∃s ex ga glen gcap dig bL z,Jr (aI true tP) KS j args wE c cs s ex ga glen gcap dig bL z) (bC (aI true tP) 105 args (c::cs)) wE ((base 105).atR ⟨args++TG (36- args.size) undef,[]⟩ [.code mK]) (c::cs) wE by
  refine h ?_ ?_
  ·rw[←p];exact ht
  ·rw[←p];exact .refl _
 have b:aW [(0,(Act.mk (args++TG (36- args.size) undef) []).eval (.tmp 0)),(1,(Act.mk (args++TG (36- args.size) undef) []).eval (.tmp 1))] 36 [] ⟨args++TG (36- args.size) undef,[]⟩:=by
  have m:36<=(args++TG (36- args.size) undef).size:=by simp;omega
  refine⟨rfl,m,λd v B=> ?_⟩;have C:∀d,d<36->(args++TG (36- args.size) undef)[d]?=some ((args++TG (36- args.size) undef).getD d undef):=λd B=>by rw[TO,TH o_];rfl
  by_cases V:d=0
  ·subst V;have:some _=some v:=B;rw[←this];exact C 0 o_
  by_cases U:d=1
  ·subst U;have:some _=some v:=B;rw[←this];exact C 1 o_
  simp[TU,show(d==0)=false from by simpa using V,show(d==1)=false from by simpa using U]at B
 refine Sy f b λs ex a V G a1 D F J b=> ?_;have a4:args[0]?=some (.agg (s.cells++ex.toArray)):=vP o_ o_ V (by simp[undef]);refine Tk.plain f rfl (Tk.region f (L:=[0,1,2,3,4,5]) rfl ?_);refine Tk.op f b 21 (.binOp .mul 3 (.tmp 10) (.const (.int .i64 32)) 3) d_ rfl s_ (λo k=>(mH k (b.get (d:=10) rfl) rfl o_).1) λa b=>Tk.op f b 7 (g8 13) d_ rfl (by simp[g8]) (λo k=>I3 k (b.get (d:=13) rfl)) λa b=>Tk.op f b 22 (F1 7 21) d_ rfl (by simp[F1]) (λo k=>(di k (b.get (d:=7) rfl) (b.get (d:=21) rfl)).1) λa b=> ?_;refine(BP (w:=wE.alloc (.cells (s.cells++ex.toArray) 149)) (ev:=a.eval) (o:=eR (some 26) (.call {callee:= .builtin .len,args:=#[.tmp 1],argTypes:=#[22]})) rfl (b.get (d:=1) rfl)).elim (λ⟨O,glen,gcap,l,A⟩=> ?_) λ⟨x,w',A,hx⟩=>Tk.stuck f (o:=eR (some 26) (.call {callee:= .builtin .len,args:=#[.tmp 1],argTypes:=#[22]})) rfl rfl (by simp[eR]) A hx;refine Tk.ran f (o:=eR (some 26) (.call {callee:= .builtin .len,args:=#[.tmp 1],argTypes:=#[22]})) rfl rfl (by simp[eR]) A ?_;have b:=b.put (d:=26) d_ (.int .i64 (glen:Nat));refine Tk.op f b 27 (F1 26 10) d_ rfl (by simp[F1]) (λo k=>(di k (b.get (d:=26) rfl) (b.get (d:=10) rfl)).1) λa b=>Tk.op f b 28 (.binOp .eql 22 (.tmp 1) (.const (.slice none 0 0)) 22) d_ rfl s_ (λo k=>zP k ((b.get (d:=1) rfl).trans l) rfl) λa b=>Tk.plain f rfl (Tk.plain f rfl ?_);refine ib f b (x:=22) rfl λY=>Tk.plain f rfl ?_;refine ib f b (x:=27) rfl λX=>Tk.plain f rfl ?_;refine ib f b (x:=28) rfl λW=> ?_;obtain⟨ga,rfl⟩:∃ga,O=some ga:=by cases O with|none=>cases W|some g=>exact⟨g,rfl⟩
 simp only[decide_eq_false_iff_not,ac1]at Y X;have I:s.count*32<=s.links.size:=o_
 have K:s.count<=glen:=o_
 refine Tk.plain f rfl (Tk.region f (L:=[0,1]) rfl ?_);refine Tk.op f b 23 (.makeSlice 25 (.tmp 10) (.tmp 10)) d_ rfl s_ (λo k=>Dr o_ o_ k (b.get (d:=10) rfl) (b.get (d:=10) rfl)) λa b=>Tk.op f b 24 (.move (.const (.int .i64 0))) d_ rfl s_ (λo k=>(cn (aI true tP) (.inl k)).1) λa b=>Tk.plain f rfl (Tk.plain f rfl (Tk.plain f rfl (Tk.plain f rfl ?_)));have m:=aR wE (.cells (s.cells++ex.toArray) 149);have N:=aV wE (.cells (s.cells++ex.toArray) 149);have a3:=aV (wE.alloc (.cells (s.cells++ex.toArray) 149)) (.cells (TG s.count (.string ⟨#[]⟩)) 9);have a2:=bJ (wE.alloc (.cells (s.cells++ex.toArray) 149)) (.cells (TG s.count (.string ⟨#[]⟩)) 9);refine K0 r f hq a5 hK h0 rfl l K G a1 D F J I (bL:=(wE.alloc (.cells (s.cells++ex.toArray) 149)).heap.size) (by rw[m];omega) (n:=s.count) (v1:=(Act.mk (args++TG (36- args.size) undef) []).eval (.tmp 1)) ?_ s.count 0 (λ_=>0) a _ rfl (W4 _) (λc hc=>absurd hc (UZ c)) (aE N N.size a3) (by rw[Ae];exact a2) (b.sub λe v y=> ?_)
 ·intro dig a w q M u b;refine Tk.plain f rfl (Tk.region f (L:=[0]) rfl ?_);have H:=λ(o:Oper) (k:o.op= .move (.tmp 23))=>(cn (w:=w) (ev:=a.eval) (aI true tP) (.inl k)).1;rw[b.get (d:=23) rfl]at H;refine Tk.op f b 4 (.move (.tmp 23)) d_ rfl s_ H λa b=> ?_;have A:=lY (P:=aI true tP) (fn:=te) (t:=4) rfl (b.slot 4 _ rfl) w;refine Tk.plain f rfl (Tk.ends f rfl (.inr ⟨_,rfl⟩) (Tk.leave f (.sk ((wE.alloc (.cells (s.cells++ex.toArray) 149)).heap.size) s.count s.count) rfl b.defers rK A.1 A.2 ?_));intro Z a0;refine⟨s,ex,ga,glen,gcap,dig,_,w,⟨a4,vP o_ o_ l (by simp[undef]),G,o_,K,I,λi hi=> ?_,λi hi=> ?_,M,by rw[m];omega, ?_,a0,Z⟩⟩
  ·obtain⟨_,_,_,_,_,B,_⟩:=q i hi;exact⟨D,F,J,o_,B,by rw[TT];omega⟩
  ·obtain⟨a8,a6,a7,E,_,_,wc,q1,q2⟩:=q i hi;have e:=l.symm.trans E;cases e;exact⟨wc,q1,q2⟩
  ·rw[←Ag];exact u
 ·by_cases Q:e=24
  ·subst Q;exact y
  by_cases U:e=1
  ·subst U;exact y
  by_cases e3:e=3
  ·subst e3;exact y
  by_cases T:e=10
  ·subst T;exact y
  by_cases S:e=13
  ·subst S;exact y
  by_cases R:e=23
  ·subst R;exact y
  simp[TU,show(e==24)=false from by simpa using Q,show(e==1)=false from by simpa using U,show(e==3)=false from by simpa using e3,show(e==10)=false from by simpa using T,show(e==13)=false from by simpa using S,show(e==23)=false from by simpa using R]at y
end L1
section
open Go Go.Conc Go.RowKit
open Go.ConcN (WgLive)
abbrev fR(P:Program)(ty Wg C n:Nat)(val:Nat->Value)(RO:Nat->Prop):bS:={P:=P,ty:=ty,Wg:=Wg,C:=C,ety:=9,n:=n,val:=val,RO:=RO,mine:=λi c=>c%8=i/\c<n}
structure eY where
 s:dp
 /-- what may stand behind its cells-/
 ex:Array Value
 bs:Nat
 bg:Nat
 be:Nat
 ga:Addr
 glen:Nat
 gcap:Nat
 dig:Nat->Int
 /-- where the digits lie-/
 gr:Nat->Prop
 wL:World
 G:Nat
def Qh(N:eY)(n:Nat)(w:World):Prop:=∀w':World,(∀b,N.gr b->w'.heap[b]?=w.heap[b]?)->∀c,c<n->
 (TN 3 (.pointer (some (N.ga.add c)))).run Tryz.prog w'= .ok (.int .i64 (N.dig c)) w'/\∀e∈(TN 3 (.pointer (some (N.ga.add c)))).events Tryz.prog w' #[],∃a:Addr,e=⟨.cell a,false,false⟩/\N.gr a.block
structure CC (N:eY) (C n:Nat) (w:World):Prop where
 sig:w.heap[N.bs]?=some (.cells (N.s.cells++N.ex) 149)
 gone:w.heap[N.bg]?=some (.cells #[.slice (some N.ga) N.glen N.gcap] 22)
 ends:w.heap[N.be]?=some (.cells #[.sk C n n] 25)
 digs:Qh N n w
 tab:kH N.wL w
 size:N.G<=w.heap.size
 zero:∃v0,w.cell? ⟨0,0,none⟩=some v0
theorem lg{N:eY}{ty Wg C:Nat}{val:Nat->Value}(h:RO N.bs/\RO N.bg/\RO N.be/\(∀b,N.gr b->RO b)/\RO 0):E8 (fR Tryz.prog ty Wg C n val RO) (CC N C n):=λw r d o a=>by
 refine⟨(d _ h.1).trans a.sig,(d _ h.2.1).trans a.gone,(d _ h.2.2.1).trans a.ends,λi p=>a.digs i λb g=>(p b g).trans (d b (h.2.2.2.1 b g)), ?_,TW a.size o, ?_⟩
 ·obtain⟨c,e,f,m,l,k⟩:=a.tab;exact⟨c,e,f,m,l,(d _ h.2.2.2.2).trans k⟩
 ·obtain⟨j,q⟩:=a.zero;refine⟨j, ?_⟩;rw[←q];unfold U6;rw[d _ h.2.2.2.2]
structure rc (N:eY) (n:Nat) (val:Nat->Value) (PL:Program):Prop where
 env:kK PL Tryz.prog N.G
 same:∀f (fn:Func),PL.funcs[f]?=some fn->fn.body.isSome=true->j6 PL Tryz.prog f
 here:∃fn fn',PL.funcs[114]?=some fn/\Tryz.prog.funcs[114]?=some fn'/\fn.ntmps=fn'.ntmps/\fn.body=fn'.body/\∃c,fn.body=some c/\oa 114 c=true
 calm:bE N.wL
 low:2<=N.G/\N.G<=N.wL.heap.size
 tree:∀c,c<n->gp PL (pe 114 8 (· =val c)) (bC PL 114 #[.agg N.s.cells, .int .i64 c, .int .i64 (N.dig c), .string (N.s.links.extract (c*32) ((c+1)*32))] []) N.wL
 plain:∀c,c<n->∃t,val c= .string t
 glen:n<=N.glen
 count:N.s.count=n
 small:n<=65536
 links:n*32<=N.s.links.size
section
variable{N:eY}{ty C:Nat}{val:Nat->Value}{done:Nat->Prop}{k:List Item}
def ML(N:eY)(c:Nat):List (Nat×Value):=[(1, .pt N.bs),(3, .pt N.bg),(4, .pt N.be),(5, .int .i64 c),(6, .string (N.s.links.extract (c*32) ((c+1)*32)))]
def Gt(N:eY)(C n:Nat)(val:Nat->Value)(c:Nat):List (Nat×Nat×Value):=[(0,12, .sk C n n),(1,13, .int .i64 c),(2,14, .agg N.s.cells),(3,15, .int .i64 c),(4,16, .slice (some N.ga) N.glen N.gcap),(5,17, .int .i64 c),
 (6,18, .pointer (some (N.ga.add c))),(7,19, .int .i64 (N.dig c)),(8,20, .string (N.s.links.extract (c*32) ((c+1)*32))),(9,21,val c),(10,22, .pointer (some ((⟨C,0,none⟩:Addr).add c)))]
theorem T2:DO (bV Tryz.f111 4)=true:=k_
theorem QJ(N:eY)(C n:Nat)(val:Nat->Value)(c:Nat):∀p∈Gt N C n val c,∀q∈Gt N C n val c,p.2.1=q.2.1\/p.1=q.1->p=q:=by intro p b q a h;simp only[Gt,U4,TY,or_false]at b a;rcases b with rfl|rfl|rfl|rfl|rfl|rfl|rfl|rfl|rfl|rfl|rfl<;>rcases a with rfl|rfl|rfl|rfl|rfl|rfl|rfl|rfl|rfl|rfl|rfl<;>first|rfl|(exfalso;simp at h)
theorem Ci(N:eY)(C n:Nat)(val:Nat->Value)(c:Nat):∀p∈Gt N C n val c,p.2.1<23/\p.1≠11/\∀q∈ML N c,q.1≠p.2.1:=by intro p b;simp only[Gt,U4,TY,or_false]at b;rcases b with rfl|rfl|rfl|rfl|rfl|rfl|rfl|rfl|rfl|rfl|rfl<;>refine⟨s_,s_,λq a=> ?_⟩<;>simp only[ML,U4,TY,or_false]at a<;>rcases a with rfl|rfl|rfl|rfl|rfl<;>simp
theorem R8{c:Nat}(h:g9 (ML N c) (Gt N C n val c) 23 listed a){d:Nat}(b:(m,d,v)∈Gt N C n val c):g9 (ML N c) (Gt N C n val c) 23 (listed.setIfInBounds m true) (a.put (some d) v):=
 h.put (Ci N C n val c _ b).1 (Ci N C n val c _ b).2.2 λp f e=>QJ N C n val c p f _ b e
theorem L0:(∀w:World,(sizeOf 3).run Tryz.prog w= .ok 1 w)/\(∀w:World,(sizeOf 9).run Tryz.prog w= .ok 1 w):=⟨λ_=>k_,λ_=>k_⟩
theorem cK{ev:Operand->Value}{V RO:Nat->Prop}(h:Yl P ev o w v #[]):(execOp ev o).run P w= .ok (.value v) w/\∀e∈(execOp ev o).events P w #[],ge V RO e:=⟨h.1,λe a=>by rw[h.2]at a;simp at a⟩
theorem rP{ev:Operand->Value}{V RO:Nat->Prop}{ad:Addr}(b:V ad.block\/RO ad.block)(h:Yl P ev o w v #[⟨.cell ad,false,false⟩]):(execOp ev o).run P w= .ok (.value v) w/\∀e∈(execOp ev o).events P w #[],ge V RO e:=⟨h.1,λe a=>by rw[h.2]at a;simp only[UW,Vg]at a;subst a;exact⟨rfl,b.imp id λh=>⟨h,rfl⟩⟩⟩
theorem IC{ev:Operand->Value}{V RO:Nat->Prop}(c:V b\/RO b)(h:Yl P ev o w v (m8 b)):(execOp ev o).run P w= .ok (.value v) w/\∀e∈(execOp ev o).events P w #[],ge V RO e:=⟨h.1,λe a=>by rw[h.2]at a;obtain⟨k,rfl⟩:=Bj a;exact⟨rfl,c.imp id λh=>⟨h,rfl⟩⟩⟩
theorem ED(s:dp):bQ (.agg s.cells)=true:=rfl
def G9(X:bS)(i:Nat)(V:Nat->Prop)(c:Nat)(w0:World)(listed:Array Bool)(w:World):Prop:=(listed[11]?=some false/\w=w0)\/(listed[11]?=some true/\∃w1,bT X i V w0 w1/\w=w1.setCell (X.at c) (X.val c))
theorem G9.other{c:Nat}(a:m≠11)(h:G9 X i V c w0 listed w):G9 X i V c w0 (listed.setIfInBounds m true) w:=by unfold G9;rw[sN a];exact h
theorem NO(D:rc N n val PL)(S:RO N.bs/\RO N.bg/\RO N.be/\(∀b,N.gr b->RO b)/\RO 0){c:Nat}(K:c%8=i/\c<n)(hS:uv (fR Tryz.prog ty Wg C n val RO) i (CC N C n) V done w0)(X:a.defers=[])(hz:23<=a.tmps.size)(hf:∀p∈ML N c,a.tmps[p.1]?=some p.2)
 (Q:∀a' w,bT (fR Tryz.prog ty Wg C n val RO) i V w0 w->Wk (fR Tryz.prog ty Wg C n val RO) i V ((rb 111 l).atR a' k) cs (w.setCell ⟨C,c,none⟩ (val c))):
 Wk (fR Tryz.prog ty Wg C n val RO) i V ((rb 111 l).atR a (.code (rD Tryz.f111 4)::k)) cs w0:=by
 have hL:=lg (ty:=ty) (Wg:=Wg) (C:=C) (n:=n) (val:=val) S;have aa:∀w,bT (fR Tryz.prog ty Wg C n val RO) i V w0 w->CC N C n w:=λw r=>(hS.rely hL r).pap;refine Wk.draw λt=> ?_;have T:Vh ((fR Tryz.prog ty Wg C n val RO).P.follows .mixedOrders) (bV Tryz.f111 4) t=Uc .any (bV Tryz.f111 4) t:=by unfold Vh;rw[show Zq (bV Tryz.f111 4)=false from k_];simp
 rw[T];refine Wk.ordered (C8 T2) (λu a w=>g9 (ML N c) (Gt N C n val c) 23 u a/\G9 (fR Tryz.prog ty Wg C n val RO) i V c w0 u w) (λu a w Y h=> ?_) (λu a w m o M a0 j hm q h x=> ?_) t a w0 ⟨⟨X,hz,hf,λp O hl=> ?_⟩, .inl ⟨by rfl,rfl⟩⟩
 ·obtain⟨B,L⟩:=h;rcases L with⟨L,_⟩|⟨_,w1,r1,rfl⟩
  ·rw[Y 11 d_]at L;cases L
  ·exact Wk.plain rfl (Q a w1 r1)
 ·obtain⟨B,L⟩:=h;have ab:m<12:=(gA j).1;have Z:∃I,uv (fR Tryz.prog ty Wg C n val RO) i (CC N C n) V I w:=by
   rcases L with⟨_,rfl⟩|⟨_,w1,r1,rfl⟩
   ·exact⟨_,hS⟩
   ·exact⟨_,(hS.rely hL r1).put hL K.2⟩
  have F:∀f,bT (fR Tryz.prog ty Wg C n val RO) i V w f->CC N C n f:=λf r=>(Z.choose_spec.rely hL r).pap;have g:∀{m:Nat} {o:Oper} {d:Nat} (v:Value),(m,d,v)∈Gt N C n val c->o.dst=some d->(∀y,TD o y=true)->(∀c,o.op≠ .defer c)->m≠11->(bV Tryz.f111 4)[m]?=some o->
   (∀f,bT (fR Tryz.prog ty Wg C n val RO) i V w f->(execOp a.eval o).run Tryz.prog f= .ok (.value v) f/\∀e∈(execOp a.eval o).events Tryz.prog f #[],ge V RO e)->
   (∀a' f,g9 (ML N c) (Gt N C n val c) 23 (u.setIfInBounds m true) a'/\G9 (fR Tryz.prog ty Wg C n val RO) i V c w0 (u.setIfInBounds m true) f->Wk (fR Tryz.prog ty Wg C n val RO) i V ((rb 111 l).atR a' (.inRegion (bV Tryz.f111 4) M::k)) cs f)->
   Wk (fR Tryz.prog ty Wg C n val RO) i V ((rb 111 l).atR a (.inRegion (bV Tryz.f111 4) (m::M)::k)) cs w:=λ{m o d} v U A z a5 a8 j H x=>by refine Wk.value v j (z _) a5 H ?_;rw[A];exact x _ _ ⟨R8 B U,L.other a8⟩
  rcases(o_:m=0\/m=1\/m=2\/m=3\/m=4\/m=5\/m=6\/m=7\/m=8\/m=9\/m=10\/m=11)with rfl|rfl|rfl|rfl|rfl|rfl|rfl|rfl|rfl|rfl|rfl|rfl
  ·obtain⟨A,s,z⟩:=cB (d:=some 12) (p:= .load 25 (.tmp 4)) j k_;refine g (m:=0) _ (mG (i:=0) rfl) A z (by rw[s];simp) d_ j (λf E=> ?_) x;exact rP (.inr S.2.2.1) (aO rz s (aB (B.fixed _ (mG (i:=2) rfl))) (by rw[aG (F f E).ends];rfl))
  ·obtain⟨A,s,z⟩:=cB (d:=some 13) (p:= .move (.tmp 5)) j k_;refine g (m:=1) _ (mG (i:=1) rfl) A z (by rw[s];simp) d_ j (λf E=> ?_) x;have H:=cn (ev:=a.eval) (o:=o) (w:=f) Tryz.prog (.inl s);rw[(aB (B.fixed _ (mG (i:=3) rfl)))]at H;exact cK H
  ·obtain⟨A,s,z⟩:=cB (d:=some 14) (p:= .load 149 (.tmp 1)) j k_;refine g (m:=2) _ (mG (i:=2) rfl) A z (by rw[s];simp) d_ j (λf E=> ?_) x;exact IC (.inr S.1) (kN s (aB (B.fixed _ (mG (i:=0) rfl))) (F f E).sig)
  ·obtain⟨A,s,z⟩:=cB (d:=some 15) (p:= .move (.tmp 5)) j k_;refine g (m:=3) _ (mG (i:=3) rfl) A z (by rw[s];simp) d_ j (λf E=> ?_) x;have H:=cn (ev:=a.eval) (o:=o) (w:=f) Tryz.prog (.inl s);rw[(aB (B.fixed _ (mG (i:=3) rfl)))]at H;exact cK H
  ·obtain⟨A,s,z⟩:=cB (d:=some 16) (p:= .load 22 (.tmp 3)) j k_;refine g (m:=4) _ (mG (i:=4) rfl) A z (by rw[s];simp) d_ j (λf E=> ?_) x;exact rP (.inr S.2.1) (aO pD s (aB (B.fixed _ (mG (i:=1) rfl))) (by rw[aG (F f E).gone];rfl))
  ·obtain⟨A,s,z⟩:=cB (d:=some 17) (p:= .move (.tmp 5)) j k_;refine g (m:=5) _ (mG (i:=5) rfl) A z (by rw[s];simp) d_ j (λf E=> ?_) x;have H:=cn (ev:=a.eval) (o:=o) (w:=f) Tryz.prog (.inl s);rw[(aB (B.fixed _ (mG (i:=3) rfl)))]at H;exact cK H
  ·obtain⟨A,s,z⟩:=cB (d:=some 18) (p:= .indexAddr 22 (.tmp 16) (.tmp 17)) j k_;refine g (m:=6) _ (mG (i:=6) rfl) A z (by rw[s];simp) d_ j (λf E=> ?_) x;exact cK (eA (e:=3) k_ L0.1 s (aB (B.come _ (mG (i:=4) rfl) (cj (n:=6) (k:=4) k_ j q))) (aB (B.come _ (mG (i:=5) rfl) (cj (n:=6) (k:=5) k_ j q))) (TC K.2 D.glen))
  ·obtain⟨A,s,z⟩:=cB (d:=some 19) (p:= .load 3 (.tmp 18)) j k_;refine g (m:=7) _ (mG (i:=7) rfl) A z (by rw[s];simp) d_ j (λf E=> ?_) x;have O:=(aB (B.come _ (mG (i:=6) rfl) (cj (n:=7) (k:=6) k_ j q)));have X:=(F f E).digs f (λ_ _=>rfl) c K.2;have e:execOp a.eval o=(do pure (.value (←TN 3 (.pointer (some (N.ga.add c)))))):=(by simp only[execOp,s,O]);refine⟨by rw[e,Uz,X.1];simp,λev W=> ?_⟩;rw[e]at W;have W:ev∈(TN 3 (.pointer (some (N.ga.add c)))).events Tryz.prog f #[]:=by rw[Sem.events_bind,X.1]at W;simpa using W
   obtain⟨ad,rfl,hg⟩:=X.2 ev W;exact⟨rfl, .inr ⟨S.2.2.2.1 _ hg,rfl⟩⟩
  ·obtain⟨A,s,z⟩:=cB (d:=some 20) (p:= .move (.tmp 6)) j k_;refine g (m:=8) _ (mG (i:=8) rfl) A z (by rw[s];simp) d_ j (λf E=> ?_) x;have H:=cn (ev:=a.eval) (o:=o) (w:=f) Tryz.prog (.inl s);rw[(aB (B.fixed _ (mG (i:=4) rfl)))]at H;exact cK H
  ·obtain⟨A,s,z⟩:=cB (d:=some 21) (p:= .call {callee:= .value (.func 114),args:=#[.tmp 14, .tmp 15, .tmp 19, .tmp 20],argTypes:=#[149,3,3,9]}) j k_;obtain⟨I,a7⟩:=Z;have a1:=(aB (B.come _ (mG (i:=2) rfl) (cj (n:=9) (k:=2) k_ j q)));have a2:=(aB (B.come _ (mG (i:=3) rfl) (cj (n:=9) (k:=3) k_ j q)));have a3:=(aB (B.come _ (mG (i:=7) rfl) (cj (n:=9) (k:=7) k_ j q)));have a4:=(aB (B.come _ (mG (i:=8) rfl) (cj (n:=9) (k:=8) k_ j q)));have R:(#[Ul 14, .tmp 15, .tmp 19, .tmp 20]:Array Operand).map a.eval=#[.agg N.s.cells, .i c, .i (N.dig c), .s (N.s.links.extract (c*32) ((c+1)*32))]:=(by simp[a1,a2,a3,a4]);obtain⟨t,ht⟩:=D.plain c K.2;refine Wk.call (r:=8) (Val:=(· =val c)) D.env S.2.2.2.2 D.same Tryz.func114 d_ (λa9 v w J=> ?_) (λv J=>by rw[J,ht];rfl) D.here ?_ D.calm (D.tree c K.2) (λf E=>⟨D.low.1,D.low.2,(F f E).size⟩) (λf E=>(F f E).tab) a7.low j (z _) (by rw[s];simp) (λf=> ?_) λv J=> ?_
   ·exact lY (t:=8) rfl J w
   ·intro v J;simp only[UW,U4,TY,or_false]at J;rcases J with rfl|rfl|rfl|rfl
    ·exact ED N.s
    all_goals rfl
   ·have hr:=du (P:=Tryz.prog) (w:=f) Tryz.func114 k_ k_ #[.agg N.s.cells, .i c, .i (N.dig c), .s (N.s.links.extract (c*32) ((c+1)*32))];exact bU s R hr
   ·subst J;rw[A];exact x _ _ ⟨R8 B (mG (i:=9) rfl),L.other d_⟩
  ·obtain⟨A,s,z⟩:=cB (d:=some 22) (p:= .indexAddr 25 (.tmp 12) (.tmp 13)) j k_;refine g (m:=10) _ (mG (i:=10) rfl) A z (by rw[s];simp) d_ j (λf E=> ?_) x;exact cK (eA (e:=9) k_ L0.2 s (aB (B.come _ (mG (i:=0) rfl) (cj (n:=10) (k:=0) k_ j q))) (aB (B.come _ (mG (i:=1) rfl) (cj (n:=10) (k:=1) k_ j q))) K.2)
  ·obtain⟨A,s,z⟩:=cB (d:=none) (p:= .store 9 (.tmp 22) (.tmp 21)) j k_;obtain⟨t,ht⟩:=D.plain c K.2;have O:=(aB (B.come _ (mG (i:=10) rfl) (cj (n:=11) (k:=10) k_ j q)));rw[un,TL]at O;have J:=(aB (B.come _ (mG (i:=9) rfl) (cj (n:=11) (k:=9) k_ j q)));rcases L with⟨_,rfl⟩|⟨h3,_⟩
   ·refine Wk.store (c:=c) (v:=val c) j (z _) (by rw[s];simp) rfl k_ K (λf E=> ?_) λf E=> ?_
    ·obtain⟨G,q1,q2⟩:=(hS.rely hL E).list;have q3:c<G.size:=(by rw[show G.size=n from q2];exact K.2);have a6:f.cell? ⟨C,c,none⟩=some G[c]:=by rw[aG q1];exact TH q3
     exact eI (by rw[ht];rfl) (by rw[ht];rfl) (L0.2 f) s O J a6 (by unfold Ux;rw[show f.heap[(⟨C,c,none⟩:Addr).block]?=_ from q1];simp)
    ·rw[A];refine x _ _ ⟨B.pass (λp O=>(Ci N C n val c p O).2.1) _, .inr ⟨?_,f,E,rfl⟩⟩;exact TF (by rw[a0];decide)
   ·rw[h3]at hm;cases hm
 ·simp[UC]at hl
end
end
section
open Go.Conc Go.RowKit
theorem DY:∀f (fn:Func) c,(aI false tP).funcs[f]?=some fn->fn.body=some c->oa f c=true:=by obtain⟨c,h,_⟩:=DI;rw[Lj];exact rJ h
theorem xN:∀f (fn:Func) c,(aI true tP).funcs[f]?=some fn->fn.body=some c->oa f c=true:=by rw[Li];exact rJ DG
theorem QT(f:FuncId)(fn:Func)(a:(aI true tP).funcs[f]?=some fn)(b:fn.body.isSome=true)(c:f≠105):j6 (aI true tP) tP f:=by rw[Li]at a⊢;exact rH DG f fn a b c
theorem QU(f:FuncId)(fn:Func)(b:(aI false tP).funcs[f]?=some fn)(g:fn.body.isSome=true):j6 (aI false tP) tP f:=by
 by_cases i:f=28
 ·subst i;obtain⟨c,d⟩:=Option.isSome_iff_exists.1 g;have a:(aI false tP).funcs[28]?=some Tryz.f28:=aN (c:=(Tryz.f28.body).getD .skip) Tryz.func28 d_ d_ rfl k_;have e:=a.symm.trans b;cases e;exact⟨_,_,a,Tryz.func28,rfl,rfl,c,d,DY _ _ c a d⟩
 ·obtain⟨c,h,_⟩:=DI;rw[Lj]at b⊢;exact rH h f fn b g i
theorem RB:(aI false tP).funcs[114]?=some Tryz.f114:=aN (c:=(Tryz.f114.body).getD .skip) Tryz.func114 d_ d_ rfl k_
theorem IH{s:dp}{d:Int}{link:ByteArray}(a:CF s i d link)(n:w.rangeAt 0 0 (aH KS))(g:KS.length=64)(o:2<=w.heap.size)(f:kH w w)(b:bE w):
 gp (aI false tP) (pe 114 8 (· = .s (lx KS s i d link))) (bC (aI false tP) 114 #[.agg s.cells, .i i, .i d, .s link] []) w:=by
 refine uw QS DY (c:=(Tryz.f114.body).getD .skip) RB rfl rfl d_ (λv m=> ?_) ⟨TB 2,o⟩ f b rfl (by simp[undef]) λh q=> ?_
 ·have:v= .agg s.cells\/v= .i i\/v= .i d\/v= .s link:=by simpa using m
  rcases this with rfl|rfl|rfl|rfl<;>rfl
 ·obtain⟨e,j,p,l,k⟩:=L1.DN (ql:=false) KS s i d link a (kM w h 0) n g (show 0<w.heap.size by omega) q;exact⟨e,j,p,l.1,k⟩
def QI(KS:List Int)(N:eY)(c:Nat):Value:= .string (lx KS N.s c (N.dig c) (N.s.links.extract (c*32) ((c+1)*32)))
theorem LM{N:eY}(j:N.G=2)(g:∀c,c<n->CF N.s c (N.dig c) (N.s.links.extract (c*32) ((c+1)*32)))(m:N.wL.rangeAt 0 0 (aH KS))(i:KS.length=64)(k:2<=N.wL.heap.size)(h:kH N.wL N.wL)(a:bE N.wL)
 (f:n<=N.glen) (e:N.s.count=n) (b:n<=65536) (d:n*32<=N.s.links.size):rc N n (QI KS N) (aI false tP) where
 env:=by rw[j];exact T0
 same:=QU
 here:=⟨_,_,RB,Tryz.func114,rfl,rfl,(Tryz.f114.body).getD .skip,rfl,k_⟩
 calm:=a
 low:=by rw[j];exact⟨TB 2,k⟩
 tree:=λc l=>IH (g c l) m i k h a
 plain:=λc _=>⟨_,rfl⟩
 glen:=f
 count:=e
 small:=b
 links:=d
end
section
open Go Go.Conc Go.RowKit
open Go.ConcN (WgLive)
theorem Wk.cond{b:Frame}{k:List Item}{w0:World}{A B:Code}(q:Bool)(c:a.eval x= .bool q)(h:Wk X i V (b.atR a (.code (if q then A else B)::k)) cs w0):Wk X i V (b.atR a (.code (.cond x A B)::k)) cs w0:=by
 refine Wk.plain (t:= .code (if q then A else B)::k) ?_ h;have e:(b.atR a (.code (.cond x A B)::k)).eval x= .bool q:=by rw[Us];exact c
 show(match (b.atR a (.code (.cond x A B)::k)).eval x with| .bool q=>some (WK (if q then A else B)::k)|_=>none)=_;rw[e]
theorem Py:Tryz.f113.body=some (.seq (rG Tryz.f113 0) (.seq (rG Tryz.f113 1) .ret)):=k_
def oK(f:Func):Code:= .seq (.seq (rG f 1) (.cond (.tmp 10) .skip (.exit 0))) (.seq (.block 1 (.seq (rG f 3) (.cond (.tmp 24) .ret .skip))) (rG f 2))
theorem M6:Tryz.f132.body=some (.seq (rG Tryz.f132 0) (.block 0 (.loop (oK Tryz.f132)))):=k_
def roundOf(f:Func):Code:= .block 1 (rD f 4)
def eU(f:Func):Code:= .seq (rG f 2) (rG f 3)
theorem Pz:Tryz.f111.body=some (.seq (rG Tryz.f111 0) (.seq (rG Tryz.f111 1)
 (.block 0 (.rangeFunc (.tmp 9) #[10,11] (eU Tryz.f111) (roundOf Tryz.f111))))):=k_
section
variable{N:eY}{ty C:Nat}{val:Nat->Value}{ld b1:Nat}
structure nH (N:eY) (b1 ld l:Nat) (T:Array Value) (st:LoopState) (w:World):Prop where
 sig:w.heap[b1]?=some (.cells N.s.cells 149)
 list:w.heap[ld]?=some (.deferred (some []))
 loop:w.heap[l]?=some (.loop {state:=st,pending:=none,fn:=111,tmps:=T,params:=#[10,11],assign:=eU Tryz.f111,body:=roundOf Tryz.f111,defers:=ld})
theorem nH.rely{T:Array Value}{b:LoopState}(h:nH N b1 ld l T b w)(a:V b1/\V ld/\V l)(r:bT X i V w w'):nH N b1 ld l T b w':=
 ⟨(r.own.keep _ (.inl a.1)).trans h.sig,(r.own.keep _ (.inl a.2.1)).trans h.list,(r.own.keep _ (.inl a.2.2)).trans h.loop⟩
theorem nH.turn{T:Array Value}{st st':LoopState}(h:nH N b1 ld l T st w)(a:b1≠l/\ld≠l):nH N b1 ld l T st' (bP w l {state:=st',pending:=none,fn:=111,tmps:=T,params:=#[10,11],assign:=eU Tryz.f111,body:=roundOf Tryz.f111,defers:=ld}):=
 ⟨(bD _ _ a.1).trans h.sig,(bD _ _ a.2).trans h.list,gq h.loop⟩
theorem nH.put{T:Array Value}{e:LoopState}(h:nH N b1 ld l T e w)(a:b1≠C/\ld≠C/\l≠C)(c:Nat)(v:Value):nH N b1 ld l T e (w.setCell ⟨C,c,none⟩ v):=by
 have d:∀b,b≠C->(w.setCell ⟨C,c,none⟩ v).heap[b]?=w.heap[b]?:=λb f=>by simp only[U9];exact ky f
 exact⟨(d _ a.1).trans h.sig,(d _ a.2.1).trans h.list,(d _ a.2.2).trans h.loop⟩
theorem Kk(D:rc N n val PL)(H:RO N.bs/\RO N.bg/\RO N.be/\(∀b,N.gr b->RO b)/\RO 0){T:Array Value}(M:aW [(1, .pt N.bs),(3, .pt N.bg),(4, .pt N.be)] 23 [] ⟨T,[]⟩)(f:V b1/\V ld/\V l)(m:b1≠l/\ld≠l)
 {c:Nat} (G:c%8=i/\c<n) {A:Frame}  {done:Nat->Prop}  (u:uv (fR Tryz.prog ty Wg C n val RO) i (CC N C n) V done w0) (I:nH N b1 ld l T .ready w0)
 (g:∀w,uv (fR Tryz.prog ty Wg C n val RO) i (CC N C n) V (λd=>done d\/d=c) w->nH N b1 ld l T .ready w->Wk (fR Tryz.prog ty Wg C n val RO) i V (A.finish (.bool true)) cs w):
 Wk (fR Tryz.prog ty Wg C n val RO) i V (Vt l 111 (((#[10,11]:Array Tmp).zip #[.i c, .s (N.s.links.extract (c*32) ((c+1)*32))]).foldl (λtmps (t,a)=>tmps.setIfInBounds t a) T) (eU Tryz.f111) (roundOf Tryz.f111) .normal) (A::cs) w0:=by
 have j:=lg (ty:=ty) (Wg:=Wg) (C:=C) (n:=n) (val:=val) H;have e:=(M.put (d:=10) d_ (.i c)).put (d:=11) d_ (.s (N.s.links.extract (c*32) ((c+1)*32)));have O:((#[10,11]:Array Tmp).zip #[.i c, .s (N.s.links.extract (c*32) ((c+1)*32))]).foldl (λ(tmps:Array Value) (x:Tmp×Value)=>match x with|(t,a)=>tmps.setIfInBounds t a) T=(T.setIfInBounds 10 (.i c)).setIfInBounds 11 (.s (N.s.links.extract (c*32) ((c+1)*32))):=s_
 rw[O];show Wk _ i V ((rb 111 l).atR ((VN ⟨T,[]⟩ (some 10) (.i c)).put (some 11) (.s (N.s.links.extract (c*32) ((c+1)*32)))) [.code (eU Tryz.f111), .beginRound, .code (roundOf Tryz.f111)]) (A::cs) w0;revert e;generalize (VN ⟨T,[]⟩ (some 10) (.i c)).put (some 11) (.s (N.s.links.extract (c*32) ((c+1)*32)))=a;intro e;refine Wk.plain rfl (Wk.region (L:=[0]) rfl (Wk.op e 5 (.assign (.tmp 10)) (.i c) d_ k_ s_ (λo v w _=> ?_) λa e=> ?_))
 ·have k:=cn (ev:=a.eval) (w:=w) Tryz.prog (.inr v);rw[e.G 10]at k;exact cK k
 refine Wk.plain rfl (Wk.region (L:=[0]) rfl (Wk.op e 6 (.assign (.tmp 11)) (.s (N.s.links.extract (c*32) ((c+1)*32))) d_ k_ s_ (λo v w _=> ?_) λa e=> ?_))
 ·have k:=cn (ev:=a.eval) (w:=w) Tryz.prog (.inr v);rw[e.G 11]at k;exact cK k
 refine Wk.plain rfl (Wk.rounds rfl f.2.2 I.loop rfl λw r=> ?_);have h:=(u.rely j r).own j (ia (RO:=RO) (w:=w) {state:= .busy,pending:=none,fn:=111,tmps:=T,params:=#[10,11],assign:=eU Tryz.f111,body:=roundOf Tryz.f111,defers:=ld} f.2.2);rw[fI]at h;have z:=(I.rely f r).turn (st':= .busy) m;refine Wk.plain rfl (NO D H G h e.defers e.size (λp F=> ?_) λQ P E=> ?_)
 ·simp only[ML,U4,TY,or_false]at F;rcases F with rfl|rfl|rfl|rfl|rfl
  ·exact e.slot 1 _ rfl
  ·exact e.slot 3 _ rfl
  ·exact e.slot 4 _ rfl
  ·exact e.slot 5 _ rfl
  ·exact e.slot 6 _ rfl
 have y:=(h.rely j E).put j G.2;have K:b1≠C/\ld≠C/\l≠C:=⟨(u.sep.1 _ f.1).2.1,(u.sep.1 _ f.2.1).2.1,(u.sep.1 _ f.2.2).2.1⟩;have s:=(z.rely f E).put K c (val c);refine Wk.plain rfl (Wk.through rfl rfl f.2.2 s.loop λJ B=> ?_);have q:=(y.rely j B).own j (ia (RO:=RO) (w:=J) {state:= .ready,pending:=none,fn:=111,tmps:=T,params:=#[10,11],assign:=eU Tryz.f111,body:=roundOf Tryz.f111,defers:=ld} f.2.2);rw[fI]at q;exact g _ q ((s.rely f B).turn m)
end
section
variable{N:eY}{ty C:Nat}{val:Nat->Value}{ld b1:Nat}
theorem zr(D:rc N n val PL)(E:RO N.bs/\RO N.bg/\RO N.be/\(∀b,N.gr b->RO b)/\RO 0){T:Array Value}(P:aW [(1, .pt N.bs),(3, .pt N.bg),(4, .pt N.be)] 23 [] ⟨T,[]⟩)(k:V b1/\V ld/\V l)(x:b1≠l/\ld≠l){A:Frame}
 (t:∀w,uv (fR Tryz.prog ty Wg C n val RO) i (CC N C n) V (λ_=>True) w->nH N b1 ld l T .ready w->Wk (fR Tryz.prog ty Wg C n val RO) i V (A.finish (.tuple #[])) cs w)
 (c:Nat) (a:Act) (w0:World) (O:c%8=i) (M:c<=n+8) (f:aW [(0, .func (.yield l) #[] #[]),(2, .pt b1),(4, .i c)] 25 [] a) (B:uv (fR Tryz.prog ty Wg C n val RO) i (CC N C n) V (· <c) w0) (u:nH N b1 ld l T .ready w0)
 (q:c<n->∀a w0,aW [(0, .func (.yield l) #[] #[]),(2, .pt b1),(4, .i (c+8:Nat))] 25 [] a->uv (fR Tryz.prog ty Wg C n val RO) i (CC N C n) V (· <c+8) w0->nH N b1 ld l T .ready w0->
   Wk (fR Tryz.prog ty Wg C n val RO) i V ((base 132).atR a [.code (oK Tryz.f132), .inLoop (oK Tryz.f132), .inBlock 0]) (A::cs) w0):
 Wk (fR Tryz.prog ty Wg C n val RO) i V ((base 132).atR a [.code (oK Tryz.f132), .inLoop (oK Tryz.f132), .inBlock 0]) (A::cs) w0:=by
 have Q:=lg (ty:=ty) (Wg:=Wg) (C:=C) (n:=n) (val:=val) E;have J:=D.small;refine Wk.plain rfl (Wk.plain rfl (Wk.region (L:=[0,1,2,3,4]) rfl ?_));refine Wk.op f 6 (.move (.tmp 4)) (.i c) d_ k_ s_ (λo g w _=> ?_) λa f=> ?_
 ·have h:=cn (ev:=a.eval) (w:=w) Tryz.prog (.inl g);rw[f.G 4]at h;exact cK h
 refine Wk.op f 7 (.fieldAddr 149 (.tmp 2) 0) (.pk b1 0) d_ k_ s_ (λo g w _=>cK (sO g (f.G 2))) λa f=>Wk.op f 8 (.fieldAddr 145 (.tmp 7) 6) (.pk b1 6) d_ k_ s_ (λo g w _=>cK (yg g (f.G 7))) λa f=>Wk.op f 9 (.load 3 (.tmp 8)) (.i n) d_ k_ s_ (λo g w r=>rP (.inl k.1) (aO ce g (f.G 8) (by rw[aG (u.rely k r).sig,←D.count];rfl))) λa f=> ?_;refine Wk.op f 10 (.binOp .lss 3 (.tmp 6) (.tmp 9) 3) (.bool (decide ((c:Int)<n))) d_ k_ s_ (λo g w r=>cK (di g (f.G 6) (f.G 9))) λa f=>Wk.plain rfl (Wk.cond (decide ((c:Int)<n)) (f.G 10) ?_);by_cases s:c<n
 ·have e:decide ((c:Int)<n)=true:=decide_eq_true o_;rw[e];refine Wk.plain rfl (Wk.plain rfl (Wk.plain rfl (Wk.plain rfl (Wk.region (L:=[0,1,2,3,4,5,6,7,8,9,10,11]) rfl ?_))));refine Wk.op f 13 (.move (.tmp 0)) (.func (.yield l) #[] #[]) d_ k_ s_ (λo g w _=> ?_) λa f=> ?_
  ·have h:=cn (ev:=a.eval) (w:=w) Tryz.prog (.inl g);rw[f.G 0]at h;exact cK h
  refine Wk.op f 14 (.move (.tmp 4)) (.i c) d_ k_ s_ (λo g w _=> ?_) λa f=> ?_
  ·have h:=cn (ev:=a.eval) (w:=w) Tryz.prog (.inl g);rw[f.G 4]at h;exact cK h
  refine Wk.op f 15 (.fieldAddr 149 (.tmp 2) 3) (.pk b1 10) d_ k_ s_ (λo g w _=>cK (Gh g (f.G 2))) λa f=>Wk.op f 16 (.load 9 (.tmp 15)) (.s N.s.links) d_ k_ s_ (λo g w r=>rP (.inl k.1) (aO bN g (f.G 15) (by rw[aG (u.rely k r).sig];rfl))) λa f=> ?_;refine Wk.op f 17 (.move (.tmp 4)) (.i c) d_ k_ s_ (λo g w _=> ?_) λa f=> ?_
  ·have h:=cn (ev:=a.eval) (w:=w) Tryz.prog (.inl g);rw[f.G 4]at h;exact cK h
  refine Wk.op f 18 (.binOp .mul 3 (.tmp 17) (.const (.i 32)) 3) (.i (c*32:Nat)) d_ k_ s_ (λo g w _=> ?_) λa f=> ?_
  ·have h:=mH (ev:=a.eval) (w:=w) (m:=c) (n:=32) g (f.G 17) rfl o_;exact cK (by rw[Wd];exact h)
  refine Wk.op f 19 (.move (.tmp 4)) (.i c) d_ k_ s_ (λo g w _=> ?_) λa f=> ?_
  ·have h:=cn (ev:=a.eval) (w:=w) Tryz.prog (.inl g);rw[f.G 4]at h;exact cK h
  refine Wk.op f 20 (.binOp .add 3 (.tmp 19) (.const (.i 1)) 3) (.i (c+1:Nat)) d_ k_ s_ (λo g w _=> ?_) λa f=> ?_
  ·have h:=iY (ev:=a.eval) (w:=w) (m:=c) (n:=1) g (f.G 19) rfl o_;exact cK (by rw[Vi];exact h)
  refine Wk.op f 21 (.binOp .mul 3 (.tmp 20) (.const (.i 32)) 3) (.i ((c+1)*32:Nat)) d_ k_ s_ (λo g w _=> ?_) λa f=> ?_
  ·have h:=mH (ev:=a.eval) (w:=w) (m:=(c+1:Nat)) (n:=32) g (f.G 20) rfl o_;exact cK (by rw[Wd];exact h)
  refine Wk.op f 22 (.slice 9 (.tmp 16) (some (.tmp 18)) (some (.tmp 21)) none) (.s (N.s.links.extract (c*32) ((c+1)*32))) d_ k_ s_
   (λo g w _=>cK (ft g (f.G 16) (f.G 18) (f.G 21) o_ (by have:=D.links;omega))) λa f=> ?_
  cases g:(bV Tryz.f132 3)[10]? with
  |none=>exact absurd g (by simp;decide)
  |some o=>
   obtain⟨U,I,S⟩:=cB (d:=some 23) (p:= .call {callee:= .value (.tmp 13),args:=#[.tmp 14, .tmp 22],argTypes:=#[3,9]}) g k_;have X:=f.G 14;have W:=f.G 22;refine Wk.yields (args:=#[.i c, .s (N.s.links.extract (c*32) ((c+1)*32))]) g (S _) (by rw[I];simp) k.2.2 u.loop rfl (λw=>jo I (f.G 13) (by simp[X,W]) w) ?_;refine Kk D E P k x ⟨O,s⟩ B u λw y z=> ?_;rw[U7,g,Ug,U];have f:=f.put (d:=23) d_ (.bool true);revert f;generalize a.put (some 23) (.bool true)=a;intro f;refine Wk.op f 24 (.unOp .not 4 (.tmp 23)) (.bool false) d_ k_ s_ (λo g w _=>cK (qe g (f.G 23))) λa f=>Wk.plain rfl (Wk.cond false (f.G 24) ?_);refine Wk.plain rfl (Wk.plain rfl (Wk.region (L:=[0,1,2]) rfl ?_));refine Wk.op f 11 (.move (.tmp 4)) (.i c) d_ k_ s_ (λo g w _=> ?_) λa f=> ?_
   ·have h:=cn (ev:=a.eval) (w:=w) Tryz.prog (.inl g);rw[f.G 4]at h;exact cK h
   refine Wk.op f 12 (.binOp .add 3 (.tmp 11) (.const (.i 8)) 3) (.i (c+8:Nat)) d_ k_ s_ (λo g w _=> ?_) λa f=> ?_
   ·have h:=iY (ev:=a.eval) (w:=w) (m:=c) (n:=8) g (f.G 11) rfl o_;exact cK (by rw[Vi];exact h)
   refine Wk.op f 4 (.assign (.tmp 12)) (.i (c+8:Nat)) d_ k_ s_ (λo g w _=> ?_) λa f=> ?_
   ·have h:=cn (ev:=a.eval) (w:=w) Tryz.prog (.inr g);rw[f.G 12]at h;exact cK h
   refine Wk.plain rfl (Wk.plain rfl (q s a w ⟨f.defers,f.size,λd v j=> ?_⟩ (y.mono λd j K=> ?_) z))
   ·have R:d=0\/d=2\/d=4:=by
     by_cases H:d=0
     ·exact .inl H
     ·by_cases G:d=2
      ·exact .inr (.inl G)
      ·by_cases F:d=4
       ·exact .inr (.inr F)
       ·simp[TU,show(d==0)=false from by simpa using H,show(d==2)=false from by simpa using G,show(d==4)=false from by simpa using F]at j
    rcases R with rfl|rfl|rfl
    ·exact f.slot 0 v j
    ·exact f.slot 2 v j
    ·exact f.slot 4 v j
   ·have:=j.1;omega
 ·have e:decide ((c:Int)<n)=false:=decide_eq_false o_;rw[e];refine Wk.plain rfl (Wk.ends rfl (.inl rfl) (Wk.leave (.tuple #[]) rfl f.defers Tryz.func132 (λw=>⟨results_none rfl _ _ w,events_results_none rfl _ _⟩) ?_));intro w r;exact t w ((B.rely Q r).mono λd j _=>by have:=j.2;omega) (u.rely k r) w (bT.refl _ _ _ _)
theorem Le(D:rc N n val PL)(s:RO N.bs/\RO N.bg/\RO N.be/\(∀b,N.gr b->RO b)/\RO 0){T:Array Value}(r:aW [(1, .pt N.bs),(3, .pt N.bg),(4, .pt N.be)] 23 [] ⟨T,[]⟩)(q:V b1/\V ld/\V l)(g:b1≠l/\ld≠l){t:Frame}
 (e:∀w,uv (fR Tryz.prog ty Wg C n val RO) i (CC N C n) V (λ_=>True) w->nH N b1 ld l T .ready w->Wk (fR Tryz.prog ty Wg C n val RO) i V (t.finish (.tuple #[])) cs w):
 ∀(d c:Nat) (a:Act) (w0:World),n- c<=d->c%8=i->c<=n+8->aW [(0, .func (.yield l) #[] #[]),(2, .pt b1),(4, .i c)] 25 [] a->uv (fR Tryz.prog ty Wg C n val RO) i (CC N C n) V (· <c) w0->nH N b1 ld l T .ready w0->
  Wk (fR Tryz.prog ty Wg C n val RO) i V ((base 132).atR a [.code (oK Tryz.f132), .inLoop (oK Tryz.f132), .inBlock 0]) (t::cs) w0:=by
 intro d;induction d with
 |zero=>exact λc a w0 o p f m j k=>zr D s r q g e c a w0 p f m j k λh=>o_
 |succ d u=>exact λc a w0 o p f m j k=>zr D s r q g e c a w0 p f m j k λh a w m j k=>u (c+8) a w o_ o_ o_ m j k
end
end
section
open Go
abbrev JF:ZI:={add:=110,done:=112,wait:=115,relMerge:=119,disable:=120,enable:=121,inBubble:=122,associate:=123,fatal:=124,uOr:=125,uAdd:=126,raceRead:=127,uLoad:=128,uStore:=129,disassociate:=130,semrelease:=131,acquire:=135,isAssociated:=136,uCas:=137,raceWrite:=138,semacquire:=139,orU64:=140,addU64:=141,loadU64:=142,storeU64:=143,casU64:=145,tWgP:=174,tUP:=138,tAssoc:=176,tWg:=170,tAU:=168,tU64:=67,tUint:=55,tU32:=64,tPU32:=179,tPAU:=188,tPU64:=190,tNoCopy:=164,tANoCopy:=165,tAlign64:=166}
theorem rh:ZZ Tryz.prog JF:=by
 constructor
 all_goals first|kernel_rfl|(intro w;kernel_rfl)
end
section
open Go Go.Conc Go.RowKit
open Go.ConcN (WgLive)
section
variable{N:eY}{C:Nat}{val:Nat->Value}{bi:Nat}
theorem Ni(D:rc N n val PL)(hR:RO N.bs/\RO N.bg/\RO N.be/\(∀b,N.gr b->RO b)/\RO 0)(hi:i<8)(hS:uv (fR Tryz.prog 170 Wg C n val RO) i (CC N C n) (· =bi) (λ_=>False) w)(hbi:w.heap[bi]?=some (.cells #[.i i] 3)):
 bA (fR Tryz.prog 170 Wg C n val RO) i ⟨(· =bi),born Tryz.prog {target:= .fn (.func 111) #[.pk Wg 0, .pk N.bs 0, .pk bi 0, .pk N.bg 0, .pk N.be 0],args:=#[]},w⟩:=by
 have hL:=lg (ty:=170) (Wg:=Wg) (C:=C) (n:=n) (val:=val) hR;refine Wk.born (X:=fR Tryz.prog 170 Wg C n val RO) (i:=i) (V:=(· =bi)) (f:=111) (fn:=Tryz.f111) Tryz.func111 k_ k_ ?_;rw[show(#[]:Array Value)++#[.pk Wg 0, .pk N.bs 0, .pk bi 0, .pk N.bg 0, .pk N.be 0]=[.pk Wg 0, .pk N.bs 0, .pk bi 0, .pk N.bg 0, .pk N.be 0].toArray from s_,
  LA (N:=23) _ Tryz.func111 Pz rfl]
 have hF:=aQ [.pk Wg 0, .pk N.bs 0, .pk bi 0, .pk N.bg 0, .pk N.be 0] 23 s_;revert hF;generalize (Act.mk (([.pk Wg 0, .pk N.bs 0, .pk bi 0, .pk N.bg 0, .pk N.be 0]:List Value).toArray++TG (23-([.pk Wg 0, .pk N.bs 0, .pk bi 0, .pk N.bg 0, .pk N.be 0]:List Value).toArray.size) undef) [])=a;intro hF;refine Wk.plain rfl (Wk.region (L:=[0]) rfl ?_);cases ho:(bV Tryz.f111 0)[0]? with
 |none=>exact absurd ho (by simp;decide)
 |some o=>
 obtain⟨e1,e2,e3⟩:=cB (d:=none) (p:= .defer {callee:= .value (.func 112),args:=#[.tmp 0],argTypes:=#[170]}) ho k_;refine Wk.defer ho (e3 _) (by simp[baseD]) rfl e2 ?_;have hF1:aW (ju 0 [.pk Wg 0, .pk N.bs 0, .pk bi 0, .pk N.bg 0, .pk N.be 0]) 23 [dcall JF.done #[.pk Wg 0]] (VN ⟨a.tmps,dcall 112 (#[Ul 0].map a.eval)::a.defers⟩ o.dst undef):=by rw[e1,hF.defers,show(#[Ul 0]:Array Operand).map a.eval=#[.pk Wg 0]from by simp[hF.G 0]];exact⟨rfl,hF.size,hF.slot⟩
 revert hF1;generalize VN ⟨a.tmps,dcall 112 (#[Ul 0].map a.eval)::a.defers⟩ o.dst undef=a;clear hF e1 e2 e3 ho;intro hF;refine Wk.plain rfl (Wk.plain rfl (Wk.region (L:=[0,1,2]) rfl ?_));refine Wk.op hF 7 (.load 149 (.tmp 1)) (.agg N.s.cells) d_ k_ s_ (λo ho w r=>IC (.inr hR.1) (kN ho (hF.G 1) (hS.rely hL r).pap.sig)) λa hF=>Wk.op hF 8 (.load 3 (.tmp 2)) (.i i) d_ k_ s_ (λo ho w r=>rP (.inl rfl) (aO ce ho (hF.G 2) (by rw[aG ((r.own.keep bi (.inl rfl)).trans hbi)];rfl))) λa hF=> ?_;cases ho:(bV Tryz.f111 1)[2]? with
 |none=>exact absurd ho (by simp;decide)
 |some o=>
 obtain⟨e1,e2,e3⟩:=cB (d:=some 9) (p:= .call {callee:= .value (.func 113),args:=#[.tmp 7, .tmp 8],argTypes:=#[149,3]}) ho k_;have hr:=λw=>bU (w:=w) e2 (show(#[Ul 7, .tmp 8]:Array Operand).map a.eval=[.agg N.s.cells, .i i].toArray from by simp[hF.G 7,hF.G 8]) (du Tryz.func113 k_ k_ _);refine Wk.enter ho (e3 _) (by rw[e2];simp) (λw _=>⟨(hr w).1,λe he=>by rw[(hr w).2]at he;simp at he⟩) ?_;rw[aZ (N:=6) _ Tryz.func113 Py rfl];have hG:=aQ [.agg N.s.cells, .i i] 6 s_;revert hG;generalize (Act.mk ([.agg N.s.cells, .i i].toArray++TG (6-[.agg N.s.cells,Value.i i].toArray.size) undef) [])=g;intro hG;refine Wk.plain rfl (Wk.region (L:=[0,1,2]) rfl ?_);refine Wk.mk hG 2 (.box 149 (.tmp 0)) N.s.cells 149 d_ k_ s_ (λo ho w=> ?_) λg w1 r1 hG=> ?_
 ·have:=me (ev:=g.eval) (w:=w) Tryz.prog ho;rw[hG.G 0]at this;exact this
 have hS1:=(hS.rely hL r1).own hL (nR (· =bi) RO w1 (.cells N.s.cells 149));refine Wk.mk hG 3 (.box 3 (.tmp 1)) #[.i i] 3 d_ k_ s_ (λo ho w=> ?_) λg w2 r2 hG=> ?_
 ·have:=me (ev:=g.eval) (w:=w) Tryz.prog ho;rw[hG.G 1]at this;exact this
 have hS2:=(hS1.rely hL r2).own hL (nR (cd (· =bi) w1 (w1.alloc (.cells N.s.cells 149))) RO w2 (.cells #[.i i] 3));have hb1:w1.heap.size<w2.heap.size:=by have:=r2.own.size;rw[aR]at this;omega
 have hV1:cd (· =bi) w1 (w1.alloc (.cells N.s.cells 149)) w1.heap.size:= .inr ⟨TB _,by rw[aR];omega⟩;have hsig:(w2.alloc (.cells #[.i i] 3)).heap[w1.heap.size]?=some (.cells N.s.cells 149):=by rw[cQ _ _ hb1,r2.own.keep _ (.inl hV1),bJ]
 have hV2:cd (cd (· =bi) w1 (w1.alloc (.cells N.s.cells 149))) w2 (w2.alloc (.cells #[.i i] 3)) w2.heap.size:= .inr ⟨TB _,by rw[aR];omega⟩;have hV21:cd (cd (· =bi) w1 (w1.alloc (.cells N.s.cells 149))) w2 (w2.alloc (.cells #[.i i] 3)) w1.heap.size:= .inl hV1;have hint:=bJ w2 (.cells #[.i i] 3);revert hS2 hsig hV2 hV21 hint;generalize cd (cd (· =bi) w1 (w1.alloc (.cells N.s.cells 149))) w2 (w2.alloc (.cells #[.i i] 3))=V;generalize w2.alloc (.cells #[.i i] 3)=wz;generalize hB1:w1.heap.size=b1 at hb1 hG⊢;generalize hB2:w2.heap.size=b2 at hb1 hG⊢;intro hS2 hsig hV2 hV21 hint;clear hS1 r1 r2 hV1 hB1 hB2 hS hbi;refine Wk.op hG 4 (.assign (.const .nilFunc)) .nilFunc d_ k_ s_ (λo ho w _=>cK (cn (ev:=g.eval) (w:=w) Tryz.prog (.inr ho))) λg hG=>Wk.plain rfl (Wk.plain rfl (Wk.region (L:=[0,1]) rfl ?_));refine Wk.op hG 5 (.makeFunc (.func 132) #[] #[.tmp 3, .tmp 2]) (.func (.func 132) #[] #[.pk b2 0, .pk b1 0]) d_ k_ s_ (λo ho w _=> ?_) λg hG=> ?_
 ·have hy:=fv (ev:=g.eval) (w:=w) Tryz.prog ho;rw[show(#[Ul 3, .tmp 2]:Array Operand).map g.eval=#[.pk b2 0, .pk b1 0]from by simp[hG.G 3,hG.G 2]]at hy;exact cK hy
 refine Wk.op hG 4 (.assign (.tmp 5)) (.func (.func 132) #[] #[.pk b2 0, .pk b1 0]) d_ k_ s_ (λo ho w _=> ?_) λg hG=> ?_
 ·have hy:=cn (ev:=g.eval) (w:=w) Tryz.prog (.inr ho);rw[hG.G 5]at hy;exact cK hy
 refine Wk.plain rfl (Wk.ends rfl (.inr ⟨_,rfl⟩) (Wk.leave (.func (.func 132) #[] #[.pk b2 0, .pk b1 0]) rfl hG.defers Tryz.func113 (λw=>lY (t:=4) rfl (hG.slot 4 _ rfl) w) ?_));rw[U7,ho,Ug,e1];have hF:=hF.put (d:=9) d_ (.func (.func 132) #[] #[.pk b2 0, .pk b1 0]);revert hF;generalize a.put (some 9) (.func (.func 132) #[] #[.pk b2 0, .pk b1 0])=a;intro hF;clear e1 e2 e3 ho hr hG;refine Wk.plain rfl (Wk.plain rfl ?_);refine Wk.range (first:=#[]) rfl Tryz.func132 k_ k_ (hF.G 9) λw3 r3=> ?_;have hs3:=r3.own.size;have l1:b1<w3.heap.size:=TC (hS2.low.1 b1 (.inl hV21)) hs3;have l2:b2<w3.heap.size:=TC (hS2.low.1 b2 (.inl hV2)) hs3;have hown:cD V RO w3 (cR w3 {state:= .ready,pending:=none,fn:=(baseD 111).fn,tmps:=a.tmps,params:=#[10,11],assign:=eU Tryz.f111,body:=roundOf Tryz.f111,defers:=w3.heap.size}) #[]:=
  ⟨λm hm _=>bM w3 _ hm,by rw[gI];omega,rfl,rfl,rfl,λe he=>by simp at he⟩
 have hS3:=(hS2.rely hL r3).own hL hown;have eg:cd V w3 (cR w3 {state:= .ready,pending:=none,fn:=(baseD 111).fn,tmps:=a.tmps,params:=#[10,11],assign:=eU Tryz.f111,body:=roundOf Tryz.f111,defers:=w3.heap.size})=kv V w3:=by
  funext m
  apply propext;unfold cd kv;rw[gI];constructor
  ·rintro(h|h)
   ·exact .inl h
   ·exact .inr o_
  ·rintro(h|h)
   ·exact .inl h
   ·exact .inr o_
 rw[eg]at hS3;have hM:nH N b1 w3.heap.size (w3.heap.size+1) a.tmps .ready (cR w3 {state:= .ready,pending:=none,fn:=(baseD 111).fn,tmps:=a.tmps,params:=#[10,11],assign:=eU Tryz.f111,body:=roundOf Tryz.f111,defers:=w3.heap.size}):=
  ⟨(bM w3 _ l1).trans ((r3.own.keep _ (.inl hV21)).trans hsig),eL w3 _,eK w3 _⟩
 have hint3:(cR w3 {state:= .ready,pending:=none,fn:=(baseD 111).fn,tmps:=a.tmps,params:=#[10,11],assign:=eU Tryz.f111,body:=roundOf Tryz.f111,defers:=w3.heap.size}).heap[b2]?=some (.cells #[.i i] 3):=
  (bM w3 _ l2).trans ((r3.own.keep _ (.inl hV2)).trans hint)
 rw[show(#[]:Array Value)++#[.func (.yield (w3.heap.size+1)) #[] #[]]++#[.pk b2 0, .pk b1 0]=[.func (.yield (w3.heap.size+1)) #[] #[], .pk b2 0, .pk b1 0].toArray from s_,
  aZ (N:=25) _ Tryz.func132 M6 rfl]
 have hH:=aQ [.func (.yield (w3.heap.size+1)) #[] #[], .pk b2 0, .pk b1 0] 25 s_;revert hH;generalize (Act.mk ([.func (.yield (w3.heap.size+1)) #[] #[], .pk b2 0, .pk b1 0].toArray++TG (25-[.func (.yield (w3.heap.size+1)) #[] #[], .pk b2 0,Value.pk b1 0].toArray.size) undef) [])=g;intro hH;have hV3:kv V w3 b1/\kv V w3 w3.heap.size/\kv V w3 (w3.heap.size+1):=⟨.inl hV21, .inr (.inl rfl), .inr (.inr rfl)⟩;have hne:b1≠w3.heap.size+1/\w3.heap.size≠w3.heap.size+1:=⟨o_,o_⟩;refine Wk.plain rfl (Wk.region (L:=[0,1]) rfl ?_);refine Wk.op hH 5 (.load 3 (.tmp 1)) (.i i) d_ k_ s_ (λo ho w r=>rP (.inl (.inl hV2)) (aO ce ho (hH.G 1) (by rw[aG ((r.own.keep b2 (.inl (.inl hV2))).trans hint3)];rfl))) λg hH=> ?_;refine Wk.op hH 4 (.assign (.tmp 5)) (.i i) d_ k_ s_ (λo ho w _=> ?_) λg hH=> ?_
 ·have hy:=cn (ev:=g.eval) (w:=w) Tryz.prog (.inr ho);rw[hH.G 5]at hy;exact cK hy
 refine Wk.plain rfl (Wk.plain rfl (Wk.plain rfl ?_));have look3:∀{x y z:Value} (F:List (Nat×Value)),F.lookup 0=some x->F.lookup 2=some y->F.lookup 4=some z->∀d v,[(0,x),(2,y),(4,z)].lookup d=some v->F.lookup d=some v:=by
  intro x y z F h0 h2 h4 d v hd;by_cases e0:d=0
  ·subst e0;rw[h0];exact hd
  by_cases e2:d=2
  ·subst e2;rw[h2];exact hd
  by_cases e4:d=4
  ·subst e4;rw[h4];exact hd
  simp[TU,show(d==0)=false from by simpa using e0,show(d==2)=false from by simpa using e2,show(d==4)=false from by simpa using e4]at hd
 have look3':∀{x y z:Value} (F:List (Nat×Value)),F.lookup 1=some x->F.lookup 3=some y->F.lookup 4=some z->∀d v,[(1,x),(3,y),(4,z)].lookup d=some v->F.lookup d=some v:=by
  intro x y z F h0 h2 h4 d v hd;by_cases e0:d=1
  ·subst e0;rw[h0];exact hd
  by_cases e2:d=3
  ·subst e2;rw[h2];exact hd
  by_cases e4:d=4
  ·subst e4;rw[h4];exact hd
  simp[TU,show(d==1)=false from by simpa using e0,show(d==3)=false from by simpa using e2,show(d==4)=false from by simpa using e4]at hd
 refine Le (l:=w3.heap.size+1) (ld:=w3.heap.size) (b1:=b1) D hR (T:=a.tmps) ⟨rfl,hF.size,λd v hd=>hF.slot d v (look3' _ rfl rfl rfl d v hd)⟩ hV3 hne (λw hSe hMe=> ?_) n i g _ o_ o_ o_ (hH.sub (look3 _ rfl rfl rfl)) (hS3.mono λc hc hlt=> ?_) hM
 ·show Wk _ i (kv V w3) ((baseD 111).atR ⟨a.tmps,{target:= .collected w3.heap.size,args:=#[]}::a.defers⟩ (.endRangeFunc (w3.heap.size+1)::[.inBlock 0])) [ux Tryz.prog] w;refine Wk.rangeOver hV3.2.2 hMe.loop rfl rfl λw4 r4=> ?_;have hS4:=(hSe.rely hL r4).own hL (ia (RO:=RO) (w:=w4) {state:= .exhausted,pending:=none,fn:=111,tmps:=a.tmps,params:=#[10,11],assign:=eU Tryz.f111,body:=roundOf Tryz.f111,defers:=w3.heap.size} hV3.2.2);rw[fI]at hS4;have hM4:=(hMe.rely hV3 r4).turn (st':= .exhausted) hne;refine Wk.plain rfl (Wk.ends rfl (.inl rfl) (Wk.take rfl hV3.2.1 hM4.list λw5 r5=> ?_));rw[hF.defers];have hown5:cD (kv V w3) RO w5 {w5 with heap:=w5.heap.setIfInBounds w3.heap.size (.deferred none)} #[]:=
   ⟨λm _ hm=>sN (show w3.heap.size≠m from λe=>hm (e▸hV3.2.1)),s_,rfl,rfl,rfl,λe he=>by simp at he⟩
  have hS5:=(hS4.rely hL r5).own hL hown5;obtain⟨v0,h0⟩:=hS5.pap.zero;exact Wk.done (X:=fR Tryz.prog 170 Wg C n val RO) rh rfl hR.2.2.2.2 Tryz.func111 rfl h0 hS5.live λc hc=>hS5.cells c hc trivial
 ·have:=hc.1;have:=hc.2;omega
end
end
section
open Go Go.Conc Go.RowKit
open Go.ConcN (WgLive)
open Go.ConcR (DC0)
def io(f:Func):Code:= .seq (rG f 4) (.seq (.cond (.tmp 13) .skip (.exit 0)) (.seq (.block 1 (.seq (rG f 5) (.seq (rG f 6) (rG f 7)))) (rG f 8)))
def ko(f:Func):Code:= .seq (rG f 9) (.seq (rG f 10) .ret)
theorem PG:Tryz.f105.body=some (.seq (rG Tryz.f105 0) (.seq (rG Tryz.f105 1) (.seq (rG Tryz.f105 2)
 (.seq (.seq (rG Tryz.f105 3) (.block 0 (.loop (io Tryz.f105)))) (ko Tryz.f105))))):=k_
theorem Ik.cond{c:(Nat->Prop)->Goroutine->World->Prop}{b:Frame}{k:List Item}{w0:World}{A B:Code}(q:Bool)(d:a.eval x= .bool q)(h:Ik X c m V (b.atR a (.code (if q then A else B)::k)) cs w0):Ik X c (m+1) V (b.atR a (.code (.cond x A B)::k)) cs w0:=by
 refine Ik.plain (t:= .code (if q then A else B)::k) ?_ h;have e:(b.atR a (.code (.cond x A B)::k)).eval x= .bool q:=by rw[Us];exact d
 show(match (b.atR a (.code (.cond x A B)::k)).eval x with| .bool q=>some (WK (if q then A else B)::k)|_=>none)=_;rw[e]
theorem Ik.seg{a:(Nat->Prop)->Goroutine->World->Prop}{w0:World}(h:∀w,bW X V w0 w->Goes X.P true (bW X V) DC0 (a V) m (G fr cs) w):Ik X a m V fr cs w0:=λw b=>dw (h w b)
theorem cF.up{a:(Nat->Prop)->Goroutine->World->Prop}:∀{m:Nat} {V:Nat->Prop} {g:Goroutine} {w:World},cF X a m V g w->cF X a (m+1) V g w
 |0,_,_,_,h=> .inl h
 |_+1,_,_,_,h=>h.elim .inl λ⟨d,h⟩=> .inr ⟨d,λb c=>let ⟨g',w',es,h1,h2,h3⟩:=h b c;⟨g',w',es,h1,h2,cF.up h3⟩⟩
theorem cF.to{a:(Nat->Prop)->Goroutine->World->Prop}(h:cF X a m V g w):∀e,cF X a (m+e) V g w
 |0=>h
 |e+1=>(cF.to h e).up
theorem Ik.to{a:(Nat->Prop)->Goroutine->World->Prop}{w0:World}(c:m<=n)(h:Ik X a m V fr cs w0):Ik X a n V fr cs w0:=λw b=>by
 have:=(h w b).to (n- m)
 rwa [show m+(n- m)=n from o_]at this
structure Sn (X:bS) (wE w:World):Prop where
 live:WgLive X.ty X.Wg w
 since:eq X.RO wE w
theorem Sn.rely{b a:World}(h:Sn X b w)(r:bW X V w a):Sn X b a:=⟨r.live h.live,h.since.trans (r.own.mono λ_ c=> .inr c)⟩
theorem Sn.meet{b a:World}(h:Sn X b w)(r:mF X V w a):Sn X b a:=⟨r.live,h.since.trans (r.since.mono λ_ c=> .inr c)⟩
structure AB (N:eY) (Wg C n:Nat) (RO:Nat->Prop) (wE:World):Prop where
 pap:CC N C n wE
 ro:RO N.bs/\RO N.bg/\RO N.be/\(∀b,N.gr b->RO b)/\RO 0
 low:(∀b,RO b->b<wE.heap.size)/\Wg<wE.heap.size/\C<wE.heap.size
 sep:¬RO C/\C≠Wg/\¬RO Wg
abbrev Vn:Nat->Prop:=λ_=>False
section
variable{N:eY}{C:Nat}{val:Nat->Value}{c:Frame}
def Mo(N:eY)(Wg j:Nat):List (Nat×Value):=[(2, .pt N.bs),(3, .pt N.bg),(5, .pt N.be),(6, .pt Wg),(12, .int .i64 j)]
theorem xk(m:F.lookup 2=some (.pk N.bs 0))(l:F.lookup 3=some (.pk N.bg 0))(k:F.lookup 5=some (.pk N.be 0))(i:F.lookup 6=some (.pk Wg 0))(b:F.lookup 12=some (.i j)):
 ∀d v,(Mo N Wg j).lookup d=some v->F.lookup d=some v:=by
 intro d v a;by_cases h:d=2
 ·subst h;rw[m];exact a
 by_cases g:d=3
 ·subst g;rw[l];exact a
 by_cases f:d=5
 ·subst f;rw[k];exact a
 by_cases e:d=6
 ·subst e;rw[i];exact a
 by_cases c:d=12
 ·subst c;rw[b];exact a
 simp[Mo,TU,show(d==2)=false from by simpa using h,show(d==3)=false from by simpa using g,show(d==5)=false from by simpa using f,show(d==6)=false from by simpa using e,show(d==12)=false from by simpa using c]at a
def Eb(X:bS)(wE:World)(c:Frame)(cs:List Frame)(_:Nat->Prop)(g:Goroutine)(w:World):Prop:=g=cJ (c.finish (.sk X.C X.n X.n)) cs/\eq X.RO wE w
def Qm(f:FuncId)(ops:Array Oper)(k:List Item)(X:bS)(N:eY)(wE:World)(cs:List Frame)(V:Nat->Prop)(g:Goroutine)(w:World):Prop:=
 ∃w00 a,aW (Mo N X.Wg 8) 20 [] a/\Sn X wE w00/\E9 X JF w00 ((base f).at a (.inRegion ops [0]::k)) cs V g w
theorem su.mono{Fin A A':(Nat->Prop)->Goroutine->World->Prop}(n:∀V g w,A V g w->A' V g w)(h:su X Fin A V g w):su X Fin A' V g w:=by refine⟨h.1,λv l j=> ?_⟩;obtain⟨u,r,q,p⟩:=h.2 v l j;refine⟨u,r,q,λs=> ?_⟩;obtain⟨k,m⟩:=p s;refine⟨k,m.mono λV g w e=>⟨e.1,λf b a=>⟨(e.2 f b a).1,λc=> ?_⟩⟩⟩;obtain⟨t,o,i,d⟩:=(e.2 f b a).2 c;exact⟨t,o,i,d.mono n⟩
end
theorem vT(V:Nat->Prop)(w:World)(a:Addr)(v:Value):cd V w (w.setCell a v)=V:=by
 funext b
 apply propext;exact⟨λh=>h.elim id λh=>absurd h.2 (by simpa[U9]using h.1), .inl⟩
theorem vU(w:World)(o:Obj):cd Vn w (w.alloc o)=(· =w.heap.size):=by
 funext b
 apply propext;unfold cd;rw[aR];exact⟨λh=>h.elim (λh=>h.elim) λh=>o_,λh=> .inr o_⟩
theorem NJ{ev:Operand->Value}{a:Array Value}(b:o.op= .go {callee:= .value x,args:=#[],argTypes:=#[]})(c:ev x= .func (.func f) #[] a)(w:World):
 (execOp ev o).run P w= .ok (.spawn {target:= .fn (.func f) a,args:=#[]}) w/\(execOp ev o).events P w #[]=#[]:=by constructor<;>simp[execOp,b,resolve,UX,c]
section
variable{N:eY}{C:Nat}{val:Nat->Value}{c:Frame}
theorem vE(a:AB N Wg C n RO wE)(h:eq RO wE w):CC N C n w:=lg (ty:=0) (Wg:=Wg) (val:=λ_=>undef) a.ro wE w h.keep h.size a.pap
theorem yr(i:AB N Wg C n RO wE){w00:World}(b:aW (Mo N Wg 8) 20 [] a)(f:Sn (fR Tryz.prog 170 Wg C n val RO) wE w00)(w:World)(k:mF (fR Tryz.prog 170 Wg C n val RO) V w00 w):
 cF (fR Tryz.prog 170 Wg C n val RO) (Eb (fR Tryz.prog 170 Wg C n val RO) wE c cs) 12 V (G ((base 105).at (a.put (((bV Tryz.f105 9)[0]?).bind (·.dst)) (.tuple #[])) (.inRegion (bV Tryz.f105 9) []::[.code (.seq (rG Tryz.f105 10) .ret)])) (c::cs)) w:=by
 have h:=f.meet k;have b:=b.put (d:=18) d_ (.tuple #[]);rw[show((bV Tryz.f105 9)[0]?).bind (·.dst)=some 18 from k_];revert b;generalize a.put (some 18) (.tuple #[])=a;intro b;refine Ik.now (fr:=(base 105).atR a (.inRegion (bV Tryz.f105 9) []::[.code (.seq (rG Tryz.f105 10) .ret)])) (cs:=c::cs) ?_;refine Ik.plain rfl (Ik.plain rfl (Ik.region (L:=[0,1]) rfl ?_));refine Ik.op b 19 (.load 25 (.tmp 5)) (.sk C n n) d_ k_ s_ (λo e w r=>rP (.inr i.ro.2.2.1) (aO rz e (b.G 5) (by rw[aG (vE i (h.rely r).since).ends];rfl))) λa b=> ?_;refine Ik.op b 4 (.assign (.tmp 19)) (.sk C n n) d_ k_ s_ (λo e w _=> ?_) λa b=> ?_
 ·have g:=cn (ev:=a.eval) (w:=w) Tryz.prog (.inr e);rw[b.G 19]at g;exact cK g
 refine Ik.plain rfl (Ik.ends rfl (.inr ⟨_,rfl⟩) (Ik.leave (.sk C n n) rfl b.defers Tryz.func105 (λw=>lY (t:=4) rfl (b.slot 4 _ rfl) w) (Ik.stop λl j=>⟨rfl,(h.rely j).since⟩)))
abbrev An(X:bS)(f:Func)(g:FuncId)(N:eY)(wE:World)(cs:List Frame):=Qm g (bV f 9) [.code (.seq (rG f 10) .ret)] X N wE cs
theorem G2(i:AB N Wg C n RO wE)(V:Nat->Prop)(g:Goroutine)(w:World)(h:An (fR Tryz.prog 170 Wg C n val RO) Tryz.f105 105 N wE (c::cs) V g w):
 ∃k,cF (fR Tryz.prog 170 Wg C n val RO) (su (fR Tryz.prog 170 Wg C n val RO) (Eb (fR Tryz.prog 170 Wg C n val RO) wE c cs) (An (fR Tryz.prog 170 Wg C n val RO) Tryz.f105 105 N wE (c::cs))) k V g w:=by obtain⟨w00,a,d,b,f⟩:=h;have e:=QH (fR Tryz.prog 170 Wg C n val RO) rh (Fin:=Eb (fR Tryz.prog 170 Wg C n val RO) wE c cs) (V:=V) (w00:=w00) (mT:=12) (yr i d b) g w f;exact⟨30,(dw e).mono λV g w=>su.mono λV g w h=>⟨w00,a,d,b,h⟩⟩
theorem Mb(X:bS)(f:Func)(d:FuncId)(b:World)(V:Nat->Prop)(g:Goroutine)(w:World)(h:An X f d N b cs V g w):g.status= .running:=by obtain⟨c,a,_,_,T,rfl,_⟩:=h;rfl
end
def RQ(X:bS)(Anch:(Nat->Prop)->Goroutine->World->Prop):Nat->(Nat->Prop)->Goroutine->World->Prop
 |0=>Jw X Anch
 |r+1=>AH X (8-(r+1)) (kI X Anch 8 r)
theorem QM{Anch:(Nat->Prop)->Goroutine->World->Prop}{r:Nat}(h:cF X (RQ X Anch r) k V g w):kI X Anch 8 r V g w:=by
 cases r with
 |zero=>exact⟨k,h⟩
 |succ r=>exact⟨k,h⟩
section
variable{N:eY}{C:Nat}{val:Nat->Value}{c:Frame}
theorem Ry(x:AB N Wg C n RO wE)(b:aW (Mo N Wg 8) 20 [] a)(f:Sn (fR Tryz.prog 170 Wg C n val RO) wE w0):
 Ik (fR Tryz.prog 170 Wg C n val RO) (Jw (fR Tryz.prog 170 Wg C n val RO) (An (fR Tryz.prog 170 Wg C n val RO) Tryz.f105 105 N wE (c::cs))) 300 Vn ((base 105).atR a [.code (io Tryz.f105), .inLoop (io Tryz.f105), .inBlock 0, .code (ko Tryz.f105)]) (c::cs) w0:=by
 refine Ik.plain rfl (Ik.region (L:=[0]) rfl ?_);refine Ik.op b 13 (.binOp .lss 3 (.tmp 12) (.const (.i 8)) 3) (.bool false) d_ k_ s_ (λo e w _=>cK (di (m:=8) (n:=8) e (b.G 12) rfl)) λa b=>Ik.plain rfl (Ik.plain rfl (Ik.cond false (b.G 13) ?_));refine Ik.plain rfl (Ik.plain rfl (Ik.region (L:=[0]) rfl ?_));cases e:(bV Tryz.f105 9)[0]? with
 |none=>exact absurd e (by simp;decide)
 |some o=>
 obtain⟨A,i,z⟩:=cB (d:=some 18) (p:= .call {callee:= .value (.func 115),args:=#[.tmp 6],argTypes:=#[170]}) e k_;have j:=λw=>bU (w:=w) i (show(#[Ul 6]:Array Operand).map a.eval=#[.pk Wg 0]from by simp[b.G 6]) (du (P:=Tryz.prog) rh.f_wait k_ k_ _);refine Ik.enter e (z _) (by rw[i];simp) j ?_;refine Ik.to (m:=3) d_ λw r=> ?_;have s:mF (fR Tryz.prog 170 Wg C n val RO) Vn w0 w:=⟨r.live f.live,r.own,λh=>h.elim (λh=>h.elim) x.sep.2.2⟩;have l:=AN (fR Tryz.prog 170 Wg C n val RO) rh (V:=Vn) (c:=(base 105).atR a (.inRegion (bV Tryz.f105 9) [0]::[.code (.seq (rG Tryz.f105 10) .ret)])) (cs:=c::cs) w s;have q:TJ Tryz.prog 115 #[.pk Wg 0] .normal=(base JF.wait).at ⟨#[.pk Wg 0]++TG 83 undef,[]⟩ [.code (YX JF)]:=aZ (N:=84) (c:=YX JF) [.pk Wg 0] rh.f_wait k_ k_;rw[q];refine(dw l).mono λV g w h=>⟨h.1, ?_⟩;obtain⟨y,v,k,u⟩:=h.2;exact⟨y,v,k,u.mono λV g w t=>⟨w0,a,b.sub (xk rfl rfl rfl rfl rfl),f,t⟩⟩
theorem Rx(D:rc N n val PL)(t:AB N Wg C n RO wE)(hj:j<8){y:(Nat->Prop)->Goroutine->World->Prop}(f:aW (Mo N Wg j) 20 [] a)(a1:Sn (fR Tryz.prog 170 Wg C n val RO) wE w0)
 (O:∀a w,aW (Mo N Wg j) 20 [] a->Sn (fR Tryz.prog 170 Wg C n val RO) wE w->y Vn (cJ ((base 105).atR a (.inRegion (bV Tryz.f105 7) []::[.inBlock 1, .code (rG Tryz.f105 8), .inLoop (io Tryz.f105), .inBlock 0, .code (ko Tryz.f105)])) cs) w):
 Ik (fR Tryz.prog 170 Wg C n val RO) (AH (fR Tryz.prog 170 Wg C n val RO) j y) 300 Vn ((base 105).atR a [.code (io Tryz.f105), .inLoop (io Tryz.f105), .inBlock 0, .code (ko Tryz.f105)]) cs w0:=by
 refine Ik.plain rfl (Ik.region (L:=[0]) rfl ?_);refine Ik.op f 13 (.binOp .lss 3 (.tmp 12) (.const (.i 8)) 3) (.bool true) d_ k_ s_ (λo g w _=> ?_) λa f=> ?_
 ·have I:=di (ev:=a.eval) (w:=w) (m:=j) (n:=8) g (f.G 12) rfl;rw[decide_eq_true (show(j:Int)<8 from o_)]at I;exact cK I
 refine Ik.plain rfl (Ik.plain rfl (Ik.cond true (f.G 13) ?_));refine Ik.plain rfl (Ik.plain rfl (Ik.plain rfl (Ik.plain rfl (Ik.region (L:=[0,1,2]) rfl ?_))));refine Ik.op f 14 (.move (.tmp 12)) (.i j) d_ k_ s_ (λo g w _=> ?_) λa f=> ?_
 ·have I:=cn (ev:=a.eval) (w:=w) Tryz.prog (.inl g);rw[f.G 12]at I;exact cK I
 refine Ik.mk f 7 (.alloc 3) (λw=> .pk w.heap.size 0) (λ_=> .cells #[.i 0] 3) d_ k_ s_ (λo g w _=>⟨(j9 g).1,λe he=>by rw[(j9 g).2]at he;simp at he⟩) λa J r1 f=> ?_;have l:=a1.rely r1;rw[vU];have B:=bJ J (.cells #[.i 0] 3);have A:=aR J (.cells #[.i 0] 3);have E:Sn (fR Tryz.prog 170 Wg C n val RO) wE (J.alloc (.cells #[.i 0] 3)):=by have T:=l.since.size;have U:=t.low.2.1;refine⟨?_,⟨λb q=>(cQ _ _ (TC (t.low.1 b q) T)).trans (l.since.keep b q),by rw[A];have:=l.since.size;omega,l.since.os,l.since.output,l.since.tape⟩⟩;obtain⟨st,sm,hl⟩:=l.live;exact⟨st,sm,(cQ _ _ (show Wg<J.heap.size from TC U T)).trans hl⟩
 have a0:wE.heap.size<=J.heap.size:=l.since.size;revert B E;generalize J.alloc (.cells #[.i 0] 3)=w2 at A⊢;generalize J.heap.size=i at a0 f A⊢;intro B E;clear l r1;cases g:(bV Tryz.f105 5)[2]? with
 |none=>exact absurd g (by simp;decide)
 |some o=>
 obtain⟨S,H,R⟩:=cB (d:=none) (p:= .store 3 (.tmp 7) (.tmp 14)) g k_;refine Ik.makes g (R _) (by rw[H];simp) λz r3=> ?_;have r:z.heap[i]?=some (.cells #[.i 0] 3):=(r3.own.keep i (.inl rfl)).trans B;have K:=eI (w:=z) (b:=i) (k:=0) (v:= .i j) (v0:= .i 0) rfl rfl (L0.1 z) H (f.G 7) (f.G 14) (by rw[aG r];rfl) (by unfold Ux;rw[show z.heap[(⟨i,0,none⟩:Addr).block]?=_ from r];simp);refine⟨_,K.1, ?_, ?_⟩
 ·rw[K.2];exact Df (V:=(· =i)) (a:=⟨i,0,none⟩) rfl _
 rw[vT,S];have s:=E.rely r3;have a4:i<z.heap.size:=(gA r).1;have Y:∀b,RO b->b≠i:=λb q e=>by have:=t.low.1 b q;omega
 have G:Sn (fR Tryz.prog 170 Wg C n val RO) wE (z.setCell ⟨i,0,none⟩ (.i j)):=by have U:=t.low.2.1;refine⟨?_,⟨λb q=>(cA z _ (Y b q)).trans (s.since.keep b q),by simpa[U9]using s.since.size,s.since.os,s.since.output,s.since.tape⟩⟩;obtain⟨st,sm,hl⟩:=s.live;exact⟨st,sm,(cA z _ (show Wg≠i from o_)).trans hl⟩
 have x:=jn (v:= .i j) r;have f:aW ((7, .pt i)::(14, .i j)::(13, .bool true)::Mo N Wg j) 20 [] (a.put none undef):=f;revert x G f;generalize z.setCell ⟨i,0,none⟩ (.i j)=w4;generalize a.put none undef=a;intro G x f;clear s r3 r K E B S H R g A;refine Ik.plain rfl (Ik.plain rfl (Ik.region (L:=[0]) rfl ?_));cases g:(bV Tryz.f105 6)[0]? with
 |none=>exact absurd g (by simp;decide)
 |some o=>
 obtain⟨S,H,R⟩:=cB (d:=some 15) (p:= .call {callee:= .value (.func 110),args:=#[.tmp 6, .const (.i 1)],argTypes:=#[170,3]}) g k_;have hr:=λw=>bU (w:=w) H (show(#[Ul 6, .const (.i 1)]:Array Operand).map a.eval=#[.pk Wg 0, .i 1]from by simp[f.G 6];rfl) (du (P:=Tryz.prog) rh.f_add k_ k_ _);refine Ik.enter g (R _) (by rw[H];simp) hr ?_;have he:TJ Tryz.prog 110 #[.pk Wg 0, .i 1] .normal=(base JF.add).at ⟨#[.pk Wg 0, .i 1]++TG 115 undef,[]⟩ [.code (Ze JF)]:=aZ (N:=117) (c:=Ze JF) [.pk Wg 0, .i 1] rh.f_add k_ k_;rw[he];refine Ik.to (m:=200) d_ (Ik.seg λw5 r5=> ?_);have a3:mF (fR Tryz.prog 170 Wg C n val RO) (· =i) w4 w5:=⟨r5.live G.live,r5.own,λh=>h.elim (λh=>by have:=t.low.2.1;have h:Wg=i:=h;omega) t.sep.2.2⟩;refine Ml (fR Tryz.prog 170 Wg C n val RO) rh (mT:=4) (w00:=w4) (λw6 a2=> ?_) w5 a3;have f:=f.put (d:=15) d_ (.tuple #[]);rw[g,Ug,S];revert f;generalize a.put (some 15) (.tuple #[])=a;intro f;refine Ik.now (fr:=(base 105).atR a (.inRegion (bV Tryz.f105 6) []::_)) ?_;refine Ik.plain rfl (Ik.region (L:=[0,1]) rfl ?_);refine Ik.op f 16 (.makeFunc (.func 111) #[] #[.tmp 6, .tmp 2, .tmp 7, .tmp 3, .tmp 5]) (.func (.func 111) #[] #[.pk Wg 0, .pk N.bs 0, .pk i 0, .pk N.bg 0, .pk N.be 0]) d_ k_ s_ (λo g w _=> ?_) λa f=> ?_
 ·have I:=fv (ev:=a.eval) (w:=w) Tryz.prog g;rw[show(#[Ul 6, .tmp 2, .tmp 7, .tmp 3, .tmp 5]:Array Operand).map a.eval=#[.pk Wg 0, .pk N.bs 0, .pk i 0, .pk N.bg 0, .pk N.be 0]from by simp[f.G 6,f.G 2,f.G 7,f.G 3,f.G 5]]at I;exact cK I
 refine Ik.stop λw7 r7=> ?_;have Z:=aA a2 r7;have F:=G.meet Z;clear S H R g hr;cases g:(bV Tryz.f105 7)[1]? with
 |none=>exact absurd g (by simp;decide)
 |some o=>
 obtain⟨S,H,R⟩:=cB (d:=none) (p:= .go {callee:= .value (.tmp 16),args:=#[],argTypes:=#[]}) g k_;have X:=NJ (P:=Tryz.prog) H (f.G 16) w7;have M:=stepG_spawn (P:=Tryz.prog) (main:=true) (b:=base 105) (a:=a) (k:=[.inBlock 1, .code (rG Tryz.f105 8), .inLoop (io Tryz.f105), .inBlock 0, .code (ko Tryz.f105)]) (cs:=cs) (rest:=[]) g (R _) (by simp[base]) X.1 rfl;unfold listed at M;rw[X.2,seen_none,S]at M;refine⟨rfl,_,_,(· =i),M,λb q=>q,λQ W=> ?_, ?_⟩
 ·have u:=F.since.size;refine Ni D t.ro hj ⟨vE t F.since,F.live,Q,λ_ _ h=>h.elim,⟨λb q=>q.elim (W b) λq=>TC (t.low.1 b q) u,TC t.low.2.1 u,TC t.low.2.2 u⟩,⟨λb q=> ?_,t.sep.1,t.sep.2.1⟩⟩ ((Z.since.keep i (.inl rfl)).trans x);have q:b=i:=q;subst q;exact⟨λhr=>Y b hr rfl,λe=>by have:=t.low.2.2;have e:b=C:=e;omega,λe=>by have:=t.low.2.1;have e:b=Wg:=e;omega⟩
 ·have eV:(λb=>b=i/\¬b=i)=Vn:=by
   funext b
   apply propext;exact⟨λh=>h.2 h.1,λh=>h.elim⟩
  show y (λb=>b=i/\¬b=i) _ w7;rw[eV];exact O (a.put none undef) w7 (f.sub (xk rfl rfl rfl rfl rfl)) F
end
section
variable{y:Operand}
theorem BD(j:0<n)(l:n<=65536)(b:o.op= .makeSlice 25 x y)(f:ev x= .i n)(e:ev y= .i n):
 (execOp ev o).run Tryz.prog w= .ok (.value (.sk w.heap.size n n)) (w.alloc (.cells (TG n (.string ⟨#[]⟩)) 9))/\(execOp ev o).events Tryz.prog w #[]=#[]:=by
 have g:Tryz.prog.underlying 25=some (.slice 9):=k_
 have c:U2.wrap (n:Int)=n:=by rw[TR];omega
 have h:Tryz.t9.bytes=16:=k_
 have d:¬(281474976710656<16*(n:Int)):=o_
 have a:n*16<=roomBytes:=by unfold roomBytes;omega
 have k:¬n=0:=o_
 constructor
 ·simp[execOp,b,f,e,Vx,run_underlying g,c,d,askRoom,newRow,h,k,go_sem];refine congrArg (λz=>Yf (ZF (Value.sk w.heap.size n n)) (w.alloc (Xm z 9))) (WI s_ λi p m=> ?_);simp[Zl]
 ·simp[execOp,b,f,e,Vx,run_underlying g,c,d,askRoom,a,newRow,h,go_sem]
theorem HN(a:o.op= .alloc 170):Mk Tryz.prog ev o w #[.int .u64 0, .int .u32 0] 170:=by
 have e:execOp ev o=(do pure (.value (←Uo 170 true (.tuple #[])))):=by simp only[execOp,a]
 unfold Mk;rw[e];constructor<;>kernel_rfl
end
section
variable{N:eY}{C:Nat}{val:Nat->Value}{c:Frame}
theorem MK(D:rc N n val PL)(f:AB N Wg C n RO wE):∀r,r<=8->∀(a:Act) (w0:World),aW (Mo N Wg (8- r)) 20 [] a->Sn (fR Tryz.prog 170 Wg C n val RO) wE w0->
 Ik (fR Tryz.prog 170 Wg C n val RO) (RQ (fR Tryz.prog 170 Wg C n val RO) (An (fR Tryz.prog 170 Wg C n val RO) Tryz.f105 105 N wE (c::cs)) r) 300 Vn ((base 105).atR a [.code (io Tryz.f105), .inLoop (io Tryz.f105), .inBlock 0, .code (ko Tryz.f105)]) (c::cs) w0
 |0,_,a,w0,b,hSn=>Ry f b hSn
 |r+1,hr,a,w0,b,hSn=>by
  refine Rx D f (j:=8-(r+1)) o_ b hSn λa w b g=>QM (k:=307) (Ik.now ?_);refine Ik.plain rfl (Ik.plain rfl (Ik.region (L:=[0,1]) rfl ?_));refine Ik.op b 17 (.binOp .add 3 (.tmp 12) (.const (.i 1)) 3) (.i (8- r:Nat)) d_ k_ s_ (λo e w _=> ?_) λa b=> ?_
  ·have d:=iY (ev:=a.eval) (w:=w) (m:=(8-(r+1):Nat)) (n:=1) e (b.G 12) rfl o_;rw[show(((8-(r+1):Nat):Int)+1)=((8- r:Nat):Int)from o_]at d;exact cK d
  refine Ik.op b 12 (.move (.tmp 17)) (.i (8- r:Nat)) d_ k_ s_ (λo e w _=> ?_) λa b=> ?_
  ·have d:=cn (ev:=a.eval) (w:=w) Tryz.prog (.inl e);rw[b.G 17]at d;exact cK d
  exact Ik.plain rfl (Ik.plain rfl (MK D f r o_ a w (b.sub (xk rfl rfl rfl rfl rfl)) g))
theorem JX(D:rc N n val PL)(f:AB N Wg C n RO wE)(b:aW [(6, .pt Wg),(2, .pt N.bs),(3, .pt N.bg),(5, .pt N.be)] 20 [] a)(e:WgLive 170 Wg wE):
 kI (fR Tryz.prog 170 Wg C n val RO) (An (fR Tryz.prog 170 Wg C n val RO) Tryz.f105 105 N wE (c::cs)) 8 8 Vn
  (cJ ((base 105).atR a (.inRegion (bV Tryz.f105 2) []::[.code (.seq (.seq (rG Tryz.f105 3) (.block 0 (.loop (io Tryz.f105)))) (ko Tryz.f105))])) (c::cs)) wE:=by refine QM (k:=308) (Ik.now ?_);refine Ik.plain rfl (Ik.plain rfl (Ik.plain rfl (Ik.region (L:=[0]) rfl ?_)));refine Ik.op b 12 (.move (.const (.i 0))) (.i 0) d_ k_ s_ (λo d w _=>cK (cn (ev:=a.eval) (w:=w) Tryz.prog (.inl d))) λa b=> ?_;exact Ik.plain rfl (Ik.plain rfl (Ik.plain rfl (MK D f 8 (TB _) a wE (b.sub (xk rfl rfl rfl rfl rfl)) ⟨e,eq.refl _ _⟩)))
end
theorem ni(V:Nat->Prop)(w:World)(o:Obj):cd V w (w.alloc o)=λb=>V b\/b=w.heap.size:=by
 funext b
 apply propext;unfold cd;rw[aR];exact⟨λh=>h.imp id λh=>o_,λh=>h.imp id λh=>o_⟩
theorem eq.alloc{R:Nat->Prop}{wK:World}(h:eq R wK w)(c:∀b,R b->b<wK.heap.size)(o:Obj):eq R wK (w.alloc o):=
 ⟨λb a=>(cQ _ _ (TC (c b a) h.size)).trans (h.keep b a),by rw[aR];have:=h.size;omega,h.os,h.output,h.tape⟩
theorem eq.set{R:Nat->Prop}{wK:World}(h:eq R wK w){a:Addr}(d:¬R a.block)(v:Value):eq R wK (w.setCell a v):=
 ⟨λb c=>(cA w v (λe=>d (e▸c))).trans (h.keep b c),by simpa[U9]using h.size,h.os,h.output,h.tape⟩
theorem eq.rely{wK w₁:World}(h:eq X.RO wK w)(r:bW X V w w₁):eq X.RO wK w₁:=h.trans (r.own.mono λ_ a=> .inr a)
section
variable{s:dp}{ex:Array Value}{ga:Addr}{glen gcap ty:Nat}{val:Nat->Value}{wK:World}{c:Frame}
structure At2 (s:dp) (ex:Array Value) (ga:Addr) (glen gcap n:Nat) (RO:Nat->Prop) (wK:World) (f:Func) (g0:FuncId) (cs:List Frame) (V:Nat->Prop) (g:Goroutine) (w:World) (a:Act) (bs bg C be:Nat):Prop where
 here:g=cJ ((base g0).atR a (.inRegion (bV f 2) [0]::[.code (.seq (.seq (rG f 3) (.block 0 (.loop (io f)))) (ko f))])) cs
 has:aW [(2, .pt bs),(3, .pt bg),(5, .pt be)] 20 [] a
 sig:w.heap[bs]?=some (.cells (s.cells++ex) 149)
 gone:w.heap[bg]?=some (.cells #[.slice (some ga) glen gcap] 22)
 list:w.heap[C]?=some (.cells (TG n (.string ⟨#[]⟩)) 9)
 ends:w.heap[be]?=some (.cells #[.sk C n n] 25)
 own:∀b,V b↔b=bs\/b=bg\/b=C\/b=be
 order:wK.heap.size<=bs/\bs<bg/\bg<C/\C<be/\be<w.heap.size
 kept:eq RO wK w
theorem R9(a0:0<n)(hn:n<=65536)(l:s.count=n)(E:∀b,RO b->b<wK.heap.size)(f:aW [(0, .agg (s.cells++ex)),(1, .slice (some ga) glen gcap)] 20 [] a):
 Ik (fR Tryz.prog ty 0 0 n val RO) (λV g w=>∃a bs bg C be,At2 s ex ga glen gcap n RO wK Tryz.f105 105 (c::cs) V g w a bs bg C be) 30 Vn
  ((base 105).atR a [.code (.seq (rG Tryz.f105 0) (.seq (rG Tryz.f105 1) (.seq (rG Tryz.f105 2)
    (.seq (.seq (rG Tryz.f105 3) (.block 0 (.loop (io Tryz.f105)))) (ko Tryz.f105)))))]) (c::cs) wK:=by
 refine Ik.plain rfl (Ik.region (L:=[0,1,2]) rfl ?_);refine Ik.mk f 2 (.box 149 (.tmp 0)) (λw=> .pk w.heap.size 0) (λ_=> .cells (s.cells++ex) 149) d_ k_ s_ (λo i w _=> ?_) λa z Z f=> ?_
 ·have:=me (ev:=a.eval) (w:=w) Tryz.prog i;rw[f.G 0]at this;exact⟨this.1,λe j=>by rw[this.2]at j;simp at j⟩
 have K:=(eq.rely (eq.refl RO wK) Z).alloc E (.cells (s.cells++ex) 149);rw[vU];have s1:wK.heap.size<=z.heap.size:=Z.own.size;have Q:=bJ z (.cells (s.cells++ex) 149);have U:=aR z (.cells (s.cells++ex) 149);revert K Q U;generalize z.alloc (.cells (s.cells++ex) 149)=u1;generalize z.heap.size=bs at s1 f⊢;intro K Q U;clear Z;refine Ik.mk f 3 (.box 22 (.tmp 1)) (λw=> .pk w.heap.size 0) (λ_=> .cells #[.slice (some ga) glen gcap] 22) d_ k_ s_ (λo i w _=> ?_) λa u G f=> ?_
 ·have:=me (ev:=a.eval) (w:=w) Tryz.prog i;rw[f.G 1]at this;exact⟨this.1,λe j=>by rw[this.2]at j;simp at j⟩
 have J:=(eq.rely K G).alloc E (.cells #[.slice (some ga) glen gcap] 22);rw[ni];have Y:bs<u.heap.size:=by have:=G.own.size;omega
 have F:(u.alloc (.cells #[.slice (some ga) glen gcap] 22)).heap[bs]?=some (.cells (s.cells++ex) 149):=(cQ _ _ Y).trans ((G.own.keep bs (.inl rfl)).trans Q);have O:=bJ u (.cells #[.slice (some ga) glen gcap] 22);have T:=aR u (.cells #[.slice (some ga) glen gcap] 22);revert J F O T;generalize u.alloc (.cells #[.slice (some ga) glen gcap] 22)=u2;generalize u.heap.size=bg at Y f⊢;intro J F O T;clear G K Q U;refine Ik.op f 4 (.assign (.const (.slice none 0 0))) (.slice none 0 0) d_ k_ s_ (λo i w _=>cK (cn (ev:=a.eval) (w:=w) Tryz.prog (.inr i))) λa f=>Ik.plain rfl (Ik.plain rfl (Ik.region (L:=[0,1,2,3,4,5]) rfl ?_));refine Ik.op f 8 (.fieldAddr 149 (.tmp 2) 0) (.pk bs 0) d_ k_ s_ (λo i w _=>cK (sO i (f.G 2))) λa f=>Ik.op f 9 (.fieldAddr 145 (.tmp 8) 6) (.pk bs 6) d_ k_ s_ (λo i w _=>cK (yg i (f.G 8))) λa f=>Ik.op f 10 (.load 3 (.tmp 9)) (.i n) d_ k_ s_ (λo i w r=>rP (.inl (.inl rfl)) (aO ce i (f.G 9) (by rw[aG ((r.own.keep bs (.inl (.inl rfl))).trans F),←l,Vv (show 6<s.cells.size by simp[dp.cells])];rfl))) λa f=> ?_;refine Ik.mk f 11 (.makeSlice 25 (.tmp 10) (.tmp 10)) (λw=> .sk w.heap.size n n) (λ_=> .cells (TG n (.string ⟨#[]⟩)) 9) d_ k_ s_ (λo i w _=> ?_) λa t B f=> ?_
 ·have:=BD (ev:=a.eval) (w:=w) a0 hn i (f.G 10) (f.G 10);exact⟨this.1,λe j=>by rw[this.2]at j;simp at j⟩
 have I:=(eq.rely J B).alloc E (.cells (TG n (.string ⟨#[]⟩)) 9);rw[ni];have X:bg<t.heap.size:=by have:=B.own.size;omega
 have P:(t.alloc (.cells (TG n (.string ⟨#[]⟩)) 9)).heap[bs]?=some (.cells (s.cells++ex) 149):=(cQ _ _ o_).trans ((B.own.keep bs (.inl (.inl rfl))).trans F);have N:(t.alloc (.cells (TG n (.string ⟨#[]⟩)) 9)).heap[bg]?=some (.cells #[.slice (some ga) glen gcap] 22):=(cQ _ _ X).trans ((B.own.keep bg (.inl (.inr rfl))).trans O);have H:=bJ t (.cells (TG n (.string ⟨#[]⟩)) 9);have S:=aR t (.cells (TG n (.string ⟨#[]⟩)) 9);revert I P N H S;generalize t.alloc (.cells (TG n (.string ⟨#[]⟩)) 9)=u3;generalize t.heap.size=C at X f⊢;intro I P N H S;clear B J F O T;refine Ik.mk f 5 (.alloc 25) (λw=> .pk w.heap.size 0) (λ_=> .cells #[.slice none 0 0] 25) d_ k_ s_ (λo i w _=>⟨(lm i).1,λe j=>by rw[(lm i).2]at j;simp at j⟩) λa q y f=> ?_;have k4:=(eq.rely I y).alloc E (.cells #[.slice none 0 0] 25);rw[ni];have W:C<q.heap.size:=by have:=y.own.size;omega
 have f4:(q.alloc (.cells #[.slice none 0 0] 25)).heap[bs]?=some (.cells (s.cells++ex) 149):=(cQ _ _ o_).trans ((y.own.keep bs (.inl (.inl (.inl rfl)))).trans P);have g4:(q.alloc (.cells #[.slice none 0 0] 25)).heap[bg]?=some (.cells #[.slice (some ga) glen gcap] 22):=(cQ _ _ o_).trans ((y.own.keep bg (.inl (.inl (.inr rfl)))).trans N);have l4:(q.alloc (.cells #[.slice none 0 0] 25)).heap[C]?=some (.cells (TG n (.string ⟨#[]⟩)) 9):=(cQ _ _ W).trans ((y.own.keep C (.inl (.inr rfl))).trans H);have e4:=bJ q (.cells #[.slice none 0 0] 25);have z4:=aR q (.cells #[.slice none 0 0] 25);revert k4 f4 g4 l4 e4 z4;generalize q.alloc (.cells #[.slice none 0 0] 25)=u4;generalize q.heap.size=be at W f⊢;intro k4 f4 g4 l4 e4 z4;clear y I P N H S;cases i:(bV Tryz.f105 1)[5]? with
 |none=>exact absurd i (by simp;decide)
 |some o=>
 obtain⟨e1,e2,e3⟩:=cB (d:=none) (p:= .store 25 (.tmp 5) (.tmp 11)) i k_;refine Ik.makes i (e3 _) (by rw[e2];simp) λm A=> ?_;have R:m.heap[be]?=some (.cells #[.slice none 0 0] 25):=(A.own.keep be (.inl (.inr rfl))).trans e4;have D:=eI (w:=m) (b:=be) (k:=0) (v:= .sk C n n) (v0:= .slice none 0 0) rfl rfl k_ e2 (f.G 5) (f.G 11) (by rw[aG R];rfl) (by unfold Ux;rw[show m.heap[(⟨be,0,none⟩:Addr).block]?=_ from R];simp);refine⟨_,D.1, ?_, ?_⟩
 ·rw[D.2];exact Df (a:=⟨be,0,none⟩) (.inr rfl) _
 rw[vT,e1];have z5:be<m.heap.size:=(gA R).1;have a1:¬RO be:=λh=>by have:=E be h;omega
 have k5:=(eq.rely k4 A).set (a:=⟨be,0,none⟩) a1 (.sk C n n);have f5:=(cA m (a:=⟨be,0,none⟩) (b:=bs) (.sk C n n) (show bs≠be from o_)).trans ((A.own.keep bs (.inl (.inl (.inl (.inl rfl))))).trans f4);have g5:=(cA m (a:=⟨be,0,none⟩) (b:=bg) (.sk C n n) (show bg≠be from o_)).trans ((A.own.keep bg (.inl (.inl (.inl (.inr rfl))))).trans g4);have l5:=(cA m (a:=⟨be,0,none⟩) (b:=C) (.sk C n n) (show C≠be from o_)).trans ((A.own.keep C (.inl (.inl (.inr rfl)))).trans l4);have h5:=jn (v:= .sk C n n) R;have z6:be<(m.setCell ⟨be,0,none⟩ (.sk C n n)).heap.size:=by simpa[U9]using z5
 refine Ik.plain rfl (Ik.plain rfl (Ik.region (L:=[0]) rfl (Ik.stop λw6 x=>⟨a.put none undef,bs,bg,C,be, ?_⟩)));exact
  {here:=rfl
   has:=f.sub λd v M=>by
    by_cases q2:d=2
    ·subst q2;exact M
    by_cases q3:d=3
    ·subst q3;exact M
    by_cases q5:d=5
    ·subst q5;exact M
    simp[TU,show(d==2)=false from by simpa using q2,show(d==3)=false from by simpa using q3,show(d==5)=false from by simpa using q5]at M
   sig:=(x.own.keep bs (.inl (.inl (.inl (.inl rfl))))).trans f5
   gone:=(x.own.keep bg (.inl (.inl (.inl (.inr rfl))))).trans g5
   list:=(x.own.keep C (.inl (.inl (.inr rfl)))).trans l5
   ends:=(x.own.keep be (.inl (.inr rfl))).trans h5
   own:=λb=>⟨λh=>by rcases h with((h|h)|h)|h<;>simp[h],λh=>by rcases h with h|h|h|h<;>simp[h]⟩
   order:=⟨s1,Y,X,W,TC z6 x.own.size⟩
   kept:=eq.rely k5 x}
end
end
section
open Go Go.Conc Go.RowKit
open Go.ConcN (WgLive sumTo upd CT WD CTag AllQuit)
open Go.ConcR (DC0 WgAt)
theorem rc.re{N:eY}{val:Nat->Value}{PL:Program}(D:rc N n val PL)(bs bg be:Nat):rc {N with bs:=bs,bg:=bg,be:=be} n val PL:=
 ⟨D.env,D.same,D.here,D.calm,D.low,D.tree,D.plain,D.glen,D.count,D.small,D.links⟩
section
variable{N:eY}{val:Nat->Value}{wK:World}{c:Frame}{S:Nat->Prop}
def Ta(n:Nat)(val:Nat->Value)(S:Nat->Prop)(wK:World)(P:Program)(c:Frame)(cs:List Frame)(gs:Array Goroutine)(w:World)(t:Trace)(q:Nat->Nat)(Wg C:Nat):Prop:=
 gs[0]?=some (cJ (c.finish (.sk C n n)) cs)/\eq (λb=>b<wK.heap.size/\¬S b) wK w/\w.heap[C]?=some (.cells (WX λi:Fin n=>val i) 9)/\wK.heap.size<=C/\wK.heap.size<=Wg/\Wg<w.heap.size/\Wg≠C/\
  Past (dj λb=>S b\/b=Wg) w.heap.size t/\Quiet (dj λb=>S b\/b=Wg) t/\(∀op∈t,op.g<gs.size)/\Leavers P t gs q
theorem Kr(D:rc N n val PL)(hn0:0<n)(hga:∀b,N.gr b->b<wK.heap.size/\¬S b)(hz:0<wK.heap.size/\¬S 0)(hdig:Qh N n wK)(htab:kH N.wL wK)(hG:N.G<=wK.heap.size)(hzero:∃v0,wK.cell? ⟨0,0,none⟩=some v0)
  (hF:aW [(0, .agg (N.s.cells++N.ex)),(1, .slice (some N.ga) N.glen N.gcap)] 20 [] a) {gs:Array Goroutine} {sl:Option (Nat×Nat)} {t:Trace} {q:Nat->Nat} {code:Code} (hcode:Tryz.f105.body=some code)
 (hB:nJ Tryz.prog S Vn (λb=>b<wK.heap.size/\¬S b) gs wK t q (cJ ((base 105).atR a [.code code]) (c::cs)))
 (hfin:∀gs w sl t q Wg C,Ta n val S wK Tryz.prog c cs gs w t q Wg C->dR Tryz.prog Post (crowd gs w sl) t):dR Tryz.prog Post (crowd gs wK sl) t:=by
 rw[PG]at hcode;cases hcode;have hpre:=R9 (ty:=170) (val:=val) (c:=c) (cs:=cs) (RO:=λb=>b<wK.heap.size/\¬S b) hn0 D.small D.count (λb hb=>hb.1) hF;refine Ff (X:=fR Tryz.prog 170 0 0 n val λb=>b<wK.heap.size/\¬S b) (λV g w ⟨a,bs,bg,C,be,h⟩=>by rw[h.here]) ?_ 30 Vn gs wK sl t q _ hB hpre.now;intro V gs w sl t q a hB hA;obtain⟨act,bs,bg,C,be,h2⟩:=hA w (bW.refl _ _ _);have hae:=h2.here;subst hae;obtain⟨o1,o2,o3,o4,o5⟩:=h2.order;have hw':=aR w (.cells #[.int .u64 0, .int .u32 0] 170);have hwat:=bJ w (.cells #[.int .u64 0, .int .u32 0] 170);have hkp:=h2.kept.alloc (λb hb=>hb.1) (.cells #[.int .u64 0, .int .u32 0] 170);have hszK:=h2.kept.size;have keep4:∀b,b<w.heap.size->(w.alloc (.cells #[.int .u64 0, .int .u32 0] 170)).heap[b]?=w.heap[b]?:=λb hb=>cQ _ _ hb;have h0:AB {N with bs:=bs,bg:=bg,be:=be} w.heap.size C n (λb=>(b<wK.heap.size/\¬S b)\/b=bs\/b=bg\/b=be) (w.alloc (.cells #[.int .u64 0, .int .u32 0] 170)):=
  {pap:=
    {sig:=(keep4 bs o_).trans h2.sig
     gone:=(keep4 bg o_).trans h2.gone
     ends:=(keep4 be o_).trans h2.ends
     digs:=λw2 h2=>hdig w2 λb hb=>(h2 b hb).trans (hkp.keep b (hga b hb))
     tab:=by obtain⟨c,e,f,q1,q2,q3⟩:=htab;exact⟨c,e,f,q1,q2,(hkp.keep 0 hz).trans q3⟩
     size:=TW hG hkp.size
     zero:=by obtain⟨v0,h0⟩:=hzero;refine⟨v0, ?_⟩;rw[←h0];unfold U6;rw[hkp.keep 0 hz]}
   ro:=⟨.inr (.inl rfl), .inr (.inr (.inl rfl)), .inr (.inr (.inr rfl)),λb hb=> .inl (hga b hb), .inl hz⟩
   low:=⟨λb hb=>by rw[hw'];rcases hb with hb|hb|hb|hb<;>omega,by rw[hw'];omega,by rw[hw'];omega⟩
   sep:=⟨λhb=>by rcases hb with hb|hb|hb|hb<;>omega,o_,λhb=>by rcases hb with hb|hb|hb|hb<;>omega⟩}
 have hwg:WgAt 170 w.heap.size (w.alloc (.cells #[.int .u64 0, .int .u32 0] 170)) 0 0:=hwat;cases ho:(bV Tryz.f105 2)[0]? with
 |none=>exact absurd ho (by simp;decide)
 |some o=>
 obtain⟨e1,e2,e3⟩:=cB (d:=some 6) (p:= .alloc 170) ho k_;have hsp:=JX (val:=val) (c:=c) (cs:=cs) (D.re bs bg be) h0 (a:=act.put (some 6) (.pk w.heap.size 0)) ((h2.has.put (d:=6) d_ _)) ⟨0,0,hwg⟩;refine Bm (X:=fR Tryz.prog 170 w.heap.size C n val λb=>(b<wK.heap.size/\¬S b)\/b=bs\/b=bg\/b=be) (S:=S) (N:=8)
  (Fin:=Eb (fR Tryz.prog 170 w.heap.size C n val λb=>(b<wK.heap.size/\¬S b)\/b=bs\/b=bg\/b=be) (w.alloc (.cells #[.int .u64 0, .int .u32 0] 170)) c cs)
  (Anch:=An (fR Tryz.prog 170 w.heap.size C n val λb=>(b<wK.heap.size/\¬S b)\/b=bs\/b=bg\/b=be) Tryz.f105 105 {N with bs:=bs,bg:=bg,be:=be} (w.alloc (.cells #[.int .u64 0, .int .u32 0] 170)) (c::cs))
  (V:=V) (V0:=Vn) (w':=w.alloc (.cells #[.int .u64 0, .int .u32 0] 170)) (λV g w h=>by rw[h.1]) (λV g w h=>Mb _ _ _ _ _ _ _ h) (λV g w h=>G2 h0 V g w h) d_ d_ ?_ ⟨hB.at0,hB.leave,hB.past,hB.quiet,hB.who,hB.low,hB.own,λb hb=>hb.elim⟩ rfl rfl ?_ (by rw[hw'];omega) ?_ hwg (.inl hz) ?_ hsp
 ·intro m gs w2 sl t D2 Nd V0 q f0 a hSt hFin;obtain⟨hq,_,_⟩:=hSt.mode.fin_inv trivial;obtain⟨he,hk⟩:=hFin w2 (bW.refl _ _ _);subst he;have hcell:∀k,k<n->w2.cell? ⟨C,k,none⟩=some (val k):=λk hk=>hSt.crew.has (k%8) o_ (by have:=hq (k%8) o_;omega) k ⟨rfl,hk⟩;obtain⟨cells,hl1,hl2⟩:=hSt.crew.list;have hcells:cells=WX λi:Fin n=>val i:=by
   apply WI
   ·rw[aa8];exact hl2
   ·intro k h1 h3;have hk:k<n:=(by rw[aa8]at h3;exact h3);have:=hcell k hk;rw[aG hl1,TH h1]at this;rw[Option.some.inj this];simp
  refine hfin gs w2 sl t (xm m D2 q) w.heap.size C ⟨hSt.at0, ?_, ?_,o_,hszK, ?_,o_,hSt.past,hSt.crew.ct.quiet,λop hop=> ?_,hSt.leavers⟩
  ·exact hkp.trans (hk.mono λb hb=> .inl hb)
  ·rw[←hcells];exact hl1
  ·exact hSt.crew.lies.wgl.1
  ·obtain⟨k,hk1,hk2⟩:=Array.getElem_of_mem hop;have:=hSt.crew.ct.gs k op (by rw[TH hk1,hk2]);rw[hSt.crew.size];omega
 ·intro d;have hr:=HN (w:=w.at d) (ev:=act.eval) e2;have hst:=stepG_value (P:=Tryz.prog) (main:=true) (b:=base 105) (a:=act) (k:=[.code (.seq (.seq (rG Tryz.f105 3) (.block 0 (.loop (io Tryz.f105)))) (ko Tryz.f105))]) (cs:=c::cs) (rest:=[]) ho (e3 _) (by simp[base]) hr.1;unfold listed at hst;rw[hr.2,seen_none,e1]at hst;exact hst
 ·refine⟨λi i' k h1 h3=>h1.1.symm.trans h3.1,by show w.heap.size≠C;omega,⟨by rw[hw'];show w.heap.size<_;omega,by rw[hw'];show C<_;omega⟩,λb hb=>⟨h0.low.1 b hb,λe=>h0.sep.2.2 (by have e:b=w.heap.size:=e;rw[←e];exact hb),λe=>h0.sep.1 (by have e:b=C:=e;rw[←e];exact hb)⟩,λb hb=> ?_,λb hb=>hb.elim,λi hi=>absurd hi (UZ i),λi i' hi=>absurd hi (UZ i)⟩;have hlow:=hB.low b hb;have hnew:∀x,x=bs\/x=bg\/x=C\/x=be->¬S x:=λx hx=>(hB.own x ((h2.own x).2 hx)).2;refine⟨by rw[hw'];omega,λhr=> ?_,λe=> ?_⟩
  ·rcases hr with hr|hr|hr|hr
   ·exact hr.2 hb
   ·exact hnew b (.inl hr) hb
   ·exact hnew b (.inr (.inl hr)) hb
   ·exact hnew b (.inr (.inr (.inr hr))) hb
  ·exact hnew b (.inr (.inr (.inl e))) hb
 ·exact⟨_,(keep4 C o_).trans h2.list,s_⟩
end
end
section
open Go.Conc Go.RowKit
theorem zU{v:World}{p:List Frame}(R:gB g)(J:iW g.frame/\mE g.frame)(u:iX PL g.frame w f args v)(h:stepG PL true g w= .go (bC PL f args p) v es):∃c cs,p=c::cs:=by
 obtain⟨j,cs,Y,Z,z⟩:=g;obtain⟨L,K⟩:=R;simp only at L K J u;subst L K;obtain⟨Q,u⟩:=u;have T:stepG PL true {frame:=j,callers:=cs,status:= .running,dying:=none,offers:=z} w=stepG.exec PL true true j cs none w:=by unfold stepG;simp only[Q]
 rw[T]at h;rcases u with⟨N,n,H,k,o,A,P,O,E,F,m⟩|⟨x,I,a,b,k,l,i,y,A,t,m⟩
 ·obtain⟨W,X⟩:=oY cs J.1 m;rw[jj A P O E,X]at h;have G:bC PL f args (j::cs)=bC PL f args p:=by injection h
  exact⟨j,cs,(congrArg YB G).symm⟩
 ·cases q:(U3 j.fn j.tmps I a b j.roundOf).runT PL w #[]with
  |mk r U=>
   have:=UH PL (U3 j.fn j.tmps I a b j.roundOf) w #[];rw[q,t]at this;have C:r= .ok (l,i) y:=this;rw[C]at q;rw[fE A q]at h;cases D:(cL (bY j k l i) x l).runT PL y #[]with
   |mk M V=>
    have:=UH PL (cL (bY j k l i) x l) y #[];rw[D,m]at this;have B:M= .ok (.enter f args) v:=this;rw[B]at D;have S:ea (bY j k l i):=λd w r s k e=>by cases e
    rw[dz (cs:=cs) S D rfl]at h;have G:bC PL f args (bY j k l i::cs)=bC PL f args p:=by simp only[TI]at h;injection h
    exact⟨bY j k l i,cs,(congrArg YB G).symm⟩
theorem oM{G T:Nat}{base:List Frame}(p:cI G T D ρ wL wM)(w:eN<G)(x:∃fn d,PL.funcs[f]?=some fn/\PM.funcs[f]?=some d/\fn.ntmps=d.ntmps/\fn.body=d.body/\∃c,fn.body=some c/\oa f c=true){b:Array Value}{g i:List Frame}
 (l:∀a,aS G D ρ a->b=args.map (aD a)) (k:∀a,aS G D ρ a->i=g.map (bF a)++base) (j:kJ .normal g):ep G D ρ base (bC PL f args g) (bC PM f b i):=by
 obtain⟨fn,d,o,t,s,r,c,q,n⟩:=x;have h:∀v∈args,jz v=false:=λv u=>p.noTab w λa m=>mf ((l a m).symm.trans (l ρ p.self)) u;refine⟨λa m=> ?_,k, ?_,j,rfl,rfl,rfl,rfl⟩
 ·show TJ PM f b .normal=bF a (TJ PL f args .normal);rw[l a m];exact nW ⟨fn,d,o,t,s,r⟩ args h (Dm n) .normal
 ·refine⟨⟨⟨rfl,rfl, .inl rfl,λ_=>rfl⟩, ?_⟩,gu λ_ _ e=>by cases e⟩;simp only[bC,TJ,o,Ug,q,U0,jY,List.all_nil,Bool.and_true];exact Dn n
section
variable{a:Addr}{u:Value}
theorem BO(h:(TN 3 (.pointer (some a))).run tP w= .ok u w'):w'=w:=by
 have b:(isAgg 3).run tP w= .ok false w:=k_
 simp only[TN,V2,loadVar,pure_bind,Uz,b,UR]at h;simp only[TK,↓reduceIte]at h;unfold load at h;rw[Ub]at h;split at h
 ·cases h;rfl
 ·split at h
  ·cases h;rfl
  ·cases h
theorem zu:∀e∈(TN 3 (.pointer (some a))).events tP w #[],∃x:Addr,e=⟨.cell x,false,false⟩:=by
 have g:(TN 3 (.pointer (some a))).runT tP w #[]=(load a:Sem Value).runT tP w #[]:=by obtain⟨d,j,i,h⟩:∃d,Tryz.prog.underlying 3=some d/\(∀l,d≠ .struct l)/\∀n e,d≠ .array n e:=⟨.int .i64,k_,s_,s_⟩;unfold TN loadVar isAgg underlying V2;simp[j,go_sem]
 intro e f;have c:(TN 3 (.pointer (some a))).events tP w #[]=((load a:Sem Value).runT tP w #[]).2:=congrArg Prod.snd g;rw[c]at f;have b:=f;unfold load at b;rw[Um]at b;split at b
 ·have k:e=⟨.cell a,false,Mode.plain==Mode.atomic⟩:=by simpa[Um]using b
  exact⟨a,k⟩
 ·split at b
  ·simp[Um]at b;obtain⟨x,_,rfl⟩:=b;exact⟨x,rfl⟩
  ·simp at b
end
theorem C5{c:Nat->Nat}{y A:World}{T:Nat}(l:cI 2 T D c y A){ga:Addr}(E:∀a,aS 2 D c a->aX a ga=aX c ga){s:dp}{ex:Array Value}{glen gcap:Nat}{dig:Nat->Int}
 (V:∀i,i<n->∃wc,Bw y wc/\(TN 3 (.pointer (some (ga.add i)))).run lT wc= .ok (.i (dig i)) wc):
 Qh {s:=s,ex:=ex,bs:=0,bg:=0,be:=0,ga:=aX c ga,glen:=glen,gcap:=gcap,dig:=dig,gr:=λr=>r<2\/∃b,D b/\c b=r,wL:=y,G:=2} n A:=by
 intro B m i U;obtain⟨wc,N,S⟩:=V i U;have L:1<A.heap.size:=by have:=l.far;omega
 have X:1<B.heap.size:=by have e:=m 1 (.inl d_);rw[TH L]at e;exact aK e
 have J:cI 2 wc.drawn D c wc B:=by refine⟨l.inj,λb k=> ?_,λj hj=>o_,l.glob,⟨TB 2,TW l.far.2.1 N.size,X⟩,l.out⟩;obtain⟨o,Q,P,O⟩:=l.obj b k;refine⟨o,(N.block b (l.ltL k)).trans Q,P,λf W=> ?_⟩;rw[m (c b) (.inr ⟨b,k,rfl⟩)];exact O f W
 have t:∀a,aS 2 D c a->aD a (.pointer (some (ga.add i)))= .pointer (some ((aX c ga).add i)):=λa K=>by
  have w:aX a (ga.add i)=(aX a ga).add i:=by unfold aX W5;split<;>rfl
  rw[aD,TE,w,E a K]
 obtain⟨D2,a,r',w2,Y,w,e2,z,Z⟩:=dO xB.load xB.store (λf v=>aD f v) _ (TN 3 (.pointer (some ((aX c ga).add i)))) D c wc B J (λa K=>by have:=gy (ρ:=a) xB.same 3 (.pointer (some (ga.add i)));rw[t a K]at this;exact this) #[] _ wc S rfl (TB _)
 cases e2 with
 | @ok _ u _ _ R=>
   have C:u= .i (dig i):=(R a z.rel.self).trans (by simp[aD]);subst C;rw[U8]at w;have d:=(Prod.mk.inj w).1;have F:=(Prod.mk.inj w).2;have g:=BO d;subst g;refine⟨d,λe H=> ?_⟩;obtain⟨x,M⟩:=zu e H;refine⟨x,M, ?_⟩;rw[F]at H;have p:=Z e (by simpa using H);rw[M]at p;obtain⟨_,b,q,I⟩:=p;rcases z.new b q with h|⟨_,h⟩
   ·exact .inr ⟨b,h,by rw[←I,(z.ext b h).2]⟩
   ·have:=z.rel.ltM q;omega
theorem EL(a:Nat->Nat)(s:dp)(ex:List Value):aD a (.agg (s.cells++ex.toArray))= .agg (s.cells++(ex.map (aD a)).toArray):=by
 rw[aD]
 congr 1
 simp[dp.cells,aD]
theorem GU(a:Nat->Nat)(KS:List Int)(s:dp)(dig:Nat->Int)(n:Nat):d7 a (.cells (WX λi:Fin n=>L1.wH KS s dig i.val) 9)= .cells (WX λi:Fin n=>L1.wH KS s dig i.val) 9:=by
 show Xm (Array.map (aD a) (WX λi:Fin n=>L1.wH KS s dig i.val)) 9 _=_
 congr 1
 apply WI
 ·simp
 ·intro i c b;simp[L1.wH,aD]
theorem JZ{v0 v1:Value}(g:args[0]?=some v0)(f:args[1]?=some v1):aW [(0,v0),(1,v1)] N [] ⟨args++TG (N- args.size) undef,[]⟩:=by
 refine⟨rfl,by simp;omega,λd v b=> ?_⟩;have a:∀d v,args[d]?=some v->(args++TG (N- args.size) undef)[d]?=some v:=λd v h=>by rw[Vv (gA h).1];exact h
 by_cases e:d=0
 ·subst e;have:some v0=some v:=b;rw[←this];exact a 0 v0 g
 by_cases c:d=1
 ·subst c;have:some v1=some v:=b;rw[←this];exact a 1 v1 f
 simp[TU,show(d==0)=false from by simpa using e,show(d==1)=false from by simpa using c]at b
theorem ep.bare{G T:Nat}{a:Nat->Nat}{wL e:World}{base:List Frame}{c d:Goroutine}(h:ep G D a base c d)(f:cI G T D a wL e):ep G D a [] c {d with callers:=c.callers.map (bF a)} where
 frame:=h.frame
 callers:=λb g=>by have i:=(h.callers a f.self).symm.trans (h.callers b g);rw[Z9];exact List.append_cancel_right i
 ok:=h.ok
 oks:=h.oks
 run:=h.run
theorem KX{B:List Frame}{D0 S0:Nat->Prop}{W:World}{U:Goroutine->World->Prop}(K:∀g w,U g w->∀τ d,∃o R es,stepG lT true g (kM w τ d)= .ended o R es)(hS:∀g w,U g w->g.frame.mode= .returning/\g.callers=[])(ac:KS.length=64)(al:W.rangeAt 0 0 (aH KS)):
 Jn B S0 tP lT 105 2 D0 W U Post:=by
 intro gL wL gs V sl aq t D ρ S gM q d d0 I R bb ht hw he ax ab;obtain⟨p,ae⟩:=bb;have hW:cI 2 R.drawn D ρ (kM wL V.tape d) (V.at d):=cI.re (wL':=kM wL V.tape d) (wM':=V.at d) p.rel rfl rfl λi _=>rfl;have a0:bE (kM wL V.tape d):=λb o ho=>p.calm b o ho;have J:kH (kM wL V.tape d) (V.at d):=p.tab;obtain⟨bx,bw,hL,D1,k,m,bm,z,an,hM,Q,aj,ar,a,bf⟩:=rm xB hW p.grel he (TB _) true true;obtain⟨c,cs,rfl⟩:=zU hw p.grel.ok he hL;have X:gp lT U (bC lT 105 I (c::cs)) R:=by
  cases ht with
  |stop F=>
   obtain⟨o,w2,es,e⟩:=K gL wL F V.tape d;rw[hL]at e;cases e
  |go n hn bu av=>
   obtain⟨es,e⟩:=hn V.tape d;have h2:=av V.tape d;have e':=hL.symm.trans e;injection e' with e1 e2;rw[←e1,←e2]at h2;exact h2
 have a6:gB (bC lT 105 I (c::cs)):=⟨rfl,rfl⟩;have T:bE R:=a.quiet a0;have u:kH R z:=J.ran xB.tab hW a;have hq:∀g2 w2,StepsIn (λ_=>True) lT (solo (bC lT 105 I (c::cs)) R) (solo g2 w2)->bE w2:=by
  obtain⟨ao,br,bi,D2,A,Z,a4,wM2,bq,bv,a1,ah,ad,M,bp⟩:=rm pr hW (p.grel.bare hW) he (TB _) true true;have e':=hL.symm.trans bi;injection e' with e1 e2;have e3:c::cs=ao:=congrArg YB e1;subst e3;have bd:ep 2 D2 A [] (bC lT 105 I (c::cs)) (bC lT 105 Z a4):=
   oM M.rel pr.tab ⟨te,te,rK,rK,rfl,rfl,mK,rfl,xN _ _ _ rK rfl⟩ a1 ah ad
  have hp:jR 2 (λ_=>False) (bC lT 105 I (c::cs)) R (bC lT 105 Z a4) wM2:=⟨⟨D2,A,M.rel.re rfl rfl λi hi=>o_,bd,λb y=>y.elim⟩,J.ran pr.tab hW M,T⟩;intro g2 w2 F;obtain⟨_,_,ba⟩:=He pr xN K X a6 _ _ hp g2 w2 F;exact ba.calm
 have aa:∀b,D b->ρ b≠eN:=λb y e=>by have:=hW.out _ y;have:=hW.glob b;have:=xB.tab;omega
 have Y:z.heap[eN]?=W.heap[eN]?:=by obtain⟨c,e,f,q1,q2,q3⟩:=J;exact(a.keep eN (aK q3) aa).trans p.tabW
 have bj:R.heap[eN]?=W.heap[eN]?:=by obtain⟨c,e,f,q1,q2,q3⟩:=u;rw[←Y,q2,q3]
 have am:R.rangeAt 0 0 (aH KS):=λj v hv=>by have:=al j v hv;unfold U6 at this⊢;have e:R.heap[0]?=W.heap[0]?:=bj;rw[e];exact this
 have bk:z.rangeAt 0 0 (aH KS):=λj v hv=>by have:=al j v hv;unfold U6 at this⊢;have e:z.heap[0]?=W.heap[0]?:=Y;rw[e];exact this
 have a2:=a.rel.far;obtain⟨s,ex,ga,glen,gcap,dig,bL,w2,H⟩:=L1.Qn K hS hq ac am o_ X;have ai:=aj k a.rel.self;obtain⟨c',cs',ag⟩:∃c' cs',bm=c'::cs':=⟨bF k c,cs.map (bF k)++B,by rw[ai];rfl⟩;subst ag;have bh:m[0]?=some (.agg (s.cells++(ex.map (aD k)).toArray)):=by rw[Q k a.rel.self,TQ,H.a0,TE,EL]
 have ak:m[1]?=some (.slice (some (aX k ga)) glen gcap):=by rw[Q k a.rel.self,TQ,H.a1,TE,aD,TE]
 have bc:∀A,aS 2 D1 k A->aX A ga=aX k ga:=λA h2=>by
  have e:=Q A h2;have:m[1]?=some (.slice (some (aX A ga)) glen gcap):=by rw[e,TQ,H.a1,TE,aD,TE]
  rw[ak]at this;simpa using this.symm
 have E:∀b,D1 b->¬S (k b):=λb y F=>by
  rcases a.new b y with h1|⟨_,h2⟩
  ·rw[(a.ext b h1).2]at F;exact p.shun b h1 F
  ·have h3:V.heap.size<=k b:=h2;have:=(p.shunLow _ F).2;omega
 have aw:V.heap.size<=z.heap.size:=a.size;have a3:∀e∈an,EvL (dj S) z.heap.size e:=λe he=>IF a.rel xB.tab E (λr F=>(p.shunLow r F).1) (.inl (bf e he));have a9:0<gs.size:=(gA p.at0).1;have a7:=runT_crowd_go (P:=tP) (sl:=aq) (i:=0) p.at0 (show stepG tP (0==0) gM (V.at d)=_ from hM);refine dR.next (ax.trans a7) ?_;have af:bC tP 105 m (c'::cs')=cJ ((base 105).atR ⟨m++TG (20- m.size) undef,[]⟩ [.code ((Tryz.f105.body).getD .skip)]) (c'::cs'):=by unfold bC;rw[enter_at m Tryz.func105 (c:=(Tryz.f105.body).getD .skip) rfl];rfl
 rw[af];refine Kr (N:={s:=s,ex:=(ex.map (aD k)).toArray,bs:=0,bg:=0,be:=0,ga:=aX k ga,glen:=glen,gcap:=gcap,dig:=dig,gr:=λr=>r<2\/∃b,D1 b/\k b=r,wL:=R,G:=2}) (n:=s.count) (val:=QI KS {s:=s,ex:=(ex.map (aD k)).toArray,bs:=0,bg:=0,be:=0,ga:=aX k ga,glen:=glen,gcap:=gcap,dig:=dig,gr:=λr=>r<2\/∃b,D1 b/\k b=r,wL:=R,G:=2}) (S:=S) (wK:=z) (c:=c') (cs:=cs') (q:=q)
  (LM rfl H.fine am ac a2.2.1 ⟨_,_,_,u.choose_spec.choose_spec.choose_spec.1,u.choose_spec.choose_spec.choose_spec.2.1,u.choose_spec.choose_spec.choose_spec.2.1⟩ T H.glen rfl H.small H.links) H.pos ?_ ⟨o_,λh=>absurd (p.shunLow 0 h).1 d_⟩ (C5 a.rel bc H.digs) u a2.2.2 ?_ (JZ bh ak) rfl ?_ ?_
 ·rintro b (y|⟨b0,y,rfl⟩)
  ·exact⟨o_,λh=>absurd (p.shunLow b h).1 o_⟩
  ·exact⟨a.rel.ltM y,E b0 y⟩
 ·obtain⟨v0,au⟩:∃v0,(aH KS)[0]?=some v0:=by
   cases KS with
   |nil=>simp at ac
   |cons x L=>exact⟨_,rfl⟩
  exact⟨v0,bk 0 v0 au⟩
 ·exact
   {at0:=TF (by simpa using a9)
    leave:=na p.leave gM _ z _ _ an a9
    past:=(p.past.mono aw).own a3
    quiet:=p.quiet.app λop O x hx F=>by obtain⟨e,he,rfl⟩:=Go.Conc.mem_ofEvents O;exact⟨(a3 e he).1 x hx F,λ_=>rfl⟩
    who:=λop O=>by
     rw[Array.size_setIfInBounds,Array.size_map];rcases Array.mem_append.1 O with O|O
     ·exact p.who op O
     ·rw[co op O];exact a9
    low:=λb y=>by have:=(p.shunLow b y).2;omega
    own:=λb y=>y.elim
    ro:=λb y=>y}
 ·intro bl w3 bt t2 q2 Wg C hB;obtain⟨b1,b2,b3,b4,b5,b6,b7,b8,b9,bo,bn⟩:=hB;have a5:∀b,D1 b->w3.heap[k b]?=z.heap[k b]?:=λb y=>b2.keep (k b) ⟨a.rel.ltM y,E b y⟩;have z3:w3.heap[eN]?=z.heap[eN]?:=b2.keep 0 ⟨o_,λh=>absurd (p.shunLow 0 h).1 d_⟩;have z2:w2.heap[eN]?=R.heap[eN]?:=H.keep.block 0 o_;obtain⟨A,a8,az,ay⟩:=BH (P:=tP) (D0:=D0) (W:=W) (S:=S) (wL2:=w2) (wM2:=w3) (bL:=bL) (C:=C) (Wg:=Wg) (c:=c) (c':=c') (cs:=cs) (cs':=cs') (v:= .sk bL s.count s.count) (v':= .sk C s.count s.count) (gs:=bl) (t:=t2) (q:=q2) a.rel
   (λb y=>⟨(a.ext b (p.first b y).1).1,(a.ext b (p.first b y).1).2.trans (p.first b y).2⟩) E (λr F=>⟨(p.shunLow r F).1,by have:=(p.shunLow r F).2;omega⟩) aj ar p.nopan (λb y=>H.keep.block b (a.rel.ltL y)) a5 H.keep.size b2.size H.low b4 H.list rfl (λap=>by rw[GU];exact b3) ⟨b5,b6,b7⟩ (λap e=>by rw[aD,TE];unfold aX;rw[e])
   (by obtain⟨c,e,f,q1,q2,q3⟩:=u;exact⟨c,e,f,q1,z2.trans q2,z3.trans q3⟩) (hq _ _ H.steps) ⟨b2.os.trans (a.os.trans p.same.1),b2.output.trans (a.output.trans p.same.2.1),b2.tape.trans (a.tape.trans p.same.2.2)⟩ (z3.trans Y) b1 b8 b9 bo bn
  have l:=ae.step p.first a;refine ab _ _ _ _ _ _ _ _ _ _ _ ⟨_,_,_,_,_,hL,H.steps⟩ ⟨a8, ?_⟩;refine⟨TW l.size b2.size,λr hr hd hz=> ?_, ?_,λr hr=> ?_⟩
  ·have F:=l.size;exact(b2.keep r ⟨o_,λh=>(l.shun r h).elim (λh=>o_) hz⟩).trans (l.keep r hr hd hz)
  ·rintro b (y|rfl)
   ·rw[az b y];exact l.fresh b y
   ·have F:=l.size;exact .inr (by rw[ay];omega)
  ·rcases hr with hr|rfl
   ·exact l.shun r hr
   ·have F:=l.size;exact .inl o_
end
section
open Go.Conc
theorem aT.start{Post:Value->World->Prop}{W:World}(h:aT P Post (λ_=>False) (bC P f args []) W):dR P Post (solo (G (TJ P f args .normal) []) W) #[]:=
 h #[bC P f args []] W.drawn none #[] (λ_=>0)
  {at0:=rfl
   leave:=leavers_one _ _
   past:=⟨λk=>by rintro⟨i,j,_,⟨a,b,e,_⟩,_⟩;simp[ac0]at e,λi a e=>by simp[touchAt,ac0]at e,λi g n=>by simp[Trace.g?]at n,rfl,s_⟩
   quiet:=λi l x m=>by simp at m
   who:=λl d=>by simp at d
   low:=λb c=>c.elim
   own:=λb c=>c.elim
   ro:=λb c=>c.elim}
section
variable{S:Nat->Prop}{b:Frame}{k:List Item}
theorem aT.exec(a:fr.mode= .run)(h:∀d,∃g' w' es,stepG.exec P true true fr cs none (w.at d)= .go g' w' es/\w.heap.size<=w'.heap.size/\(∀e∈es,EvL (dj S) w'.heap.size e)/\aT P Post S g' w'):aT P Post S (cJ fr cs) w:=
 aT.step rfl λd=>let ⟨g',w',es,h1,h2,h3,h4⟩:=h d;⟨g',w',es,(jf a true cs _).trans h1,h2,h3,h4⟩
theorem aT.plain{t:List Item}(c:bZ (b.atR a k)=some t)(h:aT P Post S (cJ (b.atR a t) cs) w):aT P Post S (cJ (b.atR a k) cs) w:=
 aT.exec rfl λd=>⟨_,w.at d,#[],iO c,TB _,λe f=>by simp at f,h.at d⟩
theorem aT.ends(i:b.roundOf=none)(f:k=[]\/∃c,k= .code .ret::c)(h:aT P Post S (cJ {b.atR a k with mode:= .returning} cs) w):aT P Post S (cJ (b.atR a k) cs) w:=
 aT.exec rfl λd=>⟨_,w.at d,#[],jC ⟨i,f⟩,TB _,λe g=>by simp at g,h.at d⟩
theorem tT{c:Frame}(f:fr.kind= .normal)(i:fr.defers=[])(d:fr.mode= .returning)(h:P.funcs[fr.fn]?=some fn)(b:(results fn fr.tmps).run P w= .ok v w)
 (main:Bool)  (k:g.frame=fr/\g.callers=c::cs/\g.status= .running/\g.dying=none):∃es,stepG P main g w= .go {frame:=c.finish v,callers:=cs,status:= .running,dying:=none} w es/\∀e∈es,e∈(results fn fr.tmps).events P w #[]:=by obtain⟨a,m,n,o,j⟩:=g;obtain⟨rfl,rfl,rfl,rfl⟩:=k;simp only at f i d h b;refine⟨seen P a.fn ((results fn a.tmps).events P w #[]), ?_,λe l=>da _ _ _ e l⟩;simp[stepG,unwind,doReturn,f,i,d,h,b,TI]
theorem aT.leaveE{c:Frame}(v:Value)(i:b.kind= .normal)(m:a.defers=[])(j:P.funcs[b.fn]?=some fn)(f:∀d,(results fn a.tmps).run P (w.at d)= .ok v (w.at d)/\∀e∈(results fn a.tmps).events P (w.at d) #[],EvL (dj S) w.heap.size e)
 (h:aT P Post S (cJ (c.finish v) cs) w):aT P Post S (cJ {b.atR a k with mode:= .returning} (c::cs)) w:=
 aT.step rfl λd=>by obtain⟨p,o,n⟩:=tT (fr:={b.atR a k with mode:= .returning}) (c:=c) (cs:=cs) (w:=w.at d) i m rfl j (f d).1 true (g:=cJ {b.atR a k with mode:= .returning} (c::cs)) ⟨rfl,rfl,rfl,rfl⟩;exact⟨_,w.at d,p,o,TB _,λe l=>(f d).2 e (n e l),h.at d⟩
theorem aT.oper(l:ops[n]?=some o)(i:TD o (yielded ops a.tmps)=true)(g:∀c,o.op≠ .defer c)
 (h:∀d,∃f w',(execOp a.eval o).run P (w.at d)= .ok f w'/\ya f=true/\w.heap.size<=w'.heap.size/\(∀e∈(execOp a.eval o).events P (w.at d) #[],EvL (dj S) w'.heap.size e)/\aT P Post S (gU P (b.atR a (.inRegion ops (n::rest)::k)) cs f) w'):
 aT P Post S (cJ (b.atR a (.inRegion ops (n::rest)::k)) cs) w:=by
 refine aT.exec rfl λd=> ?_;obtain⟨f,w',x,v,u,t,q⟩:=h d;have p:ea (b.atR a (.inRegion ops (n::rest)::k)):=λd w r s k e=>by cases e
 have j:(execOp (b.atR a (.inRegion ops (n::rest)::k)).eval o).runT P (w.at d) #[]=(.ok f w',(execOp a.eval o).events P (w.at d) #[]):=by rw[Us,U8,x]
 exact⟨_,w',_,(cS rfl l i g).trans (dz (cs:=cs) p j v),u,λe m=>t e (jy _ _ _ e m),q⟩
end
end
section
open Go.Conc Go.RowKit
theorem qN{tmps:Array Value}{r:Nat}(h:tmps[r]?.getD undef=v)(b:v≠undef):tmps[r]?=some v:=by
 cases a:tmps[r]? with
 |none=>rw[a]at h;exact absurd h.symm b
 |some x=>rw[a]at h;exact congrArg some h
def nG(D0:Nat->Prop)(o:Obj):Prop:=cN o=true/\∀ρ',aS 2 D0 id ρ'->d7 ρ' o=o
section
variable{D0:Nat->Prop}
theorem uY(k:2<=w.heap.size)(g:∀b,D0 b->2<=b/\∃o,w.heap[b]?=some o/\nG D0 o){f:World}(j:2<=f.heap.size)(a:∀b,D0 b->f.heap[b]?=w.heap[b]?):cI 2 0 D0 id w f where
 inj:=λ_ _ e=>e
 obj:=λb c=>by obtain⟨_,o,h,n,m⟩:=g b c;exact⟨o,h,n,λd l=>by rw[m d l];exact(a b c).trans h⟩
 tape:=λi p=>o_
 glob:=λ_=>Iff.rfl
 far:=⟨TB 2,k,j⟩
 out:=λb c=>(g b c).1
end
noncomputable def j5(D0:Nat->Prop)(w:World):World:={w with heap:=w.heap.mapIdx λb o=> @ite Obj (b=0\/D0 b) (Classical.propDecidable _) o (.cells #[] 0)}
section
variable{D0:Nat->Prop}
theorem FX:(j5 D0 w).heap.size=w.heap.size:=by simp[j5]
theorem lB(h:b=0\/D0 b):(j5 D0 w).heap[b]?=w.heap[b]?:=by simp only[j5,Wr,if_pos h];cases w.heap[b]?<;>rfl
theorem FY(f:∀o,w.heap[0]?=some o->cN o=true)(h:∀b,D0 b->∃o,w.heap[b]?=some o/\cN o=true):bE (j5 D0 w):=λb o a=>by
 by_cases c:b=0\/D0 b
 ·rw[lB c]at a;rcases c with rfl|c
  ·exact f o a
  ·obtain⟨g,d,e⟩:=h b c;rw[d]at a;exact Option.some.inj a▸e
 ·simp only[j5,Wr,if_neg c]at a;cases d:w.heap[b]? with
  |none=>rw[d]at a;cases a
  |some x=>rw[d]at a;exact Option.some.inj a▸rfl
end
theorem IA{S:Nat->Prop}{B:Nat}(h:es=#[]):∀e∈es,EvL (dj S) B e:=λe a=>by rw[h]at a;simp at a
theorem nV{S:Nat->Prop}{B:Nat}(h:∀e∈es,∃(a:Addr) (c:Bool),e=⟨.cell a,c,false⟩/\a.block<B/\¬S a.block):∀e∈es,EvL (dj S) B e:=λe d=>by obtain⟨a,c,rfl,g,f⟩:=h e d;exact sE (V:=λb=>b<B/\¬S b) (RO:=λ_=>False) (λb h=>h) (λb h=>h.elim) ⟨rfl, .inl ⟨g,f⟩⟩
theorem kb{S:Nat->Prop}{B:Nat}{a:Bool}(f:b<B)(d:¬S b):EvL (dj S) B ⟨.cell ⟨b,k,none⟩,a,false⟩:=nV (es:=#[⟨.cell ⟨b,k,none⟩,a,false⟩]) (λe c=>⟨_,_,by simpa using c,f,d⟩) _ s_
def iV(t:Option Tmp)(u:Option (Bool×Tmp))(n:Nat)(v:Value)(bk:Nat)(tmps:Array Value)(w:World):Prop:=
 match t,u with
 |some t,none=>∃cells tt,tmps[t]?=some (.pk bk 0)/\w.heap[bk]?=some (.cells cells tt)/\cells.size=n/\v= .agg cells
 |some t,some (q,u)=>∃cells tt x,tmps[t]?=some (.pk bk 0)/\w.heap[bk]?=some (.cells cells tt)/\cells.size=n/\tmps[u]?=some x/\v= .tuple (if q then #[x, .agg cells]else #[.agg cells,x])
 |none,some (_,u)=>tmps[u]?=some v
 |none,none=>if n=0 then v= .tuple #[]else∃x y,tmps[n/1000]?=some x/\tmps[n%1000]?=some y/\v= .tuple #[x,y]
def y6(D0:Nat->Prop)(Q:(Nat->Prop)->Value->World->Prop):Prop:=
 (∀E v w,Q E v w->Q (λ_=>True) v w)/\∀(D:Nat->Prop) (ρ:Nat->Nat) (w w':World) (v:Value),cI 2 0 D ρ w w'->(∀b,D0 b->D b/\ρ b=b)->(∀ρ',aS 2 D ρ ρ'->aD ρ' v=aD ρ v)->Q (λ_=>True) v w->Q (λr=>∃b,D b/\ρ b=r) (aD ρ v) w'
def nF(f:FuncId)(t:Option Tmp)(u:Option (Bool×Tmp))(n:Nat)(Q:(Nat->Prop)->Value->World->Prop)(g:Goroutine)(w:World):Prop:=
 g.frame.fn=f/\g.frame.mode= .returning/\g.frame.defers=[]/\g.callers=[]/\g.dying=none/\g.frame.kind= .normal/\g.status= .running/\∃v bk,iV t u n v bk g.frame.tmps w/\Q (λ_=>True) v w
theorem AX{t:Option Tmp}{u:Option (Bool×Tmp)}{Q:(Nat->Prop)->Value->World->Prop}(s:w'.heap=w.heap)(y:P.funcs[f]?=some fn)(z:P.inits.idxOf? f=none)(x:∀v b tmps (w:World),iV t u n v b tmps w->(results fn tmps).run P w= .ok v w)(h:nF f t u n Q g w):∃o m es,stepG P true g w'= .ended o m es:=by
 obtain⟨k,j,i,e,d,c,q,v,b,p,_⟩:=h;have a:iV t u n v b g.frame.tmps w':=by unfold iV;rw[s];exact p
 obtain⟨l,D,A,C,B⟩:=g;simp only at k j i e d c q a;subst k e d;have r:=x _ _ _ _ a;exact⟨.done v,w',seen P l.fn ((results fn l.tmps).events P w' #[]),by simp[stepG,unwind,doReturn,j,i,c,y,z,r,TI]⟩
theorem vf{t:Option Tmp}{u:Option (Bool×Tmp)}{Q:(Nat->Prop)->Value->World->Prop}(hne:dm f=0\/dm f=3){D0:Nat->Prop}(hQ:y6 D0 Q){base:List Frame}{g':Goroutine}(h1:cI 2 0 D ρ w w')(h2:ep 2 D ρ base g g')(h3:∀b,D0 b->D b/\ρ b=b)(hs:nF f t u n Q g w):
 g'.frame.fn=f/\g'.frame.mode= .returning/\g'.frame.defers=[]/\g'.callers=base/\g'.dying=none/\g'.frame.kind= .normal/\g'.status= .running/\∃v bk,(t.isSome=true->D bk)/\iV t u n v (ρ bk) g'.frame.tmps w'/\Q (λr=>∃b,D b/\ρ b=r) v w':=by
 obtain⟨s1,s2,s3,s4,s5,s6,s7,v,bk,hres,s9⟩:=hs;have hfr:=h2.frame ρ h1.self;have hcs:=h2.callers ρ h1.self;rw[s4]at hcs;have key:∀(ρ2:Nat->Nat) (r:Nat) (x:Value),g.frame.tmps[r]?=some x->(bF ρ2 g.frame).tmps[r]?=some (aD ρ2 x):=λρ2 r x hx=>by show(jO ρ2 g.frame.fn g.frame.tmps)[r]?=_;rw[fA ρ2 _ _ r (by rw[s1];rcases hne with h|h<;>rw[h]<;>rfl),hx];rfl
 have same:∀(r:Nat) (x:Value),g.frame.tmps[r]?=some x->∀ρ',aS 2 D ρ ρ'->aD ρ' x=aD ρ x:=λr x hx ρ' hA=>by have e:=congrArg (λfr:Frame=>fr.tmps[r]?) (hfr.symm.trans (h2.frame ρ' hA));simp only[key _ _ _ hx]at e;exact(Option.some.inj e).symm
 have row:∀{t:Nat} {cells:Array Value} {tt:TypeId},g.frame.tmps[t]?=some (.pk bk 0)->w.heap[bk]?=some (.cells cells tt)->D bk/\w'.heap[ρ bk]?=some (.cells (cells.map (aD ρ)) tt)/\(∀ρ',aS 2 D ρ ρ'->cells.map (aD ρ')=cells.map (aD ρ))/\g'.frame.tmps[t]?=some (.pk (ρ bk) 0):=λ{t cells tt} r1 r2=>by
  have hd:D bk:=h1.dom λρ' hA=>by have:=same t _ r1 ρ' hA;simp only[aD,TE,aX,Value.pointer.injEq,Option.some.injEq,Addr.mk.injEq]at this;exact this.1
  obtain⟨o,q1,_,q3⟩:=h1.obj bk hd;rw[r2]at q1;cases q1;refine⟨hd,q3 ρ h1.self,λρ' hA=> ?_,by rw[hfr,key ρ t _ r1];simp[aD,aX]⟩;have:=Option.some.inj ((q3 ρ' hA).symm.trans (q3 ρ h1.self));simp only[d7,Xm.injEq,and_true]at this;exact this
 have all:∀v',(t.isSome=true->D bk)->iV t u n (aD ρ v) (ρ bk) g'.frame.tmps w'->(∀ρ',aS 2 D ρ ρ'->aD ρ' v=aD ρ v)->v'=aD ρ v->g'.frame.fn=f/\g'.frame.mode= .returning/\g'.frame.defers=[]/\g'.callers=base/\g'.dying=none/\g'.frame.kind= .normal/\g'.status= .running/\∃v bk,(t.isSome=true->D bk)/\iV t u n v (ρ bk) g'.frame.tmps w'/\Q (λr=>∃b,D b/\ρ b=r) v w':=λv' hd hr hst _=>
  ⟨by rw[hfr];exact s1,by rw[hfr];exact s2,by rw[hfr];show g.frame.defers.map _=[];rw[s3];rfl,by simpa using hcs,h2.run.2.2.2,by rw[hfr];exact s6,h2.run.2.1,aD ρ v,bk,hd,hr,hQ.2 D ρ w w' v h1 h3 hst s9⟩
 match t,u,hres,all with
 |some t,none,⟨cells,tt,r1,r2,r3,r4⟩,all=>
  obtain⟨q1,q2,q3,q4⟩:=row r1 r2;exact all _ (λ_=>q1) ⟨_,tt,q4,q2,by simpa using r3,by rw[r4,aD]⟩ (λρ' hA=>by rw[r4,aD,aD,q3 ρ' hA]) rfl
 |some t,some (q,u),⟨cells,tt,x,r1,r2,r3,r4,r5⟩,all=>
  obtain⟨q1,q2,q3,q4⟩:=row r1 r2;refine all _ (λ_=>q1) ⟨_,tt,aD ρ x,q4,q2,by simpa using r3,by rw[hfr,key ρ u x r4], ?_⟩ (λρ' hA=> ?_) rfl
  ·rw[r5];cases q<;>simp[aD]
  ·rw[r5];cases q<;>simp[aD,q3 ρ' hA,same u x r4 ρ' hA]
 |none,some (q,u),r1,all=>
  exact all _ (λh=>by cases h) (show g'.frame.tmps[u]?=some (aD ρ v) by rw[hfr,key ρ u v r1]) (same u v r1) rfl
 |none,none,r1,all=>
  unfold iV at r1;simp only at r1;by_cases h0:n=0
  ·rw[if_pos h0]at r1;refine all _ (λh=>by cases h) ?_ (λρ' hA=>by rw[r1];simp[aD]) rfl;unfold iV;simp only;rw[if_pos h0,r1];simp[aD]
  ·rw[if_neg h0]at r1;obtain⟨x,y,r2,r3,r4⟩:=r1;refine all _ (λh=>by cases h) ?_ (λρ' hA=>by rw[r4];simp[aD,same _ x r2 ρ' hA,same _ y r3 ρ' hA]) rfl;unfold iV;simp only;rw[if_neg h0];exact⟨aD ρ x,aD ρ y,by rw[hfr,key ρ _ x r2],by rw[hfr,key ρ _ y r3],by rw[r4];simp[aD]⟩
theorem Tm(c d:Nat->Nat)(a:Addr):aX c (aX d a)=aX (λb=>c (d b)) a:=rfl
theorem vz(a c:Nat->Nat)(f:Fn):gZ a (gZ c f)=gZ (λb=>a (c b)) f:=by cases f<;>rfl
theorem py(e f:Nat->Nat):∀v:Value,aD e (aD f v)=aD (λb=>e (f b)) v:=by
 have d:∀g:Array Value,(∀v∈g,aD e (aD f v)=aD (λb=>e (f b)) v)->(g.map (aD f)).map (aD e)=g.map (aD λb=>e (f b)):=λg h=>by rw[XX];exact W6 h
 intro v;induction v using aD.induct with
 |case1 a=>cases a<;>simp[aD,Tm]
 |case2 a l c=>cases a<;>simp[aD,Tm]
 |case3 r=>cases r<;>simp[aD]
 |case4 r=>cases r<;>simp[aD]
 |case5 o first m k j=>simp only[aD,vz];rw[d first k,d m j]
 |case6 t v i=>simp only[aD,i]
 |case7 g i=>simp only[aD];rw[d g i]
 |case8 n i=>simp only[aD];rw[d n i]
 |_=>simp only[aD]
theorem qv(a c:Nat->Nat)(cs:Array Value):(cs.map (aD c)).map (aD a)=cs.map (aD λb=>a (c b)):=by rw[XX];exact W6 λv _=>py a c v
theorem yM(a c:Nat->Nat)(d:Deferred):iN a (iN c d)=iN (λb=>a (c b)) d:=by obtain⟨t,e⟩:=d;cases t<;>simp only[iN,KV,qv,vz]
theorem GW(g h:Nat->Nat)(o:Obj):d7 g (d7 h o)=d7 (λb=>g (h b)) o:=by
 cases o with
 |cells c e f=>simp only[d7,qv]
 |pending c e=>simp only[d7,qv]
 |view a t=>simp only[d7,Tm]
 |number a l=>simp only[d7,Tm]
 |map p c=>simp[d7,VR,py]
 |chan j k d s r t=>simp[d7,VR,py]
 |mapIter m a b c=>cases m<;>simp[d7]
 |loop l=>simp[d7,sD,VR,py]
 |deferred i=>cases i<;>simp[d7,VR,yM]
 |finalizers n r=>simp[d7,VR,yM]
 |_=>rfl
theorem zD(h:cI 2 0 D ρ w w')(a:D b):∃o,w'.heap[ρ b]?=some o/\nG (λr=>∃b,D b/\ρ b=r) o:=by obtain⟨o,_,q,f⟩:=h.obj b a;refine⟨d7 ρ o,f ρ h.self,by rw[qw];exact q,λg d=> ?_⟩;rw[GW];have c:aS 2 D ρ (λb=>g (ρ b)):=⟨⟨λx y e=>h.inj _ _ (d.1.1 _ _ e),λb=>(h.glob b).trans (d.1.2 (ρ b))⟩,λb a=>d.2 (ρ b) ⟨b,a,rfl⟩⟩;exact Option.some.inj ((f _ c).symm.trans (f ρ h.self))
theorem II{c:Code}{t:Option Tmp}{u:Option (Bool×Tmp)}{Q:(Nat->Prop)->Value->World->Prop}{S D0:Nat->Prop}{c':Frame}{cs':List Frame}(hf:Tryz.prog.funcs[f]?=some fn)(a:fn.body=some c)(L:oa f c=true)
 (V:∀v I tmps (w:World),iV t u n v I tmps w->(results fn tmps).run tP w= .ok v w/\∀e∈(results fn tmps).events tP w #[],t.isSome=true/\∃k,e=⟨.cell ⟨I,k,none⟩,false,false⟩) (K:∀v I tmps (w:World),iV t u n v I tmps w->(results fn tmps).run lT w= .ok v w) (hQ:y6 D0 Q)
 (a6:∀ch,c'.mode≠ .panicking ch) (hne:dm f=0\/dm f=3) (a5:f≠105) (hx:oO f=false) (ha:∀T,aS 2 D0 id T->args=args.map (aD T)) (Z:2<=w.heap.size) (hD:∀b,D0 b->2<=b/\¬S b/\∃o,w.heap[b]?=some o/\nG D0 o) (hS:∀r,S r->2<=r)
 (hK:w.rangeAt 0 0 (aH KS)) (a9:KS.length=64) (U:∃O e z,(∀v∈O,bQ v=true)/\w.heap[0]?=some (.cells O e z))
 (hC:∀wL:World,wL.rangeAt 0 0 (aH KS)->2<=wL.heap.size->(∀b,D0 b->wL.heap[b]?=w.heap[b]?)->Rn lT (λg w'=>nF f t u n Q g w'/\∃fr',g=cJ fr' []) (TJ lT f args .normal) [] wL)
 (M:∀(S' E:Nat->Prop) (w':World) (v:Value),Q E v w'->(∀r,E r->2<=r/\¬S' r/\∃o,w'.heap[r]?=some o/\nG E o)->(∀b,D0 b->E b)->(∀r,E r->D0 r\/w.heap.size<=r)->(∀r,S' r->w.heap.size<=r\/S r)->(∀r,S' r->2<=r)->w.heap.size<=w'.heap.size->(∀r,r<w.heap.size->¬D0 r->¬S r->w'.heap[r]?=w.heap[r]?)->w'.os=w.os/\w'.output=w.output/\w'.tape=w.tape->aT tP Post S' (cJ (c'.finish v) cs') w'):
 aT tP Post S (bC tP f args (c'::cs')) w:=by
 intro gs d sl t0 q R;obtain⟨O,e,z,X,h0⟩:=U;have A:lT.funcs[f]?=some fn:=aN hf a5 hx a L;have y:lT.inits.idxOf? f=none:=by rw[pr.inits];simp
 have hz:(j5 D0 (w.at d)).heap[0]?=some (.cells O e z):=(lB (.inl rfl)).trans h0;have B:2<=(j5 D0 (w.at d)).heap.size:=by rw[FX];exact Z
 have p:bE (j5 D0 (w.at d)):=FY (λo ho=>by have ho:w.heap[0]?=some o:=ho;rw[h0]at ho;exact Option.some.inj ho▸rfl) λb a=>let ⟨_,_,o,H,G⟩:=hD b a;⟨o,H,G.1⟩
 have a1:∀b,D0 b->2<=b/\∃o,(j5 D0 (w.at d)).heap[b]?=some o/\nG D0 o:=λb a=>by obtain⟨H,_,o,G,h3⟩:=hD b a;exact⟨H,o,(lB (.inr a)).trans G,h3⟩
 have aa:∀x,(kM (j5 D0 (w.at d)) x 0).rangeAt 0 0 (aH KS):=λx j u hj=>by have:=hK j u hj;unfold U6 at this⊢;have e1:(kM (j5 D0 (w.at d)) x 0).heap[0]?=some (.cells O e z):=hz;rw[h0]at this;rw[show(⟨0,0+j,none⟩:Addr).block=0 from rfl,e1];exact this
 have Y:=uY B a1 B (λ_ _=>rfl);have a4:ep 2 D0 id [] (bC lT f args []) (bC lT f args []):=oM Y pr.tab ⟨fn,fn,A,A,rfl,rfl,c,a,L⟩ (λl h=>ha l h) (λl _=>rfl) trivial;have J:gp lT (nF f t u n Q) (bC lT f args []) (j5 D0 (w.at d)):=by
  refine pm pr xN (D0:=D0) rF ⟨⟨D0,id,Y,a4,λb a=>⟨a,rfl⟩⟩,⟨O,e,z,X,hz,hz⟩,p⟩ ⟨rfl,rfl⟩ (λx=> ?_) λg C g' w' hp F=> ?_
  ·obtain⟨g',w',H,G,fr',rfl⟩:=hC (kM (j5 D0 (w.at d)) x 0) (aa x) B λb a=>lB (.inr a);exact⟨fr',w',rE pr.inits H vL,G⟩
  ·obtain⟨⟨D,ρ,H,G,h3⟩,_,_⟩:=hp;obtain⟨k1,k2,k3,k4,k5,k6,k7,v,I,_,k8,k9⟩:=vf hne hQ H G h3 F;exact⟨k1,k2,k3,k4,k5,k6,k7,v,_,k8,hQ.1 _ _ _ k9⟩
 have m:∀g C,nF f t u n Q g C->∀x d,∃o w2 es,stepG lT true g (kM C x d)= .ended o w2 es:=λg C F x d=>AX (w:=C) rfl A y K F;have a8:∀g C,nF f t u n Q g C->g.frame.mode= .returning/\g.callers=[]:=λg C F=>⟨F.2.1,F.2.2.2.1⟩;have a0:cI 2 0 D0 id (j5 D0 (w.at d)) (w.at d):=uY B a1 Z λb a=>(lB (.inr a)).symm;have N:wC (c'::cs') S tP 2 D0 (w.at d) (bC lT f args []) (j5 D0 (w.at d)) gs (w.at d) t0 D0 id S (bC tP f args (c'::cs')) q:=by
  refine⟨?_,TB _,λ_ _ _ _=>rfl,λb a=> .inl a,λr s=> .inr s⟩;exact
   {rel:=a0
    grel:=oM a0 xB.tab ⟨fn,fn,A,hf,rfl,rfl,c,a,L⟩ (λl h=>ha l h) (λl _=>rfl) trivial
    nopan:=λc r e ch=>by cases e;exact a6 ch
    at0:=R.at0
    first:=λb a=>⟨a,rfl⟩
    shun:=λb a=>(hD b a).2.1
    shunLow:=λr s=>⟨hS r s,R.low r s⟩
    past:=R.past
    quiet:=R.quiet
    who:=R.who
    tab:=⟨O,e,z,X,hz,h0⟩
    calm:=p
    leave:=R.leave
    same:=⟨rfl,rfl,rfl⟩
    tabW:=rfl}
 refine BG (Post:=Post) xB QT m (λgL wL ab P a2 t2 D ρ S2 gM q2 i F=> ?_) (KX (W:=w.at d) m a8 a9 hK) J ⟨rfl,rfl⟩ gs (w.at d) sl t0 _ _ _ _ _ N;obtain⟨s1,s2,s3,s4,s5,s6,s7,v,I,hd,s8,s9⟩:=vf hne hQ i.1.rel i.1.grel i.1.first F;have a7:aT tP Post S2 gM P:=aT.step s7 λd'=>by have a3:iV t u n v (ρ I) gM.frame.tmps (P.at d'):=s8;obtain⟨r1,r2⟩:=V _ _ _ _ a3;obtain⟨es,k1,k2⟩:=tT (fr:=gM.frame) (c:=c') (cs:=cs') (w:=P.at d') s6 s3 s2 (by rw[s1];exact hf) r1 true (g:=gM) ⟨rfl,s4,s7,s5⟩;refine⟨_,P.at d',es,k1,TB _,λe he=> ?_,(M S2 _ P v s9 (λr s=>by obtain⟨b,a,rfl⟩:=s;exact⟨by have H:=i.1.rel.out b a;have G:=i.1.rel.glob b;omega,i.1.shun b a,zD i.1.rel a⟩) (λb a=>⟨b,(i.1.first b a).1,(i.1.first b a).2⟩) (λr s=>by obtain⟨b,a,rfl⟩:=s;exact(i.2.fresh b a).imp (λh=>by rw[(i.1.first b h).2];exact h) λh=>h) i.2.shun (λr s=>(i.1.shunLow r s).1) i.2.size i.2.keep i.1.same).at d'⟩;obtain⟨ht,k,rfl⟩:=r2 e (k2 e he);have hl:=i.1.rel.ltM (hd ht);have hn:=i.1.shun I (hd ht);exact kb hl hn
 exact a7 ab P.drawn a2 t2 q2
  {at0:=i.1.at0
   leave:=i.1.leave
   past:=i.1.past
   quiet:=i.1.quiet
   who:=i.1.who
   low:=λb a=>(i.1.shunLow b a).2
   own:=λb a=>a.elim
   ro:=λb a=>a.elim}
end
section
open Go
@[simp] theorem Lf.func91:(aI q tP).funcs[91]?=some Tryz.f91:=aN Tryz.func91 d_ rfl rfl k_
@[simp] theorem Lf.func97:(aI q tP).funcs[97]?=some Tryz.f97:=aN Tryz.func97 d_ rfl rfl k_
@[simp] theorem Lf.func98:(aI q tP).funcs[98]?=some Tryz.f98:=aN Tryz.func98 d_ rfl rfl k_
@[simp] theorem Lf.func99:(aI q tP).funcs[99]?=some Tryz.f99:=aN Tryz.func99 d_ rfl rfl k_
@[simp] theorem Lf.func103:(aI q tP).funcs[103]?=some Tryz.f103:=aN Tryz.func103 d_ rfl rfl k_
@[simp] theorem Lf.func107:(aI q tP).funcs[107]?=some Tryz.f107:=aN Tryz.func107 d_ rfl rfl k_
@[simp] theorem Lf.func117:(aI q tP).funcs[117]?=some Tryz.f117:=aN Tryz.func117 d_ rfl rfl k_
@[simp] theorem Lf.func109:(aI q tP).funcs[109]?=some Tryz.f109:=aN Tryz.func109 d_ rfl rfl k_
@[simp] theorem Lf.func118:(aI q tP).funcs[118]?=some Tryz.f118:=aN Tryz.func118 d_ rfl rfl k_
@[simp] theorem Lf.func104:(aI q tP).funcs[104]?=some Tryz.f104:=aN Tryz.func104 d_ rfl rfl k_
@[simp] theorem Lf.func106:(aI q tP).funcs[106]?=some Tryz.f106:=aN Tryz.func106 d_ rfl rfl k_
@[simp] theorem Lf.func116:(aI q tP).funcs[116]?=some Tryz.f116:=aN Tryz.func116 d_ rfl rfl k_
@[simp] theorem Lf.func8:(aI q tP).funcs[8]?=some Tryz.f8:=aN Tryz.func8 d_ rfl rfl k_
theorem Lf.underlying145:type_of%((cq (q:=q) (P:=tP) 145).trans Tryz.underlying145):=(cq 145).trans Tryz.underlying145
theorem Lf.underlying149:type_of%((cq (q:=q) (P:=tP) 149).trans Tryz.underlying149):=(cq 149).trans Tryz.underlying149
theorem Tj(a:Nat)(b:a<9223372036854775808):(Wi 64 (a:Int)).toNat=a:=by rw[Zo,ZK];exact a92 o_
theorem Tl(a b:Nat)(d:a<9223372036854775808)(c:b<9223372036854775808):bits .and .i64 (a:Int) (b:Int)=((a&&&b:Nat):Int):=by have e:a&&&b<2^63:=Wn _ o_;show U2.wrap ((Wi 64 (a:Int)&&&Wi 64 (b:Int)).toNat:Int)=_;rw[a93,Tj a d,Tj b c,TR];omega
def Az(w:Nat):Prop:=w=2\/w=4\/w=8
theorem Ma(a w:Nat)(d:a<9223372036854775808)(b:Az w):bits .and .i64 (a:Int) (eD w:Int)=((a%2^w:Nat):Int):=by
 have c:eD w<9223372036854775808:=by rcases b with rfl|rfl|rfl<;>decide
 rw[Tl a (eD w) d c];unfold eD;rw[Nat.and_two_pow_sub_one_eq_mod]
def dK(L:List UInt8)(w c:Nat):Nat:=(L.getD (c/(8/w)) 0).toNat/2^(8- w- c%(8/w)*w)%2^w
def fJ(L:List UInt8)(w:Nat):Nat->Nat
 |0=>0
 |c+1=>fJ L w c+(eD w- dK L w c)
def xQ(Q:List UInt8)(w sh:Nat):List UInt8:=Q++cY (fJ Q w (256/w)*2^sh) 2
def rR(KS:List Int)(s:dp)(dig:Nat->Int)(n:Nat):List UInt8:=(U5 n).flatMap λc=>(lx KS s c (dig c) (s.links.extract (c*32) ((c+1)*32))).data.toList
theorem LK(L:List UInt8)(w c:Nat):dK L w c<2^w:=Nat.mod_lt _ (Nat.two_pow_pos w)
theorem zX(L:List UInt8)(w c:Nat):dK L w c<=eD w:=by have:=LK L w c;unfold eD;omega
theorem wI{w:Nat}(a:Az w):eD w<=255:=by rcases a with rfl|rfl|rfl<;>decide
theorem wN(L:List UInt8){w:Nat}(a:Az w):∀c,fJ L w c<=255*c
 |0=>by simp[fJ]
 |c+1=>by have:=wN L a c;have:=wI a;simp only[fJ];omega
theorem LL(L:List UInt8){w:Nat}(a:Az w)(i k:Nat)(b:k<8/w)(c:i<L.length):dK L w (i*(8/w)+k)=L[i].toNat/2^(8- w- k*w)%2^w:=by
 have e:(i*(8/w)+k)/(8/w)=i:=by rcases a with rfl|rfl|rfl<;>simp at b⊢<;>omega
 have d:(i*(8/w)+k)%(8/w)=k:=by rcases a with rfl|rfl|rfl<;>simp at b⊢<;>omega
 unfold dK;rw[e,d,TV,TX c];rfl
end
namespace L1
open Go.Conc Go.RowKit
section
variable{y:Operand}{m n:Int}
theorem Bd(a:o.op= .binOp .sub 3 x y u)(c:ev x= .i m)(b:ev y= .i n)(h: -9223372036854775808<=m- n/\m- n<9223372036854775808):(execOp ev o).run lT w= .ok (.value (.i (m- n))) w:=by
 have e:U2.wrap (m- n)=m- n:=by rw[TR];omega
 simp[execOp,a,c,b,go_sem,e]
theorem SF(a:o.op= .binOp .geq 3 x y u)(c:ev x= .i m)(b:ev y= .i n):(execOp ev o).run lT w= .ok (.value (.bool (decide (m≥n)))) w:=by simp[execOp,a,c,b,go_sem]
theorem tB(a:o.op= .binOp .gtr 3 x y u)(c:ev x= .i m)(b:ev y= .i n):(execOp ev o).run lT w= .ok (.value (.bool (decide (m>n)))) w:=by simp[execOp,a,c,b,go_sem]
theorem wY(a:o.op= .binOp .shr 3 x y u)(c:ev x= .i m)(b:ev y= .i k)(h:k<=64):(execOp ev o).run lT w= .ok (.value (.i (m/2^k))) w:=by
 have e:(0:Int)<=(k:Int):=o_
 have d:(k:Int)<=64:=o_
 simp[execOp,a,c,b,go_sem]
theorem wZ(a:o.op= .binOp .shl 3 x y u)(c:ev x= .i m)(b:ev y= .i k)(h:k<=64)(d: -9223372036854775808<=m*2^k/\m*2^k<9223372036854775808):(execOp ev o).run lT w= .ok (.value (.i (m*2^k))) w:=by
 have g:(0:Int)<=(k:Int):=o_
 have f:(k:Int)<=64:=o_
 have e:U2.wrap (m*2^k)=m*2^k:=by rw[TR];omega
 simp[execOp,a,c,b,go_sem,e]
theorem ku(a:o.op= .binOp .and 3 x y u)(c:ev x= .i m)(b:ev y= .i n):(execOp ev o).run lT w= .ok (.value (.i (bits .and .i64 m n))) w:=by simp[execOp,a,c,b,go_sem]
theorem pw{p:Nat}(a:o.op= .index 9 x y)(c:ev x= .s s)(b:ev y= .i p)(h:p<s.size):(execOp ev o).run lT w= .ok (.value (.int .u8 (s[p].toNat:Int))) w:=by
 have d:lT.underlying 9=some .string:=k_
 simp[execOp,a,c,b,Xf,asIntOf,run_underlying d,h]
theorem KQ{b:UInt8}(a:o.op= .convert 5 3 x)(c:ev x= .int .u8 (b.toNat:Int)):(execOp ev o).run lT w= .ok (.value (.i (b.toNat:Int))) w:=by
 have f:lT.underlying 5=some (.int .u8):=k_
 have d:lT.underlying 3=some (.int .i64):=k_
 have g:=b.toNat_lt;have e:U2.wrap (b.toNat:Int)=b.toNat:=by rw[TR];omega
 simp[execOp,a,c,go_sem,f,d,e]
theorem NT(a:o.op= .binOp .quo 3 x y u)(c:ev x= .i m)(b:ev y= .i 2)(d:0<=m)(g:m<9223372036854775808):(execOp ev o).run lT w= .ok (.value (.i (m/2))) w:=by
 have e:U2.wrap (m/2)=m/2:=by rw[TR];omega
 have f:m.tdiv 2=m/2:=Int.tdiv_eq_ediv_of_nonneg d;simp[execOp,a,c,b,go_sem,f,e]
theorem mS{t:Nat}(a:o.op= .call {callee:= .builtin .len,args:=#[.tmp t],argTypes:=#[9]})(b:ev (.tmp t)= .s s):(execOp ev o).run lT w= .ok (.value (.i s.size)) w:=by
 have c:lT.underlying 9=some .string:=k_
 simp[execOp,a,resolve,b,invoke,builtin,Vy,run_underlying c,goInt]
theorem tD(a:o.op= .binOp .add 3 x y u)(c:ev x= .i m)(b:ev y= .i n)(h: -9223372036854775808<=m+n/\m+n<9223372036854775808):eX ev o w (.i (m+n)):=(iY a c b h).1
end
end L1
end Go.Proofs.YtkmoglhgkcnalabGreatDoor
