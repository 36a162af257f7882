/- A part of what the last text of the claim imports: texts laid together, and made small, by a program. -/
import Derived.Laws.Tables
import Derived.Deep.MidRow
import Derived.Test.YtkmoglhgkcnalaaGreatDoorProg
import Derived.Conc.WalkWords
import Derived.KernelRfl
import Derived.Laws.Slices
import Derived.Conc.EventLaws2
import Derived.RowKit
import Derived.Test.YtkmoglhgkcnalaaGreatDoorRows
import Derived.WalkKit
import Derived.WalkSpells
import Derived.WalkLawsBesides
import Derived.Deep.QuietTactic
import Derived.BigQuiet
import Derived.Deep.OwnRows
import Derived.Deep.RegionHeld3
import Derived.Great.BuildSlice
import Derived.Shelf.Strings.Builder1
import Derived.Shelf.Strings.Builder2
import Derived.Shelf.Strings.OnBuilder
import Derived.Shelf.Strings.BuilderF
import Derived.Shelf.Strings.BuilderK
import Derived.Shelf.LaysM
import Derived.Shelf.Strconv.Clone
import Derived.Shelf.Strings.Prefix
import Derived.Shelf.Bits.Mul64
import Derived.Shelf.Strings.Repeat
import Derived.Test.YtkmoglhgkcnalaaGreatDoorOwn4
set_option maxHeartbeats 16000000
set_option maxRecDepth 100000
open Array renaming getElem?_setIfInBounds_self_of_lt->Tc,getElem?_replicate->Qf,all_eq_true'->Qm,length_toList->QB,getElem?_append_left->QT
open Bool renaming and_eq_true->T9,false_eq_true->Q7,or_eq_true->Rr
open Go.Act renaming put->Rq
open Go.Addr renaming add->QM,add_mid->QV
open Go.Extern.AbiNoEscape renaming same->Sf
open Go.Extern.BytealgMakeNoZero renaming makeNoZero->Rh
open Go.Frame renaming enter->Qc
open Go.Instr renaming loadAt->AT,fieldAt->BY,sliceBounds->Qq,sliceBound->Qx,alloc->Qz,sliceAt->QG,endLoop->QO,slice->R0,storeAt->Rc,index->S6
open Go.IntKind renaming wrap_i64->Q3,i64->Q4,wrap_u32->Qn,wrap_u64->QZ,u64->R4
open Go.Lib renaming repeatL->SO
open Go.Region renaming wanted->Te,linearise->Qd,schedule->QJ,binds->R7,departs->SP
open Go.Result renaming andThen_ok->R9
open Go.Sem renaming run_bind->QC
open Go.Shelf renaming Ren->SU
open Go.StepsIn renaming steps->Sq
open Go.Value renaming agg->S3
open Go.World renaming rangeAt_setCells_same->AI,drew->No,frozen?->Qa,cell?->Qe,rangeAt_alloc->Qr,cell?_alloc_at->QE,frozen?_alloc_at->RU,cell?_drewN->Sj,rangeAt_drew->Sy
open Go.YieldsIf renaming wpOp->RI
open Int renaming eq_ofNat_of_zero_le->Qu,toNat_natCast->Rv,le_refl->T2
open List renaming getElem?_eq_some_iff->Tf,cons_ne_nil->Ti,getD_eq_getElem?_getD->Cd,not_mem_nil->If,map_cons->IN,lookup->IT,replicate->OF,getElem?_append_right->PY,mem_cons->PZ,getElem?_eq_getElem->Q0,size_toArray->Q5,range->Q8,getElem?_append_left->Q9,mem_singleton->QN,take_of_length_le->QQ,map_append->QW,mem_range->QX,getElem?_map->R2,take_succ_eq_append_getElem->R3,length_append->R5,getElem?_eq_none->Rb,append_assoc->Ru,all_eq_true->RE,mem_map_of_mem->S9,append_nil->Sa,flatMap_append->Sv,take_length->SF
open Nat renaming le_refl->T6,lt_of_lt_of_le->T7,zero_add->IS,zero_le->QH,le_of_not_lt->QY,le_antisymm->Rx,mul_one->Ss
open Ne renaming symm->QF
open Option renaming map_some->T8,getD_some->Q2
namespace Go.Proofs.YtkmoglhgkcnalaaGreatDoor
open Go
variable{n b i N l m k j b3 b4 b7 b9 Wg wd:Nat}{w w' w0 wL wM wE:World}{fr:Frame}{v:Value}{cs:List Frame}{args cv:Array Value}{V RO D V0:Nat->Prop}{q main listen ql:Bool}{g:Goroutine}{a:Act}{K:List Item}{P PL PM:Program}{x:Operand}{ops:Array Oper}{KS:List Int}{t u:TypeId}{o:Oper}{f:FuncId}{es:Array Event}{Goal:Goroutine->World->Prop}{fn:Func}{rest:List Nat}{ds:List Deferred}{X:aW}{F:List (Nat×Value)}{e:Event}{listed:Array Bool}{c:Int}{s msg key sig:ByteArray}{ρ:Nat->Nat}{ev:Operand->Value}{Post:Value->World->Prop}
section
open Go.Conc Go.RowKit
def wJ(P:Program)(ops:Array Oper)(a:Act)(o:Oper)(w:World)(R:Value->World->Prop):Prop:=(Te o (yielded ops a.tmps)=true/\qo P a o w R)\/(Te o (yielded ops a.tmps)=false/\R undef w)
def D8(ops:Array Oper)(ds:List Nat)(fx:List Nat)(N:Nat):Bool:=
 xD ops&&decide (ds.length<=ops.size)&&((Q8 ds.length).all λn=>((ops[n]?).map λo=>o.dst==ds[n]?&&tR o.op).getD false)&&decide ds.Nodup&&(ds.all λd=>decide (d<N)&& !fx.contains d)&&
 ((Q8 ops.size).all λn=>decide (n<ds.length)||((Q8 n).all λk=>CI ops ops.size n k))
section
variable{b:Frame}{k:List Item}
theorem Rn.skips(c:ops[n]?=some o)(d:Te o (yielded ops a.tmps)=false)(h:Rn P Goal (b.atR (a.put o.dst undef) (.inRegion ops rest::k)) cs w):Rn P Goal (b.atR a (.inRegion ops (n::rest)::k)) cs w:=by refine Rn.exec rfl (jx (fr:=b.atR a (.inRegion ops (n::rest)::k)) rfl (by rw[c];exact d)) ?_;rw[Frame.finish_atR,c];exact h
theorem Rn.doesG{R:Value->World->Prop}(ho:ops[n]?=some o)(hnd:∀c,o.op≠ .defer c)(h:wJ P ops a o w R)(next:∀v w',R v w'->Rn P Goal (b.atR (a.put o.dst v) (.inRegion ops rest::k)) cs w'):Rn P Goal (b.atR a (.inRegion ops (n::rest)::k)) cs w:=by
 rcases h with⟨hw,h⟩|⟨hw,h⟩
 ·exact Rn.does ho hw hnd h next
 ·exact Rn.skips ho hw (next undef w h)
theorem Rn.growsG{id:Nat}{df:List Deferred}{fx:List (Nat×Value)}{ds:List Nat}{G:Nat->Value->World->Prop}(T:P.follows .mixedOrders=true)(J:D8 ops ds (fx.map (·.1)) N=true)(L:∀n v w w',G n v w->Bw w w'->G n v w')
 (a2:∀n o a w',n<ds.length->ops[n]?=some o->Bw w w'->N<=a.tmps.size->(∀p∈fx,a.tmps[p.1]?=some p.2)->(∀m d,ds[m]?=some d->gW ops n m=true->∃v,a.tmps[d]?=some v/\G m v w')->wJ P ops a o w' λv i=>G n v i/\Bw w' i)
 (q:Nat->Act->World->Prop) (S:∀a w',uz df fx ds G N w a w' (λ_=>True)->q ds.length a w')
 (Q:∀n o a w' rest,ds.length<=n->ops[n]?=some o->q n a w'->(∀a' i,q (n+1) a' i->Rn P Goal (b.atR a' (.inRegion ops rest::k)) cs i)->Rn P Goal (b.atR a (.inRegion ops (n::rest)::k)) cs w')
 (V:∀a w',q ops.size a w'->Rn P Goal (b.atR a k) cs w') (a5:a.defers=df) (hN:N<=a.tmps.size) (a4:∀p∈fx,a.tmps[p.1]?=some p.2):Rn P Goal (b.atR a (.code (.region id ops true)::k)) cs w:=by
 simp only[D8,T9,decide_eq_true_eq,RE,QX,Rr]at J;obtain⟨⟨⟨⟨⟨c1,c3⟩,c4⟩,c5⟩,c6⟩,c7⟩:=J;refine Rn.draw λt=> ?_;have R:QJ (P.follows .mixedOrders) ops t=Qd .any ops t:=by unfold QJ;rw[T];simp
 rw[R];have O:∀{f:Array Bool} {m:Nat} {o:Oper},mC ops f->ds.length<=m->ops[m]?=some o->(∀e∈o.after,R7 .any e=true->f[e.on]?=some true)->∀n,n<m->f[n]?=some true:=λ{f m o} D hm z s n B=>by have g:m<ops.size:=(gA z).1;exact D.reach ops.size m n o z s (((c7 m g).resolve_left o_) n B)
 refine Rn.orderly (qQ c1) (λf a w'=>mC ops f/\(((∀n,ds.length<=n->n<ops.size->f[n]?=some false)/\uz df fx ds G N w a w' λn=>f[n]?=some true)\/∃j,ds.length<j/\j<=ops.size/\(∀n,n<j->f[n]?=some true)/\(∀n,j<=n->n<ops.size->f[n]?=some false)/\q j a w'))
  (λf a w' E h=> ?_) (λf a w' m o rest a7 z hm s h C=> ?_) t a _ ⟨λn o _ A=> ?_, .inl ⟨λn _ B=>by simp[B],a5,hN,a4,gw w,λn d y A=> ?_⟩⟩
 ·refine Rn.p rfl (V a w' ?_);obtain⟨D,h⟩:=h;rcases h with⟨H,l⟩|⟨j,H,l,h3,Y,Z⟩
  ·have hK:ds.length=ops.size:=by refine Rx c3 (QY λg=> ?_);have:=H ds.length (T6 _) g;rw[E _ g]at this;cases this
   rw[←hK];exact S a w' ⟨l.defers,l.size,l.fixed,l.old,λn d y _=>l.come n d y (E n (by have:=(Tf.1 y).1;omega))⟩
  ·have hj:j=ops.size:=by refine Rx l (QY λg=> ?_);have:=Y j (T6 _) g;rw[E _ g]at this;cases this
   rw[←hj];exact Z
 ·have a6:m<ops.size:=(gA z).1;obtain⟨D,h⟩:=h;have C:=λa' i x=>C a' i ⟨D.set z s,x⟩;by_cases F:m<ds.length
  ·rcases h with⟨H,l⟩|⟨j,H,l,h3,Y,Z⟩
   ·have hc:=c4 m F;rw[z]at hc;simp only[T8,Q2,T9,beq_iff_eq]at hc;obtain⟨e1,e3⟩:=hc;have W:ds[m]?=some ds[m]:=Q0 F;refine Rn.doesG z (λc e=>by rw[e]at e3;cases e3) (a2 m o a w' F z l.old l.size l.fixed λn d y B=>l.come n d y (ce B z s)) λv i hv=> ?_;rw[e1,W];have X:=c6 ds[m] (List.getElem_mem F);refine C _ _ (.inl ⟨λn B g=> ?_,l.defers,by simpa[Rq]using l.size,λp hp=> ?_,aE l.old l.old.size hv.2,λn d y A=> ?_⟩)
    ·rw[sN o_];exact H n B g
    ·show(a.tmps.setIfInBounds ds[m] v)[p.1]?=_;rw[sN (λe=>by have h6:ds[m]∉fx.map (·.1):=(by simpa using X.2);exact h6 (by rw[e];exact S9 hp))]
     exact l.fixed p hp
    ·by_cases K:n=m
     ·subst K;rw[W]at y;cases y;refine⟨v, ?_,hv.1⟩;show(a.tmps.setIfInBounds ds[n] v)[ds[n]]?=_;exact Tc (T7 X.1 l.size)
     ·rw[sN (QF K)]at A;obtain⟨u,a1,a0⟩:=l.come n d y A;refine⟨u, ?_,L n u w' i a0 hv.2⟩;show(a.tmps.setIfInBounds ds[m] v)[d]?=_;rw[sN (λe=>by obtain⟨B,rfl⟩:=Tf.1 y;exact K ((List.getElem_inj c5).1 e).symm)]
      exact a1
   ·have:=h3 m o_;rw[hm]at this;cases this
  ·have r:=O D o_ z s;have I:∀n,n<m+1->(f.setIfInBounds m true)[n]?=some true:=λn B=>by
    by_cases e:m=n
    ·subst e;exact Tc o_
    ·rw[sN e];exact r n o_
   rcases h with⟨H,l⟩|⟨j,H,l,h3,Y,Z⟩
   ·have U:m=ds.length:=by refine Rx (QY λg=> ?_) o_;have:=H ds.length (T6 _) o_;rw[r _ g]at this;cases this
    have hS:q m a w':=by rw[U];exact S a w' ⟨l.defers,l.size,l.fixed,l.old,λn d y _=>l.come n d y (r n (by have:=(Tf.1 y).1;omega))⟩
    refine Q m o a w' rest o_ z hS λa' i M=>C a' i (.inr ⟨m+1,o_,o_,I,λn B g=> ?_,M⟩);rw[sN o_];exact H n o_ g
   ·have a3:m=j:=by
     refine Rx (QY λg=> ?_) (QY λg=> ?_)
     ·have:=Y j (T6 _) o_;rw[r _ g]at this;cases this
     ·have:=h3 m g;rw[hm]at this;cases this
    subst a3;refine Q m o a w' rest o_ z Z λa' i M=>C a' i (.inr ⟨m+1,o_,o_,I,λn B g=> ?_,M⟩);rw[sN o_];exact Y n o_ g
 ·rw[Qf]at A;split at A
  ·cases A
  ·cases A
 ·rw[Qf]at A;split at A
  ·cases A
  ·cases A
theorem li{ev:Operand->Value}{y z:Operand}(a:o.op= .pick x y z)(b:ev x= .bool q):(execOp ev o).run P w= .ok (.value (if q then ev y else ev z)) w:=by cases q<;>simp[execOp,a,b,go_sem]
theorem rE{ev:Operand->Value}{b:Array Value}(a:o.op= .extract x i)(c:ev x= .tuple b)(hv:b[i]?=some v):(execOp ev o).run P w= .ok (.value v) w:=by simp[execOp,a,c,Instr.extract,hv]
theorem cd{ev:Operand->Value}{y:Operand}{ty:TypeId}{g:Nat}{cells old:Array Value}(a:o.op= .store ty x y)(c:ev x= .pk g 0)(b:ev y= .agg cells)(f:w.heap[g]?=some (.cells old t))(e:(P.info? ty).map (·.size)=some cells.size)(d:old.size=cells.size)(i:cells.all (·.oneCell')=true):
 (execOp ev o).run P w= .ok .skip (w.setRow g cells):=by have h:=run_storeVar_row (P:=P) w g t ty old cells f e d i;simp[execOp,a,c,b,Rc,Instr.sureAddr,h]
theorem bT(w:World)(g:Nat)(cs:Array Value)(h:N<=g):Below N w (w.setRow g cs):=⟨rfl,rfl,rfl,by simp[World.setRow],λk a=>setRow_other w g k cs o_⟩
theorem mq{R:Ending->World->Prop}{t u:Tmp}{ty:TypeId}{d:TypeDesc}(s:P.funcs[f]?=some fn)(c:fn.results=#[.cell t ty, .tmp u])(m:P.underlying ty=some d)(y:d.isRow=true)(r:(P.info? ty).map (·.size)=some n)
 (h:∀cs,Rn P (λg w'=>∃(a:Act) (k:List Item) (b:Nat) (cells:Array Value) (e:TypeId) (v:Value),g=dN {(base f).atR a k with mode:= .returning} cs/\a.defers=[]/\a.tmps[t]?=some (.pk b 0)/\w'.heap[b]?=some (.cells cells e)/\cells.size=n/\a.tmps[u]?=some v/\R (.returned (.tuple #[.agg cells,v])) w') (Qc P f args .normal) cs w):Calls P f args w R:=λcs=>by
 obtain⟨G,w',F,a,k,b,cells,e,v,rfl,E,D,C,B,A,z⟩:=h cs;refine⟨.returned (.tuple #[.agg cells,v]),w',{(base f).atR a k with mode:= .returning},z,Sq F,rfl,rfl,E,rfl,fn,s, ?_⟩;have p:a.tmps[t]?.getD undef= .pk b 0:=by rw[D];rfl
 have l:a.tmps[u]?.getD undef=v:=by rw[A];rfl
 have o:w'.rangeAt b 0 cells.toList:=λj x i=>by
  rw[IS];have:w'.cell? ⟨b,j,none⟩=cells[j]?:=by simp[Qe,C]
  rw[this,←i,Array.getElem?_toList]
 have q:=run_loadVar_mid (P:=P) w' b 0 ty cells.toList d o m y (by rw[r];simp[B]);show(results fn a.tmps).run P w'=_;simp[results,c,p,l,asAddr,q]
end
section
def kn(fx:List (Nat×Value))(ps:List (Nat×Value))(ops:Array Oper)(n x:Nat):Option Value:=
 match fx.lookup x with
 |some v=>some v
 |none=>(ps.zipIdx.find? λq=>q.1.1==x&&gW ops n q.2).map (·.1.2)
theorem GZ{fx:List (Nat×Value)}{f:List (Nat×Value)}{x:Nat}(h:kn fx f ops n x=some v)(c:∀p∈fx,a.tmps[p.1]?=some p.2)(b:∀m p,f[m]?=some p->gW ops n m=true->a.tmps[p.1]?=some p.2):a.tmps[x]?=some v:=by
 unfold kn at h;cases e:fx.lookup x with
 |some u=>
  rw[e]at h;cases h;have:(x,v)∈fx:=by
   clear c b;induction fx with
   |nil=>cases e
   |cons p r j=>
    rw[IT]at e;split at e
    ·rename_i k;have:x=p.1:=(by simpa using k);cases e;rw[this];exact List.mem_cons_self
    ·exact List.mem_cons_of_mem _ (j e)
  exact c _ this
 |none=>
  rw[e]at h;simp only[Option.map_eq_some_iff]at h;obtain⟨q,g,l⟩:=h;have o:=List.mem_of_find?_eq_some g;have d:=List.find?_some g;simp only[T9,beq_iff_eq]at d;have i:=List.mem_zipIdx o;have:=b q.2 q.1 (by simpa using Tf.2 ⟨by simpa using i.2.1,by simpa using i.2.2.symm⟩) d.2;rw[←d.1,←l];exact this
def lk(fx:List (Nat×Value))(ps:List (Nat×Value))(x:Nat):Option Value:=(fx++ps).lookup x
structure Rw (w:World) (fx ps:List (Nat×Value)) (ops:Array Oper) (n:Nat) (o:Oper) (a:Act) (w':World):Prop where
 ho:ops[n]?=some o
 e:∀{p},(h:(ops[n]?).map (·.op)=some p:=by kernel_rfl)->o.op=p
 b:Bw w w'
 k:∀x {u},(g:lk fx ps x=some u:=by rfl)->(h:kn fx ps ops n x=some u:=by kernel_rfl)->a.eval (.tmp x)=u
def Dv(P:Program)(a:Act)(o:Oper)(w:World)(v:Value):Prop:=qo P a o w λu w'=>u=v/\Bw w w'
theorem dv(h:(execOp a.eval o).run P w= .ok (.value v) w):Dv P a o w v:=aF h ⟨rfl,bR⟩
theorem pv{v':Value}(h:(execOp a.eval o).run P w= .ok (.value v') w)(e:v'=v):Dv P a o w v:=aF h ⟨e,bR⟩
theorem kc:a.eval (.const v)=v:=rfl
def LF(o:Oper):Option Nat:=match o.op with
 | .move (.tmp x)=>some x
 | .assign (.tmp x)=>some x
 |_=>none
theorem O1{x:Nat}(h:LF o=some x):o.op= .move (.tmp x)\/o.op= .assign (.tmp x):=by
 unfold LF at h;split at h
 ·rename_i e;cases h;exact .inl e
 ·rename_i e;cases h;exact .inr e
 ·cases h
def lY(P:Program)(w:World)(fx ps:List (Nat×Value))(ms:List Nat)(ops:Array Oper):Nat->List (Nat×Value)->Prop
 |_,[]=>True
 |n,p::q=>(match ms.contains p.1 with|true=>lY P w fx ps ms ops (n+1) q|false=>(∀{o a w'},Rw w fx ps ops n o a w'->Dv P a o w' p.2)/\lY P w fx ps ms ops (n+1) q)
theorem yv{fx b:List (Nat×Value)}{c:List Nat}:∀(r:List (Nat×Value)) (k i:Nat) (p:Nat×Value),lY P w fx b c ops k r->r[i]?=some p->c.contains p.1=false->∀{o a w'},Rw w fx b ops (k+i) o a w'->Dv P a o w' p.2
 |[],_,i,_,_,h,_=>by simp at h
 |q::r,k,0,p,hr,h,hm=>by
  have:q=p:=by simpa using h
  subst this;unfold lY at hr;rw[hm]at hr;exact hr.1
 |q::r,k,i+1,p,hr,h,hm=>by
  have d:lY P w fx b c ops (k+1) r:=by
   unfold lY at hr;split at hr
   ·exact hr
   ·exact hr.2
  rw[show k+(i+1)=k+1+i from o_];exact yv r (k+1) i p d (by simpa using h) hm
def CR(fx ps:List (Nat×Value))(ms:List Nat)(ops:Array Oper):List (Option Value):=ps.zipIdx.map λq=>match ms.contains q.1.1 with
 |true=>((ops[q.2]?).bind LF).bind (kn fx ps ops q.2)
 |false=>none
def CQ(ps:List (Nat×Value))(ms:List Nat):List (Option Value):=ps.map λp=>match ms.contains p.1 with
 |true=>some p.2
 |false=>none
theorem Has.grow{df:List Deferred}{fx b:List (Nat×Value)}(f:uz df fx (b.map (·.1)) (λn u _=>(b[n]?).map (·.2)=some u) N w a w' λ_=>True)(i:Has fx N df a):∀L:List (Nat×Value),(L.map λp=>b.lookup p.1)=L.map (λp=>some p.2)->Has (L++fx) N df a
 |[],_=>i
 |(d,v)::r,h=>by
  simp only[IN,List.cons.injEq]at h;refine(Has.grow f i r h.2).more ?_;have:∃m:Nat,b[m]?=some (d,v):=by
   have c:=h.1;clear f h;induction b with
   |nil=>cases c
   |cons p q j=>
    rw[IT]at c;split at c
    ·rename_i k;have:d=p.1:=(by simpa using k);cases c;exact⟨0,by rw[this];rfl⟩
    ·obtain⟨m,e⟩:=j c;exact⟨m+1,e⟩
  obtain⟨m,e⟩:=this;obtain⟨u,l,g⟩:=f.come m d (by rw[R2,e];rfl) trivial;rw[e]at g;cases g;exact l
theorem Rn.tabS{b:Frame}{k:List Item}{id:Nat}{df:List Deferred}{fx:List (Nat×Value)}(T:Has fx N df a)(d:List (Nat×Value))(E:List Nat)(L:List (Nat×Value))(j:lY P w fx d E ops 0 d)
 (c:Nat->Act->World->Prop) (J:∀a w',Bw w w'->Has (L++fx) N df a->c d.length a w')
 (I:∀n o a w' rest,d.length<=n->ops[n]?=some o->c n a w'->(∀a' g,c (n+1) a' g->Rn P Goal (b.atR a' (.inRegion ops rest::k)) cs g)->Rn P Goal (b.atR a (.inRegion ops (n::rest)::k)) cs w')
 (z:∀a w',c ops.size a w'->Rn P Goal (b.atR a k) cs w') (v:P.follows .mixedOrders=true:=by kernel_rfl) (Q:CR fx d E ops=CQ d E:=by kernel_rfl) (A:qK ops (d.map (·.1)) (fx.map (·.1)) N=true:=by kernel_rfl) (hL:(L.map λp=>d.lookup p.1)=L.map (λp=>some p.2):=by kernel_rfl) (M:(fx.map (·.1)).Nodup:=by simp):Rn P Goal (b.atR a (.code (.region id ops true)::k)) cs w:=by
 refine Rn.grows (fx:=fx) (ds:=d.map (·.1)) (N:=N) (df:=df) (G:=λn u _=>(d[n]?).map (·.2)=some u) v A (λ_ _ _ _ h _=>h) (λn o a w' Z s hb y K=> ?_)
  c (λa w' S=> ?_) (λm o a w' rest H s hS R=>I m o a w' rest (by simpa using H) s hS R) z T.defers T.size (T.all M)
 ·have O:n<d.length:=by simpa using Z
  obtain⟨p,F⟩:∃p,d[n]?=some p:=⟨d[n],List.getElem?_eq_getElem O⟩;have r:∀m q,d[m]?=some q->gW ops n m=true->a.tmps[q.1]?=some q.2:=λm q W i=>by obtain⟨u,Y,X⟩:=K m q.1 (by rw[List.getElem?_map,W];rfl) i;rw[W]at X;cases X;exact Y
  have U:Dv P a o w' p.2->qo P a o w' λu g=>(d[n]?).map (·.2)=some u/\Bw w' g:=λh=>by
   rcases h with⟨u,V,C,B,h3⟩|⟨f,D,C,B⟩
   ·exact .inl ⟨u,V,C,by rw[F,B];rfl,h3⟩
   ·exact .inr ⟨f,D,C,B.mono λe V ⟨u,e1,e2,e3⟩=>⟨u,e1,by rw[F,e2];rfl,e3⟩⟩
  refine U ?_;cases t:E.contains p.1 with
  |false=>
   refine yv d 0 n p j F t (o:=o) (a:=a) (w':=w') ?_;rw[Nat.zero_add];exact⟨s,λh=>by rw[s]at h;exact Option.some.inj h,hb,λx u _ h=>aA (GZ h y r)⟩
  |true=>
   have H:=congrArg (λl=>l[n]?) Q;simp only[CR,CQ,List.getElem?_map,List.getElem?_zipIdx,F,Option.map_some,Option.some.injEq,Nat.zero_add,t,s,Option.bind_some,Option.bind_eq_some_iff]at H;obtain⟨x,C,B⟩:=H;exact mp (O1 C) (GZ B y r) ⟨rfl,bR⟩
 ·have:=J a w' S.old (Has.grow S S.base L hL)
  rwa [List.length_map]
theorem Rn.tab{b:Frame}{k:List Item}{id:Nat}{df:List Deferred}{fx:List (Nat×Value)}(u:Has fx N df a)(c:List (Nat×Value))(j:List Nat)(d:Nat)(f:lY P w fx c j ops 0 c)
 (next:∀a w',Bw w w'/\Has ((d,v)::fx) N df a->Rn P Goal (b.atR a k) cs w') (g:P.follows .mixedOrders=true:=by kernel_rfl) (l:ops.size=c.length:=by kernel_rfl) (q:CR fx c j ops=CQ c j:=by kernel_rfl) (i:qK ops (c.map (·.1)) (fx.map (·.1)) N=true:=by kernel_rfl) (e:c.lookup d=some v:=by kernel_rfl) (p:(fx.map (·.1)).Nodup:=by simp):Rn P Goal (b.atR a (.code (.region id ops true)::k)) cs w:=
 Rn.tabS u c j [(d,v)] f (λm a w'=>m=ops.size/\Bw w w'/\Has ((d,v)::fx) N df a) (λ_ _ y x=>⟨l.symm,y,x⟩) (λn o a w' r z s A t=>by have:=(gA s).1;omega) (λa w' h=>next a w' h.2) g q i (by simp[e]) p
theorem Rn.tab1{b:Frame}{k:List Item}{id:Nat}{df:List Deferred}{fx:List (Nat×Value)}{R:Act->World->Prop}(next:∀a w',R a w'->Rn P Goal (b.atR a k) cs w')(z:Has fx N df a)(c:List (Nat×Value))(i:List Nat)(L:List (Nat×Value))(e:lY P w fx c i ops 0 c)
 (t:∀a w' rest,Bw w w'->Has (L++fx) N df a->(∀a' d,R a' d->Rn P Goal (b.atR a' (.inRegion ops rest::k)) cs d)->Rn P Goal (b.atR a (.inRegion ops (c.length::rest)::k)) cs w') (f:P.follows .mixedOrders=true:=by kernel_rfl) (u:ops.size=c.length+1:=by kernel_rfl) (l:CR fx c i ops=CQ c i:=by kernel_rfl) (g:qK ops (c.map (·.1)) (fx.map (·.1)) N=true:=by kernel_rfl) (y:(L.map λp=>c.lookup p.1)=L.map (λp=>some p.2):=by kernel_rfl) (j:(fx.map (·.1)).Nodup:=by simp):Rn P Goal (b.atR a (.code (.region id ops true)::k)) cs w:=
 Rn.tabS z c i L e (λm a w'=>(m=c.length/\Bw w w'/\Has (L++fx) N df a)\/(m=c.length+1/\R a w')) (λ_ _ s r=> .inl ⟨rfl,s,r⟩) (λn o a w' rest A v x q=>by
  rcases x with⟨rfl,s,r⟩|⟨rfl,_⟩
  ·exact t a w' rest s r λa' d h=>q a' d (.inr ⟨rfl,h⟩)
  ·have:=(gA v).1;omega) (λa w' h=>by
  rcases h with⟨h,_⟩|⟨_,h⟩
  ·omega
  ·exact next a w' h) f l g y j
def vc(ops:Array Oper)(n:Nat):Option (FuncId×Array Operand):=(ops[n]?).bind λo=>match o.op with
 | .call c=>match c.callee with
   | .value (.func f)=>some (f,c.args)
   |_=>none
 |_=>none
def kQ(P:Program)(f:FuncId):Bool:=match P.funcs[f]? with
 |some fn=> !(fn.name== "runtime.NumGoroutine")&& !fn.body.isNone
 |none=>false
theorem Rw.calls{fx p:List (Nat×Value)}{xs:Array Operand}{l:Array Value}{v':Value}(h:Rw w fx p ops n o a w')(q:xs.map a.eval=l)(r:Calls P f l w' λe i=>e= .returned v'/\Bw w' i)(hv:v'=v)(b:vc ops n=some (f,xs))(d:kQ P f=true):Dv P a o w' v:=by
 subst hv;unfold vc at b;rw[h.ho]at b;simp only[Option.bind_some]at b;split at b
 ·rename_i c j;split at b
  ·rename_i g m;simp only[Option.some.injEq,Prod.mk.injEq]at b;unfold kQ at d;split at d
   ·rename_i y k;simp only[T9,Bool.not_eq_true']at d;obtain⟨z,A,u⟩:=c;simp only at m b;subst m;obtain⟨rfl,rfl⟩:=b;exact .inr ⟨_,_,(bG (w:=w') j q (dS k d.1 d.2 _)).1,r.mono λe x ⟨t,s⟩=>⟨_,t,rfl,s⟩⟩
   ·cases d
  ·cases b
 ·cases b
variable{fx ps:List (Nat×Value)}{v':Value}
theorem Rw.c2{x0 g:Operand}{j i:Value}(h:Rw w fx ps ops n o a w')(m:a.eval x0=j)(l:a.eval g=i)(k:Calls P f #[j,i] w' λe b=>e= .returned v'/\Bw w' b)(hv:v'=v:=by rfl)(d:vc ops n=some (f,#[x0,g]):=by kernel_rfl)(c:kQ P f=true:=by kernel_rfl):Dv P a o w' v:=h.calls (by simp[m,l]) k hv d c
theorem Rw.c3{x0 i g:Operand}{l k j:Value}(h:Rw w fx ps ops n o a w')(r:a.eval x0=l)(q:a.eval i=k)(p:a.eval g=j)(m:Calls P f #[l,k,j] w' λe b=>e= .returned v'/\Bw w' b)(hv:v'=v:=by rfl)(d:vc ops n=some (f,#[x0,i,g]):=by kernel_rfl)(c:kQ P f=true:=by kernel_rfl):Dv P a o w' v:=h.calls (by simp[r,q,p]) m hv d c
theorem Rw.c4{x0 j i g:Operand}{p m l k:Value}(h:Rw w fx ps ops n o a w')(u:a.eval x0=p)(t:a.eval j=m)(s:a.eval i=l)(r:a.eval g=k)(q:Calls P f #[p,m,l,k] w' λe b=>e= .returned v'/\Bw w' b)(hv:v'=v:=by rfl)(d:vc ops n=some (f,#[x0,j,i,g]):=by kernel_rfl)(c:kQ P f=true:=by kernel_rfl):Dv P a o w' v:=h.calls (by simp[u,t,s,r]) q hv d c
theorem Rw.c5{x0 k j i g:Operand}{r q p m l:Value}(h:Rw w fx ps ops n o a w')(z:a.eval x0=r)(y:a.eval k=q)(x:a.eval j=p)(u:a.eval i=m)(t:a.eval g=l)(s:Calls P f #[r,q,p,m,l] w' λe b=>e= .returned v'/\Bw w' b)(hv:v'=v:=by rfl)(d:vc ops n=some (f,#[x0,k,j,i,g]):=by kernel_rfl)(c:kQ P f=true:=by kernel_rfl):Dv P a o w' v:=h.calls (by simp[z,y,x,u,t]) s hv d c
theorem Rw.c7{x0 m l k j i g:Operand}{x u t s r q p:Value}(h:Rw w fx ps ops n o a w')(F:a.eval x0=x)(E:a.eval m=u)(D:a.eval l=t)(C:a.eval k=s)(B:a.eval j=r)(A:a.eval i=q)(z:a.eval g=p)(y:Calls P f #[x,u,t,s,r,q,p] w' λe b=>e= .returned v'/\Bw w' b)(hv:v'=v:=by rfl)(d:vc ops n=some (f,#[x0,m,l,k,j,i,g]):=by kernel_rfl)(c:kQ P f=true:=by kernel_rfl):Dv P a o w' v:=h.calls (by simp[F,E,D,C,B,A,z]) y hv d c
theorem Rw.c8{x0 p m l k j i g:Operand}{z y x u t s r q:Value}(h:Rw w fx ps ops n o a w')(I:a.eval x0=z)(H:a.eval p=y)(G:a.eval m=x)(F:a.eval l=u)(E:a.eval k=t)(D:a.eval j=s)(C:a.eval i=r)(B:a.eval g=q)(A:Calls P f #[z,y,x,u,t,s,r,q] w' λe b=>e= .returned v'/\Bw w' b)(hv:v'=v:=by rfl)(d:vc ops n=some (f,#[x0,p,m,l,k,j,i,g]):=by kernel_rfl)(c:kQ P f=true:=by kernel_rfl):Dv P a o w' v:=h.calls (by simp[I,H,G,F,E,D,C,B]) A hv d c
end
section
variable{b:Frame}{k:List Item}
theorem Rn.fi{f:FuncId}{t:Tmp}{v:Value}{R:Value->World->Prop}{k':List Item}(hF:Has F N [] a)(hR:R v w)(hv:F.lookup t=some v:=by rfl)(h0:qy 6 ((base f).atR a k)= .code .ret::k':=by rfl):
 Rn P (λg w'=>∃(a:Act) (k:List Item) (v:Value),g=dN {(base f).atR a k with mode:= .returning} cs/\a.defers=[]/\a.tmps[t]?=some v/\R v w') ((base f).atR a k) cs w:=
 Rn.runs 6 k (by rw[h0];exact Rn.ends rfl (.inr ⟨_,rfl⟩) (Rn.now ⟨a,_,_,rfl,hF.defers,hF.slot t _ hv,hR⟩))
theorem Rn.fj{f:FuncId}{t u:Tmp}{v x:Value}{R:Value->Value->World->Prop}{k':List Item}(hF:Has F N [] a)(hR:R v x w)(hv:F.lookup t=some v:=by rfl)(hx:F.lookup u=some x:=by rfl)(h0:qy 6 ((base f).atR a k)= .code .ret::k':=by rfl):
 Rn P (λg w'=>∃(a:Act) (k:List Item) (v x:Value),g=dN {(base f).atR a k with mode:= .returning} cs/\a.defers=[]/\a.tmps[t]?=some v/\a.tmps[u]?=some x/\R v x w') ((base f).atR a k) cs w:=
 Rn.runs 6 k (by rw[h0];exact Rn.ends rfl (.inr ⟨_,rfl⟩) (Rn.now ⟨a,_,_,_,rfl,hF.defers,hF.slot t _ hv,hF.slot u _ hx,hR⟩))
theorem Rn.vv{k':List Item}{d:Tmp}{p:Op}{v:Value}{w':World}{gd:Option (Nat×Bool)}(hF:Has F N ds a)(hy:∀o:Oper,o.op=p->(execOp a.eval o).run P w= .ok (.value v) w')(next:∀a',Has ((d,v)::F) N ds a'->Rn P Goal (b.atR a' (.inRegion ops rest::k')) cs w')(h0:qy 6 (b.atR a k)= .inRegion ops (m::rest)::k':=by rfl)
 (h:(ops[m]?).map (λo=>(o.dst,o.op,o.guard))=some (some d,p,gd):=by rfl) (hw:gF ops F gd=true:=by rfl) (hd:d<N:=by decide) (hnd:nd p=true:=by rfl):Rn P Goal (b.atR a k) cs w:=by
 refine Rn.gr ?_ h0;cases ho:ops[m]? with
 |none=>rw[ho]at h;cases h
 |some o=>
  rw[ho]at h;simp only[Option.map_some,Option.some.injEq,Prod.mk.injEq]at h;obtain⟨e1,e2,e3⟩:=h;refine Rn.ran ho (wb hF e3 hw) (λc e=>by rw[←e2,e]at hnd;cases hnd) (hy o e2) ?_;rw[e1];exact next _ (hF.put hd v)
theorem Rn.nn{k':List Item}{p:Op}{w':World}(hF:Has F N ds a)(hy:∀o:Oper,o.op=p->(execOp a.eval o).run P w= .ok .skip w')(next:∀a',Has F N ds a'->Rn P Goal (b.atR a' (.inRegion ops rest::k')) cs w')(h0:qy 6 (b.atR a k)= .inRegion ops (m::rest)::k':=by rfl)
 (h:(ops[m]?).map (λo=>(o.dst,o.op,o.guard))=some (none,p,none):=by rfl) (hnd:nd p=true:=by rfl):Rn P Goal (b.atR a k) cs w:=Rn.gr (Rn.does0 hF p h (λc e=>by rw[e]at hnd;cases hnd) hy next) h0
def Po(F:List (Nat×Value)):Operand->Option Value
 | .tmp t=>F.lookup t
 | .const v=>some v
 |_=>none
def Od(F:List (Nat×Value)):List Operand->Option (List Value)
 |[]=>some []
 |x::r=>match Po F x,Od F r with
  |some v,some l=>some (v::l)
  |_,_=>none
theorem LR{x:Operand}{v:Value}(hF:Has F N ds a)(h:Po F x=some v):a.eval x=v:=by
 cases x with
 |tmp t=>exact hF.get h
 |const u=>exact Option.some.inj h
 |func f=>cases h
 |_=>cases h
theorem HF(hF:Has F N ds a):∀(xs:List Operand) (vs:List Value),Od F xs=some vs->xs.map a.eval=vs
 |[],vs,h=>by cases h;rfl
 |x::r,vs,h=>by
  unfold Od at h;split at h
  ·rename_i v l h1 h2;cases h;rw[IN,LR hF h1,HF hF r l h2]
  ·cases h
theorem Rn.cl{d:Tmp}{f:FuncId}{fn:Func}{xs:Array Operand}{ats:Array TypeId}{vs:List Value}{k':List Item}{R:Value->World->Prop}(hF:Has F N ds a)(hf:P.funcs[f]?=some fn)(hC:Calls P f vs.toArray w λe w'=>∃v,e= .returned v/\R v w')
 (next:∀v w',R v w'->∀a',Has ((d,v)::F) N ds a'->Rn P Goal (b.atR a' (.inRegion ops rest::k')) cs w') (h0:qy 6 (b.atR a k)= .inRegion ops (m::rest)::k':=by rfl)
 (h:(ops[m]?).map (λo=>(o.dst,o.op,o.guard))=some (some d, .call {callee:= .value (.func f),args:=xs,argTypes:=ats},none):=by rfl) (ha:Od F xs.toList=some vs:=by rfl) (hd:d<N:=by decide) (hname:(fn.name== "runtime.NumGoroutine")=false:=by kernel_rfl) (hb:fn.body.isNone=false:=by kernel_rfl):Rn P Goal (b.atR a k) cs w:=
 Rn.gr (Rn.calls hF d hd h (by rw[←HF hF _ _ ha,←Array.toList_map,Array.toArray_toList]) hf hname hb hC next) h0
theorem Rn.cw{d:Tmp}{f:FuncId}{fn:Func}{xs:Array Operand}{ats:Array TypeId}{vs:List Value}{k':List Item}{v:Value}{B:World->Prop}(hF:Has F N ds a)(hf:P.funcs[f]?=some fn)(hC:Calls P f vs.toArray w λe w'=>e= .returned v/\B w')
 (next:∀w',B w'->∀a',Has ((d,v)::F) N ds a'->Rn P Goal (b.atR a' (.inRegion ops rest::k')) cs w') (h0:qy 6 (b.atR a k)= .inRegion ops (m::rest)::k':=by rfl)
 (h:(ops[m]?).map (λo=>(o.dst,o.op,o.guard))=some (some d, .call {callee:= .value (.func f),args:=xs,argTypes:=ats},none):=by rfl) (ha:Od F xs.toList=some vs:=by rfl) (hd:d<N:=by decide) (hname:(fn.name== "runtime.NumGoroutine")=false:=by kernel_rfl) (hb:fn.body.isNone=false:=by kernel_rfl):Rn P Goal (b.atR a k) cs w:=
 Rn.cl (R:=λu w'=>u=v/\B w') hF hf (hC.mono λ_ _ h=>⟨_,h.1,rfl,h.2⟩) (λu w' hu a' hF=>by obtain⟨rfl,hB⟩:=hu;exact next w' hB a' hF) h0 h ha hd hname hb
end
theorem Rw.qq{w:World}{fx ps:List (Nat×Value)}{ops:Array Oper}{n:Nat}{o:Oper}{a:Act}{w':World}{p:Op}(z:Rw w fx ps ops n o a w')(h:(ops[n]?).map (·.op)=some p:=by rfl):o.op=p:=z.e h
theorem zx{p:Prop}(h:p:=by first|exact z.k _|exact ac):p:=h
theorem zc{w w':World}{b k:Nat}{cs:Array Value}{t:TypeId}{v:Value}(hb:Bw w w')(h:w.heap[b]?=some (.cells cs t):=by assumption)(e:cs[k]?=some v:=by rfl):w'.cell? ⟨b,k,none⟩=some v:=by unfold World.cell?;simp[(hb.block _ (gA h).1).trans h,e]
theorem tq{p:Prop}(h:p:=by
 first|intro o a w' z|intro z
 first
 |exact dv (vF _ d_ z.qq zx)
 |exact dv (jI _ d_ z.qq zx)
 |exact dv (NU _ d_ z.qq zx)
 |exact dv (mF _ _ d_ z.qq zx)
 |exact dv (eG _ d_ z.qq zx)
 |exact dv (NT z.qq zx)
 |exact dv (NS z.qq zx)
 |exact dv (NR z.qq zx)
 |exact dv (NP z.qq zx)
 |exact dv (KU z.qq zx)
 |exact dv (rw_f _ d_ z.qq zx)
 |exact dv (aN (by first|exact cq|exact bA|exact eI|exact fV|exact lq) z.qq zx (zc z.b)).1
 |exact dv (lK z.qq zx zx).1
 |exact dv (rE z.qq zx rfl)
 |exact dv (iA z.qq zx zx o_)
 |exact dv (lZ z.qq zx zx o_)
 |exact dv (jC z.qq zx zx o_).1
 |exact dv (OZ z.qq zx zx)
 |exact dv (OY z.qq zx)
 |exact dv (gg (kZ.two (by assumption)) z.qq zx ((z.b.block _ (gA (by assumption)).1).trans (by assumption)))
 |exact dv (eF z.qq zx zx (by first|omega|(simp only[cE];omega)|(simp only[ByteArray.size_append,cE];omega)))):p:=h
section
variable{b:Frame}{k:List Item}
theorem Rn.al{k':List Item}{d:Tmp}{p:Op}{v:Value}{ob:Obj}{gd:Option (Nat×Bool)}(hF:Has F N ds a)(hy:∀o:Oper,o.op=p->(execOp a.eval o).run P w= .ok (.value v) (w.alloc ob))
 (next:∀w' a',Bw w w'->w'.heap[w.heap.size]?=some ob->w'.heap.size=w.heap.size+1->Has ((d,v)::F) N ds a'->Rn P Goal (b.atR a' (.inRegion ops rest::k')) cs w') (h0:qy 6 (b.atR a k)= .inRegion ops (m::rest)::k':=by rfl)
 (h:(ops[m]?).map (λo=>(o.dst,o.op,o.guard))=some (some d,p,gd):=by rfl) (hw:gF ops F gd=true:=by rfl) (hd:d<N:=by decide) (hnd:nd p=true:=by rfl):Rn P Goal (b.atR a k) cs w:=
 Rn.vv hF hy (λa' hF=>next _ a' (PK w ob) (aP w ob) (aI w ob) hF) h0 h hw hd hnd
theorem Rn.zz{k':List Item}{d x:Tmp}{t:TypeId}{c:Array Value}(hF:Has F N ds a)
 (next:∀w' a',Bw w w'->w'.heap[w.heap.size]?=some (.cells c t)->w'.heap.size=w.heap.size+1->Has ((d, .pk w.heap.size 0)::F) N ds a'->Rn P Goal (b.atR a' (.inRegion ops rest::k')) cs w') (h0:qy 6 (b.atR a k)= .inRegion ops (m::rest)::k':=by rfl)
 (h:(ops[m]?).map (λo=>(o.dst,o.op,o.guard))=some (some d, .box t (.tmp x),none):=by rfl) (hx:F.lookup x=some (.agg c):=by rfl) (hd:d<N:=by decide):Rn P Goal (b.atR a k) cs w:=
 Rn.gr (Rn.boxes hF d x t hd hx h λa' hF=>next _ a' (PK w _) (aP w _) (aI w _) hF) h0
end
theorem bk{w w':World}{b:Nat}{o:Obj}(hb:Bw w w')(h:w.heap[b]?=some o):w'.heap[b]?=some o:=(hb.block _ (gA h).1).trans h
def DK(P:Program)(ops:Array Oper)(a:Act)(o:Oper)(w:World)(R:Value->World->Prop):Prop:=wJ P ops a o w R\/(Te o (yielded ops a.tmps)=true/\∃w',(execOp a.eval o).run P w= .ok .skip w'/\R undef w')
structure IF (df:List Deferred) (fx:List (Nat×Value)) (ds:List (Option Nat)) (G:Nat->Value->World->Prop) (N:Nat) (Rel:World->World->Prop) (w0:World) (a:Act) (w:World) (L:Nat->Prop):Prop where
 defers:a.defers=df
 size:N<=a.tmps.size
 fixed:∀p∈fx,a.tmps[p.1]?=some p.2
 old:Rel w0 w
 come:∀n x,ds[n]?=some x->L n->∃v,(∀d,x=some d->a.tmps[d]?=some v)/\G n v w
def D7(ops:Array Oper)(ds:List (Option Nat))(fx:List Nat)(N:Nat):Bool:=
 xD ops&&decide (ds.length=ops.size)&&((Q8 ds.length).all λn=>((ops[n]?).map λo=>some o.dst==ds[n]?&&tR o.op).getD false)&&((Q8 ds.length).all λn=>(Q8 ds.length).all λm=>n==m||ds[n]?==some none||ds[n]? !=ds[m]?)&&(ds.all λx=>(x.map λd=>decide (d<N)&& !fx.contains d).getD true)
section
variable{b:Frame}{k:List Item}
theorem Rn.doesX{R:Value->World->Prop}(ho:ops[n]?=some o)(hnd:∀c,o.op≠ .defer c)(h:DK P ops a o w R)(next:∀v w',R v w'->Rn P Goal (b.atR (a.put o.dst v) (.inRegion ops rest::k)) cs w'):Rn P Goal (b.atR a (.inRegion ops (n::rest)::k)) cs w:=by
 rcases h with h|⟨hw,w',h1,h2⟩
 ·exact Rn.doesG ho hnd h next
 ·exact Rn.did ho hw hnd h1 (next undef w' h2)
theorem Rn.growsX{id:Nat}{df:List Deferred}{fx:List (Nat×Value)}{ds:List (Option Nat)}{G:Nat->Value->World->Prop}{Rel:World->World->Prop}(M:P.follows .mixedOrders=true)(B:D7 ops ds (fx.map (·.1)) N=true)(F:Rel w {w with drawn:=w.drawn+1})(z:∀w w' i,Rel w w'->Rel w' i->Rel w i)(s:∀n v w w',G n v w->Rel w w'->G n v w')
 (V:∀n o a w',n<ds.length->ops[n]?=some o->Rel w w'->N<=a.tmps.size->(∀p∈fx,a.tmps[p.1]?=some p.2)->(∀m x,ds[m]?=some x->gW ops n m=true->∃v,(∀d,x=some d->a.tmps[d]?=some v)/\G m v w')->DK P ops a o w' λv i=>G n v i/\Rel w' i)
 (Q:∀a w',IF df fx ds G N Rel w a w' (λ_=>True)->Rn P Goal (b.atR a k) cs w') (Z:a.defers=df) (hN:N<=a.tmps.size) (Y:∀p∈fx,a.tmps[p.1]?=some p.2):Rn P Goal (b.atR a (.code (.region id ops true)::k)) cs w:=by
 simp only[D7,T9,decide_eq_true_eq,RE,QX,Rr]at B;obtain⟨⟨⟨⟨c1,c3⟩,c4⟩,c5⟩,c6⟩:=B;refine Rn.draw λt=> ?_;have K:QJ (P.follows .mixedOrders) ops t=Qd .any ops t:=by unfold QJ;rw[M];simp
 rw[K];refine Rn.orderly (qQ c1) (λf a w'=>IF df fx ds G N Rel w a w' λn=>f[n]?=some true)
  (λf a w' S h=> ?_) (λf a w' m o a0 a2 L hm R q O=> ?_) t a _ ⟨Z,hN,Y,F,λn x g y=> ?_⟩
 ·exact Rn.p rfl (Q a w' ⟨h.defers,h.size,h.fixed,h.old,λn x g _=>h.come n x g (S n (by have:=(Tf.1 g).1;omega))⟩)
 ·have a1:m<ops.size:=(gA L).1;have E:m<ds.length:=o_
  have hc:=c4 m E;rw[L]at hc;simp only[T8,Q2,T9,beq_iff_eq]at hc;obtain⟨T,e3⟩:=hc;refine Rn.doesX L (λc e=>by rw[e]at e3;cases e3) (V m o a w' E L q.old q.size q.fixed λn x g X=>q.come n x g (ce X L R)) λv i J=> ?_;have A:=z _ _ _ q.old J.2;have W:∀n x d,ds[n]?=some x->x=some d->n≠m->o.dst≠some d:=λn x d U r j e=>by
   have X:n<ds.length:=(Tf.1 U).1;rcases c5 n X m E with(h|h)|h
   ·exact j (by simpa using h)
   ·rw[U,r]at h;simp at h
   ·rw[U,r,←T,e]at h;simp at h
  cases l:o.dst with
  |none=>
   refine O _ _ ⟨q.defers,q.size,q.fixed,A,λn x g y=> ?_⟩;by_cases j:n=m
   ·subst j;rw[←T,l]at g;cases g;exact⟨v,λd g=>(by cases g),J.1⟩
   ·rw[sN (QF j)]at y;obtain⟨u,D,C⟩:=q.come n x g y;exact⟨u,D,s n u w' i C J.2⟩
  |some I=>
   have H:=c6 (some I) (by rw[←l];exact mG T.symm);simp only[T8,Q2,T9,decide_eq_true_eq]at H;refine O _ _ ⟨q.defers,by simpa[Rq]using q.size,λp hp=> ?_,A,λn x g y=> ?_⟩
   ·show(a.tmps.setIfInBounds I v)[p.1]?=_;rw[sN (λe=>by have h6:I∉fx.map (·.1):=(by simpa using H.2);exact h6 (by rw[e];exact S9 hp))]
    exact q.fixed p hp
   ·by_cases j:n=m
    ·subst j;rw[←T,l]at g;cases g;refine⟨v,λd g=> ?_,J.1⟩;cases g;show(a.tmps.setIfInBounds I v)[I]?=_;exact Tc (T7 H.1 q.size)
    ·rw[sN (QF j)]at y;obtain⟨u,D,C⟩:=q.come n x g y;refine⟨u,λd r=> ?_,s n u w' i C J.2⟩;show(a.tmps.setIfInBounds I v)[d]?=_;rw[sN (λe=>W n x d g r j (by rw[l,e]))];exact D d r
 ·rw[Qf]at y;split at y
  ·cases y
  ·cases y
theorem iF{R:Value->World->Prop}(b:∀y,Te o y=true)(h:(execOp a.eval o).run P w= .ok (.value v) w')(c:R v w'):DK P ops a o w R:= .inl (.inl ⟨b _,aF h c⟩)
end
section
variable{b:Frame}{k:List Item}
theorem Rn.quits{r:Loop}{c:Frame}(d:b.roundOf=some l)(e:b.kind= .normal)(f:w.heap[l]?=some (.loop r))(h:Rn P Goal (c.finish (.bool false)) cs (bX w l {r with state:= .done,pending:=some .ret})):Rn P Goal (b.atR a (.code .ret::k)) (c::cs) w:=
 Rn.exec rfl (ml (fr:=b.atR a (.code .ret::k)) (j:=some .ret) (.ret rfl) d e (lX P f (some .ret))) h
theorem xd{r:Loop}(h:w.heap[l]?=some (.loop r))(hs:r.state= .done):
 (QO l).runT P w #[]=(.ok r.pending {w with heap:=w.heap.setIfInBounds l (.loop {r with state:= .exhausted})},#[⟨.obj l,false,false⟩,⟨.obj l,true,false⟩]):=by simp[-Sem.runT_eq,QO,Instr.getLoop,getObj,setObj,bind,Sem.bind,Sem.runT,pure,Obj.isChan,h,hs]
theorem Rn.rangeQuit{r:Loop}(d:w.heap[l]?=some (.loop r))(hs:r.state= .done)(c:r.pending=some .ret)(h:Rn P Goal (b.atR a (.code .ret::k)) cs (bX w l {r with state:= .exhausted})):Rn P Goal (b.atR a (.endRangeFunc l::k)) cs w:=by
 have e:=jl (P:=P) (main:=true) (listen:=true) (cs:=cs) (fr:=b.atR a (.endRangeFunc l::k)) rfl (xd (P:=P) d hs);have f:(r.pending.map Item.code).toList++k= .code .ret::k:=by rw[c];rfl
 rw[f]at e;exact Rn.exec rfl e h
theorem xE{R:Ending->World->Prop}{t:Tmp}{ty:TypeId}(e:P.funcs[f]?=some fn)(b:fn.results=#[.cell t ty])(d:∀w:World,(isAgg ty).run P w= .ok false w)
 (h:∀cs,Rn P (λg w'=>∃(a:Act) (k:List Item) (ad:Addr) (v:Value),g=dN {(base f).atR a k with mode:= .returning} cs/\a.defers=[]/\a.tmps[t]?=some (.pointer (some ad))/\w'.cell? ad=some v/\R (.returned v) w') (Qc P f args .normal) cs w):Calls P f args w R:=λcs=>by obtain⟨n,w',m,a,k,ad,v,rfl,l,j,c,i⟩:=h cs;refine⟨.returned v,w',{(base f).atR a k with mode:= .returning},i,Sq m,rfl,rfl,l,rfl,fn,e, ?_⟩;show(results fn a.tmps).run P w'=_;simp[results,b,j,asAddr,loadVar,d,c,go_sem]
end
end
section
open Go.RowKit
theorem Ps{K:Act->World->Prop}{Q:Exit->Act->World->Prop}(f:FuncId)(args:Array Value)(c:(execOp a.eval o).run P w= .ok (.enter f args) w)(v:Value)(R:World->Prop)
 (g:Calls P f args w λe b=>e= .returned v/\R b) (h:∀b,R b->K (a.put o.dst v) b):o.wp P a w K Q:=by unfold Oper.wp;rw[c,Oper.upon_enter];refine g.mono λe b d=> ?_;obtain⟨rfl,i⟩:=d;exact h _ i
theorem Pt{o:Nat}{L:List Value}(h:w.rangeAt b o L):(No w).rangeAt b o L:=(Sy w b o L).2 h
theorem Pu{Q:Exit->Act->World->Prop}{K:Act->World->Prop}(b:ops[i]?=some o)(c:o.guard=none)(h:o.wp P a w K Q):wpOp P ops Q i K a w:=by unfold wpOp;simp only[b];rw[if_pos (by simp[Te,c])];exact .inl h
theorem Pv{p:Nat->Prop}{x y:Nat}(c:p x)(b:p y):∀i∈[x,y],p i:=by
 intro i a;rcases PZ.1 a with rfl|a
 ·exact c
 ·rw[QN]at a;subst a;exact b
theorem Pw{p:Nat->Prop}{x:Nat}(b:p x):∀i∈[x],p i:=by intro i a;rw[QN]at a;subst a;exact b
theorem l9{K:Act->World->Prop}{Q:Exit->Act->World->Prop}(v:Value)(w':World)(b:(execOp a.eval o).run P w= .ok (.value v) w')(h:K (a.put o.dst v) w'):o.wp P a w K Q:=by unfold Oper.wp;rw[b,Oper.upon_value];exact h
theorem dz{Q:Exit->Act->World->Prop}{K:Act->World->Prop}(g:ops[i]?=some o)(j:o.guard=none)(ty:TypeId)(x y:Operand)(f:o.op= .store ty x y)
 (b p:Nat) (cells:Array Value) (d:a.eval x= .pk b p) (c:a.eval y= .agg cells) (e:w.there b p cells.size) (hs:(P.info? ty).map (·.size)=some cells.size) (l:cells.all (·.oneCell')=true) (k:o.dst=none)
 (h:K a (w.setCells b p cells.toList)):wpOp P ops Q i K a w:=
 Pu g j (wp_store_mid ty x y f b p cells d c e hs l (by rw[k];exact h))
theorem Pr{c:Code}{Q:Exit->Act->World->Prop}{W:World}(b:World->Prop)(h:b W)(k:∀M,b M->Code.wp P c Q a M):Code.wp P c Q a W:=k W h
end
section
open Go.Conc Go.RowKit
structure dw where
 tree:ByteArray
 chains:ByteArray
 id:ByteArray
 root:ByteArray
 height:Int
 width:Int
 count:Nat
 shift:Int
 q:Int
 salt:ByteArray
 links:ByteArray
 path:ByteArray
def dw.cells(s:dw):Array Value:=#[.string s.tree, .string s.chains, .string s.id, .string s.root, .int .i64 s.height, .int .i64 s.width, .int .i64 s.count, .int .i64 s.shift, .int .i64 s.q, .string s.salt, .string s.links, .string s.path]
def Yl(P:Program)(ev:Operand->Value)(o:Oper)(w:World)(v:Value)(es:Array Event):Prop:=(execOp ev o).run P w= .ok (.value v) w/\(execOp ev o).events P w #[]=es
section
variable{s:dw}{y z:Operand}
theorem aH{cs:Array Value}(h:w.heap[b]?=some (.cells cs t))(k:Nat):w.cell? ⟨b,k,none⟩=cs[k]?:=by unfold Qe;simp[h]
theorem cB(P:Program)(a:o.op= .move x\/o.op= .assign x):Yl P ev o w (ev x) #[]:=by rcases a with h|h<;>constructor<;>simp[execOp,h]
theorem iW(P:Program){f:Fn}{a:Array Operand}(b:o.op= .makeFunc f #[] a):Yl P ev o w (.func f #[] (a.map ev)) #[]:=by constructor<;>simp[execOp,b,Instr.makeFunc]
def FI(P:Program)(t:TypeId):Prop:=∀w:World,(isAgg t).run P w= .ok false w/\(isAgg t).events P w #[]=#[]
theorem cq:FI Tryz.prog 3:=λw=>⟨k_,k_⟩
theorem bA:FI Tryz.prog 9:=λw=>⟨k_,k_⟩
theorem tQ:FI Tryz.prog 24:=λw=>⟨k_,k_⟩
theorem rM:FI Tryz.prog 43:=λw=>⟨k_,k_⟩
theorem aN{ad:Addr}(d:FI Tryz.prog t)(a:o.op= .load t x)(b:ev x= .pointer (some ad))(h:w.cell? ad=some v):Yl Tryz.prog ev o w v #[⟨.cell ad,false,false⟩]:=by
 obtain⟨c,e⟩:=d w;constructor
 ·simp[execOp,a,b,AT,loadVar,c,h,go_sem]
 ·simp[execOp,a,b,AT,loadVar,c,e,h,go_sem]
def m7(b:Nat):Array Event:=#[⟨.cell ⟨b,0,none⟩,false,false⟩,⟨.cell ⟨b,1,none⟩,false,false⟩,⟨.cell ⟨b,2,none⟩,false,false⟩,⟨.cell ⟨b,3,none⟩,false,false⟩,⟨.cell ⟨b,4,none⟩,false,false⟩,⟨.cell ⟨b,5,none⟩,false,false⟩,
 ⟨.cell ⟨b,6,none⟩,false,false⟩,⟨.cell ⟨b,7,none⟩,false,false⟩,⟨.cell ⟨b,8,none⟩,false,false⟩,⟨.cell ⟨b,9,none⟩,false,false⟩,⟨.cell ⟨b,10,none⟩,false,false⟩,⟨.cell ⟨b,11,none⟩,false,false⟩]
theorem AM{b:Nat}(h:e∈m7 b):∃k,e=⟨.cell ⟨b,k,none⟩,false,false⟩:=by simp only[m7,List.mem_toArray,PZ,If,or_false]at h;rcases h with rfl|rfl|rfl|rfl|rfl|rfl|rfl|rfl|rfl|rfl|rfl|rfl<;>exact⟨_,rfl⟩
theorem l6{ex:Array Value}(e:o.op= .load 119 x)(t:ev x= .pk b 0)(h:w.heap[b]?=some (.cells (s.cells++ex) 119)):Yl Tryz.prog ev o w (.agg s.cells) (m7 b):=by
 have u:(isAgg 119).run Tryz.prog w= .ok true w:=k_
 have y:(isAgg 119).events Tryz.prog w #[]=#[]:=k_
 have a:∀k,k<12->w.cell? ⟨b,k,none⟩=s.cells[k]?:=λk v=>(aH h k).trans (QT v);have r:w.cell? ⟨b,0,none⟩=some (.s s.tree):=a 0 d_;have q:w.cell? ⟨b,1,none⟩=some (.s s.chains):=a 1 d_;have p:w.cell? ⟨b,2,none⟩=some (.s s.id):=a 2 d_;have n:w.cell? ⟨b,3,none⟩=some (.s s.root):=a 3 d_;have m:w.cell? ⟨b,4,none⟩=some (.i s.height):=a 4 d_;have l:w.cell? ⟨b,5,none⟩=some (.i s.width):=a 5 d_;have j:w.cell? ⟨b,6,none⟩=some (.i s.count):=a 6 d_;have i:w.cell? ⟨b,7,none⟩=some (.i s.shift):=a 7 d_;have g:w.cell? ⟨b,8,none⟩=some (.i s.q):=a 8 d_;have f:w.cell? ⟨b,9,none⟩=some (.s s.salt):=a 9 d_;have d:w.cell? ⟨b,10,none⟩=some (.s s.links):=a 10 d_;have c:w.cell? ⟨b,11,none⟩=some (.s s.path):=a 11 d_;constructor
 ·simp[execOp,e,t,AT,loadVar,u,loadCells,loadCellsFrom,QM,r,q,p,n,m,l,j,i,g,f,d,c,dw.cells,go_sem]
 ·simp[execOp,e,t,AT,loadVar,u,y,loadCells,loadCellsFrom,QM,r,q,p,n,m,l,j,i,g,f,d,c,m7,go_sem]
theorem sY(a:o.op= .fieldAddr 119 x 0)(c:ev x= .pk b k):Yl Tryz.prog ev o w (.pk b k) #[]:=by
 have e:execOp ev o=(do pure (.value (←BY 119 (.pk b k) 0))):=by simp only[execOp,a,c]
 unfold Yl;rw[e];constructor<;>kernel_rfl
theorem xT(a:o.op= .fieldAddr 115 x 6)(c:ev x= .pk b 0):Yl Tryz.prog ev o w (.pk b 6) #[]:=by
 have e:execOp ev o=(do pure (.value (←BY 115 (.pk b 0) 6))):=by simp only[execOp,a,c]
 unfold Yl;rw[e];constructor<;>kernel_rfl
theorem FJ(a:o.op= .fieldAddr 119 x 3)(c:ev x= .pk b 0):Yl Tryz.prog ev o w (.pk b 10) #[]:=by
 have e:execOp ev o=(do pure (.value (←BY 119 (.pk b 0) 3))):=by simp only[execOp,a,c]
 unfold Yl;rw[e];constructor<;>kernel_rfl
theorem lK{m n:Int}(a:o.op= .binOp .lss 3 x y u)(c:ev x= .i m)(b:ev y= .i n):Yl Tryz.prog ev o w (.bool (decide (m<n))) #[]:=by constructor<;>simp[execOp,a,c,b,go_sem]
theorem oH{m n:Int}(a:o.op= .binOp .add 3 x y u)(c:ev x= .i m)(b:ev y= .i n)(h: -9223372036854775808<=m+n/\m+n<9223372036854775808):Yl Tryz.prog ev o w (.i (m+n)) #[]:=by
 have e:Q4.wrap (m+n)=m+n:=by rw[Q3];omega
 constructor<;>simp[execOp,a,c,b,go_sem,e]
theorem jC{m n:Int}(a:o.op= .binOp .mul 3 x y u)(c:ev x= .i m)(b:ev y= .i n)(h: -9223372036854775808<=m*n/\m*n<9223372036854775808):Yl Tryz.prog ev o w (.i (m*n)) #[]:=by
 have e:Q4.wrap (m*n)=m*n:=by rw[Q3];omega
 constructor<;>simp[execOp,a,c,b,go_sem,e]
theorem sX(a:o.op= .unOp .not t x)(b:ev x= .bool q):Yl Tryz.prog ev o w (.bool (!q)) #[]:=by constructor<;>simp[execOp,a,b,go_sem,Op.unary]
theorem dR{t:ByteArray}(a:o.op= .slice 9 x (some y) (some z) none)(d:ev x= .s t)(c:ev y= .i m)(b:ev z= .i n)(h:m<=n)(f:n<=t.size):Yl Tryz.prog ev o w (.s (t.extract m n)) #[]:=by
 have e:Tryz.prog.underlying 9=some .string:=k_
 constructor
 ·simp[execOp,a,d,c,b,QG,R0,Qq,run_underlying e,Qx,asIntOf,h,f]
 ·simp[execOp,a,d,c,b,QG,R0,Qq,run_underlying e,Qx,asIntOf,h,f,go_sem]
theorem dx{e:TypeId}{a:Addr}{len cap:Nat}(f:Tryz.prog.underlying t=some (.slice e))(h:∀w:World,(sizeOf e).run Tryz.prog w= .ok 1 w)(b:o.op= .indexAddr t x y)(d:ev x= .slice (some a) len cap)(c:ev y= .i n)(g:n<len):
 Yl Tryz.prog ev o w (.pointer (some (a.add n))) #[]:=by have i:=h w;constructor<;>simp[execOp,b,d,c,go_sem,f,i,g]
def Mk(P:Program)(ev:Operand->Value)(o:Oper)(w:World)(cs:Array Value)(t:TypeId):Prop:=(execOp ev o).run P w= .ok (.value (.pk w.heap.size 0)) (w.alloc (.cells cs t))/\(execOp ev o).events P w #[]=#[]
theorem me(P:Program)(a:o.op= .box t x):Mk P ev o w (ev x).cells t:=by constructor<;>simp[execOp,a,Instr.box,newVar,newRow,go_sem]
theorem jk(a:o.op= .alloc 3):Mk Tryz.prog ev o w #[.i 0] 3:=by
 have e:execOp ev o=(do pure (.value (←Qz 3 true (.tuple #[])))):=by simp only[execOp,a]
 unfold Mk;rw[e];constructor<;>kernel_rfl
theorem lu(a:o.op= .alloc 43):Mk Tryz.prog ev o w #[.slice none 0 0] 43:=by
 have e:execOp ev o=(do pure (.value (←Qz 43 true (.tuple #[])))):=by simp only[execOp,a]
 unfold Mk;rw[e];constructor<;>kernel_rfl
theorem dH{b:Nat}{v0:Value}(hv:v.cells=#[v])(a:v.oneCell'=true)(d:(sizeOf t).run Tryz.prog w= .ok 1 w)(c:o.op= .store t x y)(i:ev x= .pk b k)(g:ev y=v)(h:w.cell? ⟨b,k,none⟩=some v0)(f:w.frozen? ⟨b,k,none⟩=false):
 (execOp ev o).run Tryz.prog w= .ok .skip (w.setCell ⟨b,k,none⟩ v)/\(execOp ev o).events Tryz.prog w #[]=#[⟨.cell ⟨b,k,none⟩,true,false⟩]:=by
 have e:execOp ev o=(do Rc t (.pk b k) v;pure .skip):=by simp only[execOp,c,i,g]
 rw[e];simp only[Rc,storeVar,hv];constructor
 ·simp[d,storeCells,QM,run_store _ _ _ _ _ a,h,f,go_sem]
 ·simp[d,storeCells,QM,events_store (hv:=a),h,f,go_sem]
end
end
section
open Go
def ft(d:Option Tmp)(p:Op):Oper:={dst:=d,op:=p,type:=0,pos:= "",after:=#[],guard:=none}
def jg(x:Nat):Op:= .call {callee:= .builtin .len,args:=#[.tmp x],argTypes:=#[9]}
def gG(x:Nat)(n:Int):Op:= .binOp .lss 3 (.tmp x) (.const (.int .i64 n)) 3
def skA:Array Oper:=#[ft (some 6) (.field 119 (.tmp 0) 4),ft (some 2) (.box 119 (.tmp 0)),ft (some 3) (.load 119 (.tmp 2)),ft (some 5) (.field 119 (.tmp 3) 0),
 ft (some 6) (.field 115 (.tmp 5) 0),ft (some 7) (jg 6),ft (some 6) (.field 115 (.tmp 5) 1),ft (some 7) (jg 6),ft (some 8) (.field 115 (.tmp 5) 2),ft (some 9) (jg 8),ft (some 6) (.field 115 (.tmp 5) 3),ft (some 7) (jg 6),
 ft (some 6) (.field 115 (.tmp 5) 4),ft (some 7) (gG 6 0),ft (some 11) (.field 115 (.tmp 5) 5),ft (some 16) (gG 11 0),ft (some 10) (.field 115 (.tmp 5) 6),ft (some 15) (gG 10 65537),ft (some 6) (.field 115 (.tmp 5) 7),ft (some 7) (gG 6 0),
 ft (some 12) (.field 119 (.tmp 3) 1),ft (some 18) (gG 12 0),ft (some 6) (.field 119 (.tmp 3) 2),ft (some 7) (jg 6),ft (some 13) (.field 119 (.tmp 3) 3),ft (some 7) (jg 13),ft (some 6) (.field 119 (.tmp 3) 4),ft (some 7) (jg 6),
 ft (some 14) (gG 10 1),ft (some 17) (gG 11 9),ft (some 19) (gG 12 4294967296),ft (some 20) (gG 9 65536)]
def OT:Array Oper:=#[ft (some 21) (.binOp .mul 3 (.tmp 10) (.const (.int .i64 32)) 3),ft (some 22) (.slice 9 (.tmp 13) none (some (.tmp 21)) none),ft (some 23) (.makeSlice 43 (.tmp 10) (.tmp 10)),ft (some 24) (.move (.const (.int .i64 0)))]
def skC:Array Oper:=#[ft (some 25) (.binOp .lss 3 (.tmp 24) (.tmp 10) 3)]
def skD:Array Oper:=#[ft (some 26) (.indexAddr 24 (.tmp 1) (.tmp 24)),ft (some 27) (.load 3 (.tmp 26)),ft (some 28) (gG 27 0),ft (some 29) (gG 27 256)]
def skE:Array Oper:=#[ft (some 30) (.binOp .mul 3 (.tmp 24) (.const (.int .i64 32)) 3),ft (some 31) (.binOp .add 3 (.tmp 24) (.const (.int .i64 1)) 3),ft (some 32) (.binOp .mul 3 (.tmp 31) (.const (.int .i64 32)) 3),
 ft (some 33) (.slice 9 (.tmp 13) (some (.tmp 30)) (some (.tmp 32)) none),ft (some 34) (.call {callee:= .value (.func 120),args:=#[.tmp 3, .tmp 24, .tmp 27, .tmp 33],argTypes:=#[119,3,3,9]}),
 ft (some 35) (.indexAddr 43 (.tmp 23) (.tmp 24)),ft none (.store 9 (.tmp 35) (.tmp 34)),ft (some 24) (.move (.tmp 31))]
def OS:Array Oper:=#[ft (some 4) (.move (.tmp 23))]
def oR:Code:= .seq (.seq (.region 2 skC false) (.cond (.tmp 25) .skip (.exit 0))) (.seq (.region 3 skD false) (.seq (.cond (.tmp 28) (.refuse "") .skip) (.seq (.cond (.tmp 29) .skip (.refuse "")) (.region 4 skE false))))
def mS:Code:= .seq (.region 0 skA false) (.seq (.cond (.tmp 14) (.refuse "") .skip) (.seq (.cond (.tmp 15) .skip (.refuse "")) (.seq (.cond (.tmp 16) (.refuse "") .skip) (.seq (.cond (.tmp 17) .skip (.refuse "")) (.seq (.cond (.tmp 18) (.refuse "") .skip) (.seq (.cond (.tmp 19) .skip (.refuse "")) (.seq (.cond (.tmp 20) .skip (.refuse ""))
 (.seq (.region 1 OT false) (.seq (.block 0 (.loop oR)) (.seq (.region 5 OS false) .ret))))))))))
def tx:Func:={name:= "left",origin:= "",params:=#[119,24],resultTypes:=#[43],nfree:=0,ntmps:=36,results:=#[.tmp 4],body:=some mS,norace:=false,file:= "",endLine:=0,tmpNames:=#[]}
def uc(i:FuncId):Bool:=i==167||i==168
def aJ(q:Bool)(P:Program):Program:=gi P (if q then 94 else 91) (if q then tx else(P.funcs[91]?).getD tx) uc
theorem oa(f:Nat):(aJ q P).funcs[f]?=(P.funcs[f]?).map (rT (if q then 94 else 91) (if q then tx else(P.funcs[91]?).getD tx) uc f):=tV f
theorem IP:(Tryz.prog.types.all λi=>(i.zero.map bD).getD true)=true:=k_
theorem GG:(Tryz.prog.funcs.all λf=>f.name != "runtime.NumGoroutine")=true:=k_
theorem LQ(i:FuncId)(fn:Func)(c:uc i=true)(b:Tryz.prog.funcs[i]?=some fn):fn.body=none/\Extern.findNext fn=none/\∃e,Extern.find fn=some e/\∀(a:Nat->Nat) (PL PM:Program),bH PL PM->∀args,aG a PL PM (PI a) (e args) (e (args.map (PI a))):=by
 have f:i=167\/i=168:=by simpa[uc]using c
 rcases f with rfl|rfl
 ·rw[Tryz.func167]at b;cases b;exact⟨rfl,k_,Sf,k_,λa PL PM _ args=>A2 args⟩
 ·rw[Tryz.func168]at b;cases b;exact⟨rfl,k_,Rh Tryz.f168.params Tryz.f168.resultTypes,k_,λa PL PM d args=>vd d _ _ args⟩
theorem Da{K:FuncId}{a:Func}{c:Code}(j:Tryz.prog.funcs[K]?=some fn)(n:fn.body.isSome=true)(d:a.results=fn.results)(m:a.body=some c)(e:ji 0 c=true)(g:a.name≠ "runtime.NumGoroutine")(o:dX K=0):uB Tryz.prog K a uc 2 where
 zero:=λi k z b=>by have:=Qm.1 IP i k;rw[b]at this;simpa using this
 glob:=k_
 tab:=d_
 names:=λf l=>by simpa using Qm.1 GG f l
 ty:=⟨.int .u32,k_,s_,s_⟩
 ex:=of_decide_eq_true k_
 lw:=of_decide_eq_true k_
 lwr:=λfn h=>by rw[show BN=4 from rfl,Tryz.func4]at h;cases h;kernel_rfl
 exr:=λfn h=>by rw[show jU=131 from rfl,Tryz.func131]at h;cases h;kernel_rfl
 kex:=o
 kfn:=⟨fn,j,n,d⟩
 kbody:=⟨c,m,e⟩
 kname:=g
 ext:=LQ
theorem Db:uB Tryz.prog 94 tx uc 2:=Da Tryz.func94 rfl rfl (c:=mS) rfl k_ d_ d_
theorem Dc:∃c,uB Tryz.prog 91 Tryz.f91 uc 2/\Tryz.f91.body=some c:=
 ⟨_,Da Tryz.func91 rfl rfl (c:=(Tryz.f91.body).getD .skip) rfl k_ d_ d_,rfl⟩
theorem JM:aJ true Tryz.prog=gi Tryz.prog 94 tx uc:=rfl
theorem JN:aJ false Tryz.prog=gi Tryz.prog 91 Tryz.f91 uc:=by unfold aJ;simp only[Q7,↓reduceIte,Tryz.func91,Q2]
theorem sG:ko (aJ true Tryz.prog) Tryz.prog 2:=by rw[JM];exact zC Db
theorem P8:ko (aJ false Tryz.prog) Tryz.prog 2:=by rw[JN];obtain⟨c,h,_⟩:=Dc;exact zC h
theorem oj:ko (aJ true Tryz.prog) (aJ true Tryz.prog) 2:=by rw[JM];exact zB Db
theorem NM:ko (aJ false Tryz.prog) (aJ false Tryz.prog) 2:=by rw[JN];obtain⟨c,h,_⟩:=Dc;exact zB h
theorem aO{c:Code}(a:Tryz.prog.funcs[f]?=some fn)(h:f≠94)(b:uc f=false)(e:fn.body=some c)(d:rN f c=true):(aJ q Tryz.prog).funcs[f]?=some fn:=by
 rw[oa,a];cases q with
 |true=>
  simp only[T8,rT,↓reduceIte,if_neg h,b,Q7,e,d]
 |false=>
  by_cases g:f=91
  ·subst g;rw[Tryz.func91]at a;cases a;simp only[T8,rT,Q7,↓reduceIte,Tryz.func91,Q2]
  ·simp only[T8,rT,Q7,↓reduceIte,if_neg g,b,e,d]
theorem rU:(aJ true Tryz.prog).funcs[94]?=some tx:=by rw[oa,Tryz.func94];simp[rT]
abbrev lT(P:Program:=Tryz.prog):Program:=aJ true P
abbrev tP(P:Program:=Tryz.prog):Program:=P
abbrev eX(e:Operand->Value)(o:Oper)(w:World)(v:Value):Prop:=(execOp e o).run lT w= .ok (.value v) w
@[simp] theorem GV(t:TypeId):(aJ q P).info? t=P.info? t:=fo P _ t
@[simp] theorem cc(t:TypeId):(aJ q P).underlying t=P.underlying t:=dc P _ t
@[simp] theorem pZ(t:TypeId):(typeInfo t).run (aJ q P) w=(typeInfo t).run P w:=by simp only[typeInfo,QC,run_program,R9,GV];cases P.info? t<;>simp
@[simp] theorem LI(t:TypeId):(sizeOf t).run (aJ q P) w=(sizeOf t).run P w:=by simp only[sizeOf,QC,pZ];cases (typeInfo t).run P w<;>simp
@[simp] theorem xq(t:TypeId):(underlying t).run (aJ q P) w=(underlying t).run P w:=by simp only[underlying,QC,run_program,R9,cc];cases P.underlying t<;>simp
@[simp] theorem Np(t:TypeId):(isAgg t).run (aJ q P) w=(isAgg t).run P w:=by
 simp only[isAgg,QC,xq];cases (underlying t).run P w with
 |ok d a=>cases d<;>simp
 |halt x a=>simp
@[simp] theorem O6(t:TypeId):(zeroValue t).run (aJ q P) w=(zeroValue t).run P w:=by
 simp only[zeroValue,QC,pZ];cases (typeInfo t).run P w with
 |ok i a=>simp only[R9];cases i.zero<;>simp
 |halt x a=>simp
theorem dp(c:P.funcs[f]?=some fn)(b:(fn.name== "runtime.NumGoroutine")=false)(a:fn.body.isNone=false)(args:Array Value)(w:World):(callFunc f args).run P w= .ok (.enter f args) w:=by
 have g:¬fn.name= "runtime.NumGoroutine" :=by simpa using b
 have d:¬fn.body=none:=λe=>by rw[e]at a;simp at a
 simp[callFunc,c,g,d]
@[simp] theorem Lf.func111:(aJ q tP).funcs[111]?=some Tryz.f111:=aO Tryz.func111 d_ rfl rfl k_
@[simp] theorem Lf.call111(args:Array Value)(w:World):(callFunc 111 args).run (aJ q tP) w= .ok (.enter 111 args) w:=dp Lf.func111 k_ rfl args w
@[simp] theorem Lf.func112:(aJ q tP).funcs[112]?=some Tryz.f112:=aO Tryz.func112 d_ rfl rfl k_
@[simp] theorem Lf.call112(args:Array Value)(w:World):(callFunc 112 args).run (aJ q tP) w= .ok (.enter 112 args) w:=dp Lf.func112 k_ rfl args w
@[simp] theorem Lf.func110:(aJ q tP).funcs[110]?=some Tryz.f110:=aO Tryz.func110 d_ rfl rfl k_
@[simp] theorem Lf.call110(args:Array Value)(w:World):(callFunc 110 args).run (aJ q tP) w= .ok (.enter 110 args) w:=dp Lf.func110 k_ rfl args w
@[simp] theorem Lf.func91:(aJ q tP).funcs[91]?=some Tryz.f91:=aO Tryz.func91 d_ rfl rfl k_
@[simp] theorem Lf.func131:(aJ q tP).funcs[131]?=some Tryz.f131:=aO Tryz.func131 d_ rfl rfl k_
@[simp] theorem Lf.call131(args:Array Value)(w:World):(callFunc 131 args).run (aJ q tP) w= .ok (.enter 131 args) w:=dp Lf.func131 k_ rfl args w
@[simp] theorem Lf.func162:(aJ q tP).funcs[162]?=some Tryz.f162:=aO Tryz.func162 d_ rfl rfl k_
@[simp] theorem Lf.call162(args:Array Value)(w:World):(callFunc 162 args).run (aJ q tP) w= .ok (.enter 162 args) w:=dp Lf.func162 k_ rfl args w
@[simp] theorem Lf.func183:(aJ q tP).funcs[183]?=some Tryz.f183:=aO Tryz.func183 d_ rfl rfl k_
@[simp] theorem Lf.call183(args:Array Value)(w:World):(callFunc 183 args).run (aJ q tP) w= .ok (.enter 183 args) w:=dp Lf.func183 k_ rfl args w
@[simp] theorem Lf.func163:(aJ q tP).funcs[163]?=some Tryz.f163:=aO Tryz.func163 d_ rfl rfl k_
@[simp] theorem Lf.call163(args:Array Value)(w:World):(callFunc 163 args).run (aJ q tP) w= .ok (.enter 163 args) w:=dp Lf.func163 k_ rfl args w
@[simp] theorem Lf.func88:(aJ q tP).funcs[88]?=some Tryz.f88:=aO Tryz.func88 d_ rfl rfl k_
@[simp] theorem Lf.call88(args:Array Value)(w:World):(callFunc 88 args).run (aJ q tP) w= .ok (.enter 88 args) w:=dp Lf.func88 k_ rfl args w
@[simp] theorem Lf.func132:(aJ q tP).funcs[132]?=some Tryz.f132:=aO Tryz.func132 d_ rfl rfl k_
@[simp] theorem Lf.call132(args:Array Value)(w:World):(callFunc 132 args).run (aJ q tP) w= .ok (.enter 132 args) w:=dp Lf.func132 k_ rfl args w
@[simp] theorem Lf.func106:(aJ q tP).funcs[106]?=some Tryz.f106:=aO Tryz.func106 d_ rfl rfl k_
@[simp] theorem Lf.call106(args:Array Value)(w:World):(callFunc 106 args).run (aJ q tP) w= .ok (.enter 106 args) w:=dp Lf.func106 k_ rfl args w
@[simp] theorem Lf.func184:(aJ q tP).funcs[184]?=some Tryz.f184:=aO Tryz.func184 d_ rfl rfl k_
@[simp] theorem Lf.call184(args:Array Value)(w:World):(callFunc 184 args).run (aJ q tP) w= .ok (.enter 184 args) w:=dp Lf.func184 k_ rfl args w
@[simp] theorem Lf.func89:(aJ q tP).funcs[89]?=some Tryz.f89:=aO Tryz.func89 d_ rfl rfl k_
@[simp] theorem Lf.func92:(aJ q tP).funcs[92]?=some Tryz.f92:=aO Tryz.func92 d_ rfl rfl k_
@[simp] theorem Lf.func151:(aJ q tP).funcs[151]?=some Tryz.f151:=aO Tryz.func151 d_ rfl rfl k_
@[simp] theorem Lf.func150:(aJ q tP).funcs[150]?=some Tryz.f150:=aO Tryz.func150 d_ rfl rfl k_
@[simp] theorem Lf.func173:(aJ q tP).funcs[173]?=some Tryz.f173:=aO Tryz.func173 d_ rfl rfl k_
@[simp] theorem Lf.func108:(aJ q tP).funcs[108]?=some Tryz.f108:=aO Tryz.func108 d_ rfl rfl k_
@[simp] theorem Lf.func120:(aJ q tP).funcs[120]?=some Tryz.f120:=aO Tryz.func120 d_ rfl rfl k_
theorem Lf.underlying214:type_of%((cc (q:=q) (P:=tP) 214).trans Tryz.underlying214):=(cc 214).trans Tryz.underlying214
theorem Lf.underlying164:type_of%((cc (q:=q) (P:=tP) 164).trans Tryz.underlying164):=(cc 164).trans Tryz.underlying164
theorem Lf.underlying163:type_of%((cc (q:=q) (P:=tP) 163).trans Tryz.underlying163):=(cc 163).trans Tryz.underlying163
theorem Lf.underlying83:type_of%((cc (q:=q) (P:=tP) 83).trans Tryz.underlying83):=(cc 83).trans Tryz.underlying83
theorem Lf.underlying166:type_of%((cc (q:=q) (P:=tP) 166).trans Tryz.underlying166):=(cc 166).trans Tryz.underlying166
theorem Lf.underlying9:type_of%((cc (q:=q) (P:=tP) 9).trans Tryz.underlying9):=(cc 9).trans Tryz.underlying9
theorem Lf.underlying5:type_of%((cc (q:=q) (P:=tP) 5).trans Tryz.underlying5):=(cc 5).trans Tryz.underlying5
end
section
open Go.RowKit
theorem E3(s:ByteArray)(k:Nat)(h:k<s.size):s.data.toList.take (k+1)=s.data.toList.take k++[s[k]]:=by rw[R3 (by simpa using h)];rfl
theorem yt(B:List UInt8):aM (cO B 0)=OF 64 (.int .u32 0):=by simp[cO,bZ,aM]
theorem Iw(w:World)(B:List UInt8)(c:Array Value)(d:c.size=64):((w.alloc (.cells (aV B).toArray 164)).alloc (.cells c 214)).heap.size=w.heap.size+1+1/\
 ((w.alloc (.cells (aV B).toArray 164)).alloc (.cells c 214)).rangeAt w.heap.size 0 (aV B)/\
 ((w.alloc (.cells (aV B).toArray 164)).alloc (.cells c 214)).there (w.heap.size+1) 0 64/\
 Bw w ((w.alloc (.cells (aV B).toArray 164)).alloc (.cells c 214)):=by
 refine⟨s_,Qr (λj v a=> ?_) _,λj b=>⟨?_, ?_⟩,((Below.refl _ _).alloc (T6 _) _).alloc s_ _⟩
 ·rw[QE _ _ _ _ rfl];simpa using a
 ·rw[QE _ _ _ _ s_];simp[d,b]
 ·rw[RU _ _ _ _ s_]
theorem rf{M a:World}{L:List Value}(d:M=(a.alloc (.cells L.toArray 214)).drewN n)(c:a.heap.size=b)(h:L[j]?=some v):M.cell? ⟨b,j,none⟩=some v:=by subst d;simp only[Sj];rw[QE _ _ _ _ c.symm];simpa using h
theorem Iz{M a:World}{L:List Value}(d:M=(a.alloc (.cells L.toArray 214)).drewN n)(c:a.heap.size=b)(j:Nat):M.frozen? ⟨b,j,none⟩=false:=by subst d;simp only[World.frozen?_drewN];rw[RU _ _ _ _ c.symm]
theorem Oq{M c:World}{L:List Value}(e:M=(c.alloc (.cells L.toArray 214)).drewN n)(d:c.heap.size=b)(a j:Nat)(v:Value):(M.drewN a).setCell ⟨b,j,none⟩ v=(c.alloc (.cells (L.set j v).toArray 214)).drewN (n+a):=by subst e;rw[World.drewN_drewN];show((c.alloc (.cells L.toArray 214)).setCell ⟨b,j,none⟩ v).drewN (n+a)=_;rw[World.setCell_alloc_at _ _ _ _ _ d.symm];simp
def ld(ty:TypeId)(b o:Nat):Sem Value:=AT ty (.pk b o)
def st(ty:TypeId)(b o:Nat)(v:Value):Sem Unit:=Rc ty (.pk b o) v
theorem Pz{Q:Exit->Act->World->Prop}{K:Act->World->Prop}(j:ops[i]?=some o)(k:o.guard=none)(ty:TypeId)(x y:Operand)(g:o.op= .store ty x y)
 (b p:Nat) (cells:Array Value) (d:a.eval x= .pk b p) (c:a.eval y= .agg cells) (e:w.there b p cells.size) (f:(P.info? ty).map (·.size)=some cells.size) (m:cells.all (·.oneCell')=true) (l:o.dst=none)
 (h:K a (w.setCells b p cells.toList)):wpOp P ops Q i K a w:=
 cr j k (wp_store_mid ty x y g b p cells d c e f m (by rw[l];exact h))
def oM:Value->Nat
 | .string t=>t.size
 |_=>0
theorem qw(rest:List UInt8)(n:Nat):(ByteArray.mk rest.toArray).extract n rest.length=⟨(rest.drop n).toArray⟩:=by apply ByteArray.ext;simp;exact QQ s_
def jV(H:List Int)(blk:List UInt8)(n:Nat):List Value:=aM H++(aV blk++[.int .u64 (n:Int)])
def ls:List Value:=jV H0 (OF 64 0) 0
theorem fK:ls.length=73:=by simp[ls,jV,aZ,cj,H0]
theorem zG(H:List Int)(b:List UInt8)(n:Nat):∀v∈jV H b n,v.oneCell'=true:=by
 intro v a;simp only[jV,List.mem_append,QN]at a;rcases a with a|a|rfl
 ·exact iH _ v a
 ·exact ul _ v a
 ·rfl
end
end Go.Proofs.YtkmoglhgkcnalaaGreatDoor
namespace Go.Proofs
open Go.Shelf
def Tryz.laysM316_ren : SU := ⟨fun | 316 => 123 | n => n, fun | 9 => 9 | 3 => 3 | 4 => 4 | 37 => 83 | 0 => 0 | 127 => 195 | 5 => 5 | n => n, fun | n => n⟩
def Tryz.lays105_ren : SU := ⟨fun | 105 => 133 | 212 => 164 | 99 => 165 | 165 => 113 | 166 => 114 | 170 => 166 | 169 => 115 | 263 => 185 | 264 => 186 | 206 => 187 | 240 => 134 | 241 => 135 | 276 => 167 | 277 => 168 | n => n, fun | 9 => 9 | 3 => 3 | 4 => 4 | 20 => 20 | 0 => 0 | 46 => 112 | 109 => 217 | 5 => 5 | 72 => 171 | 76 => 175 | 51 => 162 | 146 => 236 | 53 => 132 | 148 => 238 | 70 => 169 | 37 => 83 | 75 => 174 | 127 => 195 | 164 => 198 | 80 => 33 | n => n, fun | n => n⟩
end Go.Proofs
namespace Go.Proofs.YtkmoglhgkcnalaaGreatDoor
open Go
variable{n b i N l m k j b3 b4 b7 b9 Wg wd:Nat}{w w' w0 wL wM wE:World}{fr:Frame}{v:Value}{cs:List Frame}{args cv:Array Value}{V RO D V0:Nat->Prop}{q main listen ql:Bool}{g:Goroutine}{a:Act}{K:List Item}{P PL PM:Program}{x:Operand}{ops:Array Oper}{KS:List Int}{t u:TypeId}{o:Oper}{f:FuncId}{es:Array Event}{Goal:Goroutine->World->Prop}{fn:Func}{rest:List Nat}{ds:List Deferred}{X:aW}{F:List (Nat×Value)}{e:Event}{listed:Array Bool}{c:Int}{s msg key sig:ByteArray}{ρ:Nat->Nat}{ev:Operand->Value}{Post:Value->World->Prop}
section
open Go.RowKit
def ii(L:List UInt8):List UInt8:=[128]++SO [0] ((119- L.length%64)%64)++da (8*L.length) 8
def oW(H:List Int)(i:Nat):UInt8:=UInt8.ofNat (H.getD (i/4) 0/2^(24- 8*(i%4))).toNat
def dU(KS:List Int)(L:List UInt8):List UInt8:=(Q8 32).map (oW (cx KS (L++ii L) ((L++ii L).length/64)))
def sD(H:List Int)(k:Nat):List Value:=aV ((Q8 k).map (oW H))++OF (32- k) (.int .u8 0)
theorem rL(H:List Int)(k:Nat)(h:k<=32):(sD H k).length=32:=by simp[sD,aV];omega
theorem yO(H:List Int)(k:Nat)(h:k<32):(sD H k)[k]?=some (.int .u8 0):=by rw[sD,PY (by simp[aV]),List.getElem?_replicate,if_pos (by simp[aV];omega)]
theorem yN(H:List Int)(k:Nat)(h:k<32)(v:Int)(hv:v=((oW H k).toNat:Int)):(sD H k).set k (.int .u8 v)=sD H (k+1):=by subst hv;rw[sD,sD,show 32- k=(32-(k+1))+1 from o_,List.replicate_succ,List.range_succ,QW,aV,aV,QW,List.set_append_right _ _ s_];simp
theorem yP(H:List Int):sD H 32=aV ((Q8 32).map (oW H)):=by simp[sD]
theorem oy(KS:List Int)(L:List UInt8)(n i:Nat):0<=(cx KS L n).getD i 0:=by
 cases n with
 |zero=>
  by_cases h:i<8
  ·have:i=0\/i=1\/i=2\/i=3\/i=4\/i=5\/i=6\/i=7:=o_;rcases this with rfl|rfl|rfl|rfl|rfl|rfl|rfl|rfl<;>(rw[cx];decide)
  ·rw[Cd,Rb (by rw[cW];omega)];exact T2 _
 |succ n=>
  rw[cx,mg,eK];by_cases h:i<8
  ·rw[Cd,R2,List.getElem?_range h];simp only[T8,Q2,h,if_true];exact wrap_u32_nonneg _
  ·rw[Cd,Rb (by simp;omega)];exact T2 _
theorem yM(H:List Int)(k:Nat)(x:Int)(a:H.getD (k/4) 0=x)(b:0<=x):x/2^(24- 8*(k%4))%256=((oW H k).toNat:Int):=by
 rw[oW,a];obtain⟨m,rfl⟩:=Qu b;have e:((m:Int)/2^(24- 8*(k%4)))=((m/2^(24- 8*(k%4)):Nat):Int):=by rw[Int.natCast_ediv,Int.natCast_pow];rfl
 rw[e,Rv];simp
theorem ff.made(w:World)(KS:List Int)(L a:List UInt8)(n:Nat)(T:TypeId)(d:a.length=64)(f:a.take (L.length%64)=L.drop (64*(L.length/64))):
 ff (w.alloc (.cells (jV (cx KS L (L.length/64)) a n).toArray T)) w.heap.size KS L a n:=by
 have e:=dm w (jV (cx KS L (L.length/64)) a n) T w.heap.size rfl;have c:=cW KS L (L.length/64);refine⟨d,λj v b=>e j v ?_,λj v b=> ?_, ?_,f,cX _ _ _ _ _ rfl (by simp[jV,aZ,cj,c,d])⟩
 ·rw[jV,Q9 (Tf.1 b).1];exact b
 ·have g:=(Tf.1 b).1
  have:=e (8+j) v (by rw[jV,PY (by rw[aZ,c];omega),aZ,c,show 8+j- 8=j from o_,Q9 g];exact b)
  rwa [IS]at this
 ·have:=e 72 (.int .u64 (n:Int)) (by rw[jV,PY (by rw[aZ,c];omega),aZ,c,PY (by rw[cj,d];omega),cj,d];rfl)
  rwa [IS]at this
theorem ff.below{L a:List UInt8}(h:ff w b KS L a n)(c:Below N w w')(d:b<N):ff w' b KS L a n:=
 ⟨h.len,bC c d h.words,bC c d h.block,by rw[c.cell (p:=⟨b,72,none⟩) d];exact h.length,h.tail,eO c d h.there⟩
theorem nD{c a:World}(h:Bw w c)(g:c.grownBy a (some b))(f:w.heap.size<=b):Bw w a:=
 h.trans ⟨g.os,g.tape,g.output,g.size,λk d=>g.block k (by have:=h.size;omega) (by intro e;injection e;omega)⟩
theorem ff.whole{L c:List UInt8}(h:ff w b KS L c n):w.rangeAt b 0 (jV (cx KS L (L.length/64)) c n):=λj v a=>by
 have e:=cW KS L (L.length/64);rw[jV]at a;by_cases f:j<8
 ·rw[Q9 (by rw[aZ,e];exact f)]at a;exact h.words j v a
 ·rw[PY (by rw[aZ,e];omega),aZ,e]at a;by_cases i:j<72
  ·rw[Q9 (by rw[cj,h.len];omega)]at a;have:=h.block (j- 8) v a;rwa [show 8+(j- 8)=0+j from o_]at this
  ·rw[PY (by rw[cj,h.len];omega),cj,h.len]at a;have g:j- 8- 64<1:=(by have:=(Tf.1 a).1;simpa using this);have d:j=72:=o_;subst d;simp at a;rw[←a];exact h.length
theorem zH(KS:List Int)(L a:List UInt8)(n m:Nat)(b:a.length=64):(jV (cx KS L m) a n).length=73:=by simp[jV,aZ,cj,cW,b]
theorem ff.of_range{L a:List UInt8}(f:w.rangeAt b 0 (jV (cx KS L (L.length/64)) a n))(e:w.there b 0 73)(g:a.length=64)(h:a.take (L.length%64)=L.drop (64*(L.length/64))):ff w b KS L a n:=by
 have d:=cW KS L (L.length/64);refine⟨g,λj v c=>f j v ?_,λj v c=> ?_, ?_,h,e⟩
 ·rw[jV,Q9 (Tf.1 c).1];exact c
 ·have i:=(Tf.1 c).1
  have:=f (8+j) v (by rw[jV,PY (by rw[aZ,d];omega),aZ,d,show 8+j- 8=j from o_,Q9 i];exact c)
  rwa [IS]at this
 ·have:=f 72 (.int .u64 (n:Int)) (by rw[jV,PY (by rw[aZ,d];omega),aZ,d,PY (by rw[cj,g];omega),cj,g];rfl)
  rwa [IS]at this
theorem ff.new(w:World)(KS:List Int)(c:Array Value)(T:TypeId)(b:c.size=73):ff ((w.alloc (.cells c T)).setCells w.heap.size 0 ls) w.heap.size KS [] (OF 64 0) 0:=by have a:=cX w c T w.heap.size 73 rfl b;exact ff.of_range (AI _ _ _ _ (by rw[fK];exact a)) (World.there_setCells a _ _ _) s_ s_
def ey(ps:List ByteArray)(k:Nat):List UInt8:=(ps.take k).flatMap λp=>p.data.toList
theorem Fj(a:List ByteArray)(k:Nat)(h:k<a.length):ey a (k+1)=ey a k++(a[k]).data.toList:=by rw[ey,ey,R3 h,Sv,List.flatMap_singleton]
theorem Ks(a:List ByteArray)(k:Nat):(ey a k).length<=(ey a a.length).length:=by
 by_cases h:k<=a.length
 ·rw[ey,ey,SF];have e:a.flatMap (λp=>p.data.toList)=(a.take k).flatMap (λp=>p.data.toList)++(a.drop k).flatMap (λp=>p.data.toList):=by rw[←Sv,List.take_append_drop]
  rw[e,R5];omega
 ·rw[ey,ey,QQ o_,SF];exact T6 _
end
end Go.Proofs.YtkmoglhgkcnalaaGreatDoor
namespace Go.Proofs.YtkmoglhgkcnalaaGreatDoor
open Go.RowKit
def dw.key(s:dw):Array Value:=#[.string s.tree, .string s.chains, .string s.id, .string s.root, .int .i64 s.height, .int .i64 s.width, .int .i64 s.count, .int .i64 s.shift]
def cU(n:Nat):Nat:=2^n- 1
end Go.Proofs.YtkmoglhgkcnalaaGreatDoor
namespace Go.Proofs.YtkmoglhgkcnalaaGreatDoor
open Go
variable{n b i N l m k j b3 b4 b7 b9 Wg wd:Nat}{w w' w0 wL wM wE:World}{fr:Frame}{v:Value}{cs:List Frame}{args cv:Array Value}{V RO D V0:Nat->Prop}{q main listen ql:Bool}{g:Goroutine}{a:Act}{K:List Item}{P PL PM:Program}{x:Operand}{ops:Array Oper}{KS:List Int}{t u:TypeId}{o:Oper}{f:FuncId}{es:Array Event}{Goal:Goroutine->World->Prop}{fn:Func}{rest:List Nat}{ds:List Deferred}{X:aW}{F:List (Nat×Value)}{e:Event}{listed:Array Bool}{c:Int}{s msg key sig:ByteArray}{ρ:Nat->Nat}{ev:Operand->Value}{Post:Value->World->Prop}
section
open Go.Conc Go.RowKit
def kq(KS:List Int)(pre:List UInt8)(j:Nat)(x:List UInt8):List UInt8:=dU KS (pre++da j 1++x)
def jc(KS:List Int)(pre:List UInt8):Nat->Nat->List UInt8->List UInt8
 |0,_,x=>x
 |n+1,j,x=>jc KS pre n (j+1) (kq KS pre j x)
def jM(s:dw)(i:Nat):List UInt8:=s.id.data.toList++da s.q.toNat 4++da i 2
def ki(KS:List Int)(s:dw)(i:Nat)(d:Int)(link:ByteArray):ByteArray:=⟨(jc KS (jM s i) (cU s.width.toNat- d.toNat) d.toNat link.data.toList).toArray⟩
theorem pC(KS:List Int)(a:List UInt8)(j:Nat)(x:List UInt8):(kq KS a j x).length=32:=by simp[kq,dU]
structure Cq (s:dw) (i:Nat) (d:Int) (link:ByteArray):Prop where
 width:0<=s.width/\s.width<9
 q:0<=s.q/\s.q<4294967296
 id:s.id.size<65536
 i:i<65536
 d:0<=d/\d<256
 link:link.size=32
def zT(s:dw)(i:Nat):ByteArray:=s.id++⟨(da s.q.toNat 4).toArray⟩++⟨(da i 2).toArray⟩
theorem lr(n k:Nat):(ByteArray.mk (da n k).toArray).size=k:=by show(da n k).toArray.size=k;simp[cR]
theorem Ia(s:dw)(i:Nat):(zT s i).data.toList=jM s i:=by simp[zT,jM]
def JR(b4 b7 i:Nat)(d:Int):List (Nat×Value):=[(1, .int .i64 i),(2, .int .i64 d),(4, .pt b4),(7, .pt b7)]
def E1(s:dw)(b4 i:Nat):List (Nat×Nat×Value):=[(0,11, .pk b4 0),(1,12, .pk b4 2),(2,13, .string s.id),(3,14, .pk b4 8),(4,15, .int .i64 s.q.toNat),(5,16, .string ⟨(da s.q.toNat 4).toArray⟩),
 (6,17, .string (s.id++⟨(da s.q.toNat 4).toArray⟩)),(7,18, .int .i64 i),(8,19, .string ⟨(da i 2).toArray⟩),(9,20, .string (zT s i))]
theorem NA(s:dw)(b4 i:Nat):∀p∈E1 s b4 i,∀q∈E1 s b4 i,p.2.1=q.2.1\/p.1=q.1->p=q:=by intro p b q a h;simp only[E1,PZ,If,or_false]at b a;rcases b with rfl|rfl|rfl|rfl|rfl|rfl|rfl|rfl|rfl|rfl<;>rcases a with rfl|rfl|rfl|rfl|rfl|rfl|rfl|rfl|rfl|rfl<;>first|rfl|(exfalso;simp at h)
theorem Ib(s:dw)(b4 b7 i:Nat)(d:Int):∀p∈E1 s b4 i,p.2.1<33/\∀q∈JR b4 b7 i d,q.1≠p.2.1:=by intro p b;simp only[E1,PZ,If,or_false]at b;rcases b with rfl|rfl|rfl|rfl|rfl|rfl|rfl|rfl|rfl|rfl<;>refine⟨s_,λq a=> ?_⟩<;>simp only[JR,PZ,If,or_false]at a<;>rcases a with rfl|rfl|rfl|rfl<;>simp
def Al(w0:World)(t:ByteArray)(ty:TypeId)(listed:Array Bool)(a:Act)(w:World):Prop:=
 listed[10]?=some true->∃p,a.tmps[9]?=some (.pk p 0)/\w0.heap.size<=p/\∃x,w.heap[p]?=some (.cells #[.string x] ty)/\(listed[11]?=some true->x=t)
theorem Al.step{w0:World}{t:ByteArray}{ty:TypeId}{d:Nat}(h:Al w0 t ty listed a w)(e:n≠10/\n≠11)(g:d≠9)(i:Bw w w'):Al w0 t ty (listed.setIfInBounds n true) (a.put (some d) v) w':=by
 intro c;rw[sN e.1]at c;obtain⟨p,l,k,x,f,j⟩:=h c;refine⟨p, ?_,k,x,(i.block p (gA f).1).trans f,λb=> ?_⟩
 ·show(a.tmps.setIfInBounds d v)[9]?=_;rw[sN g];exact l
 ·rw[sN e.2]at b;exact j b
theorem nj{K:Nat}(c:m≠K)(h:listed[K]?=some true->∀n,n<K->listed[n]?=some true):(listed.setIfInBounds m true)[K]?=some true->∀n,n<K->(listed.setIfInBounds m true)[n]?=some true:=λa n b=>by
 rw[sN c]at a;have:=h a n b;by_cases e:m=n
 ·subst e;exact Tc (gA this).1
 ·rw[sN e];exact this
theorem um{K:Nat}(b:ops[K]?=some o)(a:∀e∈o.after,R7 .any e=true->listed[e.on]?=some true)(h:((Q8 K).all λk=>gW ops K k)=true)(n:Nat)(c:n<K):listed[n]?=some true:=
 ce (RE.1 h n (QX.2 c)) b a
section
variable{s:dw}{d:Int}{k:List Item}
theorem Ly(h:gp (JR b4 b7 i d) (E1 s b4 i) 33 listed a){e:Nat}(b:(m,e,v)∈E1 s b4 i):gp (JR b4 b7 i d) (E1 s b4 i) 33 (listed.setIfInBounds m true) (a.put (some e) v):=
 h.put (Ib s b4 b7 i d _ b).1 (Ib s b4 b7 i d _ b).2 λp c e=>NA s b4 i p c _ b e
end
def uT(b7 b9 j:Nat):List (Nat×Value):=[(7, .pt b7),(9, .pt b9),(10, .int .i64 j)]
def pz(s:dw)(i j:Nat)(x:List UInt8):List (Nat×Nat×Value):=[(0,26, .string (zT s i)),(1,27, .int .i64 j),(2,28, .string ⟨(da j 1).toArray⟩),(3,29, .string ⟨x.toArray⟩)]
theorem Le(s:dw)(i j:Nat)(x:List UInt8):∀p∈pz s i j x,∀q∈pz s i j x,p.2.1=q.2.1\/p.1=q.1->p=q:=by intro p b q a h;simp only[pz,PZ,If,or_false]at b a;rcases b with rfl|rfl|rfl|rfl<;>rcases a with rfl|rfl|rfl|rfl<;>first|rfl|(exfalso;simp at h)
theorem Dw(s:dw)(i j:Nat)(x:List UInt8)(b7 b9:Nat):∀p∈pz s i j x,p.2.1<33/\∀q∈uT b7 b9 j,q.1≠p.2.1:=by intro p b;simp only[pz,PZ,If,or_false]at b;rcases b with rfl|rfl|rfl|rfl<;>refine⟨s_,λq a=> ?_⟩<;>simp only[uT,PZ,If,or_false]at a<;>rcases a with rfl|rfl|rfl<;>simp
theorem KV{s:dw}{x:List UInt8}{b7 b9:Nat}(h:gp (uT b7 b9 j) (pz s i j x) 33 listed a){e:Nat}(b:(m,e,v)∈pz s i j x):gp (uT b7 b9 j) (pz s i j x) 33 (listed.setIfInBounds m true) (a.put (some e) v):=
 h.put (Dw s i j x b7 b9 _ b).1 (Dw s i j x b7 b9 _ b).2 λp c e=>Le s i j x p c _ b e
def A4(cells:Array Value)(ty:TypeId)(listed:Array Bool)(a:Act)(w:World):Prop:=listed[4]?=some true->∃p,a.tmps[30]?=some (.sk p 3 3)/\w.heap[p]?=some (.cells cells ty)
theorem A4.step{cells:Array Value}{ty:TypeId}{d:Nat}(h:A4 cells ty listed a w)(e:n≠4)(f:d≠30)(g:Bw w w'):A4 cells ty (listed.setIfInBounds n true) (a.put (some d) v) w':=by intro b;rw[sN e]at b;obtain⟨p,i,c⟩:=h b;refine⟨p, ?_,(g.block p (gA c).1).trans c⟩;show(a.tmps.setIfInBounds d v)[30]?=_;rw[sN f];exact i
def A5(v5:Value)(listed:Array Bool)(a:Act):Prop:=listed[5]?=some true->a.tmps[31]?=some v5
theorem A5.step{b:Value}{d:Nat}(h:A5 b listed a)(e:n≠5)(f:d≠31):A5 b (listed.setIfInBounds n true) (a.put (some d) v):=by intro c;rw[sN e]at c;show(a.tmps.setIfInBounds d v)[31]?=_;rw[sN f];exact h c
def On(w0:World)(b7:Nat)(v5:Value)(listed:Array Bool)(w:World):Prop:=(listed[6]?=some false/\Bw w0 w)\/(listed[6]?=some true/\∃w1,Bw w0 w1/\w=w1.setCell ⟨b7,0,none⟩ v5)
structure Ch (s:dw) (i b7 b9 k2 l ld:Nat) (r:LoopState->Loop) (ty tk:TypeId) (w0:World) (st:LoopState) (x:List UInt8) (w:World):Prop where
 old:Bw w0 w
 seven:w.heap[b7]?=some (.cells #[.string ⟨x.toArray⟩] ty)
 nine:w.heap[b9]?=some (.cells #[.string (zT s i)] ty)
 key:w.heap[k2]?=some (.cells s.key tk)
 loop:w.heap[l]?=some (.loop (r st))
 list:w.heap[ld]?=some (.deferred (some []))
structure wN (b7 b9 k2 l ld:Nat) (w0:World):Prop where
 low:w0.heap.size<=b7/\w0.heap.size<=l/\w0.heap.size<=ld
 seven:b7≠b9/\b7≠k2/\b7≠l/\b7≠ld
 loop:l≠b9/\l≠k2/\l≠ld
section
variable{s:dw}{k2 ld:Nat}{r:LoopState->Loop}{ty tk:TypeId}{st:LoopState}{x:List UInt8}
theorem Ch.below(h:Ch s i b7 b9 k2 l ld r ty tk w0 st x w)(c:Bw w w'):Ch s i b7 b9 k2 l ld r ty tk w0 st x w':=by have g:∀{b:Nat} {o:Obj},w.heap[b]?=some o->w'.heap[b]?=some o:=λ{b o} a=>(c.block b (gA a).1).trans a;exact⟨aE h.old h.old.size c,g h.seven,g h.nine,g h.key,g h.loop,g h.list⟩
theorem Ch.turn(h:Ch s i b7 b9 k2 l ld r ty tk w0 st x w)(f:wN b7 b9 k2 l ld w0)(st':LoopState):Ch s i b7 b9 k2 l ld r ty tk w0 st' x (bX w l (r st')):=
 ⟨h.old.trans (fc w l _ f.low.2.1),(bM w _ f.seven.2.2.1).trans h.seven,(bM w _ (QF f.loop.1)).trans h.nine,(bM w _ (QF f.loop.2.1)).trans h.key,ir h.loop,(bM w _ (QF f.loop.2.2)).trans h.list⟩
theorem Ch.put(h:Ch s i b7 b9 k2 l ld r ty tk w0 st x w)(f:wN b7 b9 k2 l ld w0)(y:List UInt8):Ch s i b7 b9 k2 l ld r ty tk w0 st y (w.setCell ⟨b7,0,none⟩ (.string ⟨y.toArray⟩)):=
 ⟨h.old.trans (cP w _ _ f.low.1),jF h.seven,(bO w _ (QF f.seven.1)).trans h.nine,(bO w _ (QF f.seven.2.1)).trans h.key,(bO w _ (QF f.seven.2.2.1)).trans h.loop,(bO w _ (QF f.seven.2.2.2)).trans h.list⟩
end
def C3(f:Func)(g:FuncId)(T:Array Value)(ld:Nat)(st:LoopState):Loop:={state:=st,pending:=none,fn:=g,tmps:=T,params:=#[25],assign:= .region 3 (bK f 3) false,body:= .block 1 (rD f 4),defers:=ld}
def mh(f:Func):Code:= .seq (.seq (rG f 1) (.cond (.tmp 9) .skip (.exit 0))) (.seq (.block 1 (.seq (rG f 3) (.cond (.tmp 15) .ret .skip))) (rG f 2))
section
variable{s:dw}{k2 ld:Nat}{x:List UInt8}{T:Array Value}{cf:Frame}
theorem C2(KS:List Int)(a:List UInt8)(t j:Nat)(x:List UInt8)(h:j<t):jc KS a (t- j) j x=jc KS a (t-(j+1)) (j+1) (kq KS a j x):=by rw[show t- j=(t-(j+1))+1 from o_];rfl
end
end
section
open Go.RowKit Go.Lib Go.Shelf
theorem Lf.lays105:Go.Proofs.Lays.n105 (aJ q tP) Tryz.lays105_ren:=by
 cases q<;>constructor
 all_goals first|(rw[oa];kernel_rfl)|kernel_rfl|(intro w;kernel_rfl)
theorem Lf.extra105:Builder.Extra (aJ q tP) Tryz.lays105_ren:=by
 cases q<;>constructor
 all_goals first|kernel_rfl|(intro w;kernel_rfl)|decide|(constructor<;>first|kernel_rfl|(intro w;kernel_rfl)|decide)
theorem Lf.strings_Repeat(s:ByteArray)(c:Nat)(w:World)(b:c<=9223372036854775807)(a:s.size*c<=140737488355328):
 Calls (aJ q tP) 133 #[.s s, .i c] w λe w'=>e= .returned (.string ⟨(SO s.data.toList c).toArray⟩)/\Bw w w':=Any.strings_Repeat Lf.lays105 Lf.extra105 s c w b a
@[simp] theorem Lf.func133:(aJ q tP).funcs[133]?=some Tryz.f133:=aO Tryz.func133 d_ rfl rfl k_
@[simp] theorem Lf.call133(args:Array Value)(w:World):(callFunc 133 args).run (aJ q tP) w= .ok (.enter 133 args) w:=dp Lf.func133 k_ rfl args w
end
namespace L1
open Go.Proofs.YtkmoglhgkcnalaaGreatDoor
section

open Go.RowKit
theorem CC(x k:Int)(w:World):
 Calls (aJ ql tP) 184 #[.int .u32 x, .i k] w λe w'=>e= .returned (.int .u32 (tG x k))/\w'=w:=by
 have a:=sH .and (R4.wrap k) 31
 go_enter Lf.func184,Tryz.ntmps184
 go_wp2
 go_ret
 exact⟨rfl,rfl⟩
theorem td(x a b c:Int)(w:World)(i:0<=a)(h:a<=31)(g:0<=b)(b1:b<=31)(f:0<=c)(d:c<=31):
 Calls (aJ ql tP) 163 #[.int .u32 x, .i a, .i b, .i c] w λe w'=>e= .returned (.int .u32 (dT x a b c))/\w'=w:=by
 go_enter Lf.func163,Tryz.ntmps163
 go_wp2_with (go_at_call 184;refine(CC _ _ _).mono ?_;rintro e w' ⟨rfl,rfl⟩)
 go_ret
 exact⟨rfl,rfl⟩
theorem yj(x a b c:Int)(w:World)(i:0<=a)(h:a<=31)(g:0<=b)(b1:b<=31)(f:0<=c)(d:c<=31):
 Calls (aJ ql tP) 183 #[.int .u32 x, .i a, .i b, .i c] w λe w'=>e= .returned (.int .u32 (gO x a b c))/\∃n,w'=w.drewN n:=by
 go_enter Lf.func183,Tryz.ntmps183
 go_wp2
 go_quiet ((go_at_call 184;exact Calls.quiet_of_same (CC _ _ _)))
 go_wp2
 go_ret
 exact⟨rfl,_,rfl⟩
theorem eY(s:ByteArray)(w:World)(c:s.size<=8):
 Calls (aJ ql tP) 88 #[.s s] w λe w'=>e= .returned (.int .u64 (cZ s.data.toList))/\w'=w:=by
 go_enter Lf.func88,Tryz.ntmps88
 go_wp2
 go_loop [3,4,7] (λn j i=>∃k:Nat,k<=s.size/\i= .i k/\n= .int .u64 (cZ (s.data.toList.take k))) (λ_ _ i=>s.size-(intOf i).toNat)
 case atStart=>exact⟨0,QH _,rfl,rfl⟩
 case round=>
  obtain⟨k,d,rfl,rfl⟩:=hrel;by_cases a:k<s.size
  ·have b:=jj (s.data.toList.take k) 7 (by simp;omega)
   go_wp2
   go_round
   case rel=>exact⟨k+1,o_,by go_num,by rw[E3 s k a,o6,GF _ _ b.1 o_]⟩
   case measure=>simp[intOf];omega
  ·go_wp2
   go_ret
   exact⟨sR (by rw[QQ (by simp;omega)]),rfl⟩
theorem Lf.info5:((aJ ql tP).info? 5).map (λi=>(i.zero,i.size,i.bytes))=some (some (.int .u8 0),1,1):=k_
theorem py(n k:Nat)(w:World)(q:k<=8):
 Calls (aJ ql tP) 106 #[.int .u64 n, .i k] w λe w'=>e= .returned (.string ⟨(da n k).toArray⟩)/\Bw w w':=by
 have g:=λw=>run_make_row' (P:=(aJ ql tP)) 83 5 (.int .u8 0) 1 Lf.underlying83 Lf.info5 rfl .i64 .i64 k o_ o_ w
 go_enter Lf.func106,Tryz.ntmps106
 go_wp2
 go_loopw [0,6] (λx i d=>∃m:Nat,m<=k/\i= .i ((m:Int)- 1)/\x= .int .u64 ((n/256^(k- m):Nat):Int)/\d=w.alloc (.cells (DY n k m).toArray 5)) (λ_ i _=>(intOf i+1).toNat)
 case atStart=>exact⟨k,T6 _,rfl,s_,by rw[DX,dt]⟩
 case round=>
  obtain⟨m,h,rfl,rfl,rfl⟩:=hrel;cases m with
  |zero=>
   have b:=cR k n;have a:=run_convert_bytes_back (P:=(aJ ql tP)) (w.alloc (.cells (aV (da n k)).toArray 5)) 83 9 5 ⟨w.heap.size,0,none⟩ k (da n k) Lf.underlying83 Lf.underlying5 Lf.underlying9
    (λj l=>by rw[QV,QE _ _ _ _ rfl];simp[aV,l])
   rw[b]at a;rw[J4];generalize c:da n k=L at*;have o:Hid (da n k=L):=c;clear c b
   go_wp2
   go_ret
   exact⟨pK o.out.symm,(bR).alloc (T6 _) _⟩
  |succ p=>
   rw[show((p+1:Nat):Int)- 1=(p:Int)from o_];have r:=J3 n k p;have f:=Aw n k (p+1) h
   go_wp2
   go_roundw
   case rel=>exact⟨p,o_,rfl,by rw[show k- p=k-(p+1)+1 from o_,Nat.pow_succ,←Nat.div_div_eq_div_mul];simp,by rw[J2 n k p o_ _ s_]⟩
   case measure=>simp[intOf]
theorem J1(n:Nat)(w:World):
 Calls (aJ ql tP) 132 #[.int .u64 n] w λe w'=>e= .returned (.string ⟨(da n 8).toArray⟩)/\Bw w w':=by
 go_enter Lf.func132,Tryz.ntmps132
 go_wp2_with (go_at_call 106;refine(py n 8 _ o_).mono ?_;rintro e w' ⟨rfl,a⟩)
 go_ret
 exact⟨rfl,a⟩
end
section

open Go.RowKit
theorem AA(b k:Nat)(i:k<16)(W:World):(QG 164 (.pk b 0) (some (.i (4*(k:Int)))) (some (.i (4*(k:Int)+4))) none).run (aJ ql tP) W=
 .ok (.slice (some ⟨b,4*k,none⟩) 4 (64- 4*k)) W:=by
 have c:(aJ ql tP).underlying 164=some (.array ((aJ ql tP).arrayLen 164) ((aJ ql tP).elem 164)):=k_
 have a:(aJ ql tP).arrayLen 164=64:=k_
 have e:(aJ ql tP).elem 164=5:=k_
 have d:(sizeOf 5).run (aJ ql tP) W= .ok 1 W:=k_
 rw[run_sliceAt_array_lh W 164 _ c _ _ _ _ o_ o_ (by rw[a];omega),a,e,d];have h:(4*(k:Int)).toNat=4*k:=o_
 have g:(4*(k:Int)+4).toNat=4*k+4:=o_
 have f:4*k+4- 4*k=4:=o_
 simp only[R9,slicedAt];rw[h,g,f,if_neg o_,QV,Ss,IS]
theorem Fe(B:List UInt8)(h:B.length=64)(b k c:Nat)(g:k<16)(W:World)(e:W.rangeAt b 0 (aV B)):
 (convert 83 9 (.slice (some ⟨b,4*k,none⟩) 4 c)).run (aJ ql tP) W= .ok (.string ⟨((B.drop (4*k)).take 4).toArray⟩) W:=by
 have d:((B.drop (4*k)).take 4).length=4:=by simp;omega
 have a:=run_convert_bytes_back (P:=(aJ ql tP)) W 83 9 5 ⟨b,4*k,none⟩ c ((B.drop (4*k)).take 4) Lf.underlying83 Lf.underlying5 Lf.underlying9
  (λj f=>by rw[d]at f;rw[QV];have:=e (4*k+j) (.int .u8 ((B[4*k+j]' o_).toNat:Int)) (by simp[aV];exact⟨_,Q0 o_,rfl⟩);rw[IS]at this;rw[this];simp)
 rwa [d]at a
theorem Ee(B:List UInt8)(hB:B.length=64)(w:World):
 Calls (aJ ql tP) 162 #[.agg (aV B).toArray] w λe w'=>e= .returned (.agg (aM (bZ B 64)).toArray)/\Bw w w':=by
 go_enter Lf.func162,Tryz.ntmps162
 go_wp2
 go_loopw [4,6] (λ_ i E=>∃(k:Nat) (f:World),k<=16/\i= .i k/\f.heap.size=w.heap.size+1+1/\f.rangeAt w.heap.size 0 (aV B)/\f.there (w.heap.size+1) 0 64/\Bw w f/\
  E=f.alloc (.cells (aM (cO B k)).toArray 214)) (λ_ i _=>16-(intOf i).toNat)
 case atStart=>
  have D:=Iw w B (OF 64 (.int .u32 0)).toArray s_;exact⟨0,_,o_,rfl,D.1,D.2.1,D.2.2.1,D.2.2.2,by rw[yt];rfl⟩
 case round=>
  obtain⟨k,f,Q,rfl,a,q,o,r,rfl⟩:=hrel;by_cases d:k<16
  ·have a4:=AA (ql:=ql) w.heap.size k d
   have a6:=λc=>Fe (ql:=ql) B hB w.heap.size k c d (f.alloc (.cells (aM (cO B k)).toArray 214)) (Qr q _)
   have hg:=rB B k o_
   have O:=uN B k o_
   have a5:(aM (cO B k)).length=64:=by rw[aZ,O]
   have h8:(ByteArray.mk ((B.drop (4*k)).take 4).toArray).size<=8:=by show((B.drop (4*k)).take 4).toArray.size<=8;simp;omega
   go_wp2_with (go_at_call 88;refine(eY _ _ h8).mono ?_;rintro e w' ⟨rfl,rfl⟩)
   go_roundw
   case rel=>exact⟨k+1,f,o_,by go_num,a,q,o,r,by rw[tE B k o_ _ (by rw[if_pos d,rl,Qn])]⟩
   case measure=>simp[intOf];omega
  ·have g:k=16:=o_;subst g;clear d Q
   go_wp2
   go_loopw [5] (λi E=>∃(k n:Nat),16<=k/\k<=64/\i= .i k/\
    E=(f.alloc (.cells (aM (cO B k)).toArray 214)).drewN n) (λi _=>64-(intOf i).toNat)
   case atStart=>exact⟨16,0,o_,o_,rfl,rfl⟩
   case round=>
    obtain⟨k,n,g,Q,rfl,rfl⟩:=hrel;by_cases d:k<64
    ·obtain⟨m,rfl⟩:∃m,k=m+16:=⟨k- 16,o_⟩;rw[show((m+16:Nat):Int)=(m:Int)+16 from o_]
     go_wp2_with fail
     obtain⟨M,b⟩:∃M,M=(f.alloc (.cells (aM (cO B (m+16))).toArray 214)).drewN n:=⟨_,rfl⟩;have X:=rf b a (lV B (m+16) m o_);have W:=rf b a (lV B (m+16) (m+1) o_);have U:=rf b a (lV B (m+16) (m+9) o_);have s:=rf b a (lV B (m+16) (m+14) o_);have V:=rf b a (rB B (m+16) o_);have T:=Iz b a (m+16);generalize y:(bZ B (m+16)).getD m 0=x0 at X;have X0:Hid ((bZ B (m+16)).getD m 0=x0):=y;clear y;generalize x:(bZ B (m+16)).getD (m+1) 0=x1 at W;have X1:Hid ((bZ B (m+16)).getD (m+1) 0=x1):=x;clear x;generalize u:(bZ B (m+16)).getD (m+9) 0=x9 at U;have X9:Hid ((bZ B (m+16)).getD (m+9) 0=x9):=u;clear u;generalize h:(bZ B (m+16)).getD (m+14) 0=t at s;have Z:Hid ((bZ B (m+16)).getD (m+14) 0=t):=h;clear h;rw[←b];have HM:Hid (M=(f.alloc (.cells (aM (cO B (m+16))).toArray 214)).drewN n):=b;clear b;have b0:(m:Int)<64:=o_;have b1:(m:Int)+1<64:=o_;have b9:(m:Int)+9<64:=o_;have Y:(m:Int)+14<64:=o_;have a7:(m:Int)+16<64:=o_;have z0:0<=(m:Int):=o_;have v0:Q4.wrap (m:Int)=m:=(by rw[Q3];omega);have v1:Q4.wrap ((m:Int)+16- 15)=m+1:=(by rw[Q3];omega);have v9:Q4.wrap ((m:Int)+16- 7)=m+9:=(by rw[Q3];omega);have F:Q4.wrap ((m:Int)+16- 2)=m+14:=(by rw[Q3];omega);have p1:0<=(m:Int)+1:=o_;have p9:0<=(m:Int)+9:=o_;have J:0<=(m:Int)+14:=o_;have I:0<=(m:Int)+16:=o_;have t1:((m:Int)+1).toNat=m+1:=o_;have t9:((m:Int)+9).toNat=m+9:=o_;have H:((m:Int)+14).toNat=m+14:=o_;have G:((m:Int)+16).toNat=m+16:=o_
     go_region_held3 (λw'=>w'.cell? ⟨w.heap.size+1+1,m,none⟩=some (.int .u32 x0)/\w'.cell? ⟨w.heap.size+1+1,m+1,none⟩=some (.int .u32 x1)/\w'.cell? ⟨w.heap.size+1+1,m+9,none⟩=some (.int .u32 x9)/\w'.cell? ⟨w.heap.size+1+1,m+14,none⟩=some (.int .u32 t)) (first|go_keep|(refine⟨?_, ?_, ?_, ?_⟩<;>(rw[World.cell?_setCell_other _ _ _ _ s_];simp only[Sj,X,W,U,s])))
      (first|(go_at_call 183;refine(yj _ _ _ _ _ o_ o_ o_ o_ o_ o_).mono ?_;rintro e w' ⟨rfl,nq,rfl⟩))
     all_goals
      clear X W U s V T b0 b1 b9 Y v0 v1 v9 F p1 p9 J I t1 t9 H G
      go_wp2
      go_roundw
      case rel=>((repeat apply Exists.intro);exact⟨⟨m+17,_,o_,o_,by go_num,(Oq HM.out a _ _ _).trans (by rw[tE B (m+16) o_ _ (by rw[if_neg o_,yW,X0.out,X1.out,X9.out,Z.out,Qn,Qn,Qn])])⟩,rfl⟩)
      case measure=>simp[intOf];omega
    ·have A:k=64:=o_;subst A;clear d Q g;obtain⟨M,b⟩:∃M,M=(f.alloc (.cells (aM (cO B 64)).toArray 214)).drewN n:=⟨_,rfl⟩;have N:M.rangeAt (w.heap.size+1+1) 0 (aM (cO B 64)):=λj v hv=>by rw[IS];exact rf b a hv
     have K:M.there (w.heap.size+1) 0 64:=(by rw[b];exact World.there_alloc o _);have hb:Bw w M:=(by rw[b];exact below_drewN (r.alloc o_ _) n);rw[←b];rw[rC]at N;clear b a q o r;have P:(aM (bZ B 64)).length=64:=(by rw[aZ,cn]);generalize S:aM (bZ B 64)=L at*;have HL:Hid (aM (bZ B 64)=L):=S;have l:∀v∈L,v.oneCell'=true:=(by rw[←S];exact iH _);clear S;have R:((aJ ql tP).info? 214).map (·.size)=some L.length:=(by rw[P];kernel_rfl);have a3:Hid (M.rangeAt (w.heap.size+1+1) 0 L):=N;have z:L.toArray.size=64:=(by simp[P]);have a2:Hid (M.there (w.heap.size+1) 0 L.toArray.size):=(by rw[z];exact K);have C:Hid (M.there (w.heap.size+1) 0 L.length):=(by rw[P];exact K);clear z;have a1:Hid (((aJ ql tP).info? 214).map (·.size)=some L.toArray.size):=(by rw[Q5];exact R);have a0:Hid (L.toArray.all (·.oneCell')=true):=all_oneCell_toArray l;clear N K l
     go_wp2_with (first
      |refine wpList_load_mid rfl 214 (.tmp 3) rfl (w.heap.size+1+1) 0 rfl L _ a3.out Lf.underlying214 rfl R ?_
      |refine wpList_store_mid rfl 214 (.tmp 2) (.tmp 48) rfl (w.heap.size+1) 0 L.toArray rfl rfl a2.out a1.out a0.out ?_)
     exact bodyPost_ret (v:= .agg L.toArray) (fS (p:=2) (ty:=214) k_ _ _ (w.heap.size+1) 0 L _ rfl (AI _ _ _ _ C.out) Lf.underlying214 rfl R) rfl ⟨Jx HL.out.symm,bN o_ _ _ _ _ hb⟩
end
section

open Go.RowKit
theorem EM(G:List Int)(c:G.length=8)(k:Nat)(b:k<8)(W:World):(S6 163 (.agg (aM G).toArray) (.i (k:Int))).run (aJ ql tP) W= .ok (.int .u32 (G.getD k 0)) W:=by
 have a:(sizeOf 162).run (aJ ql tP) W= .ok 1 W:=k_
 simp[S6,asIntOf,run_underlying Lf.underlying163,part,a,b,aM,c]
theorem FR(x:Int)(w:World):Calls (aJ ql tP) 163 #[.int .u32 x, .i 6, .i 11, .i 25] w λe w'=>e= .returned (.int .u32 (dT x 6 11 25))/\w'=w:=
 td x 6 11 25 w o_ o_ o_ o_ o_ o_
theorem FT(x:Int)(w:World):Calls (aJ ql tP) 163 #[.int .u32 x, .i 2, .i 13, .i 22] w λe w'=>e= .returned (.int .u32 (dT x 2 13 22))/\w'=w:=
 td x 2 13 22 w o_ o_ o_ o_ o_ o_
theorem Ex(H KS:List Int)(B:List UInt8)(hH:H.length=8)(hB:B.length=64)(w:World)(hK:w.rangeAt 0 0 (aM KS))(hKl:KS.length=64)(h0:0<w.heap.size):
 Calls (aJ ql Tryz.prog) 131 #[.agg (aM H).toArray, .agg (aV B).toArray] w λe w'=>e= .returned (.agg (aM (mg KS H B)).toArray)/\Bw w w':=by
 have hi54:((aJ ql Tryz.prog).info? 164).map (·.size)=some (aV B).length:=by rw[cj,hB];kernel_rfl
 have HK:Hid (w.rangeAt 0 0 (aM KS)):=hK;have HKl:Hid (KS.length=64):=hKl;clear hK hKl
 go_enter Lf.func131,Tryz.ntmps131
 go_wp2_with (first
  |refine wpList_load_mid rfl 164 (.tmp 3) rfl (w.heap.size+1) 0 rfl (aV B) _ (by exact Qr (dm _ _ _ _ s_) _) Lf.underlying164 rfl hi54 ?_
  |fail)
 refine(Ee B hB _).mono ?_;rintro e w1 ⟨rfl,hb1⟩;have hSl:(bZ B 64).length=64:=cn B 64;generalize hS:bZ B 64=S at*;have HS:Hid (bZ B 64=S):=hS;have hi85:((aJ ql Tryz.prog).info? 214).map (·.size)=some (aM S).toArray.size:=by rw[show(aM S).toArray.size=64 from by simp[aZ,hSl]];kernel_rfl
 have hth:(w1.alloc (.cells (OF 64 (.int .u32 0)).toArray 214)).there w1.heap.size 0 (aM S).toArray.size:=by rw[show(aM S).toArray.size=64 from by simp[aZ,hSl]];exact cX _ _ _ _ _ rfl s_
 have Hth:Hid ((w1.alloc (.cells (OF 64 (.int .u32 0)).toArray 214)).there w1.heap.size 0 (aM S).toArray.size):=hth;have Hb1:Hid (Below _ _ _):=hb1;clear hS hth hb1 hi54
 go_wp2_with (first
  |refine wpList_store_mid rfl 214 (.tmp 5) (.tmp 20) rfl w1.heap.size 0 (aM S).toArray rfl rfl Hth.out hi85 (all_oneCell_toArray (iH S)) ?_)
 refine wQ (λM=>MV w M H KS S w1.heap.size) (Ey w w1 H KS S B 163 164 214 _ _ rfl rfl hSl hH HK.out h0 Hb1.out) ?_;intro M hMM;have HHm:Hid (MV w M H KS S w1.heap.size):=hMM;clear hMM hi85 Hth Hb1;generalize w1.heap.size=c at HHm⊢;clear w1;simp only[Rq];obtain⟨s0,hs0⟩:∃s,s=St.of H:=⟨_,rfl⟩;have x0:M.cell? ⟨w.heap.size,0,none⟩=some (.int .u32 s0.a):=by rw[hs0];exact gU HHm.out.hrow 0 o_
 have x1:M.cell? ⟨w.heap.size,1,none⟩=some (.int .u32 s0.b):=by rw[hs0];exact gU HHm.out.hrow 1 o_
 have x2:M.cell? ⟨w.heap.size,2,none⟩=some (.int .u32 s0.c):=by rw[hs0];exact gU HHm.out.hrow 2 o_
 have x3:M.cell? ⟨w.heap.size,3,none⟩=some (.int .u32 s0.d):=by rw[hs0];exact gU HHm.out.hrow 3 o_
 have x4:M.cell? ⟨w.heap.size,4,none⟩=some (.int .u32 s0.e):=by rw[hs0];exact gU HHm.out.hrow 4 o_
 have x5:M.cell? ⟨w.heap.size,5,none⟩=some (.int .u32 s0.f):=by rw[hs0];exact gU HHm.out.hrow 5 o_
 have x6:M.cell? ⟨w.heap.size,6,none⟩=some (.int .u32 s0.g):=by rw[hs0];exact gU HHm.out.hrow 6 o_
 have x7:M.cell? ⟨w.heap.size,7,none⟩=some (.int .u32 s0.h):=by rw[hs0];exact gU HHm.out.hrow 7 o_
 have HH:Hid (s0=St.of H):=hs0;have HhH:Hid (H.length=8):=hH;have HhS:Hid (S.length=64):=hSl;clear hs0 hH hSl hB
 go_quiet (fail)
 clear x0 x1 x2 x3 x4 x5 x6 x7
 go_wp2
 go_loopw [6,7,8,9,10,11,12,13,37] (λa b c d e f g h i wr=>∃(k n:Nat),k<=64/\i= .int .i64 k/\a= .int .u32 (cG KS S H k).a/\b= .int .u32 (cG KS S H k).b/\c= .int .u32 (cG KS S H k).c/\d= .int .u32 (cG KS S H k).d/\
  e= .int .u32 (cG KS S H k).e/\f= .int .u32 (cG KS S H k).f/\g= .int .u32 (cG KS S H k).g/\h= .int .u32 (cG KS S H k).h/\wr=M.drewN n) (λ_ _ _ _ _ _ _ _ i _=>64-(intOf i).toNat)
 case atStart=>exact⟨0,_,o_,rfl,by rw[HH.out];rfl,by rw[HH.out];rfl,by rw[HH.out];rfl,by rw[HH.out];rfl,by rw[HH.out];rfl,by rw[HH.out];rfl,by rw[HH.out];rfl,by rw[HH.out];rfl,rfl⟩
 case round=>
  obtain⟨k,n,hk,rfl,rfl,rfl,rfl,rfl,rfl,rfl,rfl,rfl,rfl⟩:=hrel;by_cases hlt:k<64
  ·generalize hs:cG KS S H k=s;have HR:Hid (cG KS S H k=s):=hs;clear hs;have hlt':(k:Int)<64:=o_;have hk0:(0:Int)<=(k:Int):=o_;have y1:M.cell? ⟨0,k,none⟩=some (.int .u32 (KS.getD k 0)):=gU HHm.out.krow k (by rw[HKl.out];omega);have y2:M.cell? ⟨c,k,none⟩=some (.int .u32 (S.getD k 0)):=gU HHm.out.srow k (by rw[HhS.out];omega);generalize hkk:KS.getD k 0=kk at y1;generalize hww:S.getD k 0=ww at y2;have HKK:Hid (KS.getD k 0=kk):=hkk;have HWW:Hid (S.getD k 0=ww):=hww;clear hkk hww
   go_wp2_with fail
   go_quiet ((go_at_call 163;exact(FR _ _).mono (λ_ _ h=>⟨h.1,_,h.2⟩)))
   clear y1 y2
   go_wp2_with (go_at_call 163;refine(FT _ _).mono ?_;rintro e w' ⟨rfl,rfl⟩)
   go_roundw
   case rel=>exact⟨k+1,_,o_,by go_num,by rw[cG,HR.out,HKK.out,HWW.out];exact congrArg (Value.int .u32) (LE s kk ww),by rw[cG,HR.out,HKK.out,HWW.out];rfl,by rw[cG,HR.out,HKK.out,HWW.out];rfl,by rw[cG,HR.out,HKK.out,HWW.out];rfl,by rw[cG,HR.out,HKK.out,HWW.out];exact congrArg (Value.int .u32) (LD s kk ww),by rw[cG,HR.out,HKK.out,HWW.out];rfl,by rw[cG,HR.out,HKK.out,HWW.out];rfl,by rw[cG,HR.out,HKK.out,HWW.out];rfl,rfl⟩
   case measure=>simp[intOf];omega
  ·have hk64:k=64:=o_;subst hk64;clear hlt hk
   go_wp2
   generalize hG:cG KS S H 64=G;have HG:Hid (cG KS S H 64=G):=hG;clear hG;have hgl:S3 #[Value.int .u32 G.a,Value.int .u32 G.b,Value.int .u32 G.c,Value.int .u32 G.d,Value.int .u32 G.e,Value.int .u32 G.f,Value.int .u32 G.g,Value.int .u32 G.h]=S3 (aM G.list).toArray:=rfl
   go_loopw [97] (λi wr=>∃(k:Nat),k<=8/\i= .int .i64 k/\Bw w wr/\wr.rangeAt w.heap.size 0 (aM (eK H G.list k))/\wr.there w.heap.size 0 8/\wr.there (w.heap.size+1+1) 0 8) (λi _=>8-(intOf i).toNat)
   case atStart=>exact⟨0,o_,rfl,below_drewN HHm.out.below _,by rw[yY H _ HhH.out];exact HHm.out.hrow,HHm.out.hthere,HHm.out.res⟩
   case round=>
    obtain⟨k,hk,rfl,hb,hr,ht,hres⟩:=hrel;by_cases hlt:k<8
    ·have hix:=λW=>EM (ql:=ql) G.list rfl k hlt W;rw[←hgl]at hix;have hlt':(k:Int)<8:=o_;have hk0:(0:Int)<=(k:Int):=o_;have y0:wr.cell? ⟨w.heap.size,k,none⟩=some (.int .u32 (H.getD k 0)):=(by have:=hr k _ (EA H G.list k hlt);rwa [IS]at this);have yf:wr.frozen? ⟨w.heap.size,k,none⟩=false:=(by have:=(ht k hlt).2;rwa [IS]at this);clear hgl;have Hr:Hid (wr.rangeAt w.heap.size 0 (aM (eK H G.list k))):=hr;have Ht:Hid (wr.there w.heap.size 0 8):=ht;have Hres:Hid (wr.there (w.heap.size+1+1) 0 8):=hres;clear hr ht hres
     go_wp2
     go_roundw
     case rel=>exact⟨k+1,o_,by go_num,hb.setCell (T6 _) _,by rw[←Ez H G.list k _ (by rw[Qn,Cd,Cd])];exact jv Hr.out _,fR Ht.out _ _ _,fR Hres.out _ _ _⟩
     case measure=>simp[intOf];omega
    ·have hk8:k=8:=o_;subst hk8;clear hlt hk hgl;have hml:(eK H G.list 8).length=8:=mf _ _ _;have HL:Hid (mg KS H B=eK H G.list 8):=(by show mg KS H B=_;rw[mg,BH,HS.out,HG.out]);generalize eK H G.list 8=L at*;have hi53:((aJ ql Tryz.prog).info? 163).map (·.size)=some (aM L).length:=(by rw[aZ,hml];kernel_rfl);have Hi53:Hid (((aJ ql Tryz.prog).info? 163).map (·.size)=some (aM L).toArray.size):=(by show _=some (aM L).toArray.size;rw[Q5];exact hi53);have Hr:Hid (wr.rangeAt w.heap.size 0 (aM L)):=hr;have Hres':Hid (wr.there (w.heap.size+1+1) 0 (aM L).length):=(by show wr.there _ _ _;rw[aZ,hml];exact hres);have Hres:Hid (wr.there (w.heap.size+1+1) 0 (aM L).toArray.size):=(by show wr.there _ _ (aM L).toArray.size;rw[Q5];exact Hres'.out);clear hr ht hres
     go_wp2_with (first
           |refine wpList_load_mid rfl 163 (.tmp 2) rfl w.heap.size 0 rfl (aM L) _ Hr.out Lf.underlying163 rfl hi53 ?_
           |refine wpList_store_mid rfl 163 (.tmp 4) (.tmp 108) rfl (w.heap.size+1+1) 0 (aM L).toArray rfl rfl Hres.out Hi53.out (all_oneCell_toArray (iH L)) ?_)
     exact bodyPost_ret (v:= .agg (aM L).toArray) (fS (p:=4) (ty:=163) k_ _ _ (w.heap.size+1+1) 0 (aM L) _ rfl (AI _ _ _ _ Hres'.out) Lf.underlying163 rfl hi53) rfl ⟨by rw[HL.out],bN o_ _ _ _ _ hb⟩
end
section

open Go.RowKit
theorem AB(b h:Nat)(f:h<64)(W:World):(QG 164 (.pk b 8) (some (.i (h:Int))) none none).run (aJ ql tP) W= .ok (.slice (some ⟨b,8+h,none⟩) (64- h) (64- h)) W:=by
 have c:(aJ ql tP).underlying 164=some (.array ((aJ ql tP).arrayLen 164) ((aJ ql tP).elem 164)):=k_
 have a:(aJ ql tP).arrayLen 164=64:=k_
 have e:(aJ ql tP).elem 164=5:=k_
 have d:(sizeOf 5).run (aJ ql tP) W= .ok 1 W:=k_
 rw[run_sliceAt_array_l W 164 _ c _ _ o_ (by rw[a];omega),a,e,d];simp only[R9,slicedAt];rw[Rv,if_neg o_,QV,Ss]
theorem vk(KS:List Int)(L blk:List UInt8)(s:ByteArray)(w:World)(b:Nat)(hD:ff w b KS L blk L.length)(hK:w.rangeAt 0 0 (aM KS))(hKl:KS.length=64)(hb0:0<b)(hb:b<w.heap.size)
 (hlen:L.length+s.size<=4611686018427387904):
 Calls (aJ ql tP) 111 #[.pk b 0, .s s] w λe w'=>e= .returned (.tuple #[])/\w.grownBy w' (some b)/\∃blk',ff w' b KS (L++s.data.toList) blk' (L.length+s.size):=by
 have hc:=hD.length;have hf:w.frozen? ⟨b,72,none⟩=false:=by have:=(hD.there 72 o_).2;rwa [IS]at this
 have HD:Hid (ff w b KS L blk L.length):=hD;have HK:Hid (w.rangeAt 0 0 (aM KS)):=hK;have Hl:Hid (L.length+s.size<=4611686018427387904):=hlen;have h1:(L.length:Int)<=4611686018427387904:=o_
 have h2:(s.size:Int)<=4611686018427387904:=o_
 clear hD hK hlen
 go_enter Lf.func111,Tryz.ntmps111
 go_wp2
 go_loopw [1,4] (λpc hd wr=>∃(q rest blk':List UInt8),s.data.toList=q++rest/\pc= .string ⟨rest.toArray⟩/\hd= .i (((L++q).length%64:Nat):Int)/\ff wr b KS (L++q) blk' (L.length+s.size)/\w.grownBy wr (some b)) (λpc _ _=>oM pc)
 case atStart=>exact⟨[],s.data.toList,blk,rfl,rfl,s_,by rw[Sa];have:=HD.out.setLen (L.length+s.size);simpa using this,ow _ _ _ _⟩
 case round=>
  clear hc hf;obtain⟨q,rest,blk',hq,rfl,rfl,hD,hG⟩:=hrel;have HQ:Hid (s.data.toList=q++rest):=hq;have HD':Hid (ff wr b KS (L++q) blk' (L.length+s.size)):=hD;have HG:Hid (w.grownBy wr (some b)):=hG;have hm:(L++q).length%64<64:=o_
  generalize hh:(L++q).length%64=h at hm;have HH:Hid ((L++q).length%64=h):=hh;clear hq hD hG hh;by_cases hr:rest=[]
  ·subst hr
   go_wp2
   go_end0
   exact⟨rfl,HG.out,blk',by rw[HQ.out,Sa];exact HD'.out⟩
  ·have hpos:0<rest.length:=List.length_pos_iff.2 hr;have hsz:(ByteArray.mk rest.toArray).size=rest.length:=(by show rest.toArray.size=_;simp);obtain⟨n,hn⟩:∃n,n=min rest.length (64- h):=⟨_,rfl⟩;have hcp:=pH (P:=(aJ ql tP)) wr 83 3 5 Lf.underlying83 k_ 9 b (8+h) (64- h) (64- h) n ⟨rest.toArray⟩ (by rw[hsz];exact hn.symm) (iu HD'.out.there o_ o_);have hn1:n<=rest.length:=o_;have hn2:n<=64- h:=o_;have hn0:0<n:=o_;have Hn:Hid (n=min rest.length (64- h)):=hn;clear hn;have hsl:=λW=>AB (ql:=ql) b h hm W;by_cases hfull:h+n=64
   ·have hfb:(((h:Int)+(n:Int))==64)=true:=by rw[beq_iff_eq];omega
    go_wp2_with fail
    obtain⟨c1,c2,c3,c4⟩:=HD'.out.copied (rest.take n) (by rw[HH.out];simp;omega);rw[HH.out]at c1 c2 c3 c4;have hWs:(wr.setCells b (8+h) (aV (rest.take n))).heap.size=wr.heap.size:=ge _ _ _ _;obtain⟨W1,hW1⟩:∃W1,W1=wr.setCells b (8+h) (aV (rest.take n)):=⟨_,rfl⟩;rw[←hW1]at c1 c2 c3 c4 hWs⊢;have HW1:Hid (W1=wr.setCells b (8+h) (aV (rest.take n))):=hW1;have hlt:(rest.take n).length=n:=(by simp;omega);have hB':(il blk' (rest.take n) h).length=64:=gV _ _ _ HD'.out.len o_;have hH':(cx KS (L++q) ((L++q).length/64)).length=8:=cW _ _ _;generalize hBB:il blk' (rest.take n) h=BB at*;generalize hFF:cx KS (L++q) ((L++q).length/64)=FF at*;have hi53:((aJ ql tP).info? 163).map (·.size)=some (aM FF).length:=(by rw[aZ,hH'];kernel_rfl);have hi54:((aJ ql tP).info? 164).map (·.size)=some (aV BB).length:=(by rw[cj,hB'];kernel_rfl);clear hcp hsl hfb;have hKW:(No W1).rangeAt 0 0 (aM KS):=by rw[Sy,HW1.out];exact World.rangeAt_setCells_apart (yG HG.out HK.out (by simp;omega)) _ _ _ (Or.inl o_)
    have hgs:=HG.out.size;have hW0:0<(No W1).heap.size:=(by show 0<W1.heap.size;omega);have hbW:b<W1.heap.size:=o_;have HKW:Hid ((No W1).rangeAt 0 0 (aM KS)):=hKW;have HW0:Hid (0<(No W1).heap.size):=hW0;have HWs:Hid (W1.heap.size=wr.heap.size):=hWs;have Hc4:Hid (W1.there b 0 73):=c4;have HBB:Hid (il blk' (rest.take n) h=BB):=hBB;have HFF:Hid (cx KS (L++q) ((L++q).length/64)=FF):=hFF;clear hKW hW0 hWs c3 c4 hBB hFF hW1 hgs;have hml:(mg KS FF BB).length=8:=nb _ _ _;have hmx:=Ex (ql:=ql) FF KS BB hH' hB' (No W1) HKW.out hKl HW0.out;generalize hMM:mg KS FF BB=MM at*;have HMM:Hid (mg KS FF BB=MM):=hMM;have Hmx:Hid (Calls _ _ _ _ _):=hmx;have hms:(aM MM).toArray.size=8:=(by simp[aZ,hml]);have Ht53:Hid ((No W1).there b 0 (aM MM).toArray.size):=(by show(No W1).there b 0 _;rw[hms];exact(World.there_drew _ _ _ _).2 (iu Hc4.out o_ o_));have Hi53:Hid (((aJ ql tP).info? 163).map (·.size)=some (aM MM).toArray.size):=(by show _=some (aM MM).toArray.size;rw[hms];kernel_rfl);clear hMM hmx hH' hB' hms;refine wp_region_any k_ ?_
    change wpAny _ _ _ _ _ _ _ (No W1)
    refine wT 0 (.pk b 0) ?_;refine wT 1 (.pk b 0) ?_;refine wT 2 (.pk b 0) ?_;refine wT 3 (.pk b 0) ?_;refine wT 5 (.pk b 0) ?_;refine wT 6 (.pk b 0) ?_;refine wT 7 (.pk b 8) ?_;refine wpAny_all (rs:=[4,8]) k_ (Ti _ _) (kE (RI (S:=λw'=>w'=No W1) (v:= .agg (aM FF).toArray) rfl (yieldsIf_load_mid (by rfl) 163 (.tmp 43) rfl b 0 (by go_simp) (aM FF) _ (λw' hw'=>hw'▸eU c2) Lf.underlying163 rfl hi53) rfl ?_) (RI (S:=λw'=>w'=No W1) (v:= .agg (aV BB).toArray) rfl (yieldsIf_load_mid (by rfl) 164 (.tmp 47) rfl b 8 (by go_simp) (aV BB) _ (λw' hw'=>hw'▸eU c1) Lf.underlying164 rfl hi54) rfl ?_))
    ·refine wpAny_all (rs:=[8]) k_ (Ti _ _) (cH (RI (S:=λw'=>w'=No W1) (v:= .agg (aV BB).toArray) rfl (yieldsIf_load_mid (by rfl) 164 (.tmp 47) rfl b 8 (by go_simp) (aV BB) _ (λw' hw'=>hw'▸eU c1) Lf.underlying164 rfl hi54) rfl ?_));refine wpAny_all (rs:=[9]) k_ (Ti _ _) (cH (vl rfl rfl 131 #[.agg (aM FF).toArray, .agg (aV BB).toArray] (by go_simp) (.agg (aM MM).toArray) _ Hmx.out λw2 hb2=> ?_));refine wT 10 (.pk b 0) ?_;refine wT 11 (.pk b 0) ?_;have ht2:w2.there b 0 (aM MM).toArray.size:=eO hb2 (show b<(No W1).heap.size from hbW) Ht53.out;refine wpAny_all (rs:=[12]) k_ (Ti _ _) (cH (Pz (by rfl) (by rfl) 163 (.tmp 51) (.tmp 49) (by rfl) b 0 (aM MM).toArray ?e4 ?e5 ht2 Hi53.out (all_oneCell_toArray (iH MM)) (by rfl) ?e7))
     case e4=>go_simp
     case e5=>go_simp
     case e7=>
      refine wpAny_done k_ ?_ _;have HB2:Hid (Below (No W1).heap.size (No W1) w2):=hb2;clear hb2 ht2
      go_wp2_with fail
      rw[qw];have hst:oM (.string ⟨(rest.drop n).toArray⟩)<oM (.string ⟨rest.toArray⟩):=by show(rest.drop n).toArray.size<rest.toArray.size;simp;omega
      have hbw:Below wr.heap.size (wr.setCells b (8+(L++q).length%64) (aV (rest.take n))) w2:=by rw[HH.out,←HW1.out];exact(Below.drew (Below.refl _ W1)).trans (HB2.out.mono (show wr.heap.size<=W1.heap.size from by rw[HWs.out];exact T6 _))
      have hfu:=HD'.out.full (rest.take n) (by rw[HH.out,hlt];exact hfull) hbw (by rw[←HWs.out];exact hbW);rw[HH.out,HFF.out,HBB.out,HMM.out,Ru]at hfu;have hmod:(L++(q++rest.take n)).length%64=0:=by have:=HH.out;simp only[R5,hlt]at this⊢;omega
      have hgr:w.grownBy W1 (some b):=(by rw[HW1.out];exact eP HG.out (eL _ _ _ _));exact⟨⟨q++rest.take n,rest.drop n,_,by rw[HQ.out];simp,rfl,by rw[hmod];rfl,hfu,eP hgr (eP (rW ((Below.drew (Below.refl _ W1)).trans HB2.out)) (eL _ _ _ _))⟩,hst⟩
    ·refine wpAny_all (rs:=[4]) k_ (Ti _ _) (cH (RI (S:=λw'=>w'=No W1) (v:= .agg (aM FF).toArray) rfl (yieldsIf_load_mid (by rfl) 163 (.tmp 43) rfl b 0 (by go_simp) (aM FF) _ (λw' hw'=>hw'▸eU c2) Lf.underlying163 rfl hi53) rfl ?_));refine wpAny_all (rs:=[9]) k_ (Ti _ _) (cH (vl rfl rfl 131 #[.agg (aM FF).toArray, .agg (aV BB).toArray] (by go_simp) (.agg (aM MM).toArray) _ Hmx.out λw2 hb2=> ?_));refine wT 10 (.pk b 0) ?_;refine wT 11 (.pk b 0) ?_;have ht2:w2.there b 0 (aM MM).toArray.size:=eO hb2 (show b<(No W1).heap.size from hbW) Ht53.out;refine wpAny_all (rs:=[12]) k_ (Ti _ _) (cH (Pz (by rfl) (by rfl) 163 (.tmp 51) (.tmp 49) (by rfl) b 0 (aM MM).toArray ?e4 ?e5 ht2 Hi53.out (all_oneCell_toArray (iH MM)) (by rfl) ?e7))
     case e4=>go_simp
     case e5=>go_simp
     case e7=>
      refine wpAny_done k_ ?_ _;have HB2:Hid (Below (No W1).heap.size (No W1) w2):=hb2;clear hb2 ht2
      go_wp2_with fail
      rw[qw];have hst:oM (.string ⟨(rest.drop n).toArray⟩)<oM (.string ⟨rest.toArray⟩):=by show(rest.drop n).toArray.size<rest.toArray.size;simp;omega
      have hbw:Below wr.heap.size (wr.setCells b (8+(L++q).length%64) (aV (rest.take n))) w2:=by rw[HH.out,←HW1.out];exact(Below.drew (Below.refl _ W1)).trans (HB2.out.mono (show wr.heap.size<=W1.heap.size from by rw[HWs.out];exact T6 _))
      have hfu:=HD'.out.full (rest.take n) (by rw[HH.out,hlt];exact hfull) hbw (by rw[←HWs.out];exact hbW);rw[HH.out,HFF.out,HBB.out,HMM.out,Ru]at hfu;have hmod:(L++(q++rest.take n)).length%64=0:=by have:=HH.out;simp only[R5,hlt]at this⊢;omega
      have hgr:w.grownBy W1 (some b):=(by rw[HW1.out];exact eP HG.out (eL _ _ _ _));exact⟨⟨q++rest.take n,rest.drop n,_,by rw[HQ.out];simp,rfl,by rw[hmod];rfl,hfu,eP hgr (eP (rW ((Below.drew (Below.refl _ W1)).trans HB2.out)) (eL _ _ _ _))⟩,hst⟩
   ·have hfb:(((h:Int)+(n:Int))==64)=false:=by rw[beq_eq_false_iff_ne];omega
    go_wp2_with fail
    rw[qw];have hlt:(rest.take n).length=n:=(by simp;omega);have hst:oM (.string ⟨(rest.drop n).toArray⟩)<oM (.string ⟨rest.toArray⟩):=by show(rest.drop n).toArray.size<rest.toArray.size;simp;omega
    have hmo:=HD'.out.more (rest.take n) (by rw[HH.out,hlt];omega);have hmod:(L++(q++rest.take n)).length%64=h+n:=by have:=HH.out;simp only[R5,hlt]at this⊢;omega
    rw[HH.out,Ru]at hmo;exact⟨⟨q++rest.take n,rest.drop n,_,by rw[HQ.out];simp,rfl,by rw[hmod];simp,hmo,eP HG.out (eL _ _ _ _)⟩,hst⟩
end
section

open Go.RowKit
theorem Lf.size57:((aJ ql tP).info? 166).map (·.size)=some 73:=k_
theorem JH(w:World):
 Calls (aJ ql tP) 110 #[] w λe w'=>e= .returned (.agg ls.toArray)/\Bw w w':=by
 have a:ls.toArray.size=73:=by rw[Q5,fK]
 have f:((aJ ql tP).info? 166).map (·.size)=some ls.toArray.size:=by rw[a];exact Lf.size57
 have b:(w.alloc (.cells Tryz.zeroCells166 166)).there w.heap.size 0 ls.toArray.size:=by rw[a];exact cX _ _ _ _ _ rfl k_
 have d:Hid ((w.alloc (.cells Tryz.zeroCells166 166)).there w.heap.size 0 ls.toArray.size):=b;have c:Hid ((w.alloc (.cells Tryz.zeroCells166 166)).there w.heap.size 0 ls.length):=by show World.there _ _ _ ls.length;rw[fK];exact cX _ _ _ _ _ rfl k_
 have g:Hid (((aJ ql tP).info? 166).map (·.size)=some ls.toArray.size):=f;clear a f b
 go_enter Lf.func110,Tryz.ntmps110
 go_wp2_with (first
  |refine wpList_buildTo rfl 166 #[(0, .tmp 1)] rfl (some 2) rfl ls.toArray k_ ?_
  |refine wpList_store_mid rfl 166 (.tmp 0) (.tmp 2) rfl w.heap.size 0 ls.toArray rfl rfl d.out g.out (all_oneCell_toArray (zG _ _ _)) ?_)
 exact bodyPost_ret (v:= .agg ls.toArray) (fS (p:=0) (ty:=166) k_ _ _ w.heap.size 0 ls _ rfl (AI _ _ _ _ c.out) Lf.underlying166 rfl (by rw[fK];exact Lf.size57)) rfl ⟨rfl,bN (T6 _) _ _ _ _ ((bR).alloc (T6 _) _)⟩
end
section

open Go.RowKit
theorem J0(x:Int)(h:0<=x)(w:World):
 Calls (aJ ql tP) 132 #[.int .u64 x] w λe w'=>e= .returned (.string ⟨(da x.toNat 8).toArray⟩)/\Bw w w':=by obtain⟨n,rfl⟩:=Qu h;exact J1 n w
theorem J6(KS:List Int)(L blk:List UInt8)(w:World)(hbl:blk.length=64)(htl:blk.take (L.length%64)=L.drop (64*(L.length/64)))(hK:w.rangeAt 0 0 (aM KS))(hKl:KS.length=64)(h0:0<w.heap.size)
 (hlen:L.length<=576460752303423488):
 Calls (aJ ql tP) 112 #[.agg (jV (cx KS L (L.length/64)) blk L.length).toArray] w λe w'=>e= .returned (.string ⟨(dU KS L).toArray⟩)/\Bw w w':=by
 have hD:=ff.made w KS L blk L.length 166 hbl htl;generalize jV (cx KS L (L.length/64)) blk L.length=DC at*;have HD:Hid (ff (w.alloc (.cells DC.toArray 166)) w.heap.size KS L blk L.length):=hD;have HK:Hid (w.rangeAt 0 0 (aM KS)):=hK;have Hlen:Hid (L.length<=576460752303423488):=hlen;have hc:=hD.length;have h8:8*(L.length:Int)<=9223372036854775807:=o_
 clear hD hK hbl htl hlen
 go_enter Lf.func112,Tryz.ntmps112
 go_wp2_with fail
 refine(J0 _ o_ _).mono ?_;rintro e w1 ⟨rfl,hb1⟩;rw[show(8*(L.length:Int)).toNat=8*L.length from o_];have hz1:w.heap.size<w1.heap.size:=by have:=hb1.size;simp at this;omega
 have hD1:=HD.out.below hb1 s_;have hc1:=hD1.length;have HD1:Hid (ff w1 w.heap.size KS L blk L.length):=hD1;have Hb1:Hid (Bw w w1):=((bR).alloc (T6 _) _).trans (hb1.mono s_);have hos:(ByteArray.mk (da (8*L.length) 8).toArray).size=8:=by show(da (8*L.length) 8).toArray.size=8;simp[cR]
 generalize hO:da (8*L.length) 8=O at*;have HO:Hid (da (8*L.length) 8=O):=hO;clear hD1 hb1 hO hc
 go_wp2_with fail
 obtain⟨c,hcc⟩:∃c:Nat,c=(119- L.length%64)%64:=⟨_,rfl⟩;rw[show((119-(L.length:Int))%64)=(c:Int)from o_];refine(Lf.strings_Repeat (q:=ql) _ c _ o_ (by show 1*c<=_;omega)).mono ?_;rintro e w2 ⟨rfl,hb2⟩;have hz2:w.heap.size<w2.heap.size:=by have:=hb2.size;omega
 have HD2:Hid (ff w2 w.heap.size KS L blk L.length):=HD1.out.below hb2 hz1;have Hb2:Hid (Bw w w2):=Hb1.out.trans (hb2.mono o_);have HC:Hid (c=(119- L.length%64)%64):=hcc;generalize hR:SO (ByteArray.mk #[0]).data.toList c=R at*;have HR:Hid (SO (ByteArray.mk #[0]).data.toList c=R):=hR;have hRl:R.length<=64:=by rw[←hR,Lib.repeatL_length];show c*1<=64;omega
 have hO8:O.length=8:=by rw[←HO.out,cR]
 clear hb2 hR hcc hc1 hos;have hsd:(ByteArray.mk #[128]++ByteArray.mk R.toArray++ByteArray.mk O.toArray).data.toList=ii L:=by rw[ii,←HC.out,←HR.out,←HO.out];simp
 have hss:(ByteArray.mk #[128]++ByteArray.mk R.toArray++ByteArray.mk O.toArray).size=(ii L).length:=by rw[←hsd,QB];rfl
 have hpl:(ii L).length<=73:=by rw[←hsd];simp;omega
 go_wp2_with fail
 generalize ByteArray.mk #[128]++ByteArray.mk R.toArray++ByteArray.mk O.toArray=sp at*;refine(vk KS L blk sp w2 w.heap.size HD2.out (bC Hb2.out h0 HK.out) hKl h0 hz2 (by have:=Hlen.out;omega)).mono ?_;rintro e w3 ⟨rfl,hg3,blk3,hD3⟩;rw[hsd]at hD3;have HG3:Hid (w2.grownBy w3 (some w.heap.size)):=hg3;have HD3:Hid (ff w3 w.heap.size KS (L++ii L) blk3 (L.length+sp.size)):=hD3;have hz3:w.heap.size<w3.heap.size:=by have:=hg3.size;omega
 have hmk:∀W,(Instr.makeSlice 83 (.i 32) (.i 32)).run (aJ ql tP) W= .ok (.sk W.heap.size 32 32) (W.alloc (.cells (madeCells #[.int .u8 0] 32) 5)):=
  λW=>run_make_row' (P:=(aJ ql tP)) 83 5 (.int .u8 0) 1 Lf.underlying83 Lf.info5 rfl .i64 .i64 32 o_ o_ W
 clear hg3 hD3 hsd hss hpl
 go_wp2
 have hHl:(cx KS (L++ii L) ((L++ii L).length/64)).length=8:=cW _ _ _;have hwr:=HD3.out.words;generalize hH:cx KS (L++ii L) ((L++ii L).length/64)=H at hHl hwr;have HH:Hid (cx KS (L++ii L) ((L++ii L).length/64)=H):=hH;have Hwr:Hid (w3.rangeAt w.heap.size 0 (aM H)):=hwr;have HHl:Hid (H.length=8):=hHl;clear hH hwr hHl hmk
 go_loopw [7,31] (λ_ i wr=>∃k:Nat,k<=32/\i= .i k/\wr=w3.alloc (.cells (sD H k).toArray 5)) (λ_ i _=>32-(intOf i).toNat)
 case atStart=>exact⟨0,o_,rfl,by rw[dt];rfl⟩
 case round=>
  obtain⟨k,hk,rfl,rfl⟩:=hrel;by_cases hlt:k<32
  ·have hg:=yO H k hlt;have hln:=rL H k hk;have hcw:=λo:Obj=>World.cell?_alloc_past (w:=w3) o w.heap.size (k/4) hz3;have hcv:w3.cell? ⟨w.heap.size,k/4,none⟩=some (.int .u32 (H.getD (k/4) 0)):=gU Hwr.out (k/4) (by rw[HHl.out];omega);generalize hx:H.getD (k/4) 0=x at hcv;have HX:Hid (H.getD (k/4) 0=x):=hx;clear hx;have b1:(k:Int)/4<8:=o_;have b2:(0:Int)<=(k:Int)/4:=o_;have b3:(0:Int)<=24- 8*((k:Int)%4):=o_;have hx0:Hid (0<=x):=by show 0<=x;rw[←HX.out,←HH.out];exact oy _ _ _ _
   go_wp2
   go_roundw
   case rel=>exact⟨k+1,o_,by go_num,by rw[yN H k hlt _ (yM H k x HX.out hx0.out)]⟩
   case measure=>simp[intOf];omega
  ·have hk32:k=32:=o_;subst hk32;clear hlt hk;rw[yP];have hcv:=run_convert_bytes_back (P:=(aJ ql tP)) (w3.alloc (.cells (aV ((Q8 32).map (oW H))).toArray 5)) 83 9 5 ⟨w3.heap.size,0,none⟩ 32 ((Q8 32).map (oW H)) Lf.underlying83 Lf.underlying5 Lf.underlying9
    (λj hj=>by rw[QV,QE _ _ _ _ rfl];simp[aV]at hj⊢;simp[hj])
   rw[show((Q8 32).map (oW H)).length=32 from s_]at hcv;generalize hZ:(Q8 32).map (oW H)=Z at*;have HZ:Hid (dU KS L=Z):=(by show dU KS L=Z;rw[dU,HH.out,hZ]);clear hZ
   go_wp2
   go_ret
   refine⟨pK HZ.out.symm, ?_⟩;exact(nD Hb2.out HG3.out (T6 _)).alloc o_ _
end
section

open Go.RowKit
theorem GE(KS:List Int)(ps:List ByteArray)(cap:Nat)(w:World)(b:Nat)(hb:b<w.heap.size)(hcell:∀k (h:k<ps.length),w.cell? ⟨b,k,none⟩=some (.s ps[k]))(hK:w.rangeAt 0 0 (aM KS))(hKl:KS.length=64)
 (hlen:(ey ps ps.length).length<=576460752303423488) (hn:ps.length<=1152921504606846976):
 Calls (aJ ql tP) 91 #[.sk b ps.length cap] w λe w'=>e= .returned (.string ⟨(dU KS (ey ps ps.length)).toArray⟩)/\Bw w w':=by
 have HK:Hid (w.rangeAt 0 0 (aM KS)):=hK;have Hc:Hid (∀k (h:k<ps.length),w.cell? ⟨b,k,none⟩=some (.s ps[k])):=hcell;have Hlen:Hid ((ey ps ps.length).length<=576460752303423488):=hlen;have hsz:ls.toArray.size=73:=by rw[Q5,fK]
 have Hi:Hid (((aJ ql tP).info? 166).map (·.size)=some ls.toArray.size):=by show _=some ls.toArray.size;rw[hsz];exact Lf.size57
 clear hK hcell hlen
 go_enter Lf.func91,Tryz.ntmps91
 go_wp2_with fail
 refine(JH _).mono ?_;rintro e w1 ⟨rfl,hb1⟩;have hs1:=hb1.size;have hth:(w1.alloc (.cells Tryz.zeroCells166 166)).there w1.heap.size 0 73:=cX _ _ _ _ _ rfl k_;have hst:=run_storeCells_cells (P:=(aJ ql tP)) w1.heap.size 0 ls 0 (w1.alloc (.cells Tryz.zeroCells166 166)) (λj hj=>by rw[fK]at hj;exact(hth j hj).1) (λj hj=>by rw[fK]at hj;exact(hth j hj).2) (zG _ _ _);simp only[Nat.add_zero]at hst;have HD1:Hid (ff ((w1.alloc (.cells Tryz.zeroCells166 166)).setCells w1.heap.size 0 ls) w1.heap.size KS [] (OF 64 0) 0):=ff.new w1 KS _ _ k_;have Hb1:Hid (Bw w w1):=hb1;clear hb1 hsz hth Hi
 go_wp2
 clear hst
 go_loopw [5,9] (λ_ i wr=>∃(k:Nat) (blk:List UInt8),k<=ps.length/\i= .i k/\ff wr w1.heap.size KS (ey ps k) blk (ey ps k).length/\Bw w wr/\w1.heap.size<wr.heap.size) (λ_ i _=>ps.length-(intOf i).toNat)
 case atStart=>exact⟨0,OF 64 0,QH _,rfl,HD1.out,bN hs1 _ _ _ _ (Hb1.out.alloc hs1 _),by rw[ge];simp⟩
 case round=>
  obtain⟨k,blk,hk,rfl,hD,hB,hz⟩:=hrel;have HD:Hid (ff wr w1.heap.size KS (ey ps k) blk (ey ps k).length):=hD;have HB:Hid (Bw w wr):=hB;clear hD hB HD1;by_cases hlt:k<ps.length
  ·have hcl:wr.cell? ⟨b,k,none⟩=some (.s ps[k]):=(by rw[HB.out.cell (p:=⟨b,k,none⟩) hb];exact Hc.out k hlt);have hlt':(k:Int)<(ps.length:Int):=o_;generalize hp:ps[k]=p at hcl;have HP:Hid (ey ps (k+1)=ey ps k++p.data.toList):=(by show ey ps (k+1)=_;rw[Fj ps k hlt,hp]);have hpl:(ey ps k).length+p.size<=4611686018427387904:=by have h1:=Ks ps (k+1);have h2:=HP.out;have h3:=Hlen.out;have h4:p.data.toList.length=p.size:=(by rw[QB];rfl);rw[h2,R5,h4]at h1;omega
   clear hp
   go_wp2_with fail
   refine(vk KS (ey ps k) blk p wr w1.heap.size HD.out (bC HB.out o_ HK.out) hKl o_ hz hpl).mono ?_;rintro e w4 ⟨rfl,hg4,blk4,hD4⟩;have hz4:w1.heap.size<w4.heap.size:=(by have:=hg4.size;omega);have hB4:Bw w w4:=nD HB.out hg4 hs1;have h4:p.data.toList.length=p.size:=(by rw[QB];rfl);have HD4:Hid (ff w4 w1.heap.size KS (ey ps (k+1)) blk4 (ey ps (k+1)).length):=by show ff w4 w1.heap.size KS (ey ps (k+1)) blk4 (ey ps (k+1)).length;rw[HP.out,R5,h4];exact hD4
   have HB4:Hid (Bw w w4):=hB4;clear hg4 hD4 hB4 h4 hpl
   go_wp2
   go_roundw
   case rel=>exact⟨k+1,blk4,o_,by go_num,HD4.out,HB4.out,hz4⟩
   case measure=>simp[intOf];omega
  ·have hkl:k=ps.length:=o_;subst hkl;clear hlt hk;have hdl:=zH KS (ey ps ps.length) blk (ey ps ps.length).length ((ey ps ps.length).length/64) HD.out.len;have hi57:((aJ ql tP).info? 166).map (·.size)=some (jV (cx KS (ey ps ps.length) ((ey ps ps.length).length/64)) blk (ey ps ps.length).length).length:=(by rw[hdl];exact Lf.size57);have Hwh:Hid (wr.rangeAt w1.heap.size 0 (jV (cx KS (ey ps ps.length) ((ey ps ps.length).length/64)) blk (ey ps ps.length).length)):=HD.out.whole;have hsum:=J6 (ql:=ql) KS (ey ps ps.length) blk wr HD.out.len HD.out.tail (bC HB.out o_ HK.out) hKl o_ Hlen.out;generalize jV (cx KS (ey ps ps.length) ((ey ps ps.length).length/64)) blk (ey ps ps.length).length=DC at*;have Hsum:Hid (Calls _ _ _ _ _):=hsum;have Hi57:Hid (((aJ ql tP).info? 166).map (·.size)=some DC.length):=hi57;clear hsum hdl hi57
   go_wp2_with (refine wpList_load_mid rfl 166 (.tmp 3) rfl w1.heap.size 0 rfl DC _ Hwh.out Lf.underlying166 rfl Hi57.out ?_)
   refine Hsum.out.mono ?_;rintro e w5 ⟨rfl,hb5⟩
   go_wp2
   go_ret
   exact⟨rfl,HB.out.trans (hb5.mono (by have:=HB.out.size;omega))⟩
end
section

open Go Go.Conc Go.RowKit
section
variable{s:dw}{y z:Operand}
theorem cq:FI (aJ ql tP) 3:=λw=>⟨k_,k_⟩
theorem bA:FI (aJ ql tP) 9:=λw=>⟨k_,k_⟩
theorem tQ:FI (aJ ql tP) 24:=λw=>⟨k_,k_⟩
theorem rM:FI (aJ ql tP) 43:=λw=>⟨k_,k_⟩
theorem aN{ad:Addr}(d:FI (aJ ql tP) t)(a:o.op= .load t x)(b:ev x= .pointer (some ad))(h:w.cell? ad=some v):Yl (aJ ql tP) ev o w v #[⟨.cell ad,false,false⟩]:=by
 obtain⟨c,e⟩:=d w;constructor
 ·simp[execOp,a,b,AT,loadVar,c,h,go_sem]
 ·simp[execOp,a,b,AT,loadVar,c,e,h,go_sem]
theorem l6{ex:Array Value}(e:o.op= .load 119 x)(t:ev x= .pk b 0)(h:w.heap[b]?=some (.cells (s.cells++ex) 119)):Yl (aJ ql tP) ev o w (.agg s.cells) (m7 b):=by
 have u:(isAgg 119).run (aJ ql tP) w= .ok true w:=k_
 have y:(isAgg 119).events (aJ ql tP) w #[]=#[]:=k_
 have a:∀k,k<12->w.cell? ⟨b,k,none⟩=s.cells[k]?:=λk v=>(aH h k).trans (QT v);have r:w.cell? ⟨b,0,none⟩=some (.s s.tree):=a 0 d_;have q:w.cell? ⟨b,1,none⟩=some (.s s.chains):=a 1 d_;have p:w.cell? ⟨b,2,none⟩=some (.s s.id):=a 2 d_;have n:w.cell? ⟨b,3,none⟩=some (.s s.root):=a 3 d_;have m:w.cell? ⟨b,4,none⟩=some (.i s.height):=a 4 d_;have l:w.cell? ⟨b,5,none⟩=some (.i s.width):=a 5 d_;have j:w.cell? ⟨b,6,none⟩=some (.i s.count):=a 6 d_;have i:w.cell? ⟨b,7,none⟩=some (.i s.shift):=a 7 d_;have g:w.cell? ⟨b,8,none⟩=some (.i s.q):=a 8 d_;have f:w.cell? ⟨b,9,none⟩=some (.s s.salt):=a 9 d_;have d:w.cell? ⟨b,10,none⟩=some (.s s.links):=a 10 d_;have c:w.cell? ⟨b,11,none⟩=some (.s s.path):=a 11 d_;constructor
 ·simp[execOp,e,t,AT,loadVar,u,loadCells,loadCellsFrom,QM,r,q,p,n,m,l,j,i,g,f,d,c,dw.cells,go_sem]
 ·simp[execOp,e,t,AT,loadVar,u,y,loadCells,loadCellsFrom,QM,r,q,p,n,m,l,j,i,g,f,d,c,m7,go_sem]
theorem sY(a:o.op= .fieldAddr 119 x 0)(c:ev x= .pk b k):Yl (aJ ql tP) ev o w (.pk b k) #[]:=by
 have e:execOp ev o=(do pure (.value (←BY 119 (.pk b k) 0))):=by simp only[execOp,a,c]
 unfold Yl;rw[e];constructor<;>kernel_rfl
theorem xT(a:o.op= .fieldAddr 115 x 6)(c:ev x= .pk b 0):Yl (aJ ql tP) ev o w (.pk b 6) #[]:=by
 have e:execOp ev o=(do pure (.value (←BY 115 (.pk b 0) 6))):=by simp only[execOp,a,c]
 unfold Yl;rw[e];constructor<;>kernel_rfl
theorem FJ(a:o.op= .fieldAddr 119 x 3)(c:ev x= .pk b 0):Yl (aJ ql tP) ev o w (.pk b 10) #[]:=by
 have e:execOp ev o=(do pure (.value (←BY 119 (.pk b 0) 3))):=by simp only[execOp,a,c]
 unfold Yl;rw[e];constructor<;>kernel_rfl
theorem lK{m n:Int}(a:o.op= .binOp .lss 3 x y u)(c:ev x= .i m)(b:ev y= .i n):Yl (aJ ql tP) ev o w (.bool (decide (m<n))) #[]:=by constructor<;>simp[execOp,a,c,b,go_sem]
theorem oH{m n:Int}(a:o.op= .binOp .add 3 x y u)(c:ev x= .i m)(b:ev y= .i n)(h: -9223372036854775808<=m+n/\m+n<9223372036854775808):Yl (aJ ql tP) ev o w (.i (m+n)) #[]:=by
 have e:Q4.wrap (m+n)=m+n:=by rw[Q3];omega
 constructor<;>simp[execOp,a,c,b,go_sem,e]
theorem jC{m n:Int}(a:o.op= .binOp .mul 3 x y u)(c:ev x= .i m)(b:ev y= .i n)(h: -9223372036854775808<=m*n/\m*n<9223372036854775808):Yl (aJ ql tP) ev o w (.i (m*n)) #[]:=by
 have e:Q4.wrap (m*n)=m*n:=by rw[Q3];omega
 constructor<;>simp[execOp,a,c,b,go_sem,e]
theorem sX(a:o.op= .unOp .not t x)(b:ev x= .bool q):Yl (aJ ql tP) ev o w (.bool (!q)) #[]:=by constructor<;>simp[execOp,a,b,go_sem,Op.unary]
theorem dR{t:ByteArray}(a:o.op= .slice 9 x (some y) (some z) none)(d:ev x= .s t)(c:ev y= .i m)(b:ev z= .i n)(h:m<=n)(f:n<=t.size):Yl (aJ ql tP) ev o w (.s (t.extract m n)) #[]:=by
 have e:(aJ ql tP).underlying 9=some .string:=k_
 constructor
 ·simp[execOp,a,d,c,b,QG,R0,Qq,run_underlying e,Qx,asIntOf,h,f]
 ·simp[execOp,a,d,c,b,QG,R0,Qq,run_underlying e,Qx,asIntOf,h,f,go_sem]
theorem dx{e:TypeId}{a:Addr}{len cap:Nat}(f:(aJ ql tP).underlying t=some (.slice e))(h:∀w:World,(sizeOf e).run (aJ ql tP) w= .ok 1 w)(b:o.op= .indexAddr t x y)(d:ev x= .slice (some a) len cap)(c:ev y= .i n)(g:n<len):
 Yl (aJ ql tP) ev o w (.pointer (some (a.add n))) #[]:=by have i:=h w;constructor<;>simp[execOp,b,d,c,go_sem,f,i,g]
theorem jk(a:o.op= .alloc 3):Mk (aJ ql tP) ev o w #[.i 0] 3:=by
 have e:execOp ev o=(do pure (.value (←Qz 3 true (.tuple #[])))):=by simp only[execOp,a]
 unfold Mk;rw[e];constructor<;>kernel_rfl
theorem lu(a:o.op= .alloc 43):Mk (aJ ql tP) ev o w #[.slice none 0 0] 43:=by
 have e:execOp ev o=(do pure (.value (←Qz 43 true (.tuple #[])))):=by simp only[execOp,a]
 unfold Mk;rw[e];constructor<;>kernel_rfl
theorem dH{b:Nat}{v0:Value}(hv:v.cells=#[v])(a:v.oneCell'=true)(d:(sizeOf t).run (aJ ql tP) w= .ok 1 w)(c:o.op= .store t x y)(i:ev x= .pk b k)(g:ev y=v)(h:w.cell? ⟨b,k,none⟩=some v0)(f:w.frozen? ⟨b,k,none⟩=false):
 (execOp ev o).run (aJ ql tP) w= .ok .skip (w.setCell ⟨b,k,none⟩ v)/\(execOp ev o).events (aJ ql tP) w #[]=#[⟨.cell ⟨b,k,none⟩,true,false⟩]:=by
 have e:execOp ev o=(do Rc t (.pk b k) v;pure .skip):=by simp only[execOp,c,i,g]
 rw[e];simp only[Rc,storeVar,hv];constructor
 ·simp[d,storeCells,QM,run_store _ _ _ _ _ a,h,f,go_sem]
 ·simp[d,storeCells,QM,events_store (hv:=a),h,f,go_sem]
end
end
section

open Go.RowKit
theorem Ll(n:Nat)(c:n<9223372036854775808)(w:World):
 Calls (aJ ql tP) 151 #[.i n] w λe w'=>e= .returned (.string ⟨(da n 1).toArray⟩)/\Bw w w':=by
 have b:R4.wrap (n:Int)=n:=by rw[QZ];omega
 go_enter Lf.func151,Tryz.ntmps151
 go_wp2_with (go_at_call 106;refine(py n 1 _ o_).mono ?_;rintro e w' ⟨rfl,a⟩)
 go_ret
 exact⟨rfl,a⟩
theorem nP(n:Nat)(c:n<9223372036854775808)(w:World):
 Calls (aJ ql tP) 92 #[.i n] w λe w'=>e= .returned (.string ⟨(da n 2).toArray⟩)/\Bw w w':=by
 have b:R4.wrap (n:Int)=n:=by rw[QZ];omega
 go_enter Lf.func92,Tryz.ntmps92
 go_wp2_with (go_at_call 106;refine(py n 2 _ o_).mono ?_;rintro e w' ⟨rfl,a⟩)
 go_ret
 exact⟨rfl,a⟩
theorem sO(n:Nat)(c:n<9223372036854775808)(w:World):
 Calls (aJ ql tP) 89 #[.i n] w λe w'=>e= .returned (.string ⟨(da n 4).toArray⟩)/\Bw w w':=by
 have b:R4.wrap (n:Int)=n:=by rw[QZ];omega
 go_enter Lf.func89,Tryz.ntmps89
 go_wp2_with (go_at_call 106;refine(py n 4 _ o_).mono ?_;rintro e w' ⟨rfl,a⟩)
 go_ret
 exact⟨rfl,a⟩
theorem Cz(s:dw)(n:Nat)(b:s.width=n)(c:n<=8)(w:World):
 Calls (aJ ql tP) 108 #[.agg s.key] w λe w'=>e= .returned (.i (cU n))/\Bw w w':=by
 have a:n=0\/n=1\/n=2\/n=3\/n=4\/n=5\/n=6\/n=7\/n=8:=o_
 unfold dw.key;rw[b];rcases a with rfl|rfl|rfl|rfl|rfl|rfl|rfl|rfl|rfl
 all_goals
  go_enter Lf.func108,Tryz.ntmps108
  go_wp2
  go_ret
  exact⟨by simp[cU],PK w _⟩
end
section

open Go Go.Conc Go.RowKit
theorem Me:Tryz.f120.body=some (.seq (rG Tryz.f120 0) (.seq (rD Tryz.f120 1) (.seq (.seq (rG Tryz.f120 2)
 (.block 0 (.rangeFunc (.tmp 24) #[25] (rG Tryz.f120 3) (.block 1 (rD Tryz.f120 4))))) (.seq (rG Tryz.f120 5) .ret)))):=k_
theorem E6(a:Array Value)(d:Int)(w:World):
 Calls (aJ ql tP) 150 #[.agg a, .i d] w λe w'=>e= .returned (.func (.func 173) #[] #[.pk (w.heap.size+1) 0, .pk w.heap.size 0])/\w'=(w.alloc (.cells a 115)).alloc (.cells #[.i d] 3):=by
 go_enter Lf.func150,Tryz.ntmps150
 go_wp2
 go_ret
 exact⟨s_,rfl⟩
section
variable{s:dw}{y:Operand}
theorem Nu(a:o.op= .fieldAddr 115 x 2)(c:ev x= .pk b 0):Yl (aJ ql tP) ev o w (.pk b 2) #[]:=by
 have e:execOp ev o=(do pure (.value (←BY 115 (.pk b 0) 2))):=by simp only[execOp,a,c]
 unfold Yl;rw[e];constructor<;>kernel_rfl
theorem ON(a:o.op= .fieldAddr 119 x 1)(c:ev x= .pk b 0):Yl (aJ ql tP) ev o w (.pk b 8) #[]:=by
 have e:execOp ev o=(do pure (.value (←BY 119 (.pk b 0) 1))):=by simp only[execOp,a,c]
 unfold Yl;rw[e];constructor<;>kernel_rfl
theorem iy{cs:Array Value}(c:o.op= .load 115 x)(n:ev x= .pk b 0)(h:w.heap[b]?=some (.cells cs t))(a:∀i,i<8->cs[i]?=s.key[i]?):(execOp ev o).run (aJ ql tP) w= .ok (.value (.agg s.key)) w:=by
 have q:(isAgg 115).run (aJ ql tP) w= .ok true w:=k_
 have p:=aH h;have m:=a 0 d_;have l:=a 1 d_;have k:=a 2 d_;have j:=a 3 d_;have g:=a 4 d_;have f:=a 5 d_;have e:=a 6 d_;have d:=a 7 d_;simp[dw.key]at m l k j g f e d;simp[execOp,c,n,AT,loadVar,q,loadCells,loadCellsFrom,QM,p,m,l,k,j,g,f,e,d,dw.key,go_sem]
theorem eF{t u:ByteArray}{z:TypeId}(a:o.op= .binOp .add 9 x y z)(c:ev x= .s t)(b:ev y= .s u)(h:t.size+u.size<=9223372036854775807):(execOp ev o).run (aJ ql tP) w= .ok (.value (.s (t++u))) w:=by simp[execOp,a,c,b,h,go_sem]
theorem qA(a:o.op= .alloc 9):Mk (aJ ql tP) ev o w #[.string ⟨#[]⟩] 9:=by
 have e:execOp ev o=(do pure (.value (←Qz 9 true (.tuple #[])))):=by simp only[execOp,a]
 unfold Mk;rw[e];constructor<;>kernel_rfl
end
end
section

open Go Go.Conc Go.RowKit
theorem Pd:Dj (bK Tryz.f120 1)=true:=k_
section
variable{s:dw}{d:Int}{k:List Item}
theorem P1{link:ByteArray}(D:Cq s i d link)(h4:w.heap[b4]?=some (.cells s.cells 119))(hF:∀p∈JR b4 b7 i d,a.tmps[p.1]?=some p.2)(hz:33<=a.tmps.size)(a3:a.defers=[])
 (next:∀a' w' b9,Has [(9, .pt b9),(1, .i i),(2, .i d),(4, .pt b4),(7, .pt b7)] 33 [] a'->Bw w w'->w.heap.size<=b9->w'.heap[b9]?=some (.cells #[.s (zT s i)] 9)->Rn (aJ ql tP) Goal ((base 120).atR a' k) cs w'):
 Rn (aJ ql tP) Goal ((base 120).atR a (.code (rD Tryz.f120 1)::k)) cs w:=by
 have hq:(s.q.toNat:Int)=s.q:=Int.toNat_of_nonneg D.q.1;have a5:=D.q.2;refine Rn.draw λt=> ?_;have O:QJ (((aJ ql tP)).follows .mixedOrders) (bK Tryz.f120 1) t=Qd .any (bK Tryz.f120 1) t:=by unfold QJ;rw[show SP (bK Tryz.f120 1)=false from k_];simp
 rw[O];refine Rn.ordered (BV Pd) (λf a w'=>gp (JR b4 b7 i d) (E1 s b4 i) 33 f a/\Bw w w'/\Al w (zT s i) 9 f a w'/\(f[11]?=some true->∀n,n<11->f[n]?=some true)) (λf a w' M h=> ?_) (λf a w' m o L a4 g hm j h r=> ?_) t a _ ⟨⟨a3,hz,hF,λp H hl=> ?_⟩,gw w,λh=> ?_,λh=> ?_⟩
 ·obtain⟨z,E,I,u⟩:=h;obtain⟨p,K,H,x,N,W⟩:=I (M 10 d_);rw[W (M 11 d_)]at N;refine Rn.p rfl (next a w' p ⟨z.defers,z.size,λe v J=> ?_⟩ E H N);by_cases q9:e=9
  ·subst q9;simp only[IT,beq_self_eq_true,Option.some.injEq]at J;subst J;exact K
  by_cases q1:e=1
  ·subst q1;simp[IT]at J;subst J;exact z.fixed _ (mG (i:=0) rfl)
  by_cases q2:e=2
  ·subst q2;simp[IT]at J;subst J;exact z.fixed _ (mG (i:=1) rfl)
  by_cases q4:e=4
  ·subst q4;simp[IT]at J;subst J;exact z.fixed _ (mG (i:=2) rfl)
  by_cases q7:e=7
  ·subst q7;simp[IT]at J;subst J;exact z.fixed _ (mG (i:=3) rfl)
  simp[IT,show(e==9)=false from by simpa using q9,show(e==1)=false from by simpa using q1,show(e==2)=false from by simpa using q2,show(e==4)=false from by simpa using q4,show(e==7)=false from by simpa using q7]at J
 ·obtain⟨z,E,I,u⟩:=h;have a6:m<12:=(gA g).1;have T:w'.heap[b4]?=some (.cells s.cells 119):=(E.block b4 (gA h4).1).trans h4;have G:w.heap.size<=w'.heap.size:=E.size;have l:∀{m:Nat} {o:Oper} {e:Nat} (v:Value),(m,e,v)∈E1 s b4 i->o.dst=some e->(∀y,Te o y=true)->(∀c,o.op≠ .defer c)->(m≠10/\m≠11)->e≠9->(bK Tryz.f120 1)[m]?=some o->(execOp a.eval o).run (aJ ql tP) w'= .ok (.value v) w'->
   (∀a' C,gp (JR b4 b7 i d) (E1 s b4 i) 33 (f.setIfInBounds m true) a'/\Bw w C/\Al w (zT s i) 9 (f.setIfInBounds m true) a' C/\((f.setIfInBounds m true)[11]?=some true->∀n,n<11->(f.setIfInBounds m true)[n]?=some true)->Rn (aJ ql tP) Goal ((base 120).atR a' (.inRegion (bK Tryz.f120 1) L::k)) cs C)->
   Rn (aJ ql tP) Goal ((base 120).atR a (.inRegion (bK Tryz.f120 1) (m::L)::k)) cs w':=λ{m o e} v S B A a0 Q a2 g V r=>by refine Rn.ran g (A _) a0 V ?_;rw[B];exact r _ _ ⟨Ly z S,E,I.step Q a2 (bR),nj Q.2 u⟩
  rcases(o_:m=0\/m=1\/m=2\/m=3\/m=4\/m=5\/m=6\/m=7\/m=8\/m=9\/m=10\/m=11)with rfl|rfl|rfl|rfl|rfl|rfl|rfl|rfl|rfl|rfl|rfl|rfl
  ·obtain⟨B,q,A⟩:=cA (d:=some 11) (p:= .fieldAddr 119 (.tmp 4) 0) g k_;refine l (m:=0) _ (mG (i:=0) rfl) B A (by rw[q];simp) d_ d_ g ?_ r;exact(sY q (aA (z.fixed _ (mG (i:=2) rfl)))).1
  ·obtain⟨B,q,A⟩:=cA (d:=some 12) (p:= .fieldAddr 115 (.tmp 11) 2) g k_;refine l (m:=1) _ (mG (i:=1) rfl) B A (by rw[q];simp) d_ d_ g ?_ r;exact(Nu q (aA (z.come _ (mG (i:=0) rfl) (ce (n:=1) (k:=0) k_ g j)))).1
  ·obtain⟨B,q,A⟩:=cA (d:=some 13) (p:= .load 9 (.tmp 12)) g k_;refine l (m:=2) _ (mG (i:=2) rfl) B A (by rw[q];simp) d_ d_ g ?_ r;exact(aN bA q (aA (z.come _ (mG (i:=1) rfl) (ce (n:=2) (k:=1) k_ g j))) (by rw[aH T];rfl)).1
  ·obtain⟨B,q,A⟩:=cA (d:=some 14) (p:= .fieldAddr 119 (.tmp 4) 1) g k_;refine l (m:=3) _ (mG (i:=3) rfl) B A (by rw[q];simp) d_ d_ g ?_ r;exact(ON q (aA (z.fixed _ (mG (i:=2) rfl)))).1
  ·obtain⟨B,q,A⟩:=cA (d:=some 15) (p:= .load 3 (.tmp 14)) g k_;refine l (m:=4) _ (mG (i:=4) rfl) B A (by rw[q];simp) d_ d_ g ?_ r;exact(aN cq q (aA (z.come _ (mG (i:=3) rfl) (ce (n:=4) (k:=3) k_ g j))) (by rw[aH T];show some (Value.i s.q)=_;rw[hq])).1
  ·obtain⟨B,q,A⟩:=cA (d:=some 16) (p:= .call {callee:= .value (.func 89),args:=#[.tmp 15],argTypes:=#[3]}) g k_;have a1:=(aA (z.come _ (mG (i:=4) rfl) (ce (n:=5) (k:=4) k_ g j)));have Z:=bG (w:=w') q (show(#[Operand.tmp 15]:Array Operand).map a.eval=#[.i s.q.toNat]from by simp[a1]) (dS (P:=(aJ ql tP)) Lf.func89 k_ k_ _);refine Rn.call g (A _) (by rw[q];simp) Z.1 (R:=λv C=>v= .string ⟨(da s.q.toNat 4).toArray⟩/\Bw w' C) ?_ λv C X=> ?_
   ·refine(sO s.q.toNat o_ w').mono ?_;rintro e C ⟨rfl,hb⟩;exact⟨_,rfl,rfl,hb⟩
   ·obtain⟨rfl,F⟩:=X;rw[B];exact r _ _ ⟨Ly z (mG (i:=5) rfl),aE E G F,I.step d_ d_ F,nj d_ u⟩
  ·obtain⟨B,q,A⟩:=cA (d:=some 17) (p:= .binOp .add 9 (.tmp 13) (.tmp 16) 9) g k_;refine l (m:=6) _ (mG (i:=6) rfl) B A (by rw[q];simp) d_ d_ g ?_ r;exact eF q (aA (z.come _ (mG (i:=2) rfl) (ce (n:=6) (k:=2) k_ g j))) (aA (z.come _ (mG (i:=5) rfl) (ce (n:=6) (k:=5) k_ g j))) (by rw[lr];have:=D.id;omega)
  ·obtain⟨B,q,A⟩:=cA (d:=some 18) (p:= .move (.tmp 1)) g k_;refine l (m:=7) _ (mG (i:=7) rfl) B A (by rw[q];simp) d_ d_ g ?_ r;have V:=(cB (ev:=a.eval) (o:=o) (w:=w') (aJ ql tP) (.inl q)).1;rw[(aA (z.fixed _ (mG (i:=0) rfl)))]at V;exact V
  ·obtain⟨B,q,A⟩:=cA (d:=some 19) (p:= .call {callee:= .value (.func 92),args:=#[.tmp 18],argTypes:=#[3]}) g k_;have a1:=(aA (z.come _ (mG (i:=7) rfl) (ce (n:=8) (k:=7) k_ g j)));have Z:=bG (w:=w') q (show(#[Operand.tmp 18]:Array Operand).map a.eval=#[.i i]from by simp[a1]) (dS (P:=(aJ ql tP)) Lf.func92 k_ k_ _);refine Rn.call g (A _) (by rw[q];simp) Z.1 (R:=λv C=>v= .string ⟨(da i 2).toArray⟩/\Bw w' C) ?_ λv C X=> ?_
   ·refine(nP i (by have:=D.i;omega) w').mono ?_;rintro e C ⟨rfl,hb⟩;exact⟨_,rfl,rfl,hb⟩
   ·obtain⟨rfl,F⟩:=X;rw[B];exact r _ _ ⟨Ly z (mG (i:=8) rfl),aE E G F,I.step d_ d_ F,nj d_ u⟩
  ·obtain⟨B,q,A⟩:=cA (d:=some 20) (p:= .binOp .add 9 (.tmp 17) (.tmp 19) 9) g k_;refine l (m:=9) _ (mG (i:=9) rfl) B A (by rw[q];simp) d_ d_ g ?_ r;exact eF q (aA (z.come _ (mG (i:=6) rfl) (ce (n:=9) (k:=6) k_ g j))) (aA (z.come _ (mG (i:=8) rfl) (ce (n:=9) (k:=8) k_ g j))) (by rw[ByteArray.size_append,lr,lr];have:=D.id;omega)
  ·obtain⟨B,q,A⟩:=cA (d:=some 9) (p:= .alloc 9) g k_;refine Rn.ran g (A _) (by rw[q];simp) (qA q).1 ?_;rw[B];refine r _ _ ⟨z.aside (λp H=> ?_) (λp H=> ?_),aE E G (PK w' _),λ_=>⟨w'.heap.size, ?_,G,_,aP w' _,λU=> ?_⟩,nj d_ u⟩
   ·simp only[JR,PZ,If,or_false]at H;rcases H with rfl|rfl|rfl|rfl<;>simp
   ·simp only[E1,PZ,If,or_false]at H;rcases H with rfl|rfl|rfl|rfl|rfl|rfl|rfl|rfl|rfl|rfl<;>simp
   ·exact Tc (T7 d_ z.size)
   ·rw[sN d_]at U;exact absurd (u U 10 d_) (by rw[hm];simp)
  ·obtain⟨B,q,A⟩:=cA (d:=none) (p:= .store 9 (.tmp 9) (.tmp 20)) g k_;obtain⟨p,K,H,x,N,_⟩:=I (ce (n:=11) (k:=10) k_ g j);have Y:=dH (ql:=ql) (w:=w') (b:=p) (k:=0) (v:= .s (zT s i)) (v0:= .s x) rfl rfl k_ q (aA K) (aA (z.come _ (mG (i:=9) rfl) (ce (n:=11) (k:=9) k_ g j))) (by rw[aH N];rfl) (by unfold Qa;rw[show w'.heap[(⟨p,0,none⟩:Addr).block]?=_ from N];simp);refine Rn.did g (A _) (by rw[q];simp) Y.1 ?_;rw[B];refine r _ _ ⟨z.pass (λp H=> ?_) _,E.trans (cP w' _ _ H),λ_=>⟨p,K,H,_,jF N,λ_=>rfl⟩,λ_ n hn=> ?_⟩
   ·simp only[E1,PZ,If,or_false]at H;rcases H with rfl|rfl|rfl|rfl|rfl|rfl|rfl|rfl|rfl|rfl<;>simp
   ·rw[sN o_];exact um g j k_ n hn
 ·simp[Qf]at hl
 ·simp[Qf]at h
 ·simp[Qf]at h
end
end
section

open Go Go.Conc Go.RowKit
theorem Oh:Dj (bK Tryz.f120 4)=true:=k_
theorem Eg{ev:Operand->Value}{y z:Operand}{t u v:ByteArray}(a:o.op= .buildSlice 43 3 #[(0,x),(1,y),(2,z)])(d:ev x= .s t)(c:ev y= .s u)(b:ev z= .s v):
 (execOp ev o).run (aJ ql tP) w= .ok (.value (.sk w.heap.size 3 3)) (w.alloc (.cells #[.s t, .s u, .s v] 9)):=by
 have e:execOp ev o=(do pure (.value (←Instr.buildSlice 43 3 #[(0, .s t),(1, .s u),(2, .s v)]))):=by simp[execOp,a,d,c,b]
 have f:(do pure (.value (←Instr.buildSlice 43 3 #[(0, .s t),(1, .s u),(2, .s v)])):Sem Next).run (aJ ql tP) w= .ok (.value (.sk w.heap.size 3 3)) (w.alloc (.cells #[.s t, .s u, .s v] 9)):=k_
 rw[e,f]
section
variable{s:dw}{x:List UInt8}{k:List Item}
theorem P0(a6:KS.length=64)(a9:s.id.size<65536)(hj:j<256)(hx:x.length=32)(hK:w.rangeAt 0 0 (aM KS))(h0:0<w.heap.size)(h7:w.heap[b7]?=some (.cells #[.string ⟨x.toArray⟩] 9))(h9:w.heap[b9]?=some (.cells #[.s (zT s i)] 9))
 (hF:∀p∈uT b7 b9 j,a.tmps[p.1]?=some p.2) (hz:33<=a.tmps.size) (a4:a.defers=[])
 (next:∀a' w1,Bw w w1->Rn (aJ ql tP) Goal ((rb 120 l).atR a' k) cs (w1.setCell ⟨b7,0,none⟩ (.string ⟨(kq KS (jM s i) j x).toArray⟩))):
 Rn (aJ ql tP) Goal ((rb 120 l).atR a (.code (rD Tryz.f120 4)::k)) cs w:=by
 refine Rn.draw λt=> ?_;have V:QJ (((aJ ql tP)).follows .mixedOrders) (bK Tryz.f120 4) t=Qd .any (bK Tryz.f120 4) t:=by unfold QJ;rw[show SP (bK Tryz.f120 4)=false from k_];simp
 rw[V];refine Rn.ordered (BV Oh) (λf a g=>gp (uT b7 b9 j) (pz s i j x) 33 f a/\On w b7 (.string ⟨(kq KS (jM s i) j x).toArray⟩) f g/\A4 #[.s (zT s i), .string ⟨(da j 1).toArray⟩, .string ⟨x.toArray⟩] 9 f a g/\A5 (.string ⟨(kq KS (jM s i) j x).toArray⟩) f a/\(f[6]?=some true->∀n,n<6->f[n]?=some true))
  (λf a g Z h=> ?_) (λf a g m o S a0 q hm z h C=> ?_) t a _ ⟨⟨a4,hz,hF,λp A hl=> ?_⟩, .inl ⟨by rfl,gw w⟩,λh=> ?_,λh=> ?_,λh=> ?_⟩
 ·obtain⟨F,O,_⟩:=h;rcases O with⟨J,_⟩|⟨_,w1,a5,rfl⟩
  ·rw[Z 6 d_]at J;cases J
  ·exact Rn.p rfl (next a w1 a5)
 ·obtain⟨F,O,N,M,u⟩:=h;have X:m<7:=(gA q).1;have J:m<7->f[6]?=some false:=λ_=>by
   rcases O with⟨J,_⟩|⟨J,_⟩
   ·exact J
   ·exfalso;by_cases e:m=6
    ·subst e;rw[hm]at J;cases J
    ·have:=u J m o_;rw[hm]at this;cases this
  have D:Bw w g:=by
   rcases O with⟨_,Y⟩|⟨h,_⟩
   ·exact Y
   ·rw[J X]at h;cases h
  have Q:g.heap[b7]?=some (.cells #[.string ⟨x.toArray⟩] 9):=(D.block b7 (gA h7).1).trans h7;have a7:g.heap[b9]?=some (.cells #[.s (zT s i)] 9):=(D.block b9 (gA h9).1).trans h9;have K:w.heap.size<=g.heap.size:=D.size;have G:∀{m:Nat} {o:Oper} {e:Nat} (v:Value),(m,e,v)∈pz s i j x->o.dst=some e->(∀y,Te o y=true)->(∀c,o.op≠ .defer c)->(m≠4/\m≠5/\m≠6)->(e≠30/\e≠31)->(bK Tryz.f120 4)[m]?=some o->(execOp a.eval o).run (aJ ql tP) g= .ok (.value v) g->
   (∀a' r,gp (uT b7 b9 j) (pz s i j x) 33 (f.setIfInBounds m true) a'/\On w b7 (.string ⟨(kq KS (jM s i) j x).toArray⟩) (f.setIfInBounds m true) r/\A4 #[.s (zT s i), .string ⟨(da j 1).toArray⟩, .string ⟨x.toArray⟩] 9 (f.setIfInBounds m true) a' r/\A5 (.string ⟨(kq KS (jM s i) j x).toArray⟩) (f.setIfInBounds m true) a'/\((f.setIfInBounds m true)[6]?=some true->∀n,n<6->(f.setIfInBounds m true)[n]?=some true)->
    Rn (aJ ql tP) Goal ((rb 120 l).atR a' (.inRegion (bK Tryz.f120 4) S::k)) cs r)->
   Rn (aJ ql tP) Goal ((rb 120 l).atR a (.inRegion (bK Tryz.f120 4) (m::S)::k)) cs g:=λ{m o e} v W I H a3 U he q hy C=>by refine Rn.ran q (H _) a3 hy ?_;rw[I];exact C _ _ ⟨KV F W, .inl ⟨by rw[sN U.2.2];exact J X,D⟩,N.step U.1 he.1 (bR),M.step U.2.1 he.2,nj U.2.2 u⟩
  rcases(o_:m=0\/m=1\/m=2\/m=3\/m=4\/m=5\/m=6)with rfl|rfl|rfl|rfl|rfl|rfl|rfl
  ·obtain⟨I,B,H⟩:=cA (d:=some 26) (p:= .load 9 (.tmp 9)) q k_;refine G (m:=0) _ (mG (i:=0) rfl) I H (by rw[B];simp) ⟨d_,d_,d_⟩ ⟨d_,d_⟩ q ?_ C;exact(aN bA B (aA (F.fixed _ (mG (i:=1) rfl))) (by rw[aH a7];rfl)).1
  ·obtain⟨I,B,H⟩:=cA (d:=some 27) (p:= .move (.tmp 10)) q k_;refine G (m:=1) _ (mG (i:=1) rfl) I H (by rw[B];simp) ⟨d_,d_,d_⟩ ⟨d_,d_⟩ q ?_ C;have hy:=(cB (ev:=a.eval) (o:=o) (w:=g) (aJ ql tP) (.inl B)).1;rw[(aA (F.fixed _ (mG (i:=2) rfl)))]at hy;exact hy
  ·obtain⟨I,B,H⟩:=cA (d:=some 28) (p:= .call {callee:= .value (.func 151),args:=#[.tmp 27],argTypes:=#[3]}) q k_;have a1:=(aA (F.come _ (mG (i:=1) rfl) (ce (n:=2) (k:=1) k_ q z)));have hr:=bG (w:=g) B (show(#[Operand.tmp 27]:Array Operand).map a.eval=#[.i j]from by simp[a1]) (dS (P:=(aJ ql tP)) Lf.func151 k_ k_ _);refine Rn.call q (H _) (by rw[B];simp) hr.1 (R:=λv r=>v= .string ⟨(da j 1).toArray⟩/\Bw g r) ?_ λv r hv=> ?_
   ·refine(Ll j o_ g).mono ?_;rintro e r ⟨rfl,Y⟩;exact⟨_,rfl,rfl,Y⟩
   ·obtain⟨rfl,E⟩:=hv;rw[I];exact C _ _ ⟨KV F (mG (i:=2) rfl), .inl ⟨by rw[sN d_];exact J d_,aE D K E⟩,N.step d_ d_ E,M.step d_ d_,nj d_ u⟩
  ·obtain⟨I,B,H⟩:=cA (d:=some 29) (p:= .load 9 (.tmp 7)) q k_;refine G (m:=3) _ (mG (i:=3) rfl) I H (by rw[B];simp) ⟨d_,d_,d_⟩ ⟨d_,d_⟩ q ?_ C;exact(aN bA B (aA (F.fixed _ (mG (i:=0) rfl))) (by rw[aH Q];rfl)).1
  ·obtain⟨I,B,H⟩:=cA (d:=some 30) (p:= .buildSlice 43 3 #[(0, .tmp 26),(1, .tmp 28),(2, .tmp 29)]) q k_;refine Rn.ran q (H _) (by rw[B];simp) (Eg B (aA (F.come _ (mG (i:=0) rfl) (ce (n:=4) (k:=0) k_ q z))) (aA (F.come _ (mG (i:=2) rfl) (ce (n:=4) (k:=2) k_ q z))) (aA (F.come _ (mG (i:=3) rfl) (ce (n:=4) (k:=3) k_ q z)))) ?_;rw[I];refine C _ _ ⟨F.aside (λp A=> ?_) (λp A=> ?_), .inl ⟨by rw[sN d_];exact J d_,aE D K (PK g _)⟩,λ_=>⟨g.heap.size, ?_,aP g _⟩,M.step d_ d_,nj d_ u⟩
   ·simp only[uT,PZ,If,or_false]at A;rcases A with rfl|rfl|rfl<;>simp
   ·simp only[pz,PZ,If,or_false]at A;rcases A with rfl|rfl|rfl|rfl<;>simp
   ·exact Tc (T7 d_ F.size)
  ·obtain⟨I,B,H⟩:=cA (d:=some 31) (p:= .call {callee:= .value (.func 91),args:=#[.tmp 30],argTypes:=#[43]}) q k_;obtain⟨p,L,A⟩:=N (ce (n:=5) (k:=4) k_ q z);have a1:=aA L;have hr:=bG (w:=g) B (show(#[Operand.tmp 30]:Array Operand).map a.eval=#[.sk p 3 3]from by simp[a1]) (dS (P:=(aJ ql tP)) Lf.func91 k_ k_ _);refine Rn.call q (H _) (by rw[B];simp) hr.1 (R:=λv r=>v= .string ⟨(kq KS (jM s i) j x).toArray⟩/\Bw g r) ?_ λv r hv=> ?_
   ·have T:ey [zT s i,⟨(da j 1).toArray⟩,⟨x.toArray⟩] 3=jM s i++da j 1++x:=(by simp[ey,Ia]);have a8:(jM s i++da j 1++x).length<=65600:=by have:s.id.data.toList.length=s.id.size:=s_;simp[jM,cR,hx];omega
    refine(GE KS [zT s i,⟨(da j 1).toArray⟩,⟨x.toArray⟩] 3 g p (gA A).1 (λk hk=> ?_) (bC D h0 hK) a6 (by rw[show[zT s i,⟨(da j 1).toArray⟩,(⟨x.toArray⟩:ByteArray)].length=3 from rfl,T];omega) s_).mono ?_
    ·rw[aH A];have h3:k=0\/k=1\/k=2:=(by simp at hk;omega);rcases h3 with rfl|rfl|rfl<;>rfl
    ·rintro e r ⟨rfl,Y⟩;refine⟨_,rfl, ?_,Y⟩;rw[show[zT s i,⟨(da j 1).toArray⟩,(⟨x.toArray⟩:ByteArray)].length=3 from rfl,T];rfl
   ·obtain⟨rfl,E⟩:=hv;rw[I];refine C _ _ ⟨F.aside (λp A=> ?_) (λp A=> ?_), .inl ⟨by rw[sN d_];exact J d_,aE D K E⟩,N.step d_ d_ E,λ_=> ?_,nj d_ u⟩
    ·simp only[uT,PZ,If,or_false]at A;rcases A with rfl|rfl|rfl<;>simp
    ·simp only[pz,PZ,If,or_false]at A;rcases A with rfl|rfl|rfl|rfl<;>simp
    ·exact Tc (T7 d_ F.size)
  ·obtain⟨I,B,H⟩:=cA (d:=none) (p:= .store 9 (.tmp 7) (.tmp 31)) q k_;have a2:=dH (ql:=ql) (w:=g) (b:=b7) (k:=0) (v:= .string ⟨(kq KS (jM s i) j x).toArray⟩) (v0:= .string ⟨x.toArray⟩) rfl rfl k_ B (aA (F.fixed _ (mG (i:=0) rfl))) (aA (M (ce (n:=6) (k:=5) k_ q z))) (by rw[aH Q];rfl) (by unfold Qa;rw[show g.heap[(⟨b7,0,none⟩:Addr).block]?=_ from Q];simp);refine Rn.did q (H _) (by rw[B];simp) a2.1 ?_;rw[I];refine C _ _ ⟨F.pass (λp A=> ?_) _, .inr ⟨Tc (by rw[a0];decide),g,D,rfl⟩,λh4=> ?_,λh5=> ?_,λ_ n U=> ?_⟩
   ·simp only[pz,PZ,If,or_false]at A;rcases A with rfl|rfl|rfl|rfl<;>simp
   ·rw[sN d_]at h4;obtain⟨p,L,A⟩:=N h4;refine⟨p,L,(bO g _ (λe=> ?_)).trans A⟩;have e:p=b7:=e;subst e;rw[Q]at A;cases A
   ·rw[sN d_]at h5;exact M h5
   ·rw[sN o_];exact um q z k_ n U
 ·simp[Qf]at hl
 ·simp[Qf]at h
 ·simp[Qf]at h
 ·simp[Qf]at h
end
end
end L1
end Go.Proofs.YtkmoglhgkcnalaaGreatDoor
