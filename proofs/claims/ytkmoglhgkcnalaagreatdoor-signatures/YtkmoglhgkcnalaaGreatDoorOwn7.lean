/- A part of what the last text of the claim imports: texts laid together, and made small, by a program. -/
import Derived.Laws.Tables
import Derived.Deep.MidRow
import Derived.Test.YtkmoglhgkcnalaaGreatDoorProg
import Derived.Conc.WalkWords
import Derived.KernelRfl
import Derived.Laws.Slices
import Derived.Conc.EventLaws2
import Derived.RowKit
import Derived.Test.YtkmoglhgkcnalaaGreatDoorRows
import Derived.WalkKit
import Derived.WalkSpells
import Derived.WalkLawsBesides
import Derived.Deep.QuietTactic
import Derived.BigQuiet
import Derived.Deep.OwnRows
import Derived.Deep.RegionHeld3
import Derived.Great.BuildSlice
import Derived.Shelf.Strings.Builder1
import Derived.Shelf.Strings.Builder2
import Derived.Shelf.Strings.BuilderF
import Derived.Shelf.Strings.BuilderK
import Derived.Shelf.LaysM
import Derived.Shelf.Strconv.Clone
import Derived.Shelf.Strings.Prefix
import Derived.Shelf.Bits.Mul64
import Derived.Shelf.Strings.Repeat
import Derived.Test.YtkmoglhgkcnalaaGreatDoorOwn5
set_option maxHeartbeats 16000000
set_option maxRecDepth 100000
namespace Go.Proofs.YtkmoglhgkcnalaaGreatDoor
open Go
variable{n b i N l m k j:Nat}{w w':World}{fr:Frame}{v:Value}{cs:List Frame}{args cv:Array Value}{V RO D:Nat->Prop}{q main listen:Bool}{g:Goroutine}{a:Act}{K:List Item}{P:Program}{x:Operand}{ops:Array Oper}{KS:List Int}{t u:TypeId}{o:Oper}{f:FuncId}{es:Array Event}{Goal:Goroutine->World->Prop}{fn:Func}{rest:List Nat}{ds:List Deferred}{F:List (Nat×Value)}{e:Event}{listed:Array Bool}{c:Int}{s msg key sig:ByteArray}
section
open Go.RowKit
theorem nO(w:World)(b o:Nat)(ty:TypeId)(v:Value)(hv:v.cells=#[v])(l:v.oneCell'=true)(k:(w.cell? ⟨b,o,none⟩).isSome=true)(h:w.frozen? ⟨b,o,none⟩=false)(f:(P.info? ty).map (·.size)=some 1):
 (storeVar ty ⟨b,o,none⟩ v).run P w= .ok () (w.setCell ⟨b,o,none⟩ v):=by
 have:=run_storeCells_cells (P:=P) b o [v] 0 w (λj c=>by have d:j=0:=(by simpa using c);subst d;simpa using k) (λj c=>by have d:j=0:=(by simpa using c);subst d;simpa using h)
  (λu e=>by rw[List.mem_singleton]at e;subst e;exact l)
 cases a:P.info? ty with
 |none=>simp[a]at f
 |some i=>
  have g:i.size=1:=by simpa[a]using f
  simp only[Nat.add_zero]at this;simp[storeVar,sizeOf,typeInfo,a,hv,g,this];rfl
theorem sE{op:Oper}{K:Act->World->Prop}{Q:Exit->Act->World->Prop}(ty:TypeId)(x y:Operand)(e:op.op= .store ty x y)
 (b o:Nat) (v:Value) (d:a.eval x= .pointer (some ⟨b,o,none⟩)) (c:a.eval y=v) (hv:v.cells=#[v]) (j:v.oneCell'=true)
 (i:(w.cell? ⟨b,o,none⟩).isSome=true) (g:w.frozen? ⟨b,o,none⟩=false) (f:(P.info? ty).map (·.size)=some 1)
 (h:K (a.put op.dst undef) (w.setCell ⟨b,o,none⟩ v)):op.wp P a w K Q:=by
 unfold Oper.wp execOp;simp only[e,d,c,Instr.storeAt,Instr.sureAddr,Sem.run_bind,Sem.run_pure,Result.andThen_ok,nO w b o ty v hv j i g f];exact h
theorem gX{Q:Exit->Act->World->Prop}{K:Act->World->Prop}(g:ops[i]?=some o)(j:o.guard=none)(ty:TypeId)(x y:Operand)(f:o.op= .store ty x y)
 (b p:Nat) (v:Value) (d:a.eval x= .pointer (some ⟨b,p,none⟩)) (c:a.eval y=v) (hv:v.cells=#[v]) (n:v.oneCell'=true) (m:(w.cell? ⟨b,p,none⟩).isSome=true) (k:w.frozen? ⟨b,p,none⟩=false)
 (e:(P.info? ty).map (·.size)=some 1) (l:o.dst=none) (h:K a (w.setCell ⟨b,p,none⟩ v)):wpOp P ops Q i K a w:=
 qI g j (sE ty x y f b p v d c hv n m k e (by rw[l];exact h))
end
section
open Go.Conc Go.RowKit
def sD(P:Program)(a:Act)(o:Oper)(w:World)(R:Value->World->Prop):Prop:=
 (∃v w',(execOp a.eval o).run P w= .ok (.value v) w'/\R v w')\/∃f args,(execOp a.eval o).run P w= .ok (.enter f args) w/\Calls P f args w λe w'=>∃v,e= .returned v/\R v w'
structure sx (df:List Deferred) (fx:List (Nat×Value)) (ds:List Nat) (G:Nat->Value->World->Prop) (N:Nat) (w0:World) (a:Act) (w:World) (L:Nat->Prop):Prop where
 defers:a.defers=df
 size:N<=a.tmps.size
 fixed:∀p∈fx,a.tmps[p.1]?=some p.2
 old:Below w0.heap.size w0 w
 come:∀n d,ds[n]?=some d->L n->∃v,a.tmps[d]?=some v/\G n v w
def rB:Op->Bool
 | .defer _=>false
 |_=>true
def A9(ops:Array Oper):Nat->Nat->Nat->Bool
 |0,_,_=>false
 |fuel+1,n,k=>fZ ops n k||(List.range n).any λm=>fZ ops n m&&A9 ops fuel m k
def lm(ops:Array Oper)(listed:Array Bool):Prop:=∀(n:Nat) (o:Oper),ops[n]?=some o->listed[n]?=some true->∀e∈o.after,Region.binds .any e=true->listed[e.on]?=some true
theorem lm.reach(h:lm ops listed):∀(fuel n k:Nat) (o:Oper),ops[n]?=some o->(∀e∈o.after,Region.binds .any e=true->listed[e.on]?=some true)->A9 ops fuel n k=true->listed[k]?=some true
 |0,_,_,_,_,_,hr=>by cases hr
 |fuel+1,n,k,o,ho,hdep,hr=>by
  simp only[Go.Proofs.YtkmoglhgkcnalaaGreatDoor.A9,Bool.or_eq_true,List.any_eq_true,List.mem_range,Bool.and_eq_true]at hr;rcases hr with c|⟨m,j,c,b⟩
  ·exact dm c ho hdep
  ·have i:=dm c ho hdep;cases a:ops[m]? with
   |none=>
    exfalso;cases fuel with
    |zero=>cases b
    |succ f=>
     have g:∀k,fZ ops m k=false:=λk=>by unfold fZ;rw[a];rfl
     simp[Go.Proofs.YtkmoglhgkcnalaaGreatDoor.A9,g]at b
   |some d=>exact h.reach fuel m k d a (h m d a i) b
theorem lm.set(h:lm ops listed)(l:ops[m]?=some o)(a:∀e∈o.after,Region.binds .any e=true->listed[e.on]?=some true):lm ops (listed.setIfInBounds m true):=by
 have c:∀k,listed[k]?=some true->(listed.setIfInBounds m true)[k]?=some true:=λk f=>by
  by_cases e:m=k
  ·subst e;exact Array.getElem?_setIfInBounds_self_of_lt (gA f).1
  ·rw[sN e];exact f
 intro n j b d e g i;by_cases q:m=n
 ·subst q;rw[l]at b;cases b;exact c _ (a e g i)
 ·rw[sN q]at d;exact c _ (h n j b d e g i)
def vt(ops:Array Oper):Bool:=(List.range ops.size).all λn=>((ops[n]?).map λo=>o.after.all λe=> !Region.binds .any e||decide (e.on<n)).getD true
theorem oU(h:vt ops=true)(n:Nat)(o:Oper)(a:ops[n]?=some o):∀e∈o.after,Region.binds .any e=true->e.on<n:=by
 intro e c d;have b:n<ops.size:=(gA a).1;have:=List.all_eq_true.1 h n (List.mem_range.2 b);rw[a]at this;simp only[Option.map_some,Option.getD_some]at this;have:=Array.all_eq_true'.1 this e c;rw[d]at this;simpa using this
def rM(ops:Array Oper)(ds:List Nat)(fx:List Nat)(N:Nat):Bool:=
 vt ops&&decide (ds.length<=ops.size)&&((List.range ds.length).all λn=>((ops[n]?).map λo=>o.dst==ds[n]?&&o.guard.isNone&&rB o.op).getD false)&&decide ds.Nodup&&(ds.all λd=>decide (d<N)&& !fx.contains d)&&
 ((List.range ops.size).all λn=>decide (n<ds.length)||((List.range n).all λk=>A9 ops ops.size n k))
section
variable{P:Program}{Goal:Goroutine->World->Prop}{b:Frame}{k:List Item}{cs:List Frame}
theorem Rn.orderly{md:Region.Mode}(r:∀(n:Nat) (o:Oper),ops[n]?=some o->∀e∈o.after,Region.binds md e=true->e.on<n)(g:Array Bool->Act->World->Prop)
 (p:∀c a w,(∀n,n<ops.size->c[n]?=some true)->g c a w->Rn P Goal (b.atR a (.inRegion ops []::k)) cs w)
 (j:∀c a w n o rest,c.size=ops.size->ops[n]?=some o->c[n]?=some false->(∀e∈o.after,Region.binds md e=true->c[e.on]?=some true)->g c a w->
   (∀a' w',g (c.setIfInBounds n true) a' w'->Rn P Goal (b.atR a' (.inRegion ops rest::k)) cs w')->Rn P Goal (b.atR a (.inRegion ops (n::rest)::k)) cs w)
 (t:Nat) (a:Act) (w:World) (F:g (Array.replicate ops.size false) a w):Rn P Goal (b.atR a (.inRegion ops (Region.linearise md ops t)::k)) cs w:=by
 unfold Region.linearise;refine Rn.order (md:=md) (λf c a w=>c.size=ops.size/\gY c=f/\g c a w) (λc a w h=> ?_) (λf c a w h B=> ?_) (λf c a w n rest h m l=> ?_) ops.size t _ a w ⟨by simp, ?_,F⟩
 ·exact p c a w (λn m=>mW h.2.1 n (by rw[h.1];exact m)) h.2.2
 ·exfalso;obtain⟨n,E,D,C⟩:=ly h.2.1;have d:n<ops.size:=by rw[←h.1];exact E
  have x:n∈Region.ready md ops c:=by
   unfold Region.ready;rw[List.mem_filter];refine⟨List.mem_range.2 d, ?_⟩;rw[Array.getElem?_eq_getElem d];have H:c.getD n true=false:=(by simp[Array.getD_eq_getD_getElem?,D]);rw[H];simp only[Bool.not_false,Option.map_some,Option.getD_some,Bool.true_and];rw[Array.all_eq_true'];intro e u;cases v:Region.binds md e with
   |false=>rfl
   |true=>
    have:=r n _ (Array.getElem?_eq_getElem d) e u v;simp[Array.getD_eq_getD_getElem?,C _ this]
  rw[B]at x;simp at x
 ·unfold Region.ready at m;rw[List.mem_filter]at m;obtain⟨s,i⟩:=m;have d:=List.mem_range.1 s;rw[Array.getElem?_eq_getElem d]at i;simp only[Option.map_some,Option.getD_some,Bool.and_eq_true,Bool.not_eq_true']at i;have y:n<c.size:=by rw[h.1];exact d
  have z:c[n]?=some false:=by
   have:=i.1;rw[Array.getD_eq_getD_getElem?,Array.getElem?_eq_getElem y]at this;rw[Array.getElem?_eq_getElem y];simpa using this
  refine j c a w n _ rest h.1 (Array.getElem?_eq_getElem d) z (λe u v=> ?_) h.2.2 λa' w' G=>l a' w' ⟨by simp[h.1],mV h.2.1 z,G⟩;have:=Array.all_eq_true'.1 i.2 e u;rw[v]at this;simp only[Bool.not_true,Bool.false_or]at this;rw[Array.getD_eq_getD_getElem?]at this;cases A:c[e.on]? with
  |none=>rw[A]at this;simp at this
  |some q=>rw[A]at this;simp at this;rw[this]
 ·simp[gY]
theorem Rn.does{R:Value->World->Prop}(j:ops[n]?=some o)(i:Region.wanted o (yielded ops a.tmps)=true)(d:∀c,o.op≠ .defer c)(h:sD P a o w R)(next:∀v w',R v w'->Rn P Goal (b.atR (a.put o.dst v) (.inRegion ops rest::k)) cs w'):Rn P Goal (b.atR a (.inRegion ops (n::rest)::k)) cs w:=by
 rcases h with⟨v,w',g,e⟩|⟨f,l,g,e⟩
 ·exact Rn.ran j i d g (next v w' e)
 ·exact Rn.call j i d g e next
theorem Rn.grows{id:Nat}{df:List Deferred}{fx:List (Nat×Value)}{ds:List Nat}{G:Nat->Value->World->Prop}(T:P.follows .mixedOrders=true)(J:rM ops ds (fx.map (·.1)) N=true)(L:∀n v w w',G n v w->Below w.heap.size w w'->G n v w')
 (a2:∀n o a w',n<ds.length->ops[n]?=some o->Below w.heap.size w w'->(∀p∈fx,a.tmps[p.1]?=some p.2)->(∀m d,ds[m]?=some d->fZ ops n m=true->∃v,a.tmps[d]?=some v/\G m v w')->sD P a o w' λv i=>G n v i/\Below w'.heap.size w' i)
 (l:Nat->Act->World->Prop) (S:∀a w',sx df fx ds G N w a w' (λ_=>True)->l ds.length a w')
 (Q:∀n o a w' rest,ds.length<=n->ops[n]?=some o->l n a w'->(∀a' i,l (n+1) a' i->Rn P Goal (b.atR a' (.inRegion ops rest::k)) cs i)->Rn P Goal (b.atR a (.inRegion ops (n::rest)::k)) cs w')
 (V:∀a w',l ops.size a w'->Rn P Goal (b.atR a k) cs w') (a5:a.defers=df) (hN:N<=a.tmps.size) (a4:∀p∈fx,a.tmps[p.1]?=some p.2):Rn P Goal (b.atR a (.code (.region id ops true)::k)) cs w:=by
 simp only[rM,Bool.and_eq_true,decide_eq_true_eq,List.all_eq_true,List.mem_range,Bool.or_eq_true]at J;obtain⟨⟨⟨⟨⟨c1,c3⟩,c4⟩,c5⟩,c6⟩,c7⟩:=J;refine Rn.draw λt=> ?_;have R:Region.schedule (P.follows .mixedOrders) ops t=Region.linearise .any ops t:=by
  unfold Region.schedule;rw[T];simp
 rw[R];have O:∀{f:Array Bool} {m:Nat} {o:Oper},lm ops f->ds.length<=m->ops[m]?=some o->(∀e∈o.after,Region.binds .any e=true->f[e.on]?=some true)->∀n,n<m->f[n]?=some true:=λ{f m o} D hm z s n B=>by
  have g:m<ops.size:=(gA z).1;exact D.reach ops.size m n o z s (((c7 m g).resolve_left (by omega)) n B)
 refine Rn.orderly (oU c1) (λf a w'=>lm ops f/\(((∀n,ds.length<=n->n<ops.size->f[n]?=some false)/\sx df fx ds G N w a w' λn=>f[n]?=some true)\/∃j,ds.length<j/\j<=ops.size/\(∀n,n<j->f[n]?=some true)/\(∀n,j<=n->n<ops.size->f[n]?=some false)/\l j a w'))
  (λf a w' E h=> ?_) (λf a w' m o rest a7 z hm s h C=> ?_) t a _ ⟨λn o _ A=> ?_, .inl ⟨λn _ B=>by simp[B],a5,hN,a4,gv w,λn d y A=> ?_⟩⟩
 ·refine Rn.p rfl (V a w' ?_);obtain⟨D,h⟩:=h;rcases h with⟨H,q⟩|⟨j,H,q,h3,Y,Z⟩
  ·have hK:ds.length=ops.size:=by
    refine Nat.le_antisymm c3 (Nat.le_of_not_lt λg=> ?_);have:=H ds.length (Nat.le_refl _) g;rw[E _ g]at this;cases this
   rw[←hK];exact S a w' ⟨q.defers,q.size,q.fixed,q.old,λn d y _=>q.come n d y (E n (by have:=(List.getElem?_eq_some_iff.1 y).1;omega))⟩
  ·have hj:j=ops.size:=by
    refine Nat.le_antisymm q (Nat.le_of_not_lt λg=> ?_);have:=Y j (Nat.le_refl _) g;rw[E _ g]at this;cases this
   rw[←hj];exact Z
 ·have a6:m<ops.size:=(gA z).1;obtain⟨D,h⟩:=h;have C:=λa' i x=>C a' i ⟨D.set z s,x⟩;by_cases F:m<ds.length
  ·rcases h with⟨H,q⟩|⟨j,H,q,h3,Y,Z⟩
   ·have hc:=c4 m F;rw[z]at hc;simp only[Option.map_some,Option.getD_some,Bool.and_eq_true,beq_iff_eq]at hc;obtain⟨⟨e1,e2⟩,e3⟩:=hc;have W:ds[m]?=some ds[m]:=List.getElem?_eq_getElem F;refine Rn.does z (by unfold Region.wanted;rw[Option.isNone_iff_eq_none.1 e2]) (λc e=>by rw[e]at e3;cases e3) (a2 m o a w' F z q.old q.fixed λn d y B=>q.come n d y (dm B z s)) λv i hv=> ?_;rw[e1,W];have X:=c6 ds[m] (List.getElem_mem F);refine C _ _ (.inl ⟨λn B g=> ?_,q.defers,by simpa[Act.put]using q.size,λp hp=> ?_,kM q.old q.old.size hv.2,λn d y A=> ?_⟩)
    ·rw[sN (by omega)];exact H n B g
    ·show(a.tmps.setIfInBounds ds[m] v)[p.1]?=_;rw[sN (λe=>by
      have h6:ds[m]∉fx.map (·.1):=(by simpa using X.2);exact h6 (by rw[e];exact List.mem_map_of_mem hp))]
     exact q.fixed p hp
    ·by_cases K:n=m
     ·subst K;rw[W]at y;cases y;refine⟨v, ?_,hv.1⟩;show(a.tmps.setIfInBounds ds[n] v)[ds[n]]?=_;exact Array.getElem?_setIfInBounds_self_of_lt (Nat.lt_of_lt_of_le X.1 q.size)
     ·rw[sN (Ne.symm K)]at A;obtain⟨u,a1,a0⟩:=q.come n d y A;refine⟨u, ?_,L n u w' i a0 hv.2⟩;show(a.tmps.setIfInBounds ds[m] v)[d]?=_;rw[sN (λe=>by
       obtain⟨B,rfl⟩:=List.getElem?_eq_some_iff.1 y;exact K ((List.getElem_inj c5).1 e).symm)]
      exact a1
   ·have:=h3 m (by omega);rw[hm]at this;cases this
  ·have r:=O D (by omega) z s;have I:∀n,n<m+1->(f.setIfInBounds m true)[n]?=some true:=λn B=>by
    by_cases e:m=n
    ·subst e;exact Array.getElem?_setIfInBounds_self_of_lt (by omega)
    ·rw[sN e];exact r n (by omega)
   rcases h with⟨H,q⟩|⟨j,H,q,h3,Y,Z⟩
   ·have U:m=ds.length:=by
     refine Nat.le_antisymm (Nat.le_of_not_lt λg=> ?_) (by omega);have:=H ds.length (Nat.le_refl _) (by omega);rw[r _ g]at this;cases this
    have hS:l m a w':=by
     rw[U];exact S a w' ⟨q.defers,q.size,q.fixed,q.old,λn d y _=>q.come n d y (r n (by have:=(List.getElem?_eq_some_iff.1 y).1;omega))⟩
    refine Q m o a w' rest (by omega) z hS λa' i M=>C a' i (.inr ⟨m+1,by omega,by omega,I,λn B g=> ?_,M⟩);rw[sN (by omega)];exact H n (by omega) g
   ·have a3:m=j:=by
     refine Nat.le_antisymm (Nat.le_of_not_lt λg=> ?_) (Nat.le_of_not_lt λg=> ?_)
     ·have:=Y j (Nat.le_refl _) (by omega);rw[r _ g]at this;cases this
     ·have:=h3 m g;rw[hm]at this;cases this
    subst a3;refine Q m o a w' rest (by omega) z Z λa' i M=>C a' i (.inr ⟨m+1,by omega,by omega,I,λn B g=> ?_,M⟩);rw[sN (by omega)];exact Y n (by omega) g
 ·rw[Array.getElem?_replicate]at A;split at A
  ·cases A
  ·cases A
 ·rw[Array.getElem?_replicate]at A;split at A
  ·cases A
  ·cases A
end
def EI:List (Nat×Value)->List (Nat×Value)->Prop
 |[],_=>True
 |p::r,F=>F.lookup p.1=some p.2/\EI r F
theorem EI.get:∀{G:List (Nat×Value)},EI G F->∀d v,G.lookup d=some v->F.lookup d=some v
 |[],_,_,_,h=>by cases h
 |p::r,h,d,v,hd=>by
  by_cases e:d=p.1
  ·subst e;have a:(p::r).lookup p.1=some p.2:=(by simp[List.lookup]);rw[a]at hd;cases hd;exact h.1
  ·have a:(p::r).lookup d=r.lookup d:=(by simp[List.lookup,show(d==p.1)=false from by simpa using e]);rw[a]at hd;exact EI.get h.2 d v hd
theorem aJ.only{G:List (Nat×Value)}(c:aJ F N ds a)(h:EI G F):aJ G N ds a:=c.sub λd v b=>h.get d v b
section
variable{P:Program}{Goal:Goroutine->World->Prop}{b:Frame}{a:Act}{k:List Item}{cs:List Frame}{w:World}{F:List (Nat×Value)}{N:Nat}{ds:List Deferred}{ops:Array Oper}{m:Nat}{rest:List Nat}
theorem bJ{ev:Operand->Value}(a:o.op= .move x\/o.op= .assign x):(execOp ev o).run P w= .ok (.value (ev x)) w:=by
 rcases a with h|h<;>simp[execOp,h]
theorem Rn.mv(c:aJ F N ds a)(d x:Nat)(g:d<N)(e:F.lookup x=some v)(h:(ops[m]?).map (λo=>(o.dst,o.op,o.guard))=some (some d, .move (.tmp x),none))
 (next:∀a',aJ ((d,v)::F) N ds a'->Rn P Goal (b.atR a' (.inRegion ops rest::k)) cs w):Rn P Goal (b.atR a (.inRegion ops (m::rest)::k)) cs w:=
 Rn.op c d (.move (.tmp x)) g h (by simp) (λo f=>by rw[bJ (.inl f),c.get e]) next
theorem Rn.as(c:aJ F N ds a)(d x:Nat)(g:d<N)(e:F.lookup x=some v)(h:(ops[m]?).map (λo=>(o.dst,o.op,o.guard))=some (some d, .assign (.tmp x),none))
 (next:∀a',aJ ((d,v)::F) N ds a'->Rn P Goal (b.atR a' (.inRegion ops rest::k)) cs w):Rn P Goal (b.atR a (.inRegion ops (m::rest)::k)) cs w:=
 Rn.op c d (.assign (.tmp x)) g h (by simp) (λo f=>by rw[bJ (.inr f),c.get e]) next
theorem Rn.mvc(f:aJ F N ds a)(d:Nat)(v:Value)(e:d<N)(h:(ops[m]?).map (λo=>(o.dst,o.op,o.guard))=some (some d, .move (.const v),none))
 (next:∀a',aJ ((d,v)::F) N ds a'->Rn P Goal (b.atR a' (.inRegion ops rest::k)) cs w):Rn P Goal (b.atR a (.inRegion ops (m::rest)::k)) cs w:=
 Rn.op f d (.move (.const v)) e h (by simp) (λo c=>by rw[bJ (.inl c)];rfl) next
theorem Rn.asc(f:aJ F N ds a)(d:Nat)(v:Value)(e:d<N)(h:(ops[m]?).map (λo=>(o.dst,o.op,o.guard))=some (some d, .assign (.const v),none))
 (next:∀a',aJ ((d,v)::F) N ds a'->Rn P Goal (b.atR a' (.inRegion ops rest::k)) cs w):Rn P Goal (b.atR a (.inRegion ops (m::rest)::k)) cs w:=
 Rn.op f d (.assign (.const v)) e h (by simp) (λo c=>by rw[bJ (.inr c)];rfl) next
theorem Fq{ev:Operand->Value}(a:o.op= .box t x):(execOp ev o).run P w= .ok (.value (.pointer (some ⟨w.heap.size,0,none⟩))) (w.alloc (.cells (ev x).cells t)):=by
 simp[execOp,a,Instr.box,newVar,newRow,go_sem]
theorem Rn.boxes(c:aJ F N ds a)(d x:Nat)(t:TypeId)(g:d<N)(e:F.lookup x=some v)(h:(ops[m]?).map (λo=>(o.dst,o.op,o.guard))=some (some d, .box t (.tmp x),none))
 (next:∀a',aJ ((d, .pointer (some ⟨w.heap.size,0,none⟩))::F) N ds a'->Rn P Goal (b.atR a' (.inRegion ops rest::k)) cs (w.alloc (.cells v.cells t))):Rn P Goal (b.atR a (.inRegion ops (m::rest)::k)) cs w:=
 Rn.op c d (.box t (.tmp x)) g h (by simp) (λo f=>by rw[Fq f,c.get e]) next
theorem Rn.calls(r:aJ F N ds a)(d:Nat){xs:Array Operand}{ats:Array TypeId}(n:d<N)(h:(ops[m]?).map (λo=>(o.dst,o.op,o.guard))=some (some d, .call {callee:= .value (.func f),args:=xs,argTypes:=ats},none))(q:xs.map a.eval=args)
 (l:P.funcs[f]?=some fn) (c:(fn.name== "runtime.NumGoroutine")=false) (p:fn.body.isNone=false) {R:Value→World→Prop} (s:Calls P f args w λe w'=>∃v,e= .returned v∧R v w')
 (next:∀v w',R v w'->∀a',aJ ((d,v)::F) N ds a'->Rn P Goal (b.atR a' (.inRegion ops rest::k)) cs w'):Rn P Goal (b.atR a (.inRegion ops (m::rest)::k)) cs w:=by
 cases g:ops[m]? with
 |none=>rw[g]at h;simp at h
 |some o=>
  obtain⟨u,i,t⟩:=aN g h;refine Rn.call g (t _) (by rw[i];simp) (aO (w:=w) i q (cY l c p _)).1 s λv w' j=> ?_;rw[u];exact next v w' j _ (r.put n v)
theorem Rn.does0(i:aJ F N ds a)(p:Op)(h:(ops[m]?).map (λo=>(o.dst,o.op,o.guard))=some (none,p,none))(e:∀c,p≠ .defer c)(g:∀o:Oper,o.op=p->(execOp a.eval o).run P w= .ok .skip w')
 (next:∀a',aJ F N ds a'->Rn P Goal (b.atR a' (.inRegion ops rest::k)) cs w'):Rn P Goal (b.atR a (.inRegion ops (m::rest)::k)) cs w:=by
 cases d:ops[m]? with
 |none=>rw[d]at h;simp at h
 |some o=>
  obtain⟨l,f,j⟩:=aN d h;refine Rn.did d (j _) (λc=>by rw[f];exact e c) (g o f) ?_;rw[l];exact next a i
theorem Rn.gives(p:aJ F N ds a)(d x:Nat){r:Loop}{xs:Array Operand}{ats:Array TypeId}(h:(ops[m]?).map (λo=>(o.dst,o.op,o.guard))=some (some d, .call {callee:= .value (.tmp x),args:=xs,argTypes:=ats},none))
 (g:F.lookup x=some (.func (.yield l) #[] #[])) (n:xs.map a.eval=args) (j:w.heap[l]?=some (.loop r)) (i:args.size=r.params.size)
 (c:(∀w',Rn P Goal ((b.atR a (.inRegion ops (m::rest)::k)).finish (.bool true)) cs w'↔Rn P Goal (b.atR (a.put (some d) (.bool true)) (.inRegion ops rest::k)) cs w')->
   Rn P Goal (Frame.round l r.fn ((r.params.zip args).foldl (λtmps (t,a)=>tmps.setIfInBounds t a) r.tmps) r.assign r.body .normal) (b.atR a (.inRegion ops (m::rest)::k)::cs) w):Rn P Goal (b.atR a (.inRegion ops (m::rest)::k)) cs w:=by
 cases e:ops[m]? with
 |none=>rw[e]at h;simp at h
 |some o=>
  obtain⟨s,f,q⟩:=aN e h;refine Rn.yields (args:=args) e (q _) (by rw[f];simp) j i (λw=>nb f (p.get g) n w) (c λw'=> ?_);rw[Frame.finish_atR,e,Option.bind_some,s]
structure qj (P:Program) (Goal:Goroutine->World->Prop) (cs:List Frame) (args:Nat->Array Value) (n l:Nat) (r:Loop) (Inv:Nat->World->Prop):Prop where
 below:∀c w w',Inv c w->Below w.heap.size w w'->Inv c w'
 loop:∀c w,Inv c w->w.heap[l]?=some (.loop r)
 size:∀c,(args c).size=r.params.size
 round:∀c w cf,c<n->Inv c w->(∀w',Inv (c+1) w'->Rn P Goal (cf.finish (.bool true)) cs w')->Rn P Goal (Frame.round l r.fn ((r.params.zip (args c)).foldl (λtmps (t,a)=>tmps.setIfInBounds t a) r.tmps) r.assign r.body .normal) (cf::cs) w
theorem Rn.given{args:Nat->Array Value}{c:Nat}{r:Loop}{e:Nat->World->Prop}(G:qj P Goal cs args n l r e)(j:aJ F N ds a)(d x:Nat){xs:Array Operand}{ats:Array TypeId}(q:d<N)(h:(ops[m]?).map (λo=>(o.dst,o.op,o.guard))=some (some d, .call {callee:= .value (.tmp x),args:=xs,argTypes:=ats},none))
 (p:F.lookup x=some (.func (.yield l) #[] #[])) (t:xs.map a.eval=args c) (s:c<n) (i:e c w) (next:∀a' w',aJ ((d, .bool true)::F) N ds a'->e (c+1) w'->Rn P Goal (b.atR a' (.inRegion ops rest::k)) cs w'):Rn P Goal (b.atR a (.inRegion ops (m::rest)::k)) cs w:=
 Rn.gives j d x h p t (G.loop c w i) (G.size c) λf=>G.round c w _ s i λw' g=>(f w').2 (next _ w' (j.put q _) g)
theorem rE:∀{F:List (Nat×Value)} {d:Nat} {v:Value},F.lookup d=some v->(d,v)∈F
 |p::r,d,v,h=>by
  by_cases e:d=p.1
  ·subst e;have a:(p::r).lookup p.1=some p.2:=(by simp[List.lookup]);rw[a]at h;cases h;exact List.mem_cons_self
  ·have a:(p::r).lookup d=r.lookup d:=(by simp[List.lookup,show(d==p.1)=false from by simpa using e]);rw[a]at h;exact List.mem_cons_of_mem _ (rE h)
theorem aJ.mem{F:List (Nat×Value)}(e:a.defers=ds)(c:N<=a.tmps.size)(h:∀p∈F,a.tmps[p.1]?=some p.2):aJ F N ds a:=⟨e,c,λd v b=>h (d,v) (rE b)⟩
theorem aJ.more{F:List (Nat×Value)}(h:aJ F N ds a){d:Nat}(hv:a.tmps[d]?=some v):aJ ((d,v)::F) N ds a:=⟨h.defers,h.size,λe u b=>by
 by_cases q:e=d
 ·subst q;simp only[List.lookup,beq_self_eq_true,Option.some.injEq]at b;subst b;exact hv
 ·simp only[List.lookup,show(e==d)=false from by simpa using q]at b;exact h.slot e u b⟩
theorem aJ.all{F:List (Nat×Value)}(h:aJ F N ds a)(c:(F.map (·.1)).Nodup):∀p∈F,a.tmps[p.1]?=some p.2:=by
 intro p b;refine h.slot p.1 p.2 ?_;clear h;induction F with
 |nil=>cases b
 |cons q r d=>
  rw[List.map_cons,List.nodup_cons]at c;rcases List.mem_cons.1 b with rfl|b
  ·simp[List.lookup]
  ·have:p.1≠q.1:=λe=>c.1 (by rw[←e];exact List.mem_map_of_mem b);simp only[List.lookup,show(p.1==q.1)=false from by simpa using this];exact d c.2 b
theorem sx.base{df:List Deferred}{fx:List (Nat×Value)}{gs:List Nat}{G:Nat->Value->World->Prop}{w0:World}{L:Nat->Prop}(h:sx df fx gs G N w0 a w L):aJ fx N df a:=aJ.mem h.defers h.size h.fixed
theorem l0{a:Act}{w:World}{R:Value->World->Prop}(h:(execOp a.eval o).run P w= .ok (.value v) w')(b:R v w'):sD P a o w R:= .inl ⟨v,w',h,b⟩
theorem Rn.O(hF:aJ F N ds a)(d:Tmp)(p:Op){v:Value}{w':World}(hy:∀o:Oper,o.op=p->(execOp a.eval o).run P w= .ok (.value v) w')
 (next:∀a',aJ ((d,v)::F) N ds a'->Rn P Goal (b.atR a' (.inRegion ops rest::k)) cs w') (hd:d<N:=by decide) (h:(ops[m]?).map (λo=>(o.dst,o.op,o.guard))=some (some d,p,none):=by kernel_rfl) (hnd:∀c,p≠ .defer c:=by simp):Rn P Goal (b.atR a (.inRegion ops (m::rest)::k)) cs w:=Rn.op hF d p hd h hnd hy next
theorem Rn.y(f:aJ F N ds a)(d x:Nat)(c:F.lookup x=some v)(next:∀a',aJ ((d,v)::F) N ds a'->Rn P Goal (b.atR a' (.inRegion ops rest::k)) cs w)(e:d<N:=by decide)(h:(ops[m]?).map (λo=>(o.dst,o.op,o.guard))=some (some d, .move (.tmp x),none):=by kernel_rfl):Rn P Goal (b.atR a (.inRegion ops (m::rest)::k)) cs w:=Rn.mv f d x e c h next
theorem Rn.S(hF:aJ F N ds a)(d x:Nat){v:Value}(hx:F.lookup x=some v)(next:∀a',aJ ((d,v)::F) N ds a'->Rn P Goal (b.atR a' (.inRegion ops rest::k)) cs w)(hd:d<N:=by decide)(h:(ops[m]?).map (λo=>(o.dst,o.op,o.guard))=some (some d, .assign (.tmp x),none):=by kernel_rfl):Rn P Goal (b.atR a (.inRegion ops (m::rest)::k)) cs w:=Rn.as hF d x hd hx h next
theorem Rn.C(hF:aJ F N ds a)(d:Nat)(v:Value)(next:∀a',aJ ((d,v)::F) N ds a'->Rn P Goal (b.atR a' (.inRegion ops rest::k)) cs w)(hd:d<N:=by decide)(h:(ops[m]?).map (λo=>(o.dst,o.op,o.guard))=some (some d, .assign (.const v),none):=by kernel_rfl):Rn P Goal (b.atR a (.inRegion ops (m::rest)::k)) cs w:=Rn.asc hF d v hd h next
theorem Rn.z(f:aJ F N ds a)(d x:Nat)(t:TypeId)(c:F.lookup x=some v)
 (next:∀a',aJ ((d, .pointer (some ⟨w.heap.size,0,none⟩))::F) N ds a'->Rn P Goal (b.atR a' (.inRegion ops rest::k)) cs (w.alloc (.cells v.cells t))) (e:d<N:=by decide) (h:(ops[m]?).map (λo=>(o.dst,o.op,o.guard))=some (some d, .box t (.tmp x),none):=by kernel_rfl):Rn P Goal (b.atR a (.inRegion ops (m::rest)::k)) cs w:=Rn.boxes f d x t e c h next
theorem kX{a:Act}{w:World}{x:Nat}{R:Value->World->Prop}(e:o.op= .move (.tmp x)\/o.op= .assign (.tmp x))(h:a.tmps[x]?=some v)(b:R v w):sD P a o w R:=l0 (by rw[bJ e,ce h]) b
theorem nE{c:List Nat}{G:Nat->Value->World->Prop}(b:∀m d,c[m]?=some d->fZ ops n m=true->∃v,a.tmps[d]?=some v/\G m v w)(i d:Nat)(f:c[i]?=some d:=by rfl)(e:fZ ops n i=true:=by kernel_rfl):∃v,a.tmps[d]?=some v/\G i v w:=b i d f e
theorem rI(b:P.funcs[f]?=some fn)(args:Array Value)(a:(fn.name== "runtime.NumGoroutine")=false:=by kernel_rfl)(c:fn.body.isNone=false:=by kernel_rfl):(callFunc f args).runT P w #[]=(.ok (.enter f args) w,#[]):=cY b a c args
end
def uE(P:Program)(ops:Array Oper)(a:Act)(o:Oper)(w:World)(R:Value->World->Prop):Prop:=(Region.wanted o (yielded ops a.tmps)=true/\sD P a o w R)\/(Region.wanted o (yielded ops a.tmps)=false/\R undef w)
def As(ops:Array Oper)(ds:List Nat)(fx:List Nat)(N:Nat):Bool:=
 vt ops&&decide (ds.length<=ops.size)&&((List.range ds.length).all λn=>((ops[n]?).map λo=>o.dst==ds[n]?&&rB o.op).getD false)&&decide ds.Nodup&&(ds.all λd=>decide (d<N)&& !fx.contains d)&&
 ((List.range ops.size).all λn=>decide (n<ds.length)||((List.range n).all λk=>A9 ops ops.size n k))
section
variable{P:Program}{Goal:Goroutine->World->Prop}{b:Frame}{k:List Item}{cs:List Frame}
theorem Rn.skips(c:ops[n]?=some o)(d:Region.wanted o (yielded ops a.tmps)=false)(h:Rn P Goal (b.atR (a.put o.dst undef) (.inRegion ops rest::k)) cs w):Rn P Goal (b.atR a (.inRegion ops (n::rest)::k)) cs w:=by
 refine Rn.exec rfl (iy (fr:=b.atR a (.inRegion ops (n::rest)::k)) rfl (by rw[c];exact d)) ?_;rw[Frame.finish_atR,c];exact h
theorem Rn.doesG{R:Value->World->Prop}(ho:ops[n]?=some o)(hnd:∀c,o.op≠ .defer c)(h:uE P ops a o w R)(next:∀v w',R v w'->Rn P Goal (b.atR (a.put o.dst v) (.inRegion ops rest::k)) cs w'):Rn P Goal (b.atR a (.inRegion ops (n::rest)::k)) cs w:=by
 rcases h with⟨hw,h⟩|⟨hw,h⟩
 ·exact Rn.does ho hw hnd h next
 ·exact Rn.skips ho hw (next undef w h)
theorem Rn.growsG{id:Nat}{df:List Deferred}{fx:List (Nat×Value)}{ds:List Nat}{G:Nat->Value->World->Prop}(T:P.follows .mixedOrders=true)(J:As ops ds (fx.map (·.1)) N=true)(L:∀n v w w',G n v w->Below w.heap.size w w'->G n v w')
 (a2:∀n o a w',n<ds.length->ops[n]?=some o->Below w.heap.size w w'->N<=a.tmps.size->(∀p∈fx,a.tmps[p.1]?=some p.2)->(∀m d,ds[m]?=some d->fZ ops n m=true->∃v,a.tmps[d]?=some v/\G m v w')->uE P ops a o w' λv i=>G n v i/\Below w'.heap.size w' i)
 (q:Nat->Act->World->Prop) (S:∀a w',sx df fx ds G N w a w' (λ_=>True)->q ds.length a w')
 (Q:∀n o a w' rest,ds.length<=n->ops[n]?=some o->q n a w'->(∀a' i,q (n+1) a' i->Rn P Goal (b.atR a' (.inRegion ops rest::k)) cs i)->Rn P Goal (b.atR a (.inRegion ops (n::rest)::k)) cs w')
 (V:∀a w',q ops.size a w'->Rn P Goal (b.atR a k) cs w') (a5:a.defers=df) (hN:N<=a.tmps.size) (a4:∀p∈fx,a.tmps[p.1]?=some p.2):Rn P Goal (b.atR a (.code (.region id ops true)::k)) cs w:=by
 simp only[As,Bool.and_eq_true,decide_eq_true_eq,List.all_eq_true,List.mem_range,Bool.or_eq_true]at J;obtain⟨⟨⟨⟨⟨c1,c3⟩,c4⟩,c5⟩,c6⟩,c7⟩:=J;refine Rn.draw λt=> ?_;have R:Region.schedule (P.follows .mixedOrders) ops t=Region.linearise .any ops t:=by
  unfold Region.schedule;rw[T];simp
 rw[R];have O:∀{f:Array Bool} {m:Nat} {o:Oper},lm ops f->ds.length<=m->ops[m]?=some o->(∀e∈o.after,Region.binds .any e=true->f[e.on]?=some true)->∀n,n<m->f[n]?=some true:=λ{f m o} D hm z s n B=>by
  have g:m<ops.size:=(gA z).1;exact D.reach ops.size m n o z s (((c7 m g).resolve_left (by omega)) n B)
 refine Rn.orderly (oU c1) (λf a w'=>lm ops f/\(((∀n,ds.length<=n->n<ops.size->f[n]?=some false)/\sx df fx ds G N w a w' λn=>f[n]?=some true)\/∃j,ds.length<j/\j<=ops.size/\(∀n,n<j->f[n]?=some true)/\(∀n,j<=n->n<ops.size->f[n]?=some false)/\q j a w'))
  (λf a w' E h=> ?_) (λf a w' m o rest a7 z hm s h C=> ?_) t a _ ⟨λn o _ A=> ?_, .inl ⟨λn _ B=>by simp[B],a5,hN,a4,gv w,λn d y A=> ?_⟩⟩
 ·refine Rn.p rfl (V a w' ?_);obtain⟨D,h⟩:=h;rcases h with⟨H,l⟩|⟨j,H,l,h3,Y,Z⟩
  ·have hK:ds.length=ops.size:=by
    refine Nat.le_antisymm c3 (Nat.le_of_not_lt λg=> ?_);have:=H ds.length (Nat.le_refl _) g;rw[E _ g]at this;cases this
   rw[←hK];exact S a w' ⟨l.defers,l.size,l.fixed,l.old,λn d y _=>l.come n d y (E n (by have:=(List.getElem?_eq_some_iff.1 y).1;omega))⟩
  ·have hj:j=ops.size:=by
    refine Nat.le_antisymm l (Nat.le_of_not_lt λg=> ?_);have:=Y j (Nat.le_refl _) g;rw[E _ g]at this;cases this
   rw[←hj];exact Z
 ·have a6:m<ops.size:=(gA z).1;obtain⟨D,h⟩:=h;have C:=λa' i x=>C a' i ⟨D.set z s,x⟩;by_cases F:m<ds.length
  ·rcases h with⟨H,l⟩|⟨j,H,l,h3,Y,Z⟩
   ·have hc:=c4 m F;rw[z]at hc;simp only[Option.map_some,Option.getD_some,Bool.and_eq_true,beq_iff_eq]at hc;obtain⟨e1,e3⟩:=hc;have W:ds[m]?=some ds[m]:=List.getElem?_eq_getElem F;refine Rn.doesG z (λc e=>by rw[e]at e3;cases e3) (a2 m o a w' F z l.old l.size l.fixed λn d y B=>l.come n d y (dm B z s)) λv i hv=> ?_;rw[e1,W];have X:=c6 ds[m] (List.getElem_mem F);refine C _ _ (.inl ⟨λn B g=> ?_,l.defers,by simpa[Act.put]using l.size,λp hp=> ?_,kM l.old l.old.size hv.2,λn d y A=> ?_⟩)
    ·rw[sN (by omega)];exact H n B g
    ·show(a.tmps.setIfInBounds ds[m] v)[p.1]?=_;rw[sN (λe=>by
      have h6:ds[m]∉fx.map (·.1):=(by simpa using X.2);exact h6 (by rw[e];exact List.mem_map_of_mem hp))]
     exact l.fixed p hp
    ·by_cases K:n=m
     ·subst K;rw[W]at y;cases y;refine⟨v, ?_,hv.1⟩;show(a.tmps.setIfInBounds ds[n] v)[ds[n]]?=_;exact Array.getElem?_setIfInBounds_self_of_lt (Nat.lt_of_lt_of_le X.1 l.size)
     ·rw[sN (Ne.symm K)]at A;obtain⟨u,a1,a0⟩:=l.come n d y A;refine⟨u, ?_,L n u w' i a0 hv.2⟩;show(a.tmps.setIfInBounds ds[m] v)[d]?=_;rw[sN (λe=>by
       obtain⟨B,rfl⟩:=List.getElem?_eq_some_iff.1 y;exact K ((List.getElem_inj c5).1 e).symm)]
      exact a1
   ·have:=h3 m (by omega);rw[hm]at this;cases this
  ·have r:=O D (by omega) z s;have I:∀n,n<m+1->(f.setIfInBounds m true)[n]?=some true:=λn B=>by
    by_cases e:m=n
    ·subst e;exact Array.getElem?_setIfInBounds_self_of_lt (by omega)
    ·rw[sN e];exact r n (by omega)
   rcases h with⟨H,l⟩|⟨j,H,l,h3,Y,Z⟩
   ·have U:m=ds.length:=by
     refine Nat.le_antisymm (Nat.le_of_not_lt λg=> ?_) (by omega);have:=H ds.length (Nat.le_refl _) (by omega);rw[r _ g]at this;cases this
    have hS:q m a w':=by
     rw[U];exact S a w' ⟨l.defers,l.size,l.fixed,l.old,λn d y _=>l.come n d y (r n (by have:=(List.getElem?_eq_some_iff.1 y).1;omega))⟩
    refine Q m o a w' rest (by omega) z hS λa' i M=>C a' i (.inr ⟨m+1,by omega,by omega,I,λn B g=> ?_,M⟩);rw[sN (by omega)];exact H n (by omega) g
   ·have a3:m=j:=by
     refine Nat.le_antisymm (Nat.le_of_not_lt λg=> ?_) (Nat.le_of_not_lt λg=> ?_)
     ·have:=Y j (Nat.le_refl _) (by omega);rw[r _ g]at this;cases this
     ·have:=h3 m g;rw[hm]at this;cases this
    subst a3;refine Q m o a w' rest (by omega) z Z λa' i M=>C a' i (.inr ⟨m+1,by omega,by omega,I,λn B g=> ?_,M⟩);rw[sN (by omega)];exact Y n (by omega) g
 ·rw[Array.getElem?_replicate]at A;split at A
  ·cases A
  ·cases A
 ·rw[Array.getElem?_replicate]at A;split at A
  ·cases A
  ·cases A
theorem jJ{ev:Operand->Value}{y z:Operand}(a:o.op= .pick x y z)(b:ev x= .bool q):(execOp ev o).run P w= .ok (.value (if q then ev y else ev z)) w:=by
 cases q<;>simp[execOp,a,b,go_sem]
theorem dF{ev:Operand->Value}{b:Array Value}(a:o.op= .extract x i)(c:ev x= .tuple b)(hv:b[i]?=some v):(execOp ev o).run P w= .ok (.value v) w:=by
 simp[execOp,a,c,Instr.extract,hv]
theorem bM{ev:Operand->Value}{y:Operand}{ty:TypeId}{g:Nat}{cells old:Array Value}(a:o.op= .store ty x y)(c:ev x= .pointer (some ⟨g,0,none⟩))(b:ev y= .agg cells)(f:w.heap[g]?=some (.cells old t))(e:(P.info? ty).map (·.size)=some cells.size)(d:old.size=cells.size)(i:cells.all (·.oneCell')=true):
 (execOp ev o).run P w= .ok .skip (w.setRow g cells):=by
 have h:=run_storeVar_row (P:=P) w g t ty old cells f e d i;simp[execOp,a,c,b,Instr.storeAt,Instr.sureAddr,h]
theorem bN(w:World)(g:Nat)(cs:Array Value)(h:N<=g):Below N w (w.setRow g cs):=⟨rfl,rfl,rfl,by simp[World.setRow],λk a=>setRow_other w g k cs (by omega)⟩
theorem kZ{R:Ending->World->Prop}{t u:Tmp}{ty:TypeId}{d:TypeDesc}(s:P.funcs[f]?=some fn)(c:fn.results=#[.cell t ty, .tmp u])(m:P.underlying ty=some d)(y:d.isRow=true)(r:(P.info? ty).map (·.size)=some n)
 (h:∀cs,Rn P (λg w'=>∃(a:Act) (k:List Item) (b:Nat) (cells:Array Value) (e:TypeId) (v:Value),g=gV {(base f).atR a k with mode:= .returning} cs/\a.defers=[]/\a.tmps[t]?=some (.pointer (some ⟨b,0,none⟩))/\w'.heap[b]?=some (.cells cells e)/\cells.size=n/\a.tmps[u]?=some v/\R (.returned (.tuple #[.agg cells,v])) w') (Frame.enter P f args .normal) cs w):Calls P f args w R:=λcs=>by
 obtain⟨G,w',F,a,k,b,cells,e,v,rfl,E,D,C,B,A,z⟩:=h cs;refine⟨.returned (.tuple #[.agg cells,v]),w',{(base f).atR a k with mode:= .returning},z,StepsIn.steps F,rfl,rfl,E,rfl,fn,s, ?_⟩;have p:a.tmps[t]?.getD undef= .pointer (some ⟨b,0,none⟩):=by rw[D];rfl
 have l:a.tmps[u]?.getD undef=v:=by rw[A];rfl
 have o:w'.rangeAt b 0 cells.toList:=λj x i=>by
  rw[Nat.zero_add];have:w'.cell? ⟨b,j,none⟩=cells[j]?:=by simp[World.cell?,C]
  rw[this,←i,Array.getElem?_toList]
 have q:=run_loadVar_mid (P:=P) w' b 0 ty cells.toList d o m y (by rw[r];simp[B]);show(results fn a.tmps).run P w'=_;simp[results,c,p,l,asAddr,q]
end
section
def kn(fx:List (Nat×Value))(ps:List (Nat×Value))(ops:Array Oper)(n x:Nat):Option Value:=
 match fx.lookup x with
 |some v=>some v
 |none=>(ps.zipIdx.find? λq=>q.1.1==x&&fZ ops n q.2).map (·.1.2)
theorem DY{fx:List (Nat×Value)}{f:List (Nat×Value)}{x:Nat}(h:kn fx f ops n x=some v)(c:∀p∈fx,a.tmps[p.1]?=some p.2)(b:∀m p,f[m]?=some p->fZ ops n m=true->a.tmps[p.1]?=some p.2):a.tmps[x]?=some v:=by
 unfold kn at h;cases e:fx.lookup x with
 |some u=>
  rw[e]at h;cases h;have:(x,v)∈fx:=by
   clear c b;induction fx with
   |nil=>cases e
   |cons p r j=>
    rw[List.lookup]at e;split at e
    ·rename_i k;have:x=p.1:=(by simpa using k);cases e;rw[this];exact List.mem_cons_self
    ·exact List.mem_cons_of_mem _ (j e)
  exact c _ this
 |none=>
  rw[e]at h;simp only[Option.map_eq_some_iff]at h;obtain⟨q,g,l⟩:=h;have o:=List.mem_of_find?_eq_some g;have d:=List.find?_some g;simp only[Bool.and_eq_true,beq_iff_eq]at d;have i:=List.mem_zipIdx o;have:=b q.2 q.1 (by simpa using List.getElem?_eq_some_iff.2 ⟨by simpa using i.2.1,by simpa using i.2.2.symm⟩) d.2;rw[←d.1,←l];exact this
def lk(fx:List (Nat×Value))(ps:List (Nat×Value))(x:Nat):Option Value:=(fx++ps).lookup x
structure Rw (w:World) (fx ps:List (Nat×Value)) (ops:Array Oper) (n:Nat) (o:Oper) (a:Act) (w':World):Prop where
 ho:ops[n]?=some o
 e:∀{p},(h:(ops[n]?).map (·.op)=some p:=by kernel_rfl)->o.op=p
 b:Below w.heap.size w w'
 k:∀x {u},(g:lk fx ps x=some u:=by rfl)->(h:kn fx ps ops n x=some u:=by kernel_rfl)->a.eval (.tmp x)=u
def Dv(P:Program)(a:Act)(o:Oper)(w:World)(v:Value):Prop:=sD P a o w λu w'=>u=v/\Below w.heap.size w w'
theorem dv(h:(execOp a.eval o).run P w= .ok (.value v) w):Dv P a o w v:=l0 h ⟨rfl,bR⟩
theorem qo{v':Value}(h:(execOp a.eval o).run P w= .ok (.value v') w)(e:v'=v):Dv P a o w v:=l0 h ⟨e,bR⟩
theorem kc:a.eval (.const v)=v:=rfl
def I2(o:Oper):Option Nat:=match o.op with
 | .move (.tmp x)=>some x
 | .assign (.tmp x)=>some x
 |_=>none
theorem K0{x:Nat}(h:I2 o=some x):o.op= .move (.tmp x)\/o.op= .assign (.tmp x):=by
 unfold I2 at h;split at h
 ·rename_i e;cases h;exact .inl e
 ·rename_i e;cases h;exact .inr e
 ·cases h
def kC(P:Program)(w:World)(fx ps:List (Nat×Value))(ms:List Nat)(ops:Array Oper):Nat->List (Nat×Value)->Prop
 |_,[]=>True
 |n,p::q=>(match ms.contains p.1 with|true=>kC P w fx ps ms ops (n+1) q|false=>(∀{o a w'},Rw w fx ps ops n o a w'->Dv P a o w' p.2)/\kC P w fx ps ms ops (n+1) q)
theorem wo{fx b:List (Nat×Value)}{c:List Nat}:∀(r:List (Nat×Value)) (k i:Nat) (p:Nat×Value),kC P w fx b c ops k r->r[i]?=some p->c.contains p.1=false->∀{o a w'},Rw w fx b ops (k+i) o a w'->Dv P a o w' p.2
 |[],_,i,_,_,h,_=>by simp at h
 |q::r,k,0,p,hr,h,hm=>by
  have:q=p:=by simpa using h
  subst this;unfold kC at hr;rw[hm]at hr;exact hr.1
 |q::r,k,i+1,p,hr,h,hm=>by
  have d:kC P w fx b c ops (k+1) r:=by
   unfold kC at hr;split at hr
   ·exact hr
   ·exact hr.2
  rw[show k+(i+1)=k+1+i from by omega];exact wo r (k+1) i p d (by simpa using h) hm
def Ai(fx ps:List (Nat×Value))(ms:List Nat)(ops:Array Oper):List (Option Value):=ps.zipIdx.map λq=>match ms.contains q.1.1 with
 |true=>((ops[q.2]?).bind I2).bind (kn fx ps ops q.2)
 |false=>none
def Ah(ps:List (Nat×Value))(ms:List Nat):List (Option Value):=ps.map λp=>match ms.contains p.1 with
 |true=>some p.2
 |false=>none
theorem aJ.grow{df:List Deferred}{fx b:List (Nat×Value)}(f:sx df fx (b.map (·.1)) (λn u _=>(b[n]?).map (·.2)=some u) N w a w' λ_=>True)(i:aJ fx N df a):∀L:List (Nat×Value),(L.map λp=>b.lookup p.1)=L.map (λp=>some p.2)->aJ (L++fx) N df a
 |[],_=>i
 |(d,v)::r,h=>by
  simp only[List.map_cons,List.cons.injEq]at h;refine(aJ.grow f i r h.2).more ?_;have:∃m:Nat,b[m]?=some (d,v):=by
   have c:=h.1;clear f h;induction b with
   |nil=>cases c
   |cons p q j=>
    rw[List.lookup]at c;split at c
    ·rename_i k;have:d=p.1:=(by simpa using k);cases c;exact⟨0,by rw[this];rfl⟩
    ·obtain⟨m,e⟩:=j c;exact⟨m+1,e⟩
  obtain⟨m,e⟩:=this;obtain⟨u,l,g⟩:=f.come m d (by rw[List.getElem?_map,e];rfl) trivial;rw[e]at g;cases g;exact l
theorem Rn.tabS{b:Frame}{k:List Item}{id:Nat}{df:List Deferred}{fx:List (Nat×Value)}(T:aJ fx N df a)(d:List (Nat×Value))(E:List Nat)(L:List (Nat×Value))(j:kC P w fx d E ops 0 d)
 (c:Nat->Act->World->Prop) (J:∀a w',Below w.heap.size w w'->aJ (L++fx) N df a->c d.length a w')
 (I:∀n o a w' rest,d.length<=n->ops[n]?=some o->c n a w'->(∀a' g,c (n+1) a' g->Rn P Goal (b.atR a' (.inRegion ops rest::k)) cs g)->Rn P Goal (b.atR a (.inRegion ops (n::rest)::k)) cs w')
 (z:∀a w',c ops.size a w'->Rn P Goal (b.atR a k) cs w') (v:P.follows .mixedOrders=true:=by kernel_rfl) (Q:Ai fx d E ops=Ah d E:=by kernel_rfl) (A:rM ops (d.map (·.1)) (fx.map (·.1)) N=true:=by kernel_rfl) (hL:(L.map λp=>d.lookup p.1)=L.map (λp=>some p.2):=by kernel_rfl) (M:(fx.map (·.1)).Nodup:=by simp):Rn P Goal (b.atR a (.code (.region id ops true)::k)) cs w:=by
 refine Rn.grows (fx:=fx) (ds:=d.map (·.1)) (N:=N) (df:=df) (G:=λn u _=>(d[n]?).map (·.2)=some u) v A (λ_ _ _ _ h _=>h) (λn o a w' Z s hb y K=> ?_)
  c (λa w' S=> ?_) (λm o a w' rest H s hS R=>I m o a w' rest (by simpa using H) s hS R) z T.defers T.size (T.all M)
 ·have O:n<d.length:=by simpa using Z
  obtain⟨p,F⟩:∃p,d[n]?=some p:=⟨d[n],List.getElem?_eq_getElem O⟩;have r:∀m q,d[m]?=some q->fZ ops n m=true->a.tmps[q.1]?=some q.2:=λm q W i=>by
   obtain⟨u,Y,X⟩:=K m q.1 (by rw[List.getElem?_map,W];rfl) i;rw[W]at X;cases X;exact Y
  have U:Dv P a o w' p.2->sD P a o w' λu g=>(d[n]?).map (·.2)=some u/\Below w'.heap.size w' g:=λh=>by
   rcases h with⟨u,V,C,B,h3⟩|⟨f,D,C,B⟩
   ·exact .inl ⟨u,V,C,by rw[F,B];rfl,h3⟩
   ·exact .inr ⟨f,D,C,B.mono λe V ⟨u,e1,e2,e3⟩=>⟨u,e1,by rw[F,e2];rfl,e3⟩⟩
  refine U ?_;cases t:E.contains p.1 with
  |false=>
   refine wo d 0 n p j F t (o:=o) (a:=a) (w':=w') ?_;rw[Nat.zero_add];exact⟨s,λh=>by rw[s]at h;exact Option.some.inj h,hb,λx u _ h=>ce (DY h y r)⟩
  |true=>
   have H:=congrArg (λl=>l[n]?) Q;simp only[Ai,Ah,List.getElem?_map,List.getElem?_zipIdx,F,Option.map_some,Option.some.injEq,Nat.zero_add,t,s,Option.bind_some,Option.bind_eq_some_iff]at H;obtain⟨x,C,B⟩:=H;exact kX (K0 C) (DY B y r) ⟨rfl,bR⟩
 ·have:=J a w' S.old (aJ.grow S S.base L hL)
  rwa [List.length_map]
theorem Rn.tab{b:Frame}{k:List Item}{id:Nat}{df:List Deferred}{fx:List (Nat×Value)}(u:aJ fx N df a)(c:List (Nat×Value))(j:List Nat)(d:Nat)(f:kC P w fx c j ops 0 c)
 (next:∀a w',Below w.heap.size w w'/\aJ ((d,v)::fx) N df a->Rn P Goal (b.atR a k) cs w') (g:P.follows .mixedOrders=true:=by kernel_rfl) (l:ops.size=c.length:=by kernel_rfl) (q:Ai fx c j ops=Ah c j:=by kernel_rfl) (i:rM ops (c.map (·.1)) (fx.map (·.1)) N=true:=by kernel_rfl) (e:c.lookup d=some v:=by kernel_rfl) (p:(fx.map (·.1)).Nodup:=by simp):Rn P Goal (b.atR a (.code (.region id ops true)::k)) cs w:=
 Rn.tabS u c j [(d,v)] f (λm a w'=>m=ops.size/\Below w.heap.size w w'/\aJ ((d,v)::fx) N df a) (λ_ _ y x=>⟨l.symm,y,x⟩) (λn o a w' r z s A t=>by
  have:=(gA s).1;omega) (λa w' h=>next a w' h.2) g q i (by simp[e]) p
theorem Rn.tab1{b:Frame}{k:List Item}{id:Nat}{df:List Deferred}{fx:List (Nat×Value)}{R:Act->World->Prop}(next:∀a w',R a w'->Rn P Goal (b.atR a k) cs w')(z:aJ fx N df a)(c:List (Nat×Value))(i:List Nat)(L:List (Nat×Value))(e:kC P w fx c i ops 0 c)
 (t:∀a w' rest,Below w.heap.size w w'->aJ (L++fx) N df a->(∀a' d,R a' d->Rn P Goal (b.atR a' (.inRegion ops rest::k)) cs d)->Rn P Goal (b.atR a (.inRegion ops (c.length::rest)::k)) cs w') (f:P.follows .mixedOrders=true:=by kernel_rfl) (u:ops.size=c.length+1:=by kernel_rfl) (l:Ai fx c i ops=Ah c i:=by kernel_rfl) (g:rM ops (c.map (·.1)) (fx.map (·.1)) N=true:=by kernel_rfl) (y:(L.map λp=>c.lookup p.1)=L.map (λp=>some p.2):=by kernel_rfl) (j:(fx.map (·.1)).Nodup:=by simp):Rn P Goal (b.atR a (.code (.region id ops true)::k)) cs w:=
 Rn.tabS z c i L e (λm a w'=>(m=c.length/\Below w.heap.size w w'/\aJ (L++fx) N df a)\/(m=c.length+1/\R a w')) (λ_ _ s r=> .inl ⟨rfl,s,r⟩) (λn o a w' rest A v x q=>by
  rcases x with⟨rfl,s,r⟩|⟨rfl,_⟩
  ·exact t a w' rest s r λa' d h=>q a' d (.inr ⟨rfl,h⟩)
  ·have:=(gA v).1;omega) (λa w' h=>by
  rcases h with⟨h,_⟩|⟨_,h⟩
  ·omega
  ·exact next a w' h) f l g y j
def xJ(ops:Array Oper)(n:Nat):Option (FuncId×Array Operand):=(ops[n]?).bind λo=>match o.op with
 | .call c=>match c.callee with
   | .value (.func f)=>some (f,c.args)
   |_=>none
 |_=>none
def lS(P:Program)(f:FuncId):Bool:=match P.funcs[f]? with
 |some fn=> !(fn.name== "runtime.NumGoroutine")&& !fn.body.isNone
 |none=>false
theorem Rw.calls{fx p:List (Nat×Value)}{xs:Array Operand}{l:Array Value}{v':Value}(h:Rw w fx p ops n o a w')(q:xs.map a.eval=l)(r:Calls P f l w' λe i=>e= .returned v'/\Below w'.heap.size w' i)(hv:v'=v)(b:xJ ops n=some (f,xs))(d:lS P f=true):Dv P a o w' v:=by
 subst hv;unfold xJ at b;rw[h.ho]at b;simp only[Option.bind_some]at b;split at b
 ·rename_i c j;split at b
  ·rename_i g m;simp only[Option.some.injEq,Prod.mk.injEq]at b;unfold lS at d;split at d
   ·rename_i y k;simp only[Bool.and_eq_true,Bool.not_eq_true']at d;obtain⟨z,A,u⟩:=c;simp only at m b;subst m;obtain⟨rfl,rfl⟩:=b;exact .inr ⟨_,_,(aO (w:=w') j q (cY k d.1 d.2 _)).1,r.mono λe x ⟨t,s⟩=>⟨_,t,rfl,s⟩⟩
   ·cases d
  ·cases b
 ·cases b
variable{P:Program}{w:World}{fx ps:List (Nat×Value)}{ops:Array Oper}{n:Nat}{o:Oper}{a:Act}{w':World}{f:FuncId}{v v':Value}
theorem Rw.c2{x0 g:Operand}{j i:Value}(h:Rw w fx ps ops n o a w')(m:a.eval x0=j)(l:a.eval g=i)(k:Calls P f #[j,i] w' λe b=>e= .returned v'/\Below w'.heap.size w' b)(hv:v'=v:=by rfl)(d:xJ ops n=some (f,#[x0,g]):=by kernel_rfl)(c:lS P f=true:=by kernel_rfl):Dv P a o w' v:=h.calls (by simp[m,l]) k hv d c
theorem Rw.c3{x0 i g:Operand}{l k j:Value}(h:Rw w fx ps ops n o a w')(r:a.eval x0=l)(q:a.eval i=k)(p:a.eval g=j)(m:Calls P f #[l,k,j] w' λe b=>e= .returned v'/\Below w'.heap.size w' b)(hv:v'=v:=by rfl)(d:xJ ops n=some (f,#[x0,i,g]):=by kernel_rfl)(c:lS P f=true:=by kernel_rfl):Dv P a o w' v:=h.calls (by simp[r,q,p]) m hv d c
theorem Rw.c4{x0 j i g:Operand}{p m l k:Value}(h:Rw w fx ps ops n o a w')(u:a.eval x0=p)(t:a.eval j=m)(s:a.eval i=l)(r:a.eval g=k)(q:Calls P f #[p,m,l,k] w' λe b=>e= .returned v'/\Below w'.heap.size w' b)(hv:v'=v:=by rfl)(d:xJ ops n=some (f,#[x0,j,i,g]):=by kernel_rfl)(c:lS P f=true:=by kernel_rfl):Dv P a o w' v:=h.calls (by simp[u,t,s,r]) q hv d c
theorem Rw.c5{x0 k j i g:Operand}{r q p m l:Value}(h:Rw w fx ps ops n o a w')(z:a.eval x0=r)(y:a.eval k=q)(x:a.eval j=p)(u:a.eval i=m)(t:a.eval g=l)(s:Calls P f #[r,q,p,m,l] w' λe b=>e= .returned v'/\Below w'.heap.size w' b)(hv:v'=v:=by rfl)(d:xJ ops n=some (f,#[x0,k,j,i,g]):=by kernel_rfl)(c:lS P f=true:=by kernel_rfl):Dv P a o w' v:=h.calls (by simp[z,y,x,u,t]) s hv d c
theorem Rw.c7{x0 m l k j i g:Operand}{x u t s r q p:Value}(h:Rw w fx ps ops n o a w')(F:a.eval x0=x)(E:a.eval m=u)(D:a.eval l=t)(C:a.eval k=s)(B:a.eval j=r)(A:a.eval i=q)(z:a.eval g=p)(y:Calls P f #[x,u,t,s,r,q,p] w' λe b=>e= .returned v'/\Below w'.heap.size w' b)(hv:v'=v:=by rfl)(d:xJ ops n=some (f,#[x0,m,l,k,j,i,g]):=by kernel_rfl)(c:lS P f=true:=by kernel_rfl):Dv P a o w' v:=h.calls (by simp[F,E,D,C,B,A,z]) y hv d c
theorem Rw.c8{x0 p m l k j i g:Operand}{z y x u t s r q:Value}(h:Rw w fx ps ops n o a w')(I:a.eval x0=z)(H:a.eval p=y)(G:a.eval m=x)(F:a.eval l=u)(E:a.eval k=t)(D:a.eval j=s)(C:a.eval i=r)(B:a.eval g=q)(A:Calls P f #[z,y,x,u,t,s,r,q] w' λe b=>e= .returned v'/\Below w'.heap.size w' b)(hv:v'=v:=by rfl)(d:xJ ops n=some (f,#[x0,p,m,l,k,j,i,g]):=by kernel_rfl)(c:lS P f=true:=by kernel_rfl):Dv P a o w' v:=h.calls (by simp[I,H,G,F,E,D,C,B]) A hv d c
end
def B0(P:Program)(ops:Array Oper)(a:Act)(o:Oper)(w:World)(R:Value->World->Prop):Prop:=uE P ops a o w R\/(Region.wanted o (yielded ops a.tmps)=true/\∃w',(execOp a.eval o).run P w= .ok .skip w'/\R undef w')
structure EQ (df:List Deferred) (fx:List (Nat×Value)) (ds:List (Option Nat)) (G:Nat->Value->World->Prop) (N:Nat) (Rel:World->World->Prop) (w0:World) (a:Act) (w:World) (L:Nat->Prop):Prop where
 defers:a.defers=df
 size:N<=a.tmps.size
 fixed:∀p∈fx,a.tmps[p.1]?=some p.2
 old:Rel w0 w
 come:∀n x,ds[n]?=some x->L n->∃v,(∀d,x=some d->a.tmps[d]?=some v)/\G n v w
def Ar(ops:Array Oper)(ds:List (Option Nat))(fx:List Nat)(N:Nat):Bool:=
 vt ops&&decide (ds.length=ops.size)&&((List.range ds.length).all λn=>((ops[n]?).map λo=>some o.dst==ds[n]?&&rB o.op).getD false)&&((List.range ds.length).all λn=>(List.range ds.length).all λm=>n==m||ds[n]?==some none||ds[n]? !=ds[m]?)&&(ds.all λx=>(x.map λd=>decide (d<N)&& !fx.contains d).getD true)
section
variable{P:Program}{Goal:Goroutine->World->Prop}{b:Frame}{k:List Item}{cs:List Frame}
theorem Rn.doesX{R:Value->World->Prop}(ho:ops[n]?=some o)(hnd:∀c,o.op≠ .defer c)(h:B0 P ops a o w R)(next:∀v w',R v w'->Rn P Goal (b.atR (a.put o.dst v) (.inRegion ops rest::k)) cs w'):Rn P Goal (b.atR a (.inRegion ops (n::rest)::k)) cs w:=by
 rcases h with h|⟨hw,w',h1,h2⟩
 ·exact Rn.doesG ho hnd h next
 ·exact Rn.did ho hw hnd h1 (next undef w' h2)
theorem Rn.growsX{id:Nat}{df:List Deferred}{fx:List (Nat×Value)}{ds:List (Option Nat)}{G:Nat->Value->World->Prop}{Rel:World->World->Prop}(M:P.follows .mixedOrders=true)(B:Ar ops ds (fx.map (·.1)) N=true)(F:Rel w {w with drawn:=w.drawn+1})(z:∀w w' i,Rel w w'->Rel w' i->Rel w i)(s:∀n v w w',G n v w->Rel w w'->G n v w')
 (V:∀n o a w',n<ds.length->ops[n]?=some o->Rel w w'->N<=a.tmps.size->(∀p∈fx,a.tmps[p.1]?=some p.2)->(∀m x,ds[m]?=some x->fZ ops n m=true->∃v,(∀d,x=some d->a.tmps[d]?=some v)/\G m v w')->B0 P ops a o w' λv i=>G n v i/\Rel w' i)
 (Q:∀a w',EQ df fx ds G N Rel w a w' (λ_=>True)->Rn P Goal (b.atR a k) cs w') (Z:a.defers=df) (hN:N<=a.tmps.size) (Y:∀p∈fx,a.tmps[p.1]?=some p.2):Rn P Goal (b.atR a (.code (.region id ops true)::k)) cs w:=by
 simp only[Ar,Bool.and_eq_true,decide_eq_true_eq,List.all_eq_true,List.mem_range,Bool.or_eq_true]at B;obtain⟨⟨⟨⟨c1,c3⟩,c4⟩,c5⟩,c6⟩:=B;refine Rn.draw λt=> ?_;have K:Region.schedule (P.follows .mixedOrders) ops t=Region.linearise .any ops t:=by
  unfold Region.schedule;rw[M];simp
 rw[K];refine Rn.orderly (oU c1) (λf a w'=>EQ df fx ds G N Rel w a w' λn=>f[n]?=some true)
  (λf a w' S h=> ?_) (λf a w' m o a0 a2 L hm R q O=> ?_) t a _ ⟨Z,hN,Y,F,λn x g y=> ?_⟩
 ·exact Rn.p rfl (Q a w' ⟨h.defers,h.size,h.fixed,h.old,λn x g _=>h.come n x g (S n (by have:=(List.getElem?_eq_some_iff.1 g).1;omega))⟩)
 ·have a1:m<ops.size:=(gA L).1;have E:m<ds.length:=by omega
  have hc:=c4 m E;rw[L]at hc;simp only[Option.map_some,Option.getD_some,Bool.and_eq_true,beq_iff_eq]at hc;obtain⟨T,e3⟩:=hc;refine Rn.doesX L (λc e=>by rw[e]at e3;cases e3) (V m o a w' E L q.old q.size q.fixed λn x g X=>q.come n x g (dm X L R)) λv i J=> ?_;have A:=z _ _ _ q.old J.2;have W:∀n x d,ds[n]?=some x->x=some d->n≠m->o.dst≠some d:=λn x d U r j e=>by
   have X:n<ds.length:=(List.getElem?_eq_some_iff.1 U).1;rcases c5 n X m E with(h|h)|h
   ·exact j (by simpa using h)
   ·rw[U,r]at h;simp at h
   ·rw[U,r,←T,e]at h;simp at h
  cases l:o.dst with
  |none=>
   refine O _ _ ⟨q.defers,q.size,q.fixed,A,λn x g y=> ?_⟩;by_cases j:n=m
   ·subst j;rw[←T,l]at g;cases g;exact⟨v,λd g=>(by cases g),J.1⟩
   ·rw[sN (Ne.symm j)]at y;obtain⟨u,D,C⟩:=q.come n x g y;exact⟨u,D,s n u w' i C J.2⟩
  |some I=>
   have H:=c6 (some I) (by rw[←l];exact mG T.symm);simp only[Option.map_some,Option.getD_some,Bool.and_eq_true,decide_eq_true_eq]at H;refine O _ _ ⟨q.defers,by simpa[Act.put]using q.size,λp hp=> ?_,A,λn x g y=> ?_⟩
   ·show(a.tmps.setIfInBounds I v)[p.1]?=_;rw[sN (λe=>by
     have h6:I∉fx.map (·.1):=(by simpa using H.2);exact h6 (by rw[e];exact List.mem_map_of_mem hp))]
    exact q.fixed p hp
   ·by_cases j:n=m
    ·subst j;rw[←T,l]at g;cases g;refine⟨v,λd g=> ?_,J.1⟩;cases g;show(a.tmps.setIfInBounds I v)[I]?=_;exact Array.getElem?_setIfInBounds_self_of_lt (Nat.lt_of_lt_of_le H.1 q.size)
    ·rw[sN (Ne.symm j)]at y;obtain⟨u,D,C⟩:=q.come n x g y;refine⟨u,λd r=> ?_,s n u w' i C J.2⟩;show(a.tmps.setIfInBounds I v)[d]?=_;rw[sN (λe=>W n x d g r j (by rw[l,e]))];exact D d r
 ·rw[Array.getElem?_replicate]at y;split at y
  ·cases y
  ·cases y
theorem gp{R:Value->World->Prop}(b:∀y,Region.wanted o y=true)(h:(execOp a.eval o).run P w= .ok (.value v) w')(c:R v w'):B0 P ops a o w R:= .inl (.inl ⟨b _,l0 h c⟩)
end
structure cA where
 tree:ByteArray
 chains:ByteArray
 id:ByteArray
 root:ByteArray
 height:Int
 width:Int
 count:Nat
 shift:Int
 q:Int
 salt:ByteArray
 links:ByteArray
 path:ByteArray
def cA.cells(s:cA):Array Value:=#[.string s.tree, .string s.chains, .string s.id, .string s.root, .int .i64 s.height, .int .i64 s.width, .int .i64 s.count, .int .i64 s.shift, .int .i64 s.q, .string s.salt, .string s.links, .string s.path]
def Yl(P:Program)(ev:Operand->Value)(o:Oper)(w:World)(v:Value)(es:Array Event):Prop:=(execOp ev o).run P w= .ok (.value v) w/\(execOp ev o).events P w #[]=es
section
variable{w:World}{b:Nat}{s:cA}{ev:Operand->Value}{o:Oper}{x y z:Operand}
theorem o9{cs:Array Value}(h:w.heap[b]?=some (.cells cs t))(k:Nat):w.cell? ⟨b,k,none⟩=cs[k]?:=by
 unfold World.cell?;simp[h]
theorem bC(P:Program)(a:o.op= .move x\/o.op= .assign x):Yl P ev o w (ev x) #[]:=by
 rcases a with h|h<;>constructor<;>simp[execOp,h]
theorem j7(P:Program){f:Fn}{a:Array Operand}(b:o.op= .makeFunc f #[] a):Yl P ev o w (.func f #[] (a.map ev)) #[]:=by
 constructor<;>simp[execOp,b,Instr.makeFunc]
def EX(P:Program)(t:TypeId):Prop:=∀w:World,(isAgg t).run P w= .ok false w/\(isAgg t).events P w #[]=#[]
theorem aG:EX Tryz.prog 3:=λw=>⟨by kernel_rfl,by kernel_rfl⟩
theorem aQ:EX Tryz.prog 9:=λw=>⟨by kernel_rfl,by kernel_rfl⟩
theorem od:EX Tryz.prog 24:=λw=>⟨by kernel_rfl,by kernel_rfl⟩
theorem pG:EX Tryz.prog 43:=λw=>⟨by kernel_rfl,by kernel_rfl⟩
theorem tM{ad:Addr}(d:EX Tryz.prog t)(a:o.op= .load t x)(b:ev x= .pointer (some ad))(h:w.cell? ad=some v):Yl Tryz.prog ev o w v #[⟨.cell ad,false,false⟩]:=by
 obtain⟨c,e⟩:=d w;constructor
 ·simp[execOp,a,b,Instr.loadAt,loadVar,c,h,go_sem]
 ·simp[execOp,a,b,Instr.loadAt,loadVar,c,e,h,go_sem]
def kG(b:Nat):Array Event:=#[⟨.cell ⟨b,0,none⟩,false,false⟩,⟨.cell ⟨b,1,none⟩,false,false⟩,⟨.cell ⟨b,2,none⟩,false,false⟩,⟨.cell ⟨b,3,none⟩,false,false⟩,⟨.cell ⟨b,4,none⟩,false,false⟩,⟨.cell ⟨b,5,none⟩,false,false⟩,
 ⟨.cell ⟨b,6,none⟩,false,false⟩,⟨.cell ⟨b,7,none⟩,false,false⟩,⟨.cell ⟨b,8,none⟩,false,false⟩,⟨.cell ⟨b,9,none⟩,false,false⟩,⟨.cell ⟨b,10,none⟩,false,false⟩,⟨.cell ⟨b,11,none⟩,false,false⟩]
theorem yE{b:Nat}(h:e∈kG b):∃k,e=⟨.cell ⟨b,k,none⟩,false,false⟩:=by
 simp only[kG,List.mem_toArray,List.mem_cons,List.not_mem_nil,or_false]at h;rcases h with rfl|rfl|rfl|rfl|rfl|rfl|rfl|rfl|rfl|rfl|rfl|rfl<;>exact⟨_,rfl⟩
theorem jC{ex:Array Value}(e:o.op= .load 119 x)(t:ev x= .pointer (some ⟨b,0,none⟩))(h:w.heap[b]?=some (.cells (s.cells++ex) 119)):Yl Tryz.prog ev o w (.agg s.cells) (kG b):=by
 have u:(isAgg 119).run Tryz.prog w= .ok true w:=by kernel_rfl
 have y:(isAgg 119).events Tryz.prog w #[]=#[]:=by kernel_rfl
 have a:∀k,k<12->w.cell? ⟨b,k,none⟩=s.cells[k]?:=λk v=>(o9 h k).trans (Array.getElem?_append_left v);have r:w.cell? ⟨b,0,none⟩=some (.string s.tree):=a 0 (by decide);have q:w.cell? ⟨b,1,none⟩=some (.string s.chains):=a 1 (by decide);have p:w.cell? ⟨b,2,none⟩=some (.string s.id):=a 2 (by decide);have n:w.cell? ⟨b,3,none⟩=some (.string s.root):=a 3 (by decide);have m:w.cell? ⟨b,4,none⟩=some (.i s.height):=a 4 (by decide);have l:w.cell? ⟨b,5,none⟩=some (.i s.width):=a 5 (by decide);have j:w.cell? ⟨b,6,none⟩=some (.i s.count):=a 6 (by decide);have i:w.cell? ⟨b,7,none⟩=some (.i s.shift):=a 7 (by decide);have g:w.cell? ⟨b,8,none⟩=some (.i s.q):=a 8 (by decide);have f:w.cell? ⟨b,9,none⟩=some (.string s.salt):=a 9 (by decide);have d:w.cell? ⟨b,10,none⟩=some (.string s.links):=a 10 (by decide);have c:w.cell? ⟨b,11,none⟩=some (.string s.path):=a 11 (by decide);constructor
 ·simp[execOp,e,t,Instr.loadAt,loadVar,u,loadCells,loadCellsFrom,Addr.add,r,q,p,n,m,l,j,i,g,f,d,c,cA.cells,go_sem]
 ·simp[execOp,e,t,Instr.loadAt,loadVar,u,y,loadCells,loadCellsFrom,Addr.add,r,q,p,n,m,l,j,i,g,f,d,c,kG,go_sem]
theorem qG(a:o.op= .fieldAddr 119 x 0)(c:ev x= .pointer (some ⟨b,k,none⟩)):Yl Tryz.prog ev o w (.pointer (some ⟨b,k,none⟩)) #[]:=by
 have e:execOp ev o=(do pure (.value (←Instr.fieldAt 119 (.pointer (some ⟨b,k,none⟩)) 0))):=by simp only[execOp,a,c]
 unfold Yl;rw[e];constructor<;>kernel_rfl
theorem vK(a:o.op= .fieldAddr 115 x 6)(c:ev x= .pointer (some ⟨b,0,none⟩)):Yl Tryz.prog ev o w (.pointer (some ⟨b,6,none⟩)) #[]:=by
 have e:execOp ev o=(do pure (.value (←Instr.fieldAt 115 (.pointer (some ⟨b,0,none⟩)) 6))):=by simp only[execOp,a,c]
 unfold Yl;rw[e];constructor<;>kernel_rfl
theorem CN(a:o.op= .fieldAddr 119 x 3)(c:ev x= .pointer (some ⟨b,0,none⟩)):Yl Tryz.prog ev o w (.pointer (some ⟨b,10,none⟩)) #[]:=by
 have e:execOp ev o=(do pure (.value (←Instr.fieldAt 119 (.pointer (some ⟨b,0,none⟩)) 3))):=by simp only[execOp,a,c]
 unfold Yl;rw[e];constructor<;>kernel_rfl
theorem cH{m n:Int}(a:o.op= .binOp .lss 3 x y u)(c:ev x= .i m)(b:ev y= .i n):Yl Tryz.prog ev o w (.bool (decide (m<n))) #[]:=by
 constructor<;>simp[execOp,a,c,b,go_sem]
theorem lv{m n:Int}(a:o.op= .binOp .add 3 x y u)(c:ev x= .i m)(b:ev y= .i n)(h: -9223372036854775808<=m+n/\m+n<9223372036854775808):Yl Tryz.prog ev o w (.i (m+n)) #[]:=by
 have e:IntKind.i64.wrap (m+n)=m+n:=by rw[IntKind.wrap_i64];omega
 constructor<;>simp[execOp,a,c,b,go_sem,e]
theorem dH{m n:Int}(a:o.op= .binOp .mul 3 x y u)(c:ev x= .i m)(b:ev y= .i n)(h: -9223372036854775808<=m*n/\m*n<9223372036854775808):Yl Tryz.prog ev o w (.i (m*n)) #[]:=by
 have e:IntKind.i64.wrap (m*n)=m*n:=by rw[IntKind.wrap_i64];omega
 constructor<;>simp[execOp,a,c,b,go_sem,e]
theorem lu(a:o.op= .unOp .not t x)(b:ev x= .bool q):Yl Tryz.prog ev o w (.bool (!q)) #[]:=by
 constructor<;>simp[execOp,a,b,go_sem,Op.unary]
theorem cV{t:ByteArray}(a:o.op= .slice 9 x (some y) (some z) none)(d:ev x= .string t)(c:ev y= .i m)(b:ev z= .i n)(h:m<=n)(f:n<=t.size):Yl Tryz.prog ev o w (.string (t.extract m n)) #[]:=by
 have e:Tryz.prog.underlying 9=some .string:=by kernel_rfl
 constructor
 ·simp[execOp,a,d,c,b,Instr.sliceAt,Instr.slice,Instr.sliceBounds,run_underlying e,Instr.sliceBound,asIntOf,h,f]
 ·simp[execOp,a,d,c,b,Instr.sliceAt,Instr.slice,Instr.sliceBounds,run_underlying e,Instr.sliceBound,asIntOf,h,f,go_sem]
theorem eq{e:TypeId}{a:Addr}{len cap:Nat}(f:Tryz.prog.underlying t=some (.slice e))(h:∀w:World,(sizeOf e).run Tryz.prog w= .ok 1 w)(b:o.op= .indexAddr t x y)(d:ev x= .slice (some a) len cap)(c:ev y= .i n)(g:n<len):
 Yl Tryz.prog ev o w (.pointer (some (a.add n))) #[]:=by
 have i:=h w;constructor<;>simp[execOp,b,d,c,go_sem,f,i,g]
def Mk(P:Program)(ev:Operand->Value)(o:Oper)(w:World)(cs:Array Value)(t:TypeId):Prop:=(execOp ev o).run P w= .ok (.value (.pointer (some ⟨w.heap.size,0,none⟩))) (w.alloc (.cells cs t))/\(execOp ev o).events P w #[]=#[]
theorem lO(P:Program)(a:o.op= .box t x):Mk P ev o w (ev x).cells t:=by
 constructor<;>simp[execOp,a,Instr.box,newVar,newRow,go_sem]
theorem ij(a:o.op= .alloc 3):Mk Tryz.prog ev o w #[.i 0] 3:=by
 have e:execOp ev o=(do pure (.value (←Instr.alloc 3 true (.tuple #[])))):=by simp only[execOp,a]
 unfold Mk;rw[e];constructor<;>kernel_rfl
theorem jS(a:o.op= .alloc 43):Mk Tryz.prog ev o w #[.slice none 0 0] 43:=by
 have e:execOp ev o=(do pure (.value (←Instr.alloc 43 true (.tuple #[])))):=by simp only[execOp,a]
 unfold Mk;rw[e];constructor<;>kernel_rfl
theorem ey{b:Nat}{v0:Value}(hv:v.cells=#[v])(a:v.oneCell'=true)(d:(sizeOf t).run Tryz.prog w= .ok 1 w)(c:o.op= .store t x y)(i:ev x= .pointer (some ⟨b,k,none⟩))(g:ev y=v)(h:w.cell? ⟨b,k,none⟩=some v0)(f:w.frozen? ⟨b,k,none⟩=false):
 (execOp ev o).run Tryz.prog w= .ok .skip (w.setCell ⟨b,k,none⟩ v)/\(execOp ev o).events Tryz.prog w #[]=#[⟨.cell ⟨b,k,none⟩,true,false⟩]:=by
 have e:execOp ev o=(do Instr.storeAt t (.pointer (some ⟨b,k,none⟩)) v;pure .skip):=by simp only[execOp,c,i,g]
 rw[e];simp only[Instr.storeAt,storeVar,hv];constructor
 ·simp[d,storeCells,Addr.add,run_store _ _ _ _ _ a,h,f,go_sem]
 ·simp[d,storeCells,Addr.add,events_store (hv:=a),h,f,go_sem]
end
end
section
open Go
def ed(d:Option Tmp)(p:Op):Oper:={dst:=d,op:=p,type:=0,pos:= "",after:=#[],guard:=none}
def ie(x:Nat):Op:= .call {callee:= .builtin .len,args:=#[.tmp x],argTypes:=#[9]}
def fw(x:Nat)(n:Int):Op:= .binOp .lss 3 (.tmp x) (.const (.int .i64 n)) 3
def skA:Array Oper:=#[ed (some 6) (.field 119 (.tmp 0) 4),ed (some 2) (.box 119 (.tmp 0)),ed (some 3) (.load 119 (.tmp 2)),ed (some 5) (.field 119 (.tmp 3) 0),
 ed (some 6) (.field 115 (.tmp 5) 0),ed (some 7) (ie 6),ed (some 6) (.field 115 (.tmp 5) 1),ed (some 7) (ie 6),ed (some 8) (.field 115 (.tmp 5) 2),ed (some 9) (ie 8),ed (some 6) (.field 115 (.tmp 5) 3),ed (some 7) (ie 6),
 ed (some 6) (.field 115 (.tmp 5) 4),ed (some 7) (fw 6 0),ed (some 11) (.field 115 (.tmp 5) 5),ed (some 16) (fw 11 0),ed (some 10) (.field 115 (.tmp 5) 6),ed (some 15) (fw 10 65537),ed (some 6) (.field 115 (.tmp 5) 7),ed (some 7) (fw 6 0),
 ed (some 12) (.field 119 (.tmp 3) 1),ed (some 18) (fw 12 0),ed (some 6) (.field 119 (.tmp 3) 2),ed (some 7) (ie 6),ed (some 13) (.field 119 (.tmp 3) 3),ed (some 7) (ie 13),ed (some 6) (.field 119 (.tmp 3) 4),ed (some 7) (ie 6),
 ed (some 14) (fw 10 1),ed (some 17) (fw 11 9),ed (some 19) (fw 12 4294967296),ed (some 20) (fw 9 65536)]
def KE:Array Oper:=#[ed (some 21) (.binOp .mul 3 (.tmp 10) (.const (.int .i64 32)) 3),ed (some 22) (.slice 9 (.tmp 13) none (some (.tmp 21)) none),ed (some 23) (.makeSlice 43 (.tmp 10) (.tmp 10)),ed (some 24) (.move (.const (.int .i64 0)))]
def skC:Array Oper:=#[ed (some 25) (.binOp .lss 3 (.tmp 24) (.tmp 10) 3)]
def skD:Array Oper:=#[ed (some 26) (.indexAddr 24 (.tmp 1) (.tmp 24)),ed (some 27) (.load 3 (.tmp 26)),ed (some 28) (fw 27 0),ed (some 29) (fw 27 256)]
def skE:Array Oper:=#[ed (some 30) (.binOp .mul 3 (.tmp 24) (.const (.int .i64 32)) 3),ed (some 31) (.binOp .add 3 (.tmp 24) (.const (.int .i64 1)) 3),ed (some 32) (.binOp .mul 3 (.tmp 31) (.const (.int .i64 32)) 3),
 ed (some 33) (.slice 9 (.tmp 13) (some (.tmp 30)) (some (.tmp 32)) none),ed (some 34) (.call {callee:= .value (.func 120),args:=#[.tmp 3, .tmp 24, .tmp 27, .tmp 33],argTypes:=#[119,3,3,9]}),
 ed (some 35) (.indexAddr 43 (.tmp 23) (.tmp 24)),ed none (.store 9 (.tmp 35) (.tmp 34)),ed (some 24) (.move (.tmp 31))]
def KD:Array Oper:=#[ed (some 4) (.move (.tmp 23))]
def na:Code:= .seq (.seq (.region 2 skC false) (.cond (.tmp 25) .skip (.exit 0))) (.seq (.region 3 skD false) (.seq (.cond (.tmp 28) (.refuse "") .skip) (.seq (.cond (.tmp 29) .skip (.refuse "")) (.region 4 skE false))))
def lB:Code:= .seq (.region 0 skA false) (.seq (.cond (.tmp 14) (.refuse "") .skip) (.seq (.cond (.tmp 15) .skip (.refuse "")) (.seq (.cond (.tmp 16) (.refuse "") .skip) (.seq (.cond (.tmp 17) .skip (.refuse "")) (.seq (.cond (.tmp 18) (.refuse "") .skip) (.seq (.cond (.tmp 19) .skip (.refuse "")) (.seq (.cond (.tmp 20) .skip (.refuse ""))
 (.seq (.region 1 KE false) (.seq (.block 0 (.loop na)) (.seq (.region 5 KD false) .ret))))))))))
def qW:Func:={name:= "left",origin:= "",params:=#[119,24],resultTypes:=#[43],nfree:=0,ntmps:=36,results:=#[.tmp 4],body:=some lB,norace:=false,file:= "",endLine:=0,tmpNames:=#[]}
def rR(i:FuncId):Bool:=i==167||i==168
def jx(q:Bool)(P:Program):Program:=fc P (if q then 94 else 91) (if q then qW else(P.funcs[91]?).getD qW) rR
section
variable{q:Bool}{P:Program}
theorem qF(f:Nat):(jx q P).funcs[f]?=(P.funcs[f]?).map (pO (if q then 94 else 91) (if q then qW else(P.funcs[91]?).getD qW) rR f):=rF f
end
theorem EY:(Tryz.prog.types.all λi=>(i.zero.map aL).getD true)=true:=by kernel_rfl
theorem DG:(Tryz.prog.funcs.all λf=>f.name != "runtime.NumGoroutine")=true:=by kernel_rfl
theorem Ib(i:FuncId)(fn:Func)(c:rR i=true)(b:Tryz.prog.funcs[i]?=some fn):fn.body=none/\Extern.findNext fn=none/\∃e,Extern.find fn=some e/\∀(a:Nat->Nat) (PL PM:Program),aK PL PM->∀args,kL a PL PM (dM a) (e args) (e (args.map (dM a))):=by
 have f:i=167\/i=168:=by simpa[rR]using c
 rcases f with rfl|rfl
 ·rw[Tryz.func167]at b;cases b;exact⟨rfl,by kernel_rfl,Extern.AbiNoEscape.same,by kernel_rfl,λa PL PM _ args=>xV args⟩
 ·rw[Tryz.func168]at b;cases b;exact⟨rfl,by kernel_rfl,Extern.BytealgMakeNoZero.makeNoZero Tryz.f168.params Tryz.f168.resultTypes,by kernel_rfl,λa PL PM d args=>sZ d _ _ args⟩
theorem Aw{K:FuncId}{a:Func}{c:Code}(j:Tryz.prog.funcs[K]?=some fn)(n:fn.body.isSome=true)(d:a.results=fn.results)(m:a.body=some c)(e:eY false c=true)(g:a.name≠ "runtime.NumGoroutine")(o:K≠aY):sA Tryz.prog K a rR 2 where
 zero:=λi k z b=>by
  have:=Array.all_eq_true'.1 EY i k;rw[b]at this;simpa using this
 glob:=by kernel_rfl
 tab:=by decide
 names:=λf l=>by simpa using Array.all_eq_true'.1 DG f l
 ty:=⟨.int .u32,by kernel_rfl,by simp,by simp⟩
 ex:=of_decide_eq_true (by kernel_rfl)
 exr:=λfn h=>by
  rw[show aY=131 from rfl,Tryz.func131]at h;cases h;kernel_rfl
 kex:=o
 kfn:=⟨fn,j,n,d⟩
 kbody:=⟨c,m,e⟩
 kname:=g
 ext:=Ib
theorem Ax:sA Tryz.prog 94 qW rR 2:=Aw Tryz.func94 rfl rfl (c:=lB) rfl (by kernel_rfl) (by decide) (by decide)
theorem Ay:∃c,sA Tryz.prog 91 Tryz.f91 rR 2/\Tryz.f91.body=some c:=
 ⟨_,Aw Tryz.func91 rfl rfl (c:=(Tryz.f91.body).getD .skip) rfl (by kernel_rfl) (by decide) (by decide),rfl⟩
theorem G1:jx true Tryz.prog=fc Tryz.prog 94 qW rR:=rfl
theorem G2:jx false Tryz.prog=fc Tryz.prog 91 Tryz.f91 rR:=by
 unfold jx;simp only[Bool.false_eq_true,↓reduceIte,Tryz.func91,Option.getD_some]
theorem vl:j6 (jx true Tryz.prog) Tryz.prog 2:=by rw[G1];exact xx Ax
theorem KO:j6 (jx false Tryz.prog) Tryz.prog 2:=by rw[G2];obtain⟨c,h,_⟩:=Ay;exact xx h
theorem rf:j6 (jx true Tryz.prog) (jx true Tryz.prog) 2:=by rw[G1];exact xw Ax
theorem JP:j6 (jx false Tryz.prog) (jx false Tryz.prog) 2:=by rw[G2];obtain⟨c,h,_⟩:=Ay;exact xw h
theorem aC{c:Code}(a:Tryz.prog.funcs[f]?=some fn)(h:f≠94)(b:rR f=false)(e:fn.body=some c)(d:eY (f==aY) c=true):(jx q Tryz.prog).funcs[f]?=some fn:=by
 rw[qF,a];cases q with
 |true=>
  simp only[Option.map_some,pO,↓reduceIte,if_neg h,b,Bool.false_eq_true,e,d]
 |false=>
  by_cases g:f=91
  ·subst g;rw[Tryz.func91]at a;cases a;simp only[Option.map_some,pO,Bool.false_eq_true,↓reduceIte,Tryz.func91,Option.getD_some]
  ·simp only[Option.map_some,pO,Bool.false_eq_true,↓reduceIte,if_neg g,b,e,d]
theorem pP:(jx true Tryz.prog).funcs[94]?=some qW:=by
 rw[qF,Tryz.func94];simp[pO]
abbrev lT (P : Program := Tryz.prog) : Program := jx true P
section
variable{q:Bool}{P:Program}{w:World}
@[simp] theorem DW(t:TypeId):(jx q P).info? t=P.info? t:=dZ P _ t
@[simp] theorem aZ(t:TypeId):(jx q P).underlying t=P.underlying t:=cq P _ t
@[simp] theorem ot(t:TypeId):(typeInfo t).run (jx q P) w=(typeInfo t).run P w:=by
 simp only[typeInfo,Sem.run_bind,run_program,Result.andThen_ok,DW];cases P.info? t<;>simp
@[simp] theorem I6(t:TypeId):(sizeOf t).run (jx q P) w=(sizeOf t).run P w:=by
 simp only[sizeOf,Sem.run_bind,ot];cases (typeInfo t).run P w<;>simp
@[simp] theorem vd(t:TypeId):(underlying t).run (jx q P) w=(underlying t).run P w:=by
 simp only[underlying,Sem.run_bind,run_program,Result.andThen_ok,aZ];cases P.underlying t<;>simp
@[simp] theorem Jw(t:TypeId):(isAgg t).run (jx q P) w=(isAgg t).run P w:=by
 simp only[isAgg,Sem.run_bind,vd];cases (underlying t).run P w with
 |ok d a=>cases d<;>simp
 |halt x a=>simp
@[simp] theorem K3(t:TypeId):(zeroValue t).run (jx q P) w=(zeroValue t).run P w:=by
 simp only[zeroValue,Sem.run_bind,ot];cases (typeInfo t).run P w with
 |ok i a=>simp only[Result.andThen_ok];cases i.zero<;>simp
 |halt x a=>simp
end
theorem cM(c:P.funcs[f]?=some fn)(b:(fn.name== "runtime.NumGoroutine")=false)(a:fn.body.isNone=false)(args:Array Value)(w:World):(callFunc f args).run P w= .ok (.enter f args) w:=by
 have g:¬fn.name= "runtime.NumGoroutine" :=by simpa using b
 have d:¬fn.body=none:=λe=>by rw[e]at a;simp at a
 simp[callFunc,c,g,d]
section
variable{q:Bool}
@[simp] theorem Lf.func111:(jx q Tryz.prog).funcs[111]?=some Tryz.f111:=aC Tryz.func111 (by decide) rfl rfl (by kernel_rfl)
@[simp] theorem Lf.call111(args:Array Value)(w:World):(callFunc 111 args).run (jx q Tryz.prog) w= .ok (.enter 111 args) w:=cM Lf.func111 (by kernel_rfl) rfl args w
@[simp] theorem Lf.func112:(jx q Tryz.prog).funcs[112]?=some Tryz.f112:=aC Tryz.func112 (by decide) rfl rfl (by kernel_rfl)
@[simp] theorem Lf.call112(args:Array Value)(w:World):(callFunc 112 args).run (jx q Tryz.prog) w= .ok (.enter 112 args) w:=cM Lf.func112 (by kernel_rfl) rfl args w
@[simp] theorem Lf.func110:(jx q Tryz.prog).funcs[110]?=some Tryz.f110:=aC Tryz.func110 (by decide) rfl rfl (by kernel_rfl)
@[simp] theorem Lf.call110(args:Array Value)(w:World):(callFunc 110 args).run (jx q Tryz.prog) w= .ok (.enter 110 args) w:=cM Lf.func110 (by kernel_rfl) rfl args w
@[simp] theorem Lf.func91:(jx q Tryz.prog).funcs[91]?=some Tryz.f91:=aC Tryz.func91 (by decide) rfl rfl (by kernel_rfl)
@[simp] theorem Lf.func131:(jx q Tryz.prog).funcs[131]?=some Tryz.f131:=aC Tryz.func131 (by decide) rfl rfl (by kernel_rfl)
@[simp] theorem Lf.call131(args:Array Value)(w:World):(callFunc 131 args).run (jx q Tryz.prog) w= .ok (.enter 131 args) w:=cM Lf.func131 (by kernel_rfl) rfl args w
@[simp] theorem Lf.func162:(jx q Tryz.prog).funcs[162]?=some Tryz.f162:=aC Tryz.func162 (by decide) rfl rfl (by kernel_rfl)
@[simp] theorem Lf.call162(args:Array Value)(w:World):(callFunc 162 args).run (jx q Tryz.prog) w= .ok (.enter 162 args) w:=cM Lf.func162 (by kernel_rfl) rfl args w
@[simp] theorem Lf.func183:(jx q Tryz.prog).funcs[183]?=some Tryz.f183:=aC Tryz.func183 (by decide) rfl rfl (by kernel_rfl)
@[simp] theorem Lf.call183(args:Array Value)(w:World):(callFunc 183 args).run (jx q Tryz.prog) w= .ok (.enter 183 args) w:=cM Lf.func183 (by kernel_rfl) rfl args w
@[simp] theorem Lf.func163:(jx q Tryz.prog).funcs[163]?=some Tryz.f163:=aC Tryz.func163 (by decide) rfl rfl (by kernel_rfl)
@[simp] theorem Lf.call163(args:Array Value)(w:World):(callFunc 163 args).run (jx q Tryz.prog) w= .ok (.enter 163 args) w:=cM Lf.func163 (by kernel_rfl) rfl args w
@[simp] theorem Lf.func88:(jx q Tryz.prog).funcs[88]?=some Tryz.f88:=aC Tryz.func88 (by decide) rfl rfl (by kernel_rfl)
@[simp] theorem Lf.call88(args:Array Value)(w:World):(callFunc 88 args).run (jx q Tryz.prog) w= .ok (.enter 88 args) w:=cM Lf.func88 (by kernel_rfl) rfl args w
@[simp] theorem Lf.func132:(jx q Tryz.prog).funcs[132]?=some Tryz.f132:=aC Tryz.func132 (by decide) rfl rfl (by kernel_rfl)
@[simp] theorem Lf.call132(args:Array Value)(w:World):(callFunc 132 args).run (jx q Tryz.prog) w= .ok (.enter 132 args) w:=cM Lf.func132 (by kernel_rfl) rfl args w
@[simp] theorem Lf.func106:(jx q Tryz.prog).funcs[106]?=some Tryz.f106:=aC Tryz.func106 (by decide) rfl rfl (by kernel_rfl)
@[simp] theorem Lf.call106(args:Array Value)(w:World):(callFunc 106 args).run (jx q Tryz.prog) w= .ok (.enter 106 args) w:=cM Lf.func106 (by kernel_rfl) rfl args w
@[simp] theorem Lf.func184:(jx q Tryz.prog).funcs[184]?=some Tryz.f184:=aC Tryz.func184 (by decide) rfl rfl (by kernel_rfl)
@[simp] theorem Lf.call184(args:Array Value)(w:World):(callFunc 184 args).run (jx q Tryz.prog) w= .ok (.enter 184 args) w:=cM Lf.func184 (by kernel_rfl) rfl args w
@[simp] theorem Lf.func89:(jx q Tryz.prog).funcs[89]?=some Tryz.f89:=aC Tryz.func89 (by decide) rfl rfl (by kernel_rfl)
@[simp] theorem Lf.func92:(jx q Tryz.prog).funcs[92]?=some Tryz.f92:=aC Tryz.func92 (by decide) rfl rfl (by kernel_rfl)
@[simp] theorem Lf.func151:(jx q Tryz.prog).funcs[151]?=some Tryz.f151:=aC Tryz.func151 (by decide) rfl rfl (by kernel_rfl)
@[simp] theorem Lf.func150:(jx q Tryz.prog).funcs[150]?=some Tryz.f150:=aC Tryz.func150 (by decide) rfl rfl (by kernel_rfl)
@[simp] theorem Lf.func173:(jx q Tryz.prog).funcs[173]?=some Tryz.f173:=aC Tryz.func173 (by decide) rfl rfl (by kernel_rfl)
@[simp] theorem Lf.func108:(jx q Tryz.prog).funcs[108]?=some Tryz.f108:=aC Tryz.func108 (by decide) rfl rfl (by kernel_rfl)
@[simp] theorem Lf.func120:(jx q Tryz.prog).funcs[120]?=some Tryz.f120:=aC Tryz.func120 (by decide) rfl rfl (by kernel_rfl)
theorem Lf.underlying214:type_of%((aZ (q:=q) (P:=Tryz.prog) 214).trans Tryz.underlying214):=(aZ 214).trans Tryz.underlying214
theorem Lf.underlying164:type_of%((aZ (q:=q) (P:=Tryz.prog) 164).trans Tryz.underlying164):=(aZ 164).trans Tryz.underlying164
theorem Lf.underlying163:type_of%((aZ (q:=q) (P:=Tryz.prog) 163).trans Tryz.underlying163):=(aZ 163).trans Tryz.underlying163
theorem Lf.underlying83:type_of%((aZ (q:=q) (P:=Tryz.prog) 83).trans Tryz.underlying83):=(aZ 83).trans Tryz.underlying83
theorem Lf.underlying166:type_of%((aZ (q:=q) (P:=Tryz.prog) 166).trans Tryz.underlying166):=(aZ 166).trans Tryz.underlying166
theorem Lf.underlying9:type_of%((aZ (q:=q) (P:=Tryz.prog) 9).trans Tryz.underlying9):=(aZ 9).trans Tryz.underlying9
theorem Lf.underlying5:type_of%((aZ (q:=q) (P:=Tryz.prog) 5).trans Tryz.underlying5):=(aZ 5).trans Tryz.underlying5
theorem Lf.underlying24:type_of%((aZ (q:=q) (P:=Tryz.prog) 24).trans Tryz.underlying24):=(aZ 24).trans Tryz.underlying24
end
end
section
open Go.RowKit
theorem Bf(s:ByteArray)(k:Nat)(h:k<s.size):s.data.toList.take (k+1)=s.data.toList.take k++[s[k]]:=by
 rw[List.take_succ_eq_append_getElem (by simpa using h)];rfl
theorem wm(B:List UInt8):tL (bW B 0)=List.replicate 64 (.int .u32 0):=by
 simp[bW,aW,tL]
theorem EH(w:World)(B:List UInt8)(c:Array Value)(d:c.size=64):((w.alloc (.cells (aA B).toArray 164)).alloc (.cells c 214)).heap.size=w.heap.size+1+1/\
 ((w.alloc (.cells (aA B).toArray 164)).alloc (.cells c 214)).rangeAt w.heap.size 0 (aA B)/\
 ((w.alloc (.cells (aA B).toArray 164)).alloc (.cells c 214)).there (w.heap.size+1) 0 64/\
 Below w.heap.size w ((w.alloc (.cells (aA B).toArray 164)).alloc (.cells c 214)):=by
 refine⟨by simp,World.rangeAt_alloc (λj v a=> ?_) _,λj b=>⟨?_, ?_⟩,((Below.refl _ _).alloc (Nat.le_refl _) _).alloc (by simp) _⟩
 ·rw[World.cell?_alloc_at _ _ _ _ rfl];simpa using a
 ·rw[World.cell?_alloc_at _ _ _ _ (by simp)];simp[d,b]
 ·rw[World.frozen?_alloc_at _ _ _ _ (by simp)]
theorem pf{M a:World}{L:List Value}(d:M=(a.alloc (.cells L.toArray 214)).drewN n)(c:a.heap.size=b)(h:L[j]?=some v):M.cell? ⟨b,j,none⟩=some v:=by
 subst d;simp only[World.cell?_drewN];rw[World.cell?_alloc_at _ _ _ _ c.symm];simpa using h
theorem EK{M a:World}{L:List Value}(d:M=(a.alloc (.cells L.toArray 214)).drewN n)(c:a.heap.size=b)(j:Nat):M.frozen? ⟨b,j,none⟩=false:=by
 subst d;simp only[World.frozen?_drewN];rw[World.frozen?_alloc_at _ _ _ _ c.symm]
theorem Kk{M c:World}{L:List Value}(e:M=(c.alloc (.cells L.toArray 214)).drewN n)(d:c.heap.size=b)(a j:Nat)(v:Value):(M.drewN a).setCell ⟨b,j,none⟩ v=(c.alloc (.cells (L.set j v).toArray 214)).drewN (n+a):=by
 subst e;rw[World.drewN_drewN];show((c.alloc (.cells L.toArray 214)).setCell ⟨b,j,none⟩ v).drewN (n+a)=_;rw[World.setCell_alloc_at _ _ _ _ _ d.symm];simp
def ld(ty:TypeId)(b o:Nat):Sem Value:=Instr.loadAt ty (.pointer (some ⟨b,o,none⟩))
def st(ty:TypeId)(b o:Nat)(v:Value):Sem Unit:=Instr.storeAt ty (.pointer (some ⟨b,o,none⟩)) v
theorem lw{Q:Exit->Act->World->Prop}{K:Act->World->Prop}(j:ops[i]?=some o)(k:o.guard=none)(ty:TypeId)(x y:Operand)(g:o.op= .store ty x y)
 (b p:Nat) (cells:Array Value) (d:a.eval x= .pointer (some ⟨b,p,none⟩)) (c:a.eval y= .agg cells) (e:w.there b p cells.size) (f:(P.info? ty).map (·.size)=some cells.size) (m:cells.all (·.oneCell')=true) (l:o.dst=none)
 (h:K a (w.setCells b p cells.toList)):wpOp P ops Q i K a w:=
 qI j k (wp_store_mid ty x y g b p cells d c e f m (by rw[l];exact h))
def mY:Value->Nat
 | .string t=>t.size
 |_=>0
theorem oH(rest:List UInt8)(n:Nat):(ByteArray.mk rest.toArray).extract n rest.length=⟨(rest.drop n).toArray⟩:=by
 apply ByteArray.ext;simp;exact List.take_of_length_le (by simp)
def iR(H:List Int)(blk:List UInt8)(n:Nat):List Value:=tL H++(aA blk++[.int .u64 (n:Int)])
def jR:List Value:=iR H0 (List.replicate 64 0) 0
theorem eE:jR.length=73:=by simp[jR,iR,aH,fb,H0]
theorem xB(H:List Int)(b:List UInt8)(n:Nat):∀v∈iR H b n,v.oneCell'=true:=by
 intro v a;simp only[iR,List.mem_append,List.mem_singleton]at a;rcases a with a|a|rfl
 ·exact gt _ v a
 ·exact rY _ v a
 ·rfl
end
end Go.Proofs.YtkmoglhgkcnalaaGreatDoor
namespace Go.Proofs
open Go.Shelf
def Tryz.lays105_ren : Go.Shelf.Ren := ⟨fun | 105 => 133 | 212 => 164 | 99 => 165 | 165 => 113 | 166 => 114 | 170 => 166 | 169 => 115 | 263 => 185 | 264 => 186 | 206 => 187 | 240 => 134 | 241 => 135 | 276 => 167 | 277 => 168 | n => n, fun | 9 => 9 | 3 => 3 | 4 => 4 | 20 => 20 | 0 => 0 | 46 => 112 | 109 => 217 | 5 => 5 | 72 => 171 | 76 => 175 | 51 => 162 | 146 => 236 | 53 => 132 | 148 => 238 | 70 => 169 | 37 => 83 | 75 => 174 | 127 => 195 | 164 => 198 | 80 => 33 | n => n, fun | n => n⟩
end Go.Proofs
namespace Go.Proofs.YtkmoglhgkcnalaaGreatDoor
open Go
variable{n b i N l m k j:Nat}{w w':World}{fr:Frame}{v:Value}{cs:List Frame}{args cv:Array Value}{V RO D:Nat->Prop}{q main listen:Bool}{g:Goroutine}{a:Act}{K:List Item}{P:Program}{x:Operand}{ops:Array Oper}{KS:List Int}{t u:TypeId}{o:Oper}{f:FuncId}{es:Array Event}{Goal:Goroutine->World->Prop}{fn:Func}{rest:List Nat}{ds:List Deferred}{F:List (Nat×Value)}{e:Event}{listed:Array Bool}{c:Int}{s msg key sig:ByteArray}
section
open Go.RowKit
def fV(L:List UInt8):List UInt8:=[128]++Lib.repeatL [0] ((119- L.length%64)%64)++cg (8*L.length) 8
def nf(H:List Int)(i:Nat):UInt8:=UInt8.ofNat (H.getD (i/4) 0/2^(24- 8*(i%4))).toNat
def dx(KS:List Int)(L:List UInt8):List UInt8:=(List.range 32).map (nf (i8 KS (L++fV L) ((L++fV L).length/64)))
def qk(H:List Int)(k:Nat):List Value:=aA ((List.range k).map (nf H))++List.replicate (32- k) (.int .u8 0)
theorem pF(H:List Int)(k:Nat)(h:k<=32):(qk H k).length=32:=by simp[qk,aA];omega
theorem wO(H:List Int)(k:Nat)(h:k<32):(qk H k)[k]?=some (.int .u8 0):=by
 rw[qk,List.getElem?_append_right (by simp[aA]),List.getElem?_replicate,if_pos (by simp[aA];omega)]
theorem wN(H:List Int)(k:Nat)(h:k<32)(v:Int)(hv:v=((nf H k).toNat:Int)):(qk H k).set k (.int .u8 v)=qk H (k+1):=by
 subst hv;rw[qk,qk,show 32- k=(32-(k+1))+1 from by omega,List.replicate_succ,List.range_succ,List.map_append,aA,aA,List.map_append,List.set_append_right _ _ (by simp)];simp
theorem wP(H:List Int):qk H 32=aA ((List.range 32).map (nf H)):=by simp[qk]
theorem mJ(KS:List Int)(L:List UInt8)(n i:Nat):0<=(i8 KS L n).getD i 0:=by
 cases n with
 |zero=>
  by_cases h:i<8
  ·have:i=0\/i=1\/i=2\/i=3\/i=4\/i=5\/i=6\/i=7:=(by omega);rcases this with rfl|rfl|rfl|rfl|rfl|rfl|rfl|rfl<;>(rw[i8];decide)
  ·rw[List.getD_eq_getElem?_getD,List.getElem?_eq_none (by rw[cm];omega)];exact Int.le_refl _
 |succ n=>
  rw[i8,kP,dB];by_cases h:i<8
  ·rw[List.getD_eq_getElem?_getD,List.getElem?_map,List.getElem?_range h];simp only[Option.map_some,Option.getD_some,h,if_true];exact wrap_u32_nonneg _
  ·rw[List.getD_eq_getElem?_getD,List.getElem?_eq_none (by simp;omega)];exact Int.le_refl _
theorem wJ(H:List Int)(k:Nat)(x:Int)(a:H.getD (k/4) 0=x)(b:0<=x):x/2^(24- 8*(k%4))%256=((nf H k).toNat:Int):=by
 rw[nf,a];obtain⟨m,rfl⟩:=Int.eq_ofNat_of_zero_le b;have e:((m:Int)/2^(24- 8*(k%4)))=((m/2^(24- 8*(k%4)):Nat):Int):=by
  rw[Int.natCast_ediv,Int.natCast_pow];rfl
 rw[e,Int.toNat_natCast];simp
theorem dS.made(w:World)(KS:List Int)(L a:List UInt8)(n:Nat)(T:TypeId)(d:a.length=64)(f:a.take (L.length%64)=L.drop (64*(L.length/64))):
 dS (w.alloc (.cells (iR (i8 KS L (L.length/64)) a n).toArray T)) w.heap.size KS L a n:=by
 have e:=eb w (iR (i8 KS L (L.length/64)) a n) T w.heap.size rfl;have c:=cm KS L (L.length/64);refine⟨d,λj v b=>e j v ?_,λj v b=> ?_, ?_,f,cI _ _ _ _ _ rfl (by simp[iR,aH,fb,c,d])⟩
 ·rw[iR,List.getElem?_append_left (List.getElem?_eq_some_iff.1 b).1];exact b
 ·have g:=(List.getElem?_eq_some_iff.1 b).1
  have:=e (8+j) v (by
   rw[iR,List.getElem?_append_right (by rw[aH,c];omega),aH,c,show 8+j- 8=j from by omega,List.getElem?_append_left g];exact b)
  rwa [Nat.zero_add]at this
 ·have:=e 72 (.int .u64 (n:Int)) (by
   rw[iR,List.getElem?_append_right (by rw[aH,c];omega),aH,c,List.getElem?_append_right (by rw[fb,d];omega),fb,d];rfl)
  rwa [Nat.zero_add]at this
theorem dS.below{L a:List UInt8}(h:dS w b KS L a n)(c:Below N w w')(d:b<N):dS w' b KS L a n:=
 ⟨h.len,aM c d h.words,aM c d h.block,by rw[c.cell (p:=⟨b,72,none⟩) d];exact h.length,h.tail,eu c d h.there⟩
theorem lY{c a:World}(h:Below w.heap.size w c)(g:c.grownBy a (some b))(f:w.heap.size<=b):Below w.heap.size w a:=
 h.trans ⟨g.os,g.tape,g.output,g.size,λk d=>g.block k (by have:=h.size;omega) (by intro e;injection e;omega)⟩
theorem dS.whole{L c:List UInt8}(h:dS w b KS L c n):w.rangeAt b 0 (iR (i8 KS L (L.length/64)) c n):=λj v a=>by
 have e:=cm KS L (L.length/64);rw[iR]at a;by_cases f:j<8
 ·rw[List.getElem?_append_left (by rw[aH,e];exact f)]at a;exact h.words j v a
 ·rw[List.getElem?_append_right (by rw[aH,e];omega),aH,e]at a;by_cases i:j<72
  ·rw[List.getElem?_append_left (by rw[fb,h.len];omega)]at a;have:=h.block (j- 8) v a;rwa [show 8+(j- 8)=0+j from by omega]at this
  ·rw[List.getElem?_append_right (by rw[fb,h.len];omega),fb,h.len]at a;have g:j- 8- 64<1:=(by have:=(List.getElem?_eq_some_iff.1 a).1;simpa using this);have d:j=72:=(by omega);subst d;simp at a;rw[←a];exact h.length
theorem xC(KS:List Int)(L a:List UInt8)(n m:Nat)(b:a.length=64):(iR (i8 KS L m) a n).length=73:=by
 simp[iR,aH,fb,cm,b]
theorem dS.of_range{L a:List UInt8}(f:w.rangeAt b 0 (iR (i8 KS L (L.length/64)) a n))(e:w.there b 0 73)(g:a.length=64)(h:a.take (L.length%64)=L.drop (64*(L.length/64))):dS w b KS L a n:=by
 have d:=cm KS L (L.length/64);refine⟨g,λj v c=>f j v ?_,λj v c=> ?_, ?_,h,e⟩
 ·rw[iR,List.getElem?_append_left (List.getElem?_eq_some_iff.1 c).1];exact c
 ·have i:=(List.getElem?_eq_some_iff.1 c).1
  have:=f (8+j) v (by
   rw[iR,List.getElem?_append_right (by rw[aH,d];omega),aH,d,show 8+j- 8=j from by omega,List.getElem?_append_left i];exact c)
  rwa [Nat.zero_add]at this
 ·have:=f 72 (.int .u64 (n:Int)) (by
   rw[iR,List.getElem?_append_right (by rw[aH,d];omega),aH,d,List.getElem?_append_right (by rw[fb,g];omega),fb,g];rfl)
  rwa [Nat.zero_add]at this
theorem dS.new(w:World)(KS:List Int)(c:Array Value)(T:TypeId)(b:c.size=73):dS ((w.alloc (.cells c T)).setCells w.heap.size 0 jR) w.heap.size KS [] (List.replicate 64 0) 0:=by
 have a:=cI w c T w.heap.size 73 rfl b;exact dS.of_range (World.rangeAt_setCells_same _ _ _ _ (by rw[eE];exact a)) (World.there_setCells a _ _ _) (by simp) (by simp)
def dq(ps:List ByteArray)(k:Nat):List UInt8:=(ps.take k).flatMap λp=>p.data.toList
theorem Cx(a:List ByteArray)(k:Nat)(h:k<a.length):dq a (k+1)=dq a k++(a[k]).data.toList:=by
 rw[dq,dq,List.take_succ_eq_append_getElem h,List.flatMap_append,List.flatMap_singleton]
theorem GF(a:List ByteArray)(k:Nat):(dq a k).length<=(dq a a.length).length:=by
 by_cases h:k<=a.length
 ·rw[dq,dq,List.take_length];have e:a.flatMap (λp=>p.data.toList)=(a.take k).flatMap (λp=>p.data.toList)++(a.drop k).flatMap (λp=>p.data.toList):=by rw[←List.flatMap_append,List.take_append_drop]
  rw[e,List.length_append];omega
 ·rw[dq,dq,List.take_of_length_le (by omega),List.take_length];exact Nat.le_refl _
end
end Go.Proofs.YtkmoglhgkcnalaaGreatDoor
namespace Go.Proofs.YtkmoglhgkcnalaaGreatDoor
open Go.RowKit
def cA.key(s:cA):Array Value:=#[.string s.tree, .string s.chains, .string s.id, .string s.root, .int .i64 s.height, .int .i64 s.width, .int .i64 s.count, .int .i64 s.shift]
def bQ(n:Nat):Nat:=2^n- 1
end Go.Proofs.YtkmoglhgkcnalaaGreatDoor
namespace Go.Proofs.YtkmoglhgkcnalaaGreatDoor
open Go
variable{n b i N l m k j:Nat}{w w':World}{fr:Frame}{v:Value}{cs:List Frame}{args cv:Array Value}{V RO D:Nat->Prop}{q main listen:Bool}{g:Goroutine}{a:Act}{K:List Item}{P:Program}{x:Operand}{ops:Array Oper}{KS:List Int}{t u:TypeId}{o:Oper}{f:FuncId}{es:Array Event}{Goal:Goroutine->World->Prop}{fn:Func}{rest:List Nat}{ds:List Deferred}{F:List (Nat×Value)}{e:Event}{listed:Array Bool}{c:Int}{s msg key sig:ByteArray}
section
open Go.Conc Go.RowKit
def j8(KS:List Int)(pre:List UInt8)(j:Nat)(x:List UInt8):List UInt8:=dx KS (pre++cg j 1++x)
def i9(KS:List Int)(pre:List UInt8):Nat->Nat->List UInt8->List UInt8
 |0,_,x=>x
 |n+1,j,x=>i9 KS pre n (j+1) (j8 KS pre j x)
def iI(s:cA)(i:Nat):List UInt8:=s.id.data.toList++cg s.q.toNat 4++cg i 2
def j4(KS:List Int)(s:cA)(i:Nat)(d:Int)(link:ByteArray):ByteArray:=⟨(i9 KS (iI s i) (bQ s.width.toNat- d.toNat) d.toNat link.data.toList).toArray⟩
theorem nL(KS:List Int)(a:List UInt8)(j:Nat)(x:List UInt8):(j8 KS a j x).length=32:=by simp[j8,dx]
structure zV (s:cA) (i:Nat) (d:Int) (link:ByteArray):Prop where
 width:0<=s.width/\s.width<9
 q:0<=s.q/\s.q<4294967296
 id:s.id.size<65536
 i:i<65536
 d:0<=d/\d<256
 link:link.size=32
def xM(s:cA)(i:Nat):ByteArray:=s.id++⟨(cg s.q.toNat 4).toArray⟩++⟨(cg i 2).toArray⟩
theorem jP(n k:Nat):(ByteArray.mk (cg n k).toArray).size=k:=by show(cg n k).toArray.size=k;simp[bZ]
theorem Eo(s:cA)(i:Nat):(xM s i).data.toList=iI s i:=by simp[xM,iI]
def G5(b4 b7 i:Nat)(d:Int):List (Nat×Value):=[(1, .int .i64 i),(2, .int .i64 d),(4, .pt b4),(7, .pt b7)]
def Bd(s:cA)(b4 i:Nat):List (Nat×Nat×Value):=[(0,11, .pointer (some ⟨b4,0,none⟩)),(1,12, .pointer (some ⟨b4,2,none⟩)),(2,13, .string s.id),(3,14, .pointer (some ⟨b4,8,none⟩)),(4,15, .int .i64 s.q.toNat),(5,16, .string ⟨(cg s.q.toNat 4).toArray⟩),
 (6,17, .string (s.id++⟨(cg s.q.toNat 4).toArray⟩)),(7,18, .int .i64 i),(8,19, .string ⟨(cg i 2).toArray⟩),(9,20, .string (xM s i))]
theorem JE(s:cA)(b4 i:Nat):∀p∈Bd s b4 i,∀q∈Bd s b4 i,p.2.1=q.2.1\/p.1=q.1->p=q:=by
 intro p b q a h;simp only[Bd,List.mem_cons,List.not_mem_nil,or_false]at b a;rcases b with rfl|rfl|rfl|rfl|rfl|rfl|rfl|rfl|rfl|rfl<;>rcases a with rfl|rfl|rfl|rfl|rfl|rfl|rfl|rfl|rfl|rfl<;>first|rfl|(exfalso;simp at h)
theorem Ep(s:cA)(b4 b7 i:Nat)(d:Int):∀p∈Bd s b4 i,p.2.1<33/\∀q∈G5 b4 b7 i d,q.1≠p.2.1:=by
 intro p b;simp only[Bd,List.mem_cons,List.not_mem_nil,or_false]at b;rcases b with rfl|rfl|rfl|rfl|rfl|rfl|rfl|rfl|rfl|rfl<;>refine⟨by simp,λq a=> ?_⟩<;>simp only[G5,List.mem_cons,List.not_mem_nil,or_false]at a<;>rcases a with rfl|rfl|rfl|rfl<;>simp
def Al(w0:World)(t:ByteArray)(ty:TypeId)(listed:Array Bool)(a:Act)(w:World):Prop:=
 listed[10]?=some true->∃p,a.tmps[9]?=some (.pointer (some ⟨p,0,none⟩))/\w0.heap.size<=p/\∃x,w.heap[p]?=some (.cells #[.string x] ty)/\(listed[11]?=some true->x=t)
theorem Al.step{w0:World}{t:ByteArray}{ty:TypeId}{d:Nat}(h:Al w0 t ty listed a w)(e:n≠10/\n≠11)(g:d≠9)(i:Below w.heap.size w w'):Al w0 t ty (listed.setIfInBounds n true) (a.put (some d) v) w':=by
 intro c;rw[sN e.1]at c;obtain⟨p,l,k,x,f,j⟩:=h c;refine⟨p, ?_,k,x,(i.block p (gA f).1).trans f,λb=> ?_⟩
 ·show(a.tmps.setIfInBounds d v)[9]?=_;rw[sN g];exact l
 ·rw[sN e.2]at b;exact j b
theorem lQ{K:Nat}(c:m≠K)(h:listed[K]?=some true->∀n,n<K->listed[n]?=some true):(listed.setIfInBounds m true)[K]?=some true->∀n,n<K->(listed.setIfInBounds m true)[n]?=some true:=λa n b=>by
 rw[sN c]at a;have:=h a n b;by_cases e:m=n
 ·subst e;exact Array.getElem?_setIfInBounds_self_of_lt (gA this).1
 ·rw[sN e];exact this
theorem si{K:Nat}(b:ops[K]?=some o)(a:∀e∈o.after,Region.binds .any e=true->listed[e.on]?=some true)(h:((List.range K).all λk=>fZ ops K k)=true)(n:Nat)(c:n<K):listed[n]?=some true:=
 dm (List.all_eq_true.1 h n (List.mem_range.2 c)) b a
section
variable{s:cA}{b4 b7 i:Nat}{d:Int}{Goal:Goroutine->World->Prop}{k:List Item}{cs:List Frame}
theorem HI(h:ff (G5 b4 b7 i d) (Bd s b4 i) 33 listed a){e:Nat}(b:(m,e,v)∈Bd s b4 i):ff (G5 b4 b7 i d) (Bd s b4 i) 33 (listed.setIfInBounds m true) (a.put (some e) v):=
 h.put (Ep s b4 b7 i d _ b).1 (Ep s b4 b7 i d _ b).2 λp c e=>JE s b4 i p c _ b e
end
def sR(b7 b9 j:Nat):List (Nat×Value):=[(7, .pt b7),(9, .pt b9),(10, .int .i64 j)]
def nI(s:cA)(i j:Nat)(x:List UInt8):List (Nat×Nat×Value):=[(0,26, .string (xM s i)),(1,27, .int .i64 j),(2,28, .string ⟨(cg j 1).toArray⟩),(3,29, .string ⟨x.toArray⟩)]
theorem Ha(s:cA)(i j:Nat)(x:List UInt8):∀p∈nI s i j x,∀q∈nI s i j x,p.2.1=q.2.1\/p.1=q.1->p=q:=by
 intro p b q a h;simp only[nI,List.mem_cons,List.not_mem_nil,or_false]at b a;rcases b with rfl|rfl|rfl|rfl<;>rcases a with rfl|rfl|rfl|rfl<;>first|rfl|(exfalso;simp at h)
theorem AP(s:cA)(i j:Nat)(x:List UInt8)(b7 b9:Nat):∀p∈nI s i j x,p.2.1<33/\∀q∈sR b7 b9 j,q.1≠p.2.1:=by
 intro p b;simp only[nI,List.mem_cons,List.not_mem_nil,or_false]at b;rcases b with rfl|rfl|rfl|rfl<;>refine⟨by simp,λq a=> ?_⟩<;>simp only[sR,List.mem_cons,List.not_mem_nil,or_false]at a<;>rcases a with rfl|rfl|rfl<;>simp
theorem GT{s:cA}{x:List UInt8}{b7 b9:Nat}(h:ff (sR b7 b9 j) (nI s i j x) 33 listed a){e:Nat}(b:(m,e,v)∈nI s i j x):ff (sR b7 b9 j) (nI s i j x) 33 (listed.setIfInBounds m true) (a.put (some e) v):=
 h.put (AP s i j x b7 b9 _ b).1 (AP s i j x b7 b9 _ b).2 λp c e=>Ha s i j x p c _ b e
def A4(cells:Array Value)(ty:TypeId)(listed:Array Bool)(a:Act)(w:World):Prop:=listed[4]?=some true->∃p,a.tmps[30]?=some (.slice (some ⟨p,0,none⟩) 3 3)/\w.heap[p]?=some (.cells cells ty)
theorem A4.step{cells:Array Value}{ty:TypeId}{d:Nat}(h:A4 cells ty listed a w)(e:n≠4)(f:d≠30)(g:Below w.heap.size w w'):A4 cells ty (listed.setIfInBounds n true) (a.put (some d) v) w':=by
 intro b;rw[sN e]at b;obtain⟨p,i,c⟩:=h b;refine⟨p, ?_,(g.block p (gA c).1).trans c⟩;show(a.tmps.setIfInBounds d v)[30]?=_;rw[sN f];exact i
def A5(v5:Value)(listed:Array Bool)(a:Act):Prop:=listed[5]?=some true->a.tmps[31]?=some v5
theorem A5.step{b:Value}{d:Nat}(h:A5 b listed a)(e:n≠5)(f:d≠31):A5 b (listed.setIfInBounds n true) (a.put (some d) v):=by
 intro c;rw[sN e]at c;show(a.tmps.setIfInBounds d v)[31]?=_;rw[sN f];exact h c
def Ki(w0:World)(b7:Nat)(v5:Value)(listed:Array Bool)(w:World):Prop:=(listed[6]?=some false/\Below w0.heap.size w0 w)\/(listed[6]?=some true/\∃w1,Below w0.heap.size w0 w1/\w=w1.setCell ⟨b7,0,none⟩ v5)
structure Ch (s:cA) (i b7 b9 k2 l ld:Nat) (r:LoopState->Loop) (ty tk:TypeId) (w0:World) (st:LoopState) (x:List UInt8) (w:World):Prop where
 old:Below w0.heap.size w0 w
 seven:w.heap[b7]?=some (.cells #[.string ⟨x.toArray⟩] ty)
 nine:w.heap[b9]?=some (.cells #[.string (xM s i)] ty)
 key:w.heap[k2]?=some (.cells s.key tk)
 loop:w.heap[l]?=some (.loop (r st))
 list:w.heap[ld]?=some (.deferred (some []))
structure uF (b7 b9 k2 l ld:Nat) (w0:World):Prop where
 low:w0.heap.size<=b7/\w0.heap.size<=l/\w0.heap.size<=ld
 seven:b7≠b9/\b7≠k2/\b7≠l/\b7≠ld
 loop:l≠b9/\l≠k2/\l≠ld
section
variable{s:cA}{i b7 b9 k2 l ld:Nat}{r:LoopState->Loop}{ty tk:TypeId}{w0 w w':World}{st:LoopState}{x:List UInt8}
theorem Ch.below(h:Ch s i b7 b9 k2 l ld r ty tk w0 st x w)(c:Below w.heap.size w w'):Ch s i b7 b9 k2 l ld r ty tk w0 st x w':=by
 have g:∀{b:Nat} {o:Obj},w.heap[b]?=some o->w'.heap[b]?=some o:=λ{b o} a=>(c.block b (gA a).1).trans a;exact⟨kM h.old h.old.size c,g h.seven,g h.nine,g h.key,g h.loop,g h.list⟩
theorem Ch.turn(h:Ch s i b7 b9 k2 l ld r ty tk w0 st x w)(f:uF b7 b9 k2 l ld w0)(st':LoopState):Ch s i b7 b9 k2 l ld r ty tk w0 st' x (ca w l (r st')):=
 ⟨h.old.trans (eQ w l _ f.low.2.1),(Lp w _ f.seven.2.2.1).trans h.seven,(Lp w _ (Ne.symm f.loop.1)).trans h.nine,(Lp w _ (Ne.symm f.loop.2.1)).trans h.key,ir h.loop,(Lp w _ (Ne.symm f.loop.2.2)).trans h.list⟩
theorem Ch.put(h:Ch s i b7 b9 k2 l ld r ty tk w0 st x w)(f:uF b7 b9 k2 l ld w0)(y:List UInt8):Ch s i b7 b9 k2 l ld r ty tk w0 st y (w.setCell ⟨b7,0,none⟩ (.string ⟨y.toArray⟩)):=
 ⟨h.old.trans (cU w _ _ f.low.1),ku h.seven,(cd w _ (Ne.symm f.seven.1)).trans h.nine,(cd w _ (Ne.symm f.seven.2.1)).trans h.key,(cd w _ (Ne.symm f.seven.2.2.1)).trans h.loop,(cd w _ (Ne.symm f.seven.2.2.2)).trans h.list⟩
end
def zB(f:Func)(g:FuncId)(T:Array Value)(ld:Nat)(st:LoopState):Loop:={state:=st,pending:=none,fn:=g,tmps:=T,params:=#[25],assign:= .region 3 (gT f 3) false,body:= .block 1 (.region 4 (gT f 4) true),defers:=ld}
def kQ(f:Func):Code:= .seq (.seq (.region 1 (gT f 1) false) (.cond (.tmp 9) .skip (.exit 0))) (.seq (.block 1 (.seq (.region 3 (gT f 3) false) (.cond (.tmp 15) .ret .skip))) (.region 2 (gT f 2) false))
section
variable{s:cA}{i b7 b9 k2 l ld n:Nat}{KS:List Int}{w0:World}{x:List UInt8}{T:Array Value}{Goal:Goroutine->World->Prop}{cf:Frame}{cs:List Frame}
theorem zA(KS:List Int)(a:List UInt8)(t j:Nat)(x:List UInt8)(h:j<t):i9 KS a (t- j) j x=i9 KS a (t-(j+1)) (j+1) (j8 KS a j x):=by
 rw[show t- j=(t-(j+1))+1 from by omega];rfl
end
end
section
open Go.RowKit Go.Lib Go.Shelf
theorem Lf.lays105:Go.Proofs.Lays.n105 (jx q Tryz.prog) Tryz.lays105_ren:=by
 cases q<;>constructor
 all_goals first|(rw[qF];kernel_rfl)|kernel_rfl|(intro w;kernel_rfl)
theorem Lf.extra105:Builder.Extra (jx q Tryz.prog) Tryz.lays105_ren:=by
 cases q<;>constructor
 all_goals first|kernel_rfl|(intro w;kernel_rfl)|decide|(constructor<;>first|kernel_rfl|(intro w;kernel_rfl)|decide)
theorem Lf.strings_Repeat(s:ByteArray)(c:Nat)(w:World)(b:c<=9223372036854775807)(a:s.size*c<=140737488355328):
 Calls (jx q Tryz.prog) 133 #[.string s, .i c] w λe w'=>e= .returned (.string ⟨(Lib.repeatL s.data.toList c).toArray⟩)/\Below w.heap.size w w':=Any.strings_Repeat Lf.lays105 Lf.extra105 s c w b a
@[simp] theorem Lf.func133:(jx q Tryz.prog).funcs[133]?=some Tryz.f133:=aC Tryz.func133 (by decide) rfl rfl (by kernel_rfl)
@[simp] theorem Lf.call133(args:Array Value)(w:World):(callFunc 133 args).run (jx q Tryz.prog) w= .ok (.enter 133 args) w:=cM Lf.func133 (by kernel_rfl) rfl args w
end
namespace L1
open Go.Proofs.YtkmoglhgkcnalaaGreatDoor
section
variable{ql:Bool}
open Go.RowKit
theorem A3(x k:Int)(w:World):
 Calls (jx ql Tryz.prog) 184 #[.int .u32 x, .i k] w λe w'=>e= .returned (.int .u32 (rl x k))/\w'=w:=by
 have a:=qp .and (IntKind.u64.wrap k) 31
 go_enter Lf.func184,Tryz.ntmps184
 go_wp2
 go_ret
 exact⟨rfl,rfl⟩
theorem qO(x a b c:Int)(w:World)(i:0<=a)(h:a<=31)(g:0<=b)(b1:b<=31)(f:0<=c)(d:c<=31):
 Calls (jx ql Tryz.prog) 163 #[.int .u32 x, .i a, .i b, .i c] w λe w'=>e= .returned (.int .u32 (cS x a b c))/\w'=w:=by
 go_enter Lf.func163,Tryz.ntmps163
 go_wp2_with (go_at_call 184;refine(A3 _ _ _).mono ?_;rintro e w' ⟨rfl,rfl⟩)
 go_ret
 exact⟨rfl,rfl⟩
theorem vW(x a b c:Int)(w:World)(i:0<=a)(h:a<=31)(g:0<=b)(b1:b<=31)(f:0<=c)(d:c<=31):
 Calls (jx ql Tryz.prog) 183 #[.int .u32 x, .i a, .i b, .i c] w λe w'=>e= .returned (.int .u32 (fD x a b c))/\∃n,w'=w.drewN n:=by
 go_enter Lf.func183,Tryz.ntmps183
 go_wp2
 go_quiet ((go_at_call 184;exact Calls.quiet_of_same (A3 _ _ _)))
 go_wp2
 go_ret
 exact⟨rfl,_,rfl⟩
theorem kN(s:ByteArray)(w:World)(c:s.size<=8):
 Calls (jx ql Tryz.prog) 88 #[.string s] w λe w'=>e= .returned (.int .u64 (fM s.data.toList))/\w'=w:=by
 go_enter Lf.func88,Tryz.ntmps88
 go_wp2
 go_loop [3,4,7] (λn j i=>∃k:Nat,k<=s.size/\i= .i k/\n= .int .u64 (fM (s.data.toList.take k))) (λ_ _ i=>s.size-(intOf i).toNat)
 case atStart=>exact⟨0,Nat.zero_le _,rfl,rfl⟩
 case round=>
  obtain⟨k,d,rfl,rfl⟩:=hrel;by_cases a:k<s.size
  ·have b:=mp (s.data.toList.take k) 7 (by simp;omega)
   go_wp2
   go_round
   case rel=>exact⟨k+1,by omega,by go_num,by rw[Bf s k a,jQ,DF _ _ b.1 (by omega)]⟩
   case measure=>simp[intOf];omega
  ·go_wp2
   go_ret
   exact⟨qA (by rw[List.take_of_length_le (by simp;omega)]),rfl⟩
theorem Lf.info5:((jx ql Tryz.prog).info? 5).map (λi=>(i.zero,i.size,i.bytes))=some (some (.int .u8 0),1,1):=by kernel_rfl
theorem nH(n k:Nat)(w:World)(q:k<=8):
 Calls (jx ql Tryz.prog) 106 #[.int .u64 n, .i k] w λe w'=>e= .returned (.string ⟨(cg n k).toArray⟩)/\Below w.heap.size w w':=by
 have g:=λw=>run_make_row' (P:=(jx ql Tryz.prog)) 83 5 (.int .u8 0) 1 Lf.underlying83 Lf.info5 rfl .i64 .i64 k (by omega) (by omega) w
 go_enter Lf.func106,Tryz.ntmps106
 go_wp2
 go_loopw [0,6] (λx i d=>∃m:Nat,m<=k/\i= .i ((m:Int)- 1)/\x= .int .u64 ((n/256^(k- m):Nat):Int)/\d=w.alloc (.cells (Ba n k m).toArray 5)) (λ_ i _=>(intOf i+1).toNat)
 case atStart=>exact⟨k,Nat.le_refl _,rfl,by simp,by rw[B9,dp]⟩
 case round=>
  obtain⟨m,h,rfl,rfl,rfl⟩:=hrel;cases m with
  |zero=>
   have b:=bZ k n;have a:=run_convert_bytes_back (P:=(jx ql Tryz.prog)) (w.alloc (.cells (aA (cg n k)).toArray 5)) 83 9 5 ⟨w.heap.size,0,none⟩ k (cg n k) Lf.underlying83 Lf.underlying5 Lf.underlying9
    (λj l=>by rw[Addr.add_mid,World.cell?_alloc_at _ _ _ _ rfl];simp[aA,l])
   rw[b]at a;rw[Fe];generalize c:cg n k=L at*;have o:Hid (cg n k=L):=c;clear c b
   go_wp2
   go_ret
   exact⟨nW o.out.symm,(bR).alloc (Nat.le_refl _) _⟩
  |succ p=>
   rw[show((p+1:Nat):Int)- 1=(p:Int)from by omega];have r:=Fc n k p;have f:=yq n k (p+1) h
   go_wp2
   go_roundw
   case rel=>exact⟨p,by omega,rfl,by rw[show k- p=k-(p+1)+1 from by omega,Nat.pow_succ,←Nat.div_div_eq_div_mul];simp,by rw[Fb n k p (by omega) _ (by simp)]⟩
   case measure=>simp[intOf]
theorem Fa(n:Nat)(w:World):
 Calls (jx ql Tryz.prog) 132 #[.int .u64 n] w λe w'=>e= .returned (.string ⟨(cg n 8).toArray⟩)/\Below w.heap.size w w':=by
 go_enter Lf.func132,Tryz.ntmps132
 go_wp2_with (go_at_call 106;refine(nH n 8 _ (by omega)).mono ?_;rintro e w' ⟨rfl,a⟩)
 go_ret
 exact⟨rfl,a⟩
end
end L1
end Go.Proofs.YtkmoglhgkcnalaaGreatDoor
